/-
  text: the document's Find.
-/
import Derived.Test.YtkojkglaljiilaaDoorXNmB
import Derived.Test.YtkojkglaljiilaaDoorXAwd
namespace Go.Proofs.YtkojkglaljiilaaDoor
open Go.RowKit
set_option linter.unusedVariables false
set_option linter.unusedSimpArgs false

set_option maxRecDepth 100000 in
set_option maxHeartbeats 1000000 in
theorem rfind_any (a : Option Addr) (n c : Nat) (ps : List (ByteArray × ByteArray)) (x : ByteArray) (w : World) (hr : PsAt w (.slice a n c) ps) (hn : n ≤ maxLen) :
    Calls Tryd.prog 7 #[.slice a n c, .string x] w fun e w' => e = .returned (.tuple #[.string (findV (findP ps x)), .bool (findP ps x).isSome]) ∧ w' = w := by
  have hl : ps.length = n := by obtain ⟨a', c', hv, _⟩ := hr; simp only [Value.slice.injEq] at hv; exact hv.2.1.symm
  have hc1 : Kpt (∀ k, k < n → ∀ p, ps[k]? = some p → ∃ b off, a = some ⟨b, off, none⟩ ∧ w.cell? ⟨b, off + k * 2, none⟩ = some (.string p.1) ∧ w.cell? ⟨b, off + k * 2 + 1, none⟩ = some (.string p.2)) := ⟨fun k hk p hp => ps_cells hr k hk p hp⟩
  unfold maxLen at hn
  have hl' := Kpt.mk hl
  clear hr hl
  go_enter Tryd.func7, Tryd.ntmps7
  go_wp2
  go_loop [6] (fun t => ∃ k : Nat, k ≤ n ∧ t = .int .i64 k ∧ Kpt (∀ j p, j < k → ps[j]? = some p → ¬ p.1 = x)) (fun t => n - (intOf t).toNat)
  case atStart => exact ⟨0, by omega, rfl, ⟨fun j p hj => by omega⟩⟩
  case round =>
    obtain ⟨k, hk, rfl, hno⟩ := hrel
    by_cases hlt : k < n
    · have hltI : (k : Int) < n := by omega
      obtain ⟨p, hp⟩ : ∃ p, ps[k]? = some p := ⟨_, List.getElem?_eq_getElem (by rw [hl'.out]; exact hlt)⟩
      obtain ⟨b, off, rfl, k1, k2⟩ := hc1.out k hlt p hp
      have hp' := Kpt.mk hp
      clear hp
      obtain ⟨K, V⟩ := p
      simp only at k1 k2
      by_cases hKx : K = x
      · subst hKx
        have hf := Kpt.mk (findP_hit K ps k (K, V) hp'.out rfl hno.out)
        go_wp2
        go_ret2
        exact ⟨by rw [hf.out]; rfl, rfl⟩
      · have hne := toList_ne hKx
        have hno2 : Kpt (∀ j p, j < k + 1 → ps[j]? = some p → ¬ p.1 = x) := ⟨fun j p hj hpj => by
          by_cases hjk : j < k
          · exact hno.out j p hjk hpj
          · obtain rfl : j = k := by omega
            rw [hp'.out] at hpj
            cases hpj
            exact hKx⟩
        clear hKx
        go_wp2
        go_round
        case rel => exact ⟨k + 1, by omega, by go_num, hno2⟩
        case measure => simp [intOf]; omega
    · have hltI : ¬ (k : Int) < n := by omega
      have hf := Kpt.mk (findP_none x ps (fun j q hj => hno.out j q (by have := hl'.out; omega)))
      go_wp2
      go_ret2
      exact ⟨by rw [hf.out]; rfl, rfl⟩
end Go.Proofs.YtkojkglaljiilaaDoor
