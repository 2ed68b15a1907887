/-
  text: the document's twice.
-/
import Derived.Test.YtdplndlmdhpfaabXMin
import Derived.Test.YtdplndlmdhpfaabXRefs
namespace Go.Proofs.Ytdplndlmdhpfaab
open Go.RowKit
set_option linter.unusedVariables false
set_option linter.unusedSimpArgs false

theorem findP_iff : ∀ (l : List (ByteArray × ByteArray)) (x : ByteArray), (findP l x).isSome = true ↔ ∃ p ∈ l, p.1 = x
  | [], x => by simp [findP]
  | p :: l, x => by
    rw [findP]
    by_cases h : p.1 = x
    · rw [if_pos h]; simp [h]
    · rw [if_neg h, findP_iff l x]
      simp [h]
theorem tw_hit {ps : List (ByteArray × ByteArray)} {i j : Nat} {p q : ByteArray × ByteArray} (hi : ps[i]? = some p) (hj : ps[j]? = some q) (hji : j < i) (h : p.1 = q.1) : twAt ps i = true := by
  unfold twAt
  rw [hi]
  simp only
  rw [findP_iff]
  refine ⟨q, ?_, h.symm⟩
  have : (ps.take i)[j]? = some q := by rw [List.getElem?_take_of_lt hji]; exact hj
  exact List.mem_of_getElem? this
theorem tw_miss {ps : List (ByteArray × ByteArray)} {i : Nat} {p : ByteArray × ByteArray} (hi : ps[i]? = some p) (h : ∀ j q, j < i → ps[j]? = some q → ¬ q.1 = p.1) : twAt ps i = false := by
  unfold twAt
  rw [hi]
  simp only
  cases hf : (findP (ps.take i) p.1).isSome with
  | false => rfl
  | true =>
    obtain ⟨q, hq, he⟩ := (findP_iff _ _).1 hf
    obtain ⟨j, hj, rfl⟩ := List.getElem_of_mem hq
    simp only [List.length_take] at hj
    exact absurd he (h j _ (by omega) (by rw [List.getElem_take]; exact List.getElem?_eq_getElem _))

set_option maxRecDepth 100000 in
set_option maxHeartbeats 2000000 in
theorem rtwice_any (a : Option Addr) (n c : Nat) (ps : List (ByteArray × ByteArray)) (w : World) (hr : PsAt w (.slice a n c) ps) (hn : n ≤ maxLen) :
    Calls Try.prog 19 #[.slice a n c] w fun e w' => e = .returned (.bool (twP ps)) ∧ Sm w w' := by
  have hl : ps.length = n := by obtain ⟨a', c', hv, _⟩ := hr; simp only [Value.slice.injEq] at hv; exact hv.2.1.symm
  have hc1 : Kpt (∀ k, k < n → ∀ p, ps[k]? = some p → ∃ b off, a = some ⟨b, off, none⟩ ∧ w.cell? ⟨b, off + k * 2, none⟩ = some (.string p.1) ∧ w.cell? ⟨b, off + k * 2 + 1, none⟩ = some (.string p.2)) := ⟨fun k hk p hp => ps_cells hr k hk p hp⟩
  have hl' := Kpt.mk hl
  unfold maxLen at hn
  clear hr hl
  go_enter Try.func19, Try.ntmps19
  go_wp2
  go_loopw [3] (fun t wr => ∃ i : Nat, i ≤ n ∧ t = .int .i64 i ∧ Kpt (Sm w wr) ∧ Kpt (∀ j, j < i → twAt ps j = false)) (fun t _ => n - (intOf t).toNat)
  case atStart => exact ⟨0, by omega, rfl, ⟨Sm.refl _⟩, ⟨fun j hj => by omega⟩⟩
  case round =>
    obtain ⟨i, hi, rfl, hsm, hno⟩ := hrel
    by_cases hlt : i < n
    · have hltI : (i : Int) < n := by omega
      obtain ⟨p, hp⟩ : ∃ p, ps[i]? = some p := ⟨_, List.getElem?_eq_getElem (by rw [hl'.out]; exact hlt)⟩
      obtain ⟨b, o, rfl, k1, -⟩ := hc1.out i hlt p hp
      have hp' := Kpt.mk hp
      have k1' := Kpt.mk k1
      clear hp k1
      go_wp2
      go_loopw [4] (fun t wr => ∃ j : Nat, j ≤ i ∧ t = .int .i64 j ∧ Kpt (Sm w wr) ∧ Kpt (∀ m q, m < j → ps[m]? = some q → ¬ q.1 = p.1)) (fun t _ => i - (intOf t).toNat)
      case atStart => exact ⟨0, by omega, rfl, hsm, ⟨fun m q hm => by omega⟩⟩
      case round =>
        obtain ⟨j, hj, rfl, hsj, hnj⟩ := hrel
        clear hsm
        by_cases hjl : j < i
        · have hjI : (j : Int) < i := by omega
          have hjn : (j : Int) < n := by omega
          obtain ⟨q, hq⟩ : ∃ q, ps[j]? = some q := ⟨_, List.getElem?_eq_getElem (by rw [hl'.out]; omega)⟩
          obtain ⟨b', o', e', k3, -⟩ := hc1.out j (by omega) q hq
          simp only [Option.some.injEq, Addr.mk.injEq, and_true] at e'
          obtain ⟨rfl, rfl⟩ := e'
          have hcell : ∀ ad v, w.cell? ad = some v → wr.cell? ad = some v := fun ad v h => by
            rw [← h]
            exact World.cell?_of_block (by rw [hsj.out.heap])
          have k5 := hcell _ _ k1'.out
          have k6 := hcell _ _ k3
          have hq' := Kpt.mk hq
          clear hcell k3 hq
          obtain ⟨K, V⟩ := p
          obtain ⟨K2, V2⟩ := q
          simp only at k5 k6
          by_cases hKK : K = K2
          · subst hKK
            have hy := Kpt.mk (twP_yes (by rw [hl'.out]; exact hlt) (tw_hit hp'.out hq'.out hjl rfl))
            go_wp2_with fail
            go_region
            go_wp2
            go_ret
            exact ⟨ret_bool hy.out.symm, hsj.out.trans ⟨rfl, ⟨rfl, rfl, rfl, Nat.le_refl _, fun _ _ => rfl⟩⟩⟩
          · have hne := toList_ne hKK
            have hn2 : Kpt (∀ m q, m < j + 1 → ps[m]? = some q → ¬ q.1 = K) := ⟨fun m q hm hmq => by
              by_cases hmj : m < j
              · exact hnj.out m q hmj hmq
              · obtain rfl : m = j := by omega
                rw [hq'.out] at hmq
                cases hmq
                exact fun e => hKK e.symm⟩
            clear hKK
            go_wp2_with fail
            go_region
            go_wp2
            go_roundw
            case rel => exact ⟨j + 1, by omega, by go_num, ⟨hsj.out.trans ⟨rfl, ⟨rfl, rfl, rfl, Nat.le_refl _, fun _ _ => rfl⟩⟩⟩, hn2⟩
            case measure => simp [intOf]; omega
        · have hjI : ¬ (j : Int) < i := by omega
          obtain rfl : j = i := by omega
          have hno2 : Kpt (∀ m, m < j + 1 → twAt ps m = false) := ⟨fun m hm => by
            by_cases hmj : m < j
            · exact hno.out m hmj
            · obtain rfl : m = j := by omega
              exact tw_miss hp'.out hnj.out⟩
          go_wp2
          go_roundw
          case rel => exact ⟨j + 1, by omega, by go_num, hsj, hno2⟩
          case measure => simp [intOf]; omega
    · have hltI : ¬ (i : Int) < n := by omega
      have hf := Kpt.mk (twP_no (ps := ps) (fun j hj => hno.out j (by have := hl'.out; omega)))
      go_wp2
      go_ret
      exact ⟨ret_bool hf.out.symm, hsm.out⟩
end Go.Proofs.Ytdplndlmdhpfaab
