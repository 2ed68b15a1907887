/-
  text: Same of two rows of the same pairs; awake.
-/
import Derived.Test.YtkojkglaljiilaaDoorXPar
import Derived.Lib.SlBytesConst
namespace Go.Proofs.YtkojkglaljiilaaDoor
open Go.RowKit
set_option linter.unusedVariables false
set_option linter.unusedSimpArgs false

theorem ps_cells {w : World} {a : Option Addr} {n c : Nat} {ps : List (ByteArray × ByteArray)} (h : PsAt w (.slice a n c) ps) (k : Nat) (hk : k < n) (p : ByteArray × ByteArray) (hp : ps[k]? = some p) :
    ∃ b off, a = some ⟨b, off, none⟩ ∧ w.cell? ⟨b, off + k * 2, none⟩ = some (.string p.1) ∧ w.cell? ⟨b, off + k * 2 + 1, none⟩ = some (.string p.2) := by
  obtain ⟨a', c', hv, h1, h2, h3⟩ := h
  simp only [Value.slice.injEq] at hv
  obtain ⟨rfl, rfl, -⟩ := hv
  rcases h3 with h3 | ⟨b, off, rfl, -, hc⟩
  · omega
  · exact ⟨b, off, rfl, hc k p hp 0 _ rfl, hc k p hp 1 _ rfl⟩

theorem aw_rd (w : World) : RdAt (w.alloc (.cells #[.int .u8 97, .int .u8 61, .int .u8 49, .int .u8 0] 5 (4, 5))) (.slice (some ⟨w.heap.size, 0, none⟩) 4 4) [97, 61, 49, 0] :=
  ⟨_, 4, rfl, (fun h => by cases h), Nat.le_refl _, .inr ⟨w.heap.size, 0, rfl, fun j u hu => by
    rcases j with _ | _ | _ | _ | j
    all_goals first
      | (simp only [cels, List.map_cons, List.map_nil, List.getElem?_cons_zero, List.getElem?_cons_succ, Option.some.injEq] at hu
         subst hu
         simp only [World.cell?, World.alloc, Array.getElem?_push, if_true]
         rfl)
      | simp [cels] at hu⟩⟩
theorem aw_par : par [97, 61, 49, 0] = some [([97], [49])] := by decide +kernel
theorem aw_out : parE [97, 61, 49, 0] = 0 ∧ parO [97, 61, 49, 0] = [([97], [49])] := by
  have htw : ¬ twP ([(([97] : List Int), ([49] : List Int))].map prS) = true := by
    have : twP ([(([97] : List Int), ([49] : List Int))].map prS) = false := twP_no (fun j hj => by
      obtain rfl : j = 0 := by simpa using hj
      rfl)
    rw [this]
    simp
  unfold parE parO
  rw [aw_par]
  simp only
  have h64 : ¬ 64 < [(([97] : List Int), ([49] : List Int))].length := by decide
  rw [if_neg h64, if_neg htw, if_neg h64, if_neg htw]
  exact ⟨rfl, rfl⟩

set_option maxRecDepth 100000 in
set_option maxHeartbeats 1000000 in
theorem awake_any (w : World) : Calls Tryd.prog 5 #[] w fun e w' => e = .returned (.bool true) ∧ Below w.heap.size w w' := by
  have hE : Kpt (∀ W g, RdAt W (.slice (some ⟨g, 0, none⟩) 4 4) [97, 61, 49, 0] → Calls Tryd.prog 19 #[.slice (some ⟨g, 0, none⟩) 4 4] W fun e w' => ∃ g cap, e = .returned (.tuple #[.slice (some ⟨g, 0, none⟩) 1 cap, .int .i64 0]) ∧ w'.cell? ⟨g, 0, none⟩ = some (.string ⟨#[97]⟩) ∧ w'.cell? ⟨g, 1, none⟩ = some (.string ⟨#[49]⟩) ∧ Below W.heap.size W w') := ⟨fun W g ho => by
    refine (parse_any (some ⟨g, 0, none⟩) 4 4 _ W ho (by decide) (by unfold maxLen; omega) (Bytes.cons (by decide) (Bytes.cons (by decide) (Bytes.cons (by decide) (Bytes.cons (by decide) Bytes.nil))))).mono ?_
    rintro e w' ⟨v, rfl, hv, hb⟩
    rw [aw_out.1, aw_out.2] at *
    obtain ⟨hps, a', c', rfl, -, -⟩ := prs_of hv
    obtain ⟨b, off, rfl, h1, h2⟩ := ps_cells hps 0 (by simp) _ rfl
    rcases hv.2 with ⟨h', _⟩ | ⟨g', cap', cur, h', _⟩
    · cases h'
    · simp only [Value.slice.injEq, Option.some.injEq, Addr.mk.injEq, and_true] at h'
      obtain ⟨⟨rfl, rfl⟩, -, rfl⟩ := h'
      exact ⟨b, _, rfl, h1, h2, hb⟩⟩
  have kc := fun (w : World) (C : Array Value) (n c : Nat) => Lib.run_convert_bytes_const (P := Tryd.prog) w 39 5 C n c Tryd.underlying39 Tryd.underlying5
  go_enter Tryd.func5, Tryd.ntmps5
  go_wp2_with (first
    | (go_at_call 19; go_must (obtain ⟨w1, hw1⟩ : ∃ W, W = w.alloc (.cells #[.int .u8 97, .int .u8 61, .int .u8 49, .int .u8 0] 5 (4, 5)) := ⟨_, rfl⟩; have hb1 : Kpt (Below w.heap.size w w1) := ⟨by rw [hw1]; exact (Below.refl _ _).alloc (Nat.le_refl _) _⟩; have ho1 : RdAt w1 (.slice (some ⟨w.heap.size, 0, none⟩) 4 4) [97, 61, 49, 0] := (by rw [hw1]; exact aw_rd w); rw [hw1] at ho1; refine (hE.out _ _ ho1).mono ?_; rintro e w2 ⟨g2, cap, rfl, k1, k2, hbe2⟩; rw [← hw1] at hbe2; have hb2 : Kpt (Below w.heap.size w w2) := ⟨hb1.out.trans (hbe2.mono hb1.out.size)⟩; clear hbe2 hw1 ho1))
    | fail)
  go_ret
  exact ⟨rfl, hb2.out⟩
end Go.Proofs.YtkojkglaljiilaaDoor
