/-
  sess: allows, where a command without data is taken.
-/
import Derived.Test.YtdplndlmdhpfaabECmd
namespace Go.Proofs.Ytdplndlmdhpfaab
open Go.RowKit
set_option linter.unusedVariables false
set_option linter.unusedSimpArgs false

set_option maxRecDepth 100000 in
set_option maxHeartbeats 4000000 in
theorem allows_ok (S : Nat) (s : Se) (H : List (Array Value)) (O : List Cm) (T : List (Array Value)) (p : Pd) (a : Option Addr) (c : Nat) (w : World) (h : Ss w S s H (O.map Cm.v) T) (hl : O.length ≤ 10000) (hda : p.da = .slice a 0 c) (hds : s.dis = false) (hfree : fidx (isC p.tg) (O.map Cm.v) 0 = -1) (hfl : p.fl = 193 ∨ p.fl = 161 ∧ 0 ≤ p.w0 ∧ p.w0 ≤ 1048576) :
    Calls Try.prog 59 #[.pointer (some ⟨S, 0, none⟩), .agg p.v] w fun e w' => e = .returned (.tuple #[.int .u8 0, .bool true]) ∧ Below w.heap.size w w' := by
  have hF : Kpt (∀ W, Ss W S s H (O.map Cm.v) T → Calls Try.prog 47 #[.pointer (some ⟨S, 0, none⟩), .int .u32 p.tg] W fun e w' => e = .returned (.int .i64 (-1)) ∧ Below W.heap.size W w') := ⟨fun W h => by have := findOpen_any S s H O T p.tg W h hl; rw [hfree] at this; exact this⟩
  have hK := Kpt.mk h
  have hdaK := Kpt.mk hda
  have hdsK := Kpt.mk hds
  clear h hda hds hfree
  rcases hfl with hfl | ⟨hfl, h0, h1⟩
  · go_enter Try.func59, Try.ntmps59
    go_wp2_with (first
      | (go_at_call 47; go_must (refine (hF.out _ (hK.out.below hb1.out)).mono ?_; rintro e w2 ⟨rfl, hb2⟩; have hb3 := Kpt.mk (hb1.out.trans (hb2.mono hb1.out.size)); obtain ⟨d2, -⟩ := (hK.out.below hb3.out).cell 2 (by omega); simp [Se.v] at d2; rw [hdsK.out] at d2; have hB2 := hB.out.below hb2 hB.out.lt; have c13 := hB2.cells 13 (by simp [Pd.v]); have c1 := hB2.cells 1 (by simp [Pd.v]); simp [Pd.v] at c13 c1; rw [hdaK.out] at c13; rw [hfl] at c1; clear hb2 hB2))
      | (refine (?_ : wpList _ _ _ (Oper.mk _ (Op.box 42 _) _ _ _ _ :: _) _ _); go_must (refine wpList_box rfl 42 _ rfl p.v rfl ?_; intro P w1 hP hB hb1 _; have c5 := hB.cells 5 (by simp [Pd.v]); simp [Pd.v] at c5; replace hb1 := Kpt.mk hb1; replace hB := Kpt.mk hB; clear hP)))
    go_ret2
    exact ⟨rfl, hb3.out⟩
  · have h2 : ¬ (1048576 < p.w0) := by omega
    have h3 : decide (1048576 < p.w0) = false := by simp; omega
    go_enter Try.func59, Try.ntmps59
    go_wp2_with (first
      | (go_at_call 47; go_must (refine (hF.out _ (hK.out.below hb1.out)).mono ?_; rintro e w2 ⟨rfl, hb2⟩; have hb3 := Kpt.mk (hb1.out.trans (hb2.mono hb1.out.size)); obtain ⟨d2, -⟩ := (hK.out.below hb3.out).cell 2 (by omega); simp [Se.v] at d2; rw [hdsK.out] at d2; have hB2 := hB.out.below hb2 hB.out.lt; have c13 := hB2.cells 13 (by simp [Pd.v]); have c1 := hB2.cells 1 (by simp [Pd.v]); have c6 := hB2.cells 6 (by simp [Pd.v]); simp [Pd.v] at c13 c1 c6; rw [hdaK.out] at c13; rw [hfl] at c1; clear hb2 hB2))
      | (refine (?_ : wpList _ _ _ (Oper.mk _ (Op.box 42 _) _ _ _ _ :: _) _ _); go_must (refine wpList_box rfl 42 _ rfl p.v rfl ?_; intro P w1 hP hB hb1 _; have c5 := hB.cells 5 (by simp [Pd.v]); simp [Pd.v] at c5; replace hb1 := Kpt.mk hb1; replace hB := Kpt.mk hB; clear hP)))
    go_ret2
    exact ⟨rfl, hb3.out⟩
end Go.Proofs.Ytdplndlmdhpfaab
