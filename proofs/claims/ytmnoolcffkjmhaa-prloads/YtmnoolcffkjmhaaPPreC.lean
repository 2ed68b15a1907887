/-
  The contract of preempt, where it is done by a key.
-/
import Derived.Test.YtmnoolcffkjmhaaPPreA
namespace Go.Proofs.Ytmnoolcffkjmhaa
open Go.RowKit
set_option linter.unusedVariables false
set_option linter.unusedSimpArgs false

set_option maxRecDepth 100000 in
set_option maxHeartbeats 4000000 in
theorem preempt_done (B : Nat) (t : Tb) (n : Int) (o : Ou) (w : World) (h : Tab w B t) (hf : t.fit) (hkd0 : 0 ≤ t.kd) (hgn : 0 ≤ t.gn ∧ t.gn < 4294967296) (hac : o.ac ≠ 0) (htk : t.taken o.ac = true) (hty : isTy o.ty = true) (hha : t.has o.ac = true) (h5 : 5 ≤ t.kd) (hne : t.kd ≠ o.ty) :
    Calls Try.prog 42 #[.pointer (some ⟨B, 0, none⟩), .int .i64 n, .agg o.vals] w fun e w' => ∃ v, e = .returned (.tuple #[.int .u8 (t.preemptR o).1, .int .u16 (t.preemptR o).2, v]) ∧ Own .u16 55 w.heap.size w' v (t.preemptE n o) ∧ Tab w' B (t.preempt n o) ∧ w.grownBy w' (some B) := by
  have hR : Kpt (t.preemptR o = (0, 0)) := ⟨by unfold Tb.preemptR; rw [if_neg (by simp [htk]), if_neg (by simp [htk, hty]), if_neg (by simp [hha])]⟩
  have hS : Kpt (∀ W, Tab W B { t.rm n o.ac with gn := (t.gn + 1) % 4294967296, kd := o.ty, ho := n } → Tab W B (t.preempt n o)) := ⟨fun W hW => by unfold Tb.preempt; rw [hR.out]; simpa [htk, Tb.rmG] using hW⟩
  have hE : Kpt (t.preemptE n o = rmL n o.ac t.regs ++ othersL n 10756 (t.rm n o.ac).regs) := ⟨by unfold Tb.preemptE; rw [hR.out]; simp [htk, h5, hne]⟩
  rw [hR.out]
  have HT : Kpt (∀ W, Tab W B t → Calls Try.prog 56 #[.pointer (some ⟨B, 0, none⟩), .int .u64 o.ac] W fun e w' => e = .returned (.bool (t.taken o.ac)) ∧ ∃ q, w' = W.drewN q) := ⟨fun W hW => taken_any B t o.ac W hW hf⟩
  have HY := fun W => Kpt.mk (types_any o.ty W)
  have HC : Kpt (∀ W, Tab W B t → Calls Try.prog 57 #[.slice (some ⟨B, 0, none⟩) 8 8, .int .u64 o.ac] W fun e w' => e = .returned (.bool (t.has o.ac)) ∧ w' = W) := ⟨fun W hW => contains_any B t o.ac W hW⟩
  have HM : Kpt (∀ W, Tab W B t → Calls Try.prog 58 #[.pointer (some ⟨B, 0, none⟩), .int .i64 n, .int .u64 o.ac] W fun e w' => ∃ v, e = .returned v ∧ Own .u16 55 W.heap.size w' v (rmL n o.ac t.regs) ∧ Tab w' B (t.rm n o.ac) ∧ W.grownBy w' (some B)) := ⟨fun W hW => remove_any B t n o.ac W hW⟩
  have HO : Kpt (∀ W, Tab W B (t.rm n o.ac) → Calls Try.prog 55 #[.pointer (some ⟨B, 0, none⟩), .int .i64 n, .int .u16 10756] W fun e w' => ∃ v, e = .returned v ∧ Own .u16 55 W.heap.size w' v (othersL n 10756 (t.rm n o.ac).regs) ∧ Below W.heap.size W w') := ⟨fun W hW => others_any B _ n 10756 W hW⟩
  have hl1 : Kpt ((rmL n o.ac t.regs).length ≤ 8) := ⟨Nat.le_trans (rmL_len _ _ _) (regs_len t)⟩
  have hl2 : Kpt ((othersL n 10756 (t.rm n o.ac).regs).length ≤ 8) := ⟨Nat.le_trans (othersL_len _ _ _) (regs_len _)⟩
  have hm8 : Kpt (∀ W, Tab W B (t.rm n o.ac) → W.cell? ⟨B, 8, none⟩ = some (.int .u8 t.kd) ∧ W.cell? ⟨B, 10, none⟩ = some (.int .u32 t.gn) ∧ (∀ j, W.frozen? ⟨B, j, none⟩ = false) ∧ ∃ x, W.cell? ⟨B, 9, none⟩ = some (.int .i64 x)) := ⟨fun W hW => ⟨hW.c8, hW.c10, hW.free, _, hW.c9⟩⟩
  generalize t.preemptR o = RR at *
  generalize t.preempt n o = RT at *
  generalize t.preemptE n o = RE at *
  generalize rmL n o.ac t.regs = L1 at *
  generalize othersL n 10756 (t.rm n o.ac).regs = L2 at *
  rw [htk] at HT; rw [hty] at HY; rw [hha] at HC
  generalize t.rm n o.ac = M at *
  generalize t.gn = gn at *
  generalize t.kd = kd at *
  generalize t.taken o.ac = tk at *
  generalize t.has o.ac = hs at *
  generalize isTy o.ty = it at *
  obtain ⟨sv, ty, ky, ac, ap⟩ := o
  simp only [Ou.vals] at *
  have hlt := h.lt
  obtain ⟨w0, hw0⟩ : ∃ w0, w0 = w.alloc (.cells #[.int .u8 sv, .int .u8 ty, .int .u64 ky, .int .u64 ac, .bool ap] 33) := ⟨_, rfl⟩
  have hT0 : Kpt (Tab w0 B t) := ⟨by rw [hw0]; exact h.alloc _⟩
  have hs0 : Kpt (w0.heap.size = w.heap.size + 1) := ⟨by rw [hw0]; simp⟩
  have hG0 : Kpt (w.grownBy w0 (some B)) := ⟨by rw [hw0]; exact grown_alloc _ _ _⟩
  have b1 : w0.cell? ⟨w.heap.size, 1, none⟩ = some (.int .u8 ty) := by rw [hw0]; simp
  have b3 : w0.cell? ⟨w.heap.size, 3, none⟩ = some (.int .u64 ac) := by rw [hw0]; simp
  replace hw0 := Kpt.mk hw0
  clear h hf
  have hab : ((ac : Int) == 0) = false := by simp [hac]
  have hab2 : ((ac : Int) != 0) = true := by simp [hac]
  have hk5 : ((kd : Int) != ty) = true := by simp [hne]
  go_enter Try.func42, Try.ntmps42
  go_wp2_with (first | (go_at_call 25; go_must (refine (HY _).out.mono ?_; rintro e w1 ⟨rfl, rfl⟩)) | (go_at_call 56; go_must (rw [← hw0.out]; refine (HT.out _ hT0.out).mono ?_; rintro e w1 ⟨rfl, q, hq⟩; have hT1 : Kpt (Tab w1 B t) := ⟨by rw [hq]; exact hT0.out.drewN q⟩; have hG1 : Kpt (w.grownBy w1 (some B)) := ⟨by rw [hq]; exact grown_trans hG0.out (grown_drewN _ _ _)⟩; have hs1 : w1.heap.size = w.heap.size + 1 := (by rw [hq]; exact hs0.out); have d1 : w1.cell? ⟨w.heap.size, 1, none⟩ = some (.int .u8 ty) := (by rw [hq]; exact b1); have d3 : w1.cell? ⟨w.heap.size, 3, none⟩ = some (.int .u64 ac) := (by rw [hq]; exact b3); have hlt1 := hT1.out.lt; replace hs1 := Kpt.mk hs1; have hsl : w.heap.size < w1.heap.size := (by rw [hs1.out]; omega); clear hq b1 b3)))
  go_quiet ((go_at_call 57; exact Calls.quiet_of_same (HC.out _ (hT1.out.drewN _))))
  go_wp2_with (go_at_call 58; go_must (refine (HM.out _ (hT1.out.drewN _)).mono ?_; rintro e w2 ⟨v, rfl, hO2, hT2, hG2⟩; have e1 : w2.cell? ⟨w.heap.size, 1, none⟩ = some (.int .u8 ty) := ((box_kept hG2 (by simpa using hsl) (by omega) 1).trans d1); obtain ⟨k8, k10, kf, x9, k9⟩ := hm8.out _ hT2; have lt2 := hT2.lt; have hs2 : w1.heap.size ≤ w2.heap.size := hG2.size; replace hO2 := Kpt.mk (show Own .u16 55 w1.heap.size w2 v L1 from hO2); replace hT2 := Kpt.mk hT2; replace hG2 : Kpt (w.grownBy w2 (some B)) := ⟨grown_trans hG1.out (grown_trans (grown_drewN w1 _ _) hG2)⟩; have m2 : Kpt True := ⟨trivial⟩; clear d1 d3))
  go_quiet (fail)
  go_wp2_with (first | (at_builtin; go_must (refine wpList_append_row (κ := .u16) Try.underlying45 Try.infoEV rfl (by decide) rfl (.tmp 65) (.tmp 68) rfl w1.heap.size v x L1 L2 rfl rfl hr3.out hO23.out (by have := hl1.out; have := hl2.out; omega) (by omega) ?_; intro v' w4 ho4 hg4 hor; have hT4 := hT3.out.grown hg4.out (fun e => by have := (hO23.out.lt e).1; omega); have e4 : w4.cell? ⟨w.heap.size, 1, none⟩ = some (.int .u8 ty) := ((World.cell?_of_block (w := w3) (w' := w4) (a := ⟨w.heap.size, 1, none⟩) (hg4.out.block w.heap.size (by omega) (fun e => by have := (hO23.out.lt e.symm).1; omega))).trans e3); obtain ⟨j8, j10, jf, y9, j9⟩ := hm8.out _ hT4; have lt4 := hT4.lt; replace hT4 := Kpt.mk hT4; have hsz4 : w3.heap.size ≤ w4.heap.size := hg4.out.size; have hG4 : Kpt (w.grownBy w4 (some B)) := ⟨⟨hg4.out.os.trans hG3.out.os, hg4.out.tape.trans hG3.out.tape, hg4.out.output.trans hG3.out.output, by omega, fun j hj hk => (hg4.out.block j (Nat.lt_of_lt_of_le hj hG3.out.size) (fun e => by have := (hO23.out.lt e.symm).1; omega)).trans (hG3.out.block j hj hk)⟩⟩; clear e3)) | (go_at_call 55; go_must (refine (HO.out _ (hT2.out.drewN _)).mono ?_; rintro e w3 ⟨x, rfl, hO3, hB3⟩; have hr3 := Kpt.mk hO3.row; have hT3 : Kpt (Tab w3 B M) := ⟨(hT2.out.drewN _).below' hB3⟩; have hO23 : Kpt (Own .u16 55 w1.heap.size w3 v L1) := ⟨hO2.out.of_block (fun g hg => hB3.block g (hO2.out.lt hg).2)⟩; have hs3 : w2.heap.size ≤ w3.heap.size := hB3.size; have e3 : w3.cell? ⟨w.heap.size, 1, none⟩ = some (.int .u8 ty) := ((hB3.cell (p := ⟨w.heap.size, 1, none⟩) (show w.heap.size < w2.heap.size by omega)).trans e1); have hG3 : Kpt (w.grownBy w3 (some B)) := ⟨grown_trans hG2.out (grown_trans (grown_drewN w2 _ _) (grown_below hB3))⟩; have m3 : Kpt True := ⟨trivial⟩; clear hO3 hB3 e1 k8 k10 kf k9)))
  go_ret3
  exact ⟨v', rfl, by rw [hE.out]; exact (ho4.out.lower (by omega)).of_block (fun g hg => by
    have hgB : g ≠ B := fun e => by have := (ho4.out.lt hg).1; omega
    exact (Below.heap_setCell _ _ _ _ (fun e => hgB (by simpa using e))).trans ((Below.heap_setCell _ _ _ _ (fun e => hgB (by simpa using e))).trans (Below.heap_setCell _ _ _ _ (fun e => hgB (by simpa using e))))), hS.out _ (((hT4.out.setKd _).setHo _).setGn _), grown_trans hG4.out (grown_trans (grown_setCell _ ⟨B, 8, none⟩ _) (grown_trans (grown_setCell _ ⟨B, 9, none⟩ _) (grown_setCell _ ⟨B, 10, none⟩ _)))⟩

set_option maxRecDepth 100000 in
set_option maxHeartbeats 4000000 in
theorem preempt_doneN (B : Nat) (t : Tb) (n : Int) (o : Ou) (w : World) (h : Tab w B t) (hf : t.fit) (hkd0 : 0 ≤ t.kd) (hgn : 0 ≤ t.gn ∧ t.gn < 4294967296) (hac : o.ac ≠ 0) (htk : t.taken o.ac = true) (hty : isTy o.ty = true) (hha : t.has o.ac = true) (h5 : ¬ 5 ≤ t.kd) :
    Calls Try.prog 42 #[.pointer (some ⟨B, 0, none⟩), .int .i64 n, .agg o.vals] w fun e w' => ∃ v, e = .returned (.tuple #[.int .u8 (t.preemptR o).1, .int .u16 (t.preemptR o).2, v]) ∧ Own .u16 55 w.heap.size w' v (t.preemptE n o) ∧ Tab w' B (t.preempt n o) ∧ w.grownBy w' (some B) := by
  have hR : Kpt (t.preemptR o = (0, 0)) := ⟨by unfold Tb.preemptR; rw [if_neg (by simp [htk]), if_neg (by simp [htk, hty]), if_neg (by simp [hha])]⟩
  have hS : Kpt (∀ W, Tab W B { t.rm n o.ac with gn := (t.gn + 1) % 4294967296, kd := o.ty, ho := n } → Tab W B (t.preempt n o)) := ⟨fun W hW => by unfold Tb.preempt; rw [hR.out]; simpa [htk, Tb.rmG] using hW⟩
  have hE : Kpt (t.preemptE n o = rmL n o.ac t.regs) := ⟨by unfold Tb.preemptE; rw [hR.out]; simp [htk, h5]⟩
  rw [hR.out]
  have HT : Kpt (∀ W, Tab W B t → Calls Try.prog 56 #[.pointer (some ⟨B, 0, none⟩), .int .u64 o.ac] W fun e w' => e = .returned (.bool (t.taken o.ac)) ∧ ∃ q, w' = W.drewN q) := ⟨fun W hW => taken_any B t o.ac W hW hf⟩
  have HY := fun W => Kpt.mk (types_any o.ty W)
  have HC : Kpt (∀ W, Tab W B t → Calls Try.prog 57 #[.slice (some ⟨B, 0, none⟩) 8 8, .int .u64 o.ac] W fun e w' => e = .returned (.bool (t.has o.ac)) ∧ w' = W) := ⟨fun W hW => contains_any B t o.ac W hW⟩
  have HM : Kpt (∀ W, Tab W B t → Calls Try.prog 58 #[.pointer (some ⟨B, 0, none⟩), .int .i64 n, .int .u64 o.ac] W fun e w' => ∃ v, e = .returned v ∧ Own .u16 55 W.heap.size w' v (rmL n o.ac t.regs) ∧ Tab w' B (t.rm n o.ac) ∧ W.grownBy w' (some B)) := ⟨fun W hW => remove_any B t n o.ac W hW⟩
  have HO : Kpt (∀ W, Tab W B (t.rm n o.ac) → Calls Try.prog 55 #[.pointer (some ⟨B, 0, none⟩), .int .i64 n, .int .u16 10756] W fun e w' => ∃ v, e = .returned v ∧ Own .u16 55 W.heap.size w' v (othersL n 10756 (t.rm n o.ac).regs) ∧ Below W.heap.size W w') := ⟨fun W hW => others_any B _ n 10756 W hW⟩
  have hl1 : Kpt ((rmL n o.ac t.regs).length ≤ 8) := ⟨Nat.le_trans (rmL_len _ _ _) (regs_len t)⟩
  have hl2 : Kpt ((othersL n 10756 (t.rm n o.ac).regs).length ≤ 8) := ⟨Nat.le_trans (othersL_len _ _ _) (regs_len _)⟩
  have hm8 : Kpt (∀ W, Tab W B (t.rm n o.ac) → W.cell? ⟨B, 8, none⟩ = some (.int .u8 t.kd) ∧ W.cell? ⟨B, 10, none⟩ = some (.int .u32 t.gn) ∧ (∀ j, W.frozen? ⟨B, j, none⟩ = false) ∧ ∃ x, W.cell? ⟨B, 9, none⟩ = some (.int .i64 x)) := ⟨fun W hW => ⟨hW.c8, hW.c10, hW.free, _, hW.c9⟩⟩
  generalize t.preemptR o = RR at *
  generalize t.preempt n o = RT at *
  generalize t.preemptE n o = RE at *
  generalize rmL n o.ac t.regs = L1 at *
  generalize othersL n 10756 (t.rm n o.ac).regs = L2 at *
  rw [htk] at HT; rw [hty] at HY; rw [hha] at HC
  generalize t.rm n o.ac = M at *
  generalize t.gn = gn at *
  generalize t.kd = kd at *
  generalize t.taken o.ac = tk at *
  generalize t.has o.ac = hs at *
  generalize isTy o.ty = it at *
  obtain ⟨sv, ty, ky, ac, ap⟩ := o
  simp only [Ou.vals] at *
  have hlt := h.lt
  obtain ⟨w0, hw0⟩ : ∃ w0, w0 = w.alloc (.cells #[.int .u8 sv, .int .u8 ty, .int .u64 ky, .int .u64 ac, .bool ap] 33) := ⟨_, rfl⟩
  have hT0 : Kpt (Tab w0 B t) := ⟨by rw [hw0]; exact h.alloc _⟩
  have hs0 : Kpt (w0.heap.size = w.heap.size + 1) := ⟨by rw [hw0]; simp⟩
  have hG0 : Kpt (w.grownBy w0 (some B)) := ⟨by rw [hw0]; exact grown_alloc _ _ _⟩
  have b1 : w0.cell? ⟨w.heap.size, 1, none⟩ = some (.int .u8 ty) := by rw [hw0]; simp
  have b3 : w0.cell? ⟨w.heap.size, 3, none⟩ = some (.int .u64 ac) := by rw [hw0]; simp
  replace hw0 := Kpt.mk hw0
  clear h hf
  have hab : ((ac : Int) == 0) = false := by simp [hac]
  have hab2 : ((ac : Int) != 0) = true := by simp [hac]
  have h5' : kd < 5 := by omega
  have hk6 : decide (kd ≥ 5) = false := by simp; omega
  have hk7 : decide (5 ≤ kd) = false := by simp; omega
  clear h5
  go_enter Try.func42, Try.ntmps42
  go_wp2_with (first | (go_at_call 25; go_must (refine (HY _).out.mono ?_; rintro e w1 ⟨rfl, rfl⟩)) | (go_at_call 56; go_must (rw [← hw0.out]; refine (HT.out _ hT0.out).mono ?_; rintro e w1 ⟨rfl, q, hq⟩; have hT1 : Kpt (Tab w1 B t) := ⟨by rw [hq]; exact hT0.out.drewN q⟩; have hG1 : Kpt (w.grownBy w1 (some B)) := ⟨by rw [hq]; exact grown_trans hG0.out (grown_drewN _ _ _)⟩; have hs1 : w1.heap.size = w.heap.size + 1 := (by rw [hq]; exact hs0.out); have d1 : w1.cell? ⟨w.heap.size, 1, none⟩ = some (.int .u8 ty) := (by rw [hq]; exact b1); have d3 : w1.cell? ⟨w.heap.size, 3, none⟩ = some (.int .u64 ac) := (by rw [hq]; exact b3); have hlt1 := hT1.out.lt; replace hs1 := Kpt.mk hs1; have hsl : w.heap.size < w1.heap.size := (by rw [hs1.out]; omega); clear hq b1 b3)))
  go_quiet ((go_at_call 57; exact Calls.quiet_of_same (HC.out _ (hT1.out.drewN _))))
  go_wp2_with (go_at_call 58; go_must (refine (HM.out _ (hT1.out.drewN _)).mono ?_; rintro e w2 ⟨v, rfl, hO2, hT2, hG2⟩; have e1 : w2.cell? ⟨w.heap.size, 1, none⟩ = some (.int .u8 ty) := ((box_kept hG2 (by simpa using hsl) (by omega) 1).trans d1); obtain ⟨k8, k10, kf, x9, k9⟩ := hm8.out _ hT2; have lt2 := hT2.lt; have hs2 : w1.heap.size ≤ w2.heap.size := hG2.size; replace hO2 := Kpt.mk (show Own .u16 55 w1.heap.size w2 v L1 from hO2); replace hT2 := Kpt.mk hT2; replace hG2 : Kpt (w.grownBy w2 (some B)) := ⟨grown_trans hG1.out (grown_trans (grown_drewN w1 _ _) hG2)⟩; have m2 : Kpt True := ⟨trivial⟩; clear d1 d3))
  go_quiet (fail)
  go_wp2
  go_ret3
  exact ⟨v, rfl, by rw [hE.out]; exact (hO2.out.lower (by omega)).of_block (fun g hg => by
    have hgB : g ≠ B := fun e => by have := (hO2.out.lt hg).1; omega
    exact (Below.heap_setCell _ _ _ _ (fun e => hgB (by simpa using e))).trans ((Below.heap_setCell _ _ _ _ (fun e => hgB (by simpa using e))).trans (Below.heap_setCell _ _ _ _ (fun e => hgB (by simpa using e))))), hS.out _ ((((hT2.out.drewN _).setKd _).setHo _).setGn _), grown_trans (grown_trans hG2.out (grown_drewN _ _ _)) (grown_trans (grown_setCell _ ⟨B, 8, none⟩ _) (grown_trans (grown_setCell _ ⟨B, 9, none⟩ _) (grown_setCell _ ⟨B, 10, none⟩ _)))⟩

set_option maxRecDepth 100000 in
set_option maxHeartbeats 4000000 in
theorem preempt_doneS (B : Nat) (t : Tb) (n : Int) (o : Ou) (w : World) (h : Tab w B t) (hf : t.fit) (hkd0 : 0 ≤ t.kd) (hgn : 0 ≤ t.gn ∧ t.gn < 4294967296) (hac : o.ac ≠ 0) (htk : t.taken o.ac = true) (hty : isTy o.ty = true) (hha : t.has o.ac = true) (h5 : 5 ≤ t.kd) (hne : t.kd = o.ty) :
    Calls Try.prog 42 #[.pointer (some ⟨B, 0, none⟩), .int .i64 n, .agg o.vals] w fun e w' => ∃ v, e = .returned (.tuple #[.int .u8 (t.preemptR o).1, .int .u16 (t.preemptR o).2, v]) ∧ Own .u16 55 w.heap.size w' v (t.preemptE n o) ∧ Tab w' B (t.preempt n o) ∧ w.grownBy w' (some B) := by
  have hR : Kpt (t.preemptR o = (0, 0)) := ⟨by unfold Tb.preemptR; rw [if_neg (by simp [htk]), if_neg (by simp [htk, hty]), if_neg (by simp [hha])]⟩
  have hS : Kpt (∀ W, Tab W B { t.rm n o.ac with gn := (t.gn + 1) % 4294967296, kd := o.ty, ho := n } → Tab W B (t.preempt n o)) := ⟨fun W hW => by unfold Tb.preempt; rw [hR.out]; simpa [htk, Tb.rmG] using hW⟩
  have hE : Kpt (t.preemptE n o = rmL n o.ac t.regs) := ⟨by unfold Tb.preemptE; rw [hR.out]; simp [htk, hne]⟩
  rw [hR.out]
  have HT : Kpt (∀ W, Tab W B t → Calls Try.prog 56 #[.pointer (some ⟨B, 0, none⟩), .int .u64 o.ac] W fun e w' => e = .returned (.bool (t.taken o.ac)) ∧ ∃ q, w' = W.drewN q) := ⟨fun W hW => taken_any B t o.ac W hW hf⟩
  have HY := fun W => Kpt.mk (types_any o.ty W)
  have HC : Kpt (∀ W, Tab W B t → Calls Try.prog 57 #[.slice (some ⟨B, 0, none⟩) 8 8, .int .u64 o.ac] W fun e w' => e = .returned (.bool (t.has o.ac)) ∧ w' = W) := ⟨fun W hW => contains_any B t o.ac W hW⟩
  have HM : Kpt (∀ W, Tab W B t → Calls Try.prog 58 #[.pointer (some ⟨B, 0, none⟩), .int .i64 n, .int .u64 o.ac] W fun e w' => ∃ v, e = .returned v ∧ Own .u16 55 W.heap.size w' v (rmL n o.ac t.regs) ∧ Tab w' B (t.rm n o.ac) ∧ W.grownBy w' (some B)) := ⟨fun W hW => remove_any B t n o.ac W hW⟩
  have HO : Kpt (∀ W, Tab W B (t.rm n o.ac) → Calls Try.prog 55 #[.pointer (some ⟨B, 0, none⟩), .int .i64 n, .int .u16 10756] W fun e w' => ∃ v, e = .returned v ∧ Own .u16 55 W.heap.size w' v (othersL n 10756 (t.rm n o.ac).regs) ∧ Below W.heap.size W w') := ⟨fun W hW => others_any B _ n 10756 W hW⟩
  have hl1 : Kpt ((rmL n o.ac t.regs).length ≤ 8) := ⟨Nat.le_trans (rmL_len _ _ _) (regs_len t)⟩
  have hl2 : Kpt ((othersL n 10756 (t.rm n o.ac).regs).length ≤ 8) := ⟨Nat.le_trans (othersL_len _ _ _) (regs_len _)⟩
  have hm8 : Kpt (∀ W, Tab W B (t.rm n o.ac) → W.cell? ⟨B, 8, none⟩ = some (.int .u8 t.kd) ∧ W.cell? ⟨B, 10, none⟩ = some (.int .u32 t.gn) ∧ (∀ j, W.frozen? ⟨B, j, none⟩ = false) ∧ ∃ x, W.cell? ⟨B, 9, none⟩ = some (.int .i64 x)) := ⟨fun W hW => ⟨hW.c8, hW.c10, hW.free, _, hW.c9⟩⟩
  generalize t.preemptR o = RR at *
  generalize t.preempt n o = RT at *
  generalize t.preemptE n o = RE at *
  generalize rmL n o.ac t.regs = L1 at *
  generalize othersL n 10756 (t.rm n o.ac).regs = L2 at *
  rw [htk] at HT; rw [hty] at HY; rw [hha] at HC
  generalize t.rm n o.ac = M at *
  generalize t.gn = gn at *
  generalize t.kd = kd at *
  generalize t.taken o.ac = tk at *
  generalize t.has o.ac = hs at *
  generalize isTy o.ty = it at *
  obtain ⟨sv, ty, ky, ac, ap⟩ := o
  simp only [Ou.vals] at *
  have hlt := h.lt
  obtain ⟨w0, hw0⟩ : ∃ w0, w0 = w.alloc (.cells #[.int .u8 sv, .int .u8 ty, .int .u64 ky, .int .u64 ac, .bool ap] 33) := ⟨_, rfl⟩
  have hT0 : Kpt (Tab w0 B t) := ⟨by rw [hw0]; exact h.alloc _⟩
  have hs0 : Kpt (w0.heap.size = w.heap.size + 1) := ⟨by rw [hw0]; simp⟩
  have hG0 : Kpt (w.grownBy w0 (some B)) := ⟨by rw [hw0]; exact grown_alloc _ _ _⟩
  have b1 : w0.cell? ⟨w.heap.size, 1, none⟩ = some (.int .u8 ty) := by rw [hw0]; simp
  have b3 : w0.cell? ⟨w.heap.size, 3, none⟩ = some (.int .u64 ac) := by rw [hw0]; simp
  replace hw0 := Kpt.mk hw0
  clear h hf
  have hab : ((ac : Int) == 0) = false := by simp [hac]
  have hab2 : ((ac : Int) != 0) = true := by simp [hac]
  replace hne := hne.symm
  subst hne
  go_enter Try.func42, Try.ntmps42
  go_wp2_with (first | (go_at_call 25; go_must (refine (HY _).out.mono ?_; rintro e w1 ⟨rfl, rfl⟩)) | (go_at_call 56; go_must (rw [← hw0.out]; refine (HT.out _ hT0.out).mono ?_; rintro e w1 ⟨rfl, q, hq⟩; have hT1 : Kpt (Tab w1 B t) := ⟨by rw [hq]; exact hT0.out.drewN q⟩; have hG1 : Kpt (w.grownBy w1 (some B)) := ⟨by rw [hq]; exact grown_trans hG0.out (grown_drewN _ _ _)⟩; have hs1 : w1.heap.size = w.heap.size + 1 := (by rw [hq]; exact hs0.out); have d1 : w1.cell? ⟨w.heap.size, 1, none⟩ = some (.int .u8 ty) := (by rw [hq]; exact b1); have d3 : w1.cell? ⟨w.heap.size, 3, none⟩ = some (.int .u64 ac) := (by rw [hq]; exact b3); have hlt1 := hT1.out.lt; replace hs1 := Kpt.mk hs1; have hsl : w.heap.size < w1.heap.size := (by rw [hs1.out]; omega); clear hq b1 b3)))
  go_quiet ((go_at_call 57; exact Calls.quiet_of_same (HC.out _ (hT1.out.drewN _))))
  go_wp2_with (go_at_call 58; go_must (refine (HM.out _ (hT1.out.drewN _)).mono ?_; rintro e w2 ⟨v, rfl, hO2, hT2, hG2⟩; have e1 : w2.cell? ⟨w.heap.size, 1, none⟩ = some (.int .u8 ty) := ((box_kept hG2 (by simpa using hsl) (by omega) 1).trans d1); obtain ⟨k8, k10, kf, x9, k9⟩ := hm8.out _ hT2; have lt2 := hT2.lt; have hs2 : w1.heap.size ≤ w2.heap.size := hG2.size; replace hO2 := Kpt.mk (show Own .u16 55 w1.heap.size w2 v L1 from hO2); replace hT2 := Kpt.mk hT2; replace hG2 : Kpt (w.grownBy w2 (some B)) := ⟨grown_trans hG1.out (grown_trans (grown_drewN w1 _ _) hG2)⟩; have m2 : Kpt True := ⟨trivial⟩; clear d1 d3))
  go_quiet (fail)
  go_wp2
  go_ret3
  exact ⟨v, rfl, by rw [hE.out]; exact (hO2.out.lower (by omega)).of_block (fun g hg => by
    have hgB : g ≠ B := fun e => by have := (hO2.out.lt hg).1; omega
    exact (Below.heap_setCell _ _ _ _ (fun e => hgB (by simpa using e))).trans ((Below.heap_setCell _ _ _ _ (fun e => hgB (by simpa using e))).trans (Below.heap_setCell _ _ _ _ (fun e => hgB (by simpa using e))))), hS.out _ ((((hT2.out.drewN _).setKd _).setHo _).setGn _), grown_trans (grown_trans hG2.out (grown_drewN _ _ _)) (grown_trans (grown_setCell _ ⟨B, 8, none⟩ _) (grown_trans (grown_setCell _ ⟨B, 9, none⟩ _) (grown_setCell _ ⟨B, 10, none⟩ _)))⟩

end Go.Proofs.Ytmnoolcffkjmhaa
