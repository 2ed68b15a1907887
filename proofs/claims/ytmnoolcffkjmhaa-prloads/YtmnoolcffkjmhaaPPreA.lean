/-
  The contract of preempt.
-/
import Derived.Test.YtmnoolcffkjmhaaPClr
namespace Go.Proofs.Ytmnoolcffkjmhaa
open Go.RowKit
set_option linter.unusedVariables false
set_option linter.unusedSimpArgs false

def Tb.preemptR (t : Tb) (o : Ou) : Int × Int := if o.ac = 0 ∧ t.taken o.ac = false then (2, 9728) else if t.taken o.ac = true ∧ isTy o.ty = false then (2, 9216) else if o.ac ≠ 0 ∧ t.has o.ac = false then (24, 0) else (0, 0)
def Tb.rmG (t : Tb) (n : Int) (o : Ou) : Tb := { t.rm n o.ac with gn := (t.gn + 1) % 4294967296 }
def Tb.preempt (t : Tb) (n : Int) (o : Ou) : Tb := if (t.preemptR o).1 ≠ 0 then t else if t.taken o.ac = true then { t.rmG n o with kd := o.ty, ho := n } else t.rmG n o
def Tb.preemptE (t : Tb) (n : Int) (o : Ou) : List (Int × Int) := if (t.preemptR o).1 ≠ 0 then [] else rmL n o.ac t.regs ++ (if t.taken o.ac = true ∧ 5 ≤ t.kd ∧ t.kd ≠ o.ty then othersL n 10756 (t.rm n o.ac).regs else [])

/-- What lies in a block of its own is as it was. -/
theorem box_kept {w W : World} {B b : Nat} (hg : w.grownBy W (some B)) (hb : b < w.heap.size) (hne : b ≠ B) (j : Nat) : W.cell? ⟨b, j, none⟩ = w.cell? ⟨b, j, none⟩ :=
  World.cell?_of_block (w := w) (w' := W) (a := ⟨b, j, none⟩) (hg.block b hb (fun e => hne (by simpa using e)))

set_option maxRecDepth 100000 in
set_option maxHeartbeats 4000000 in
theorem preempt_param (B : Nat) (t : Tb) (n : Int) (o : Ou) (w : World) (h : Tab w B t) (hf : t.fit) (hkd0 : 0 ≤ t.kd) (hgn : 0 ≤ t.gn ∧ t.gn < 4294967296) (hac : o.ac = 0) (htk : t.taken o.ac = false) :
    Calls Try.prog 42 #[.pointer (some ⟨B, 0, none⟩), .int .i64 n, .agg o.vals] w fun e w' => ∃ v, e = .returned (.tuple #[.int .u8 (t.preemptR o).1, .int .u16 (t.preemptR o).2, v]) ∧ Own .u16 55 w.heap.size w' v (t.preemptE n o) ∧ Tab w' B (t.preempt n o) ∧ w.grownBy w' (some B) := by
  have hR : Kpt (t.preemptR o = (2, 9728)) := ⟨by unfold Tb.preemptR; rw [if_pos ⟨hac, htk⟩]⟩
  have hS : Kpt (∀ W, Tab W B t → Tab W B (t.preempt n o)) := ⟨fun W hW => by unfold Tb.preempt; rw [hR.out]; simpa using hW⟩
  have hE : Kpt (t.preemptE n o = []) := ⟨by unfold Tb.preemptE; rw [hR.out]; simp⟩
  rw [hR.out]
  have HT : Kpt (∀ W, Tab W B t → Calls Try.prog 56 #[.pointer (some ⟨B, 0, none⟩), .int .u64 o.ac] W fun e w' => e = .returned (.bool (t.taken o.ac)) ∧ ∃ q, w' = W.drewN q) := ⟨fun W hW => taken_any B t o.ac W hW hf⟩
  have HY := fun W => Kpt.mk (types_any o.ty W)
  have HC : Kpt (∀ W, Tab W B t → Calls Try.prog 57 #[.slice (some ⟨B, 0, none⟩) 8 8, .int .u64 o.ac] W fun e w' => e = .returned (.bool (t.has o.ac)) ∧ w' = W) := ⟨fun W hW => contains_any B t o.ac W hW⟩
  have HM : Kpt (∀ W, Tab W B t → Calls Try.prog 58 #[.pointer (some ⟨B, 0, none⟩), .int .i64 n, .int .u64 o.ac] W fun e w' => ∃ v, e = .returned v ∧ Own .u16 55 W.heap.size w' v (rmL n o.ac t.regs) ∧ Tab w' B (t.rm n o.ac) ∧ W.grownBy w' (some B)) := ⟨fun W hW => remove_any B t n o.ac W hW⟩
  have HO : Kpt (∀ W, Tab W B (t.rm n o.ac) → Calls Try.prog 55 #[.pointer (some ⟨B, 0, none⟩), .int .i64 n, .int .u16 10756] W fun e w' => ∃ v, e = .returned v ∧ Own .u16 55 W.heap.size w' v (othersL n 10756 (t.rm n o.ac).regs) ∧ Below W.heap.size W w') := ⟨fun W hW => others_any B _ n 10756 W hW⟩
  have hl1 : Kpt ((rmL n o.ac t.regs).length ≤ 8) := ⟨Nat.le_trans (rmL_len _ _ _) (regs_len t)⟩
  have hl2 : Kpt ((othersL n 10756 (t.rm n o.ac).regs).length ≤ 8) := ⟨Nat.le_trans (othersL_len _ _ _) (regs_len _)⟩
  have hm8 : Kpt (∀ W, Tab W B (t.rm n o.ac) → W.cell? ⟨B, 8, none⟩ = some (.int .u8 t.kd) ∧ W.cell? ⟨B, 10, none⟩ = some (.int .u32 t.gn) ∧ (∀ j, W.frozen? ⟨B, j, none⟩ = false) ∧ ∃ x, W.cell? ⟨B, 9, none⟩ = some (.int .i64 x)) := ⟨fun W hW => ⟨hW.c8, hW.c10, hW.free, _, hW.c9⟩⟩
  generalize t.preemptR o = RR at *
  generalize t.preempt n o = RT at *
  generalize t.preemptE n o = RE at *
  generalize rmL n o.ac t.regs = L1 at *
  generalize othersL n 10756 (t.rm n o.ac).regs = L2 at *
  rw [htk] at HT
  generalize t.taken o.ac = tk at *
  generalize t.has o.ac = hs at *
  generalize isTy o.ty = it at *
  obtain ⟨sv, ty, ky, ac, ap⟩ := o
  simp only [Ou.vals] at *
  have hlt := h.lt
  obtain ⟨w0, hw0⟩ : ∃ w0, w0 = w.alloc (.cells #[.int .u8 sv, .int .u8 ty, .int .u64 ky, .int .u64 ac, .bool ap] 33) := ⟨_, rfl⟩
  have hT0 : Kpt (Tab w0 B t) := ⟨by rw [hw0]; exact h.alloc _⟩
  have hs0 : Kpt (w0.heap.size = w.heap.size + 1) := ⟨by rw [hw0]; simp⟩
  have hG0 : Kpt (w.grownBy w0 (some B)) := ⟨by rw [hw0]; exact grown_alloc _ _ _⟩
  have b1 : w0.cell? ⟨w.heap.size, 1, none⟩ = some (.int .u8 ty) := by rw [hw0]; simp
  have b3 : w0.cell? ⟨w.heap.size, 3, none⟩ = some (.int .u64 ac) := by rw [hw0]; simp
  replace hw0 := Kpt.mk hw0
  clear h hf
  subst hac
  go_enter Try.func42, Try.ntmps42
  go_wp2_with (go_at_call 56; go_must (rw [← hw0.out]; refine (HT.out _ hT0.out).mono ?_; rintro e w1 ⟨rfl, q, hq⟩; have hT1 : Kpt (Tab w1 B t) := ⟨by rw [hq]; exact hT0.out.drewN q⟩; have hG1 : Kpt (w.grownBy w1 (some B)) := ⟨by rw [hq]; exact grown_trans hG0.out (grown_drewN _ _ _)⟩; have hs1 : w1.heap.size = w.heap.size + 1 := (by rw [hq]; exact hs0.out); have d1 : w1.cell? ⟨w.heap.size, 1, none⟩ = some (.int .u8 ty) := (by rw [hq]; exact b1); have d3 : w1.cell? ⟨w.heap.size, 3, none⟩ = some (.int .u64 0) := (by rw [hq]; exact b3); have hlt1 := hT1.out.lt; replace hs1 := Kpt.mk hs1; have hsl : w.heap.size < w1.heap.size := (by rw [hs1.out]; omega); clear hq b1 b3))
  go_ret3
  exact ⟨_, rfl, by rw [hE.out]; exact own_nil _ _ _ _, hS.out _ hT1.out, hG1.out⟩

set_option maxRecDepth 100000 in
set_option maxHeartbeats 4000000 in
theorem preempt_field (B : Nat) (t : Tb) (n : Int) (o : Ou) (w : World) (h : Tab w B t) (hf : t.fit) (hkd0 : 0 ≤ t.kd) (hgn : 0 ≤ t.gn ∧ t.gn < 4294967296) (htk : t.taken o.ac = true) (hty : isTy o.ty = false) :
    Calls Try.prog 42 #[.pointer (some ⟨B, 0, none⟩), .int .i64 n, .agg o.vals] w fun e w' => ∃ v, e = .returned (.tuple #[.int .u8 (t.preemptR o).1, .int .u16 (t.preemptR o).2, v]) ∧ Own .u16 55 w.heap.size w' v (t.preemptE n o) ∧ Tab w' B (t.preempt n o) ∧ w.grownBy w' (some B) := by
  have hR : Kpt (t.preemptR o = (2, 9216)) := ⟨by unfold Tb.preemptR; rw [if_neg (by simp [htk]), if_pos ⟨htk, hty⟩]⟩
  have hS : Kpt (∀ W, Tab W B t → Tab W B (t.preempt n o)) := ⟨fun W hW => by unfold Tb.preempt; rw [hR.out]; simpa using hW⟩
  have hE : Kpt (t.preemptE n o = []) := ⟨by unfold Tb.preemptE; rw [hR.out]; simp⟩
  rw [hR.out]
  have HT : Kpt (∀ W, Tab W B t → Calls Try.prog 56 #[.pointer (some ⟨B, 0, none⟩), .int .u64 o.ac] W fun e w' => e = .returned (.bool (t.taken o.ac)) ∧ ∃ q, w' = W.drewN q) := ⟨fun W hW => taken_any B t o.ac W hW hf⟩
  have HY := fun W => Kpt.mk (types_any o.ty W)
  have HC : Kpt (∀ W, Tab W B t → Calls Try.prog 57 #[.slice (some ⟨B, 0, none⟩) 8 8, .int .u64 o.ac] W fun e w' => e = .returned (.bool (t.has o.ac)) ∧ w' = W) := ⟨fun W hW => contains_any B t o.ac W hW⟩
  have HM : Kpt (∀ W, Tab W B t → Calls Try.prog 58 #[.pointer (some ⟨B, 0, none⟩), .int .i64 n, .int .u64 o.ac] W fun e w' => ∃ v, e = .returned v ∧ Own .u16 55 W.heap.size w' v (rmL n o.ac t.regs) ∧ Tab w' B (t.rm n o.ac) ∧ W.grownBy w' (some B)) := ⟨fun W hW => remove_any B t n o.ac W hW⟩
  have HO : Kpt (∀ W, Tab W B (t.rm n o.ac) → Calls Try.prog 55 #[.pointer (some ⟨B, 0, none⟩), .int .i64 n, .int .u16 10756] W fun e w' => ∃ v, e = .returned v ∧ Own .u16 55 W.heap.size w' v (othersL n 10756 (t.rm n o.ac).regs) ∧ Below W.heap.size W w') := ⟨fun W hW => others_any B _ n 10756 W hW⟩
  have hl1 : Kpt ((rmL n o.ac t.regs).length ≤ 8) := ⟨Nat.le_trans (rmL_len _ _ _) (regs_len t)⟩
  have hl2 : Kpt ((othersL n 10756 (t.rm n o.ac).regs).length ≤ 8) := ⟨Nat.le_trans (othersL_len _ _ _) (regs_len _)⟩
  have hm8 : Kpt (∀ W, Tab W B (t.rm n o.ac) → W.cell? ⟨B, 8, none⟩ = some (.int .u8 t.kd) ∧ W.cell? ⟨B, 10, none⟩ = some (.int .u32 t.gn) ∧ (∀ j, W.frozen? ⟨B, j, none⟩ = false) ∧ ∃ x, W.cell? ⟨B, 9, none⟩ = some (.int .i64 x)) := ⟨fun W hW => ⟨hW.c8, hW.c10, hW.free, _, hW.c9⟩⟩
  generalize t.preemptR o = RR at *
  generalize t.preempt n o = RT at *
  generalize t.preemptE n o = RE at *
  generalize rmL n o.ac t.regs = L1 at *
  generalize othersL n 10756 (t.rm n o.ac).regs = L2 at *
  rw [htk] at HT; rw [hty] at HY
  generalize t.taken o.ac = tk at *
  generalize t.has o.ac = hs at *
  generalize isTy o.ty = it at *
  obtain ⟨sv, ty, ky, ac, ap⟩ := o
  simp only [Ou.vals] at *
  have hlt := h.lt
  obtain ⟨w0, hw0⟩ : ∃ w0, w0 = w.alloc (.cells #[.int .u8 sv, .int .u8 ty, .int .u64 ky, .int .u64 ac, .bool ap] 33) := ⟨_, rfl⟩
  have hT0 : Kpt (Tab w0 B t) := ⟨by rw [hw0]; exact h.alloc _⟩
  have hs0 : Kpt (w0.heap.size = w.heap.size + 1) := ⟨by rw [hw0]; simp⟩
  have hG0 : Kpt (w.grownBy w0 (some B)) := ⟨by rw [hw0]; exact grown_alloc _ _ _⟩
  have b1 : w0.cell? ⟨w.heap.size, 1, none⟩ = some (.int .u8 ty) := by rw [hw0]; simp
  have b3 : w0.cell? ⟨w.heap.size, 3, none⟩ = some (.int .u64 ac) := by rw [hw0]; simp
  replace hw0 := Kpt.mk hw0
  clear h hf
  by_cases hac : ac = 0
  · subst hac
    go_enter Try.func42, Try.ntmps42
    go_wp2_with (first | (go_at_call 25; go_must (refine (HY _).out.mono ?_; rintro e w1 ⟨rfl, rfl⟩)) | (go_at_call 56; go_must (rw [← hw0.out]; refine (HT.out _ hT0.out).mono ?_; rintro e w1 ⟨rfl, q, hq⟩; have hT1 : Kpt (Tab w1 B t) := ⟨by rw [hq]; exact hT0.out.drewN q⟩; have hG1 : Kpt (w.grownBy w1 (some B)) := ⟨by rw [hq]; exact grown_trans hG0.out (grown_drewN _ _ _)⟩; have hs1 : w1.heap.size = w.heap.size + 1 := (by rw [hq]; exact hs0.out); have d1 : w1.cell? ⟨w.heap.size, 1, none⟩ = some (.int .u8 ty) := (by rw [hq]; exact b1); have d3 : w1.cell? ⟨w.heap.size, 3, none⟩ = some (.int .u64 0) := (by rw [hq]; exact b3); have hlt1 := hT1.out.lt; replace hs1 := Kpt.mk hs1; have hsl : w.heap.size < w1.heap.size := (by rw [hs1.out]; omega); clear hq b1 b3)))
    go_ret3
    exact ⟨_, rfl, by rw [hE.out]; exact own_nil _ _ _ _, hS.out _ hT1.out, hG1.out⟩
  · have hab : ((ac : Int) == 0) = false := by simp [hac]
    go_enter Try.func42, Try.ntmps42
    go_wp2_with (first | (go_at_call 25; go_must (refine (HY _).out.mono ?_; rintro e w1 ⟨rfl, rfl⟩)) | (go_at_call 56; go_must (rw [← hw0.out]; refine (HT.out _ hT0.out).mono ?_; rintro e w1 ⟨rfl, q, hq⟩; have hT1 : Kpt (Tab w1 B t) := ⟨by rw [hq]; exact hT0.out.drewN q⟩; have hG1 : Kpt (w.grownBy w1 (some B)) := ⟨by rw [hq]; exact grown_trans hG0.out (grown_drewN _ _ _)⟩; have hs1 : w1.heap.size = w.heap.size + 1 := (by rw [hq]; exact hs0.out); have d1 : w1.cell? ⟨w.heap.size, 1, none⟩ = some (.int .u8 ty) := (by rw [hq]; exact b1); have d3 : w1.cell? ⟨w.heap.size, 3, none⟩ = some (.int .u64 ac) := (by rw [hq]; exact b3); have hlt1 := hT1.out.lt; replace hs1 := Kpt.mk hs1; have hsl : w.heap.size < w1.heap.size := (by rw [hs1.out]; omega); clear hq b1 b3)))
    go_ret3
    exact ⟨_, rfl, by rw [hE.out]; exact own_nil _ _ _ _, hS.out _ hT1.out, hG1.out⟩

set_option maxRecDepth 100000 in
set_option maxHeartbeats 4000000 in
theorem preempt_confT (B : Nat) (t : Tb) (n : Int) (o : Ou) (w : World) (h : Tab w B t) (hf : t.fit) (hkd0 : 0 ≤ t.kd) (hgn : 0 ≤ t.gn ∧ t.gn < 4294967296) (hac : o.ac ≠ 0) (htk : t.taken o.ac = true) (hty : isTy o.ty = true) (hha : t.has o.ac = false) :
    Calls Try.prog 42 #[.pointer (some ⟨B, 0, none⟩), .int .i64 n, .agg o.vals] w fun e w' => ∃ v, e = .returned (.tuple #[.int .u8 (t.preemptR o).1, .int .u16 (t.preemptR o).2, v]) ∧ Own .u16 55 w.heap.size w' v (t.preemptE n o) ∧ Tab w' B (t.preempt n o) ∧ w.grownBy w' (some B) := by
  have hR : Kpt (t.preemptR o = (24, 0)) := ⟨by unfold Tb.preemptR; rw [if_neg (by simp [hac]), if_neg (by simp [htk, hty]), if_pos ⟨hac, hha⟩]⟩
  have hS : Kpt (∀ W, Tab W B t → Tab W B (t.preempt n o)) := ⟨fun W hW => by unfold Tb.preempt; rw [hR.out]; simpa using hW⟩
  have hE : Kpt (t.preemptE n o = []) := ⟨by unfold Tb.preemptE; rw [hR.out]; simp⟩
  rw [hR.out]
  have HT : Kpt (∀ W, Tab W B t → Calls Try.prog 56 #[.pointer (some ⟨B, 0, none⟩), .int .u64 o.ac] W fun e w' => e = .returned (.bool (t.taken o.ac)) ∧ ∃ q, w' = W.drewN q) := ⟨fun W hW => taken_any B t o.ac W hW hf⟩
  have HY := fun W => Kpt.mk (types_any o.ty W)
  have HC : Kpt (∀ W, Tab W B t → Calls Try.prog 57 #[.slice (some ⟨B, 0, none⟩) 8 8, .int .u64 o.ac] W fun e w' => e = .returned (.bool (t.has o.ac)) ∧ w' = W) := ⟨fun W hW => contains_any B t o.ac W hW⟩
  have HM : Kpt (∀ W, Tab W B t → Calls Try.prog 58 #[.pointer (some ⟨B, 0, none⟩), .int .i64 n, .int .u64 o.ac] W fun e w' => ∃ v, e = .returned v ∧ Own .u16 55 W.heap.size w' v (rmL n o.ac t.regs) ∧ Tab w' B (t.rm n o.ac) ∧ W.grownBy w' (some B)) := ⟨fun W hW => remove_any B t n o.ac W hW⟩
  have HO : Kpt (∀ W, Tab W B (t.rm n o.ac) → Calls Try.prog 55 #[.pointer (some ⟨B, 0, none⟩), .int .i64 n, .int .u16 10756] W fun e w' => ∃ v, e = .returned v ∧ Own .u16 55 W.heap.size w' v (othersL n 10756 (t.rm n o.ac).regs) ∧ Below W.heap.size W w') := ⟨fun W hW => others_any B _ n 10756 W hW⟩
  have hl1 : Kpt ((rmL n o.ac t.regs).length ≤ 8) := ⟨Nat.le_trans (rmL_len _ _ _) (regs_len t)⟩
  have hl2 : Kpt ((othersL n 10756 (t.rm n o.ac).regs).length ≤ 8) := ⟨Nat.le_trans (othersL_len _ _ _) (regs_len _)⟩
  have hm8 : Kpt (∀ W, Tab W B (t.rm n o.ac) → W.cell? ⟨B, 8, none⟩ = some (.int .u8 t.kd) ∧ W.cell? ⟨B, 10, none⟩ = some (.int .u32 t.gn) ∧ (∀ j, W.frozen? ⟨B, j, none⟩ = false) ∧ ∃ x, W.cell? ⟨B, 9, none⟩ = some (.int .i64 x)) := ⟨fun W hW => ⟨hW.c8, hW.c10, hW.free, _, hW.c9⟩⟩
  generalize t.preemptR o = RR at *
  generalize t.preempt n o = RT at *
  generalize t.preemptE n o = RE at *
  generalize rmL n o.ac t.regs = L1 at *
  generalize othersL n 10756 (t.rm n o.ac).regs = L2 at *
  rw [htk] at HT; rw [hha] at HC; rw [hty] at HY
  generalize t.taken o.ac = tk at *
  generalize t.has o.ac = hs at *
  generalize isTy o.ty = it at *
  obtain ⟨sv, ty, ky, ac, ap⟩ := o
  simp only [Ou.vals] at *
  have hlt := h.lt
  obtain ⟨w0, hw0⟩ : ∃ w0, w0 = w.alloc (.cells #[.int .u8 sv, .int .u8 ty, .int .u64 ky, .int .u64 ac, .bool ap] 33) := ⟨_, rfl⟩
  have hT0 : Kpt (Tab w0 B t) := ⟨by rw [hw0]; exact h.alloc _⟩
  have hs0 : Kpt (w0.heap.size = w.heap.size + 1) := ⟨by rw [hw0]; simp⟩
  have hG0 : Kpt (w.grownBy w0 (some B)) := ⟨by rw [hw0]; exact grown_alloc _ _ _⟩
  have b1 : w0.cell? ⟨w.heap.size, 1, none⟩ = some (.int .u8 ty) := by rw [hw0]; simp
  have b3 : w0.cell? ⟨w.heap.size, 3, none⟩ = some (.int .u64 ac) := by rw [hw0]; simp
  replace hw0 := Kpt.mk hw0
  clear h hf
  have hab : ((ac : Int) == 0) = false := by simp [hac]
  have hab2 : ((ac : Int) != 0) = true := by simp [hac]
  go_enter Try.func42, Try.ntmps42
  go_wp2_with (first | (go_at_call 25; go_must (refine (HY _).out.mono ?_; rintro e w1 ⟨rfl, rfl⟩)) | (go_at_call 56; go_must (rw [← hw0.out]; refine (HT.out _ hT0.out).mono ?_; rintro e w1 ⟨rfl, q, hq⟩; have hT1 : Kpt (Tab w1 B t) := ⟨by rw [hq]; exact hT0.out.drewN q⟩; have hG1 : Kpt (w.grownBy w1 (some B)) := ⟨by rw [hq]; exact grown_trans hG0.out (grown_drewN _ _ _)⟩; have hs1 : w1.heap.size = w.heap.size + 1 := (by rw [hq]; exact hs0.out); have d1 : w1.cell? ⟨w.heap.size, 1, none⟩ = some (.int .u8 ty) := (by rw [hq]; exact b1); have d3 : w1.cell? ⟨w.heap.size, 3, none⟩ = some (.int .u64 ac) := (by rw [hq]; exact b3); have hlt1 := hT1.out.lt; replace hs1 := Kpt.mk hs1; have hsl : w.heap.size < w1.heap.size := (by rw [hs1.out]; omega); clear hq b1 b3)))
  go_quiet ((go_at_call 57; exact Calls.quiet_of_same (HC.out _ (hT1.out.drewN _))))
  go_wp2
  go_ret3
  exact ⟨_, rfl, by rw [hE.out]; exact own_nil _ _ _ _, hS.out _ (hT1.out.drewN _), grown_trans hG1.out (grown_drewN _ _ _)⟩

set_option maxRecDepth 100000 in
set_option maxHeartbeats 4000000 in
theorem preempt_confF (B : Nat) (t : Tb) (n : Int) (o : Ou) (w : World) (h : Tab w B t) (hf : t.fit) (hkd0 : 0 ≤ t.kd) (hgn : 0 ≤ t.gn ∧ t.gn < 4294967296) (hac : o.ac ≠ 0) (htk : t.taken o.ac = false)  (hha : t.has o.ac = false) :
    Calls Try.prog 42 #[.pointer (some ⟨B, 0, none⟩), .int .i64 n, .agg o.vals] w fun e w' => ∃ v, e = .returned (.tuple #[.int .u8 (t.preemptR o).1, .int .u16 (t.preemptR o).2, v]) ∧ Own .u16 55 w.heap.size w' v (t.preemptE n o) ∧ Tab w' B (t.preempt n o) ∧ w.grownBy w' (some B) := by
  have hR : Kpt (t.preemptR o = (24, 0)) := ⟨by unfold Tb.preemptR; rw [if_neg (by simp [hac]), if_neg (by simp [htk]), if_pos ⟨hac, hha⟩]⟩
  have hS : Kpt (∀ W, Tab W B t → Tab W B (t.preempt n o)) := ⟨fun W hW => by unfold Tb.preempt; rw [hR.out]; simpa using hW⟩
  have hE : Kpt (t.preemptE n o = []) := ⟨by unfold Tb.preemptE; rw [hR.out]; simp⟩
  rw [hR.out]
  have HT : Kpt (∀ W, Tab W B t → Calls Try.prog 56 #[.pointer (some ⟨B, 0, none⟩), .int .u64 o.ac] W fun e w' => e = .returned (.bool (t.taken o.ac)) ∧ ∃ q, w' = W.drewN q) := ⟨fun W hW => taken_any B t o.ac W hW hf⟩
  have HY := fun W => Kpt.mk (types_any o.ty W)
  have HC : Kpt (∀ W, Tab W B t → Calls Try.prog 57 #[.slice (some ⟨B, 0, none⟩) 8 8, .int .u64 o.ac] W fun e w' => e = .returned (.bool (t.has o.ac)) ∧ w' = W) := ⟨fun W hW => contains_any B t o.ac W hW⟩
  have HM : Kpt (∀ W, Tab W B t → Calls Try.prog 58 #[.pointer (some ⟨B, 0, none⟩), .int .i64 n, .int .u64 o.ac] W fun e w' => ∃ v, e = .returned v ∧ Own .u16 55 W.heap.size w' v (rmL n o.ac t.regs) ∧ Tab w' B (t.rm n o.ac) ∧ W.grownBy w' (some B)) := ⟨fun W hW => remove_any B t n o.ac W hW⟩
  have HO : Kpt (∀ W, Tab W B (t.rm n o.ac) → Calls Try.prog 55 #[.pointer (some ⟨B, 0, none⟩), .int .i64 n, .int .u16 10756] W fun e w' => ∃ v, e = .returned v ∧ Own .u16 55 W.heap.size w' v (othersL n 10756 (t.rm n o.ac).regs) ∧ Below W.heap.size W w') := ⟨fun W hW => others_any B _ n 10756 W hW⟩
  have hl1 : Kpt ((rmL n o.ac t.regs).length ≤ 8) := ⟨Nat.le_trans (rmL_len _ _ _) (regs_len t)⟩
  have hl2 : Kpt ((othersL n 10756 (t.rm n o.ac).regs).length ≤ 8) := ⟨Nat.le_trans (othersL_len _ _ _) (regs_len _)⟩
  have hm8 : Kpt (∀ W, Tab W B (t.rm n o.ac) → W.cell? ⟨B, 8, none⟩ = some (.int .u8 t.kd) ∧ W.cell? ⟨B, 10, none⟩ = some (.int .u32 t.gn) ∧ (∀ j, W.frozen? ⟨B, j, none⟩ = false) ∧ ∃ x, W.cell? ⟨B, 9, none⟩ = some (.int .i64 x)) := ⟨fun W hW => ⟨hW.c8, hW.c10, hW.free, _, hW.c9⟩⟩
  generalize t.preemptR o = RR at *
  generalize t.preempt n o = RT at *
  generalize t.preemptE n o = RE at *
  generalize rmL n o.ac t.regs = L1 at *
  generalize othersL n 10756 (t.rm n o.ac).regs = L2 at *
  rw [htk] at HT; rw [hha] at HC
  generalize t.taken o.ac = tk at *
  generalize t.has o.ac = hs at *
  generalize isTy o.ty = it at *
  obtain ⟨sv, ty, ky, ac, ap⟩ := o
  simp only [Ou.vals] at *
  have hlt := h.lt
  obtain ⟨w0, hw0⟩ : ∃ w0, w0 = w.alloc (.cells #[.int .u8 sv, .int .u8 ty, .int .u64 ky, .int .u64 ac, .bool ap] 33) := ⟨_, rfl⟩
  have hT0 : Kpt (Tab w0 B t) := ⟨by rw [hw0]; exact h.alloc _⟩
  have hs0 : Kpt (w0.heap.size = w.heap.size + 1) := ⟨by rw [hw0]; simp⟩
  have hG0 : Kpt (w.grownBy w0 (some B)) := ⟨by rw [hw0]; exact grown_alloc _ _ _⟩
  have b1 : w0.cell? ⟨w.heap.size, 1, none⟩ = some (.int .u8 ty) := by rw [hw0]; simp
  have b3 : w0.cell? ⟨w.heap.size, 3, none⟩ = some (.int .u64 ac) := by rw [hw0]; simp
  replace hw0 := Kpt.mk hw0
  clear h hf
  have hab : ((ac : Int) == 0) = false := by simp [hac]
  have hab2 : ((ac : Int) != 0) = true := by simp [hac]
  go_enter Try.func42, Try.ntmps42
  go_wp2_with (first | (go_at_call 25; go_must (refine (HY _).out.mono ?_; rintro e w1 ⟨rfl, rfl⟩)) | (go_at_call 56; go_must (rw [← hw0.out]; refine (HT.out _ hT0.out).mono ?_; rintro e w1 ⟨rfl, q, hq⟩; have hT1 : Kpt (Tab w1 B t) := ⟨by rw [hq]; exact hT0.out.drewN q⟩; have hG1 : Kpt (w.grownBy w1 (some B)) := ⟨by rw [hq]; exact grown_trans hG0.out (grown_drewN _ _ _)⟩; have hs1 : w1.heap.size = w.heap.size + 1 := (by rw [hq]; exact hs0.out); have d1 : w1.cell? ⟨w.heap.size, 1, none⟩ = some (.int .u8 ty) := (by rw [hq]; exact b1); have d3 : w1.cell? ⟨w.heap.size, 3, none⟩ = some (.int .u64 ac) := (by rw [hq]; exact b3); have hlt1 := hT1.out.lt; replace hs1 := Kpt.mk hs1; have hsl : w.heap.size < w1.heap.size := (by rw [hs1.out]; omega); clear hq b1 b3)))
  go_quiet ((go_at_call 57; exact Calls.quiet_of_same (HC.out _ (hT1.out.drewN _))))
  go_wp2
  go_ret3
  exact ⟨_, rfl, by rw [hE.out]; exact own_nil _ _ _ _, hS.out _ (hT1.out.drewN _), grown_trans hG1.out (grown_drewN _ _ _)⟩

end Go.Proofs.Ytmnoolcffkjmhaa
