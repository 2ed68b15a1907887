/-
  The contracts of what lays pages and heads.
-/
import Derived.Test.YtdojhgapdocngaaMSmall
namespace Go.Proofs.Ytdojhgapdocngaa
open Go.RowKit
set_option linter.unusedVariables false
set_option linter.unusedSimpArgs false

set_option maxHeartbeats 1000000 in
theorem cach_any (v : Vs) (w : World) : Calls Try.prog 27 #[.agg v.vals] w fun e w' => ∃ g, e = .returned (.slice (some ⟨g, 0, none⟩) 20 20) ∧ w.heap.size ≤ g ∧ w'.ownsRow w.heap.size 5 1 (.slice (some ⟨g, 0, none⟩) 20 20) 20 (cels (cachL v)) ∧ Below w.heap.size w w' := by
  obtain ⟨a, b, c⟩ := v
  obtain ⟨i0, hi0, hz0, hz1, hz2⟩ := info_parts Try.info5
  have hnm : 20 ≤ maxLen := by unfold maxLen; omega
  have hsz : ∀ o, (w.alloc o).heap.size = w.heap.size + 1 := by intro o; simp
  cases a
  · simp only [Vs.vals]
    go_enter Try.func27, Try.ntmps27
    go_wp2_with (at_make; go_loud (refine wpList_make_full _ rfl _ _ 37 rfl w.heap.size 5 i0 (.int .u8 0) 1 Try.underlying37 hi0 hz0 hz1 .i64 .i64 _ _ 20 rfl rfl rfl rfl (by rw [hz2]; omega) hnm (by simp) ?_; intro w1 hown1 hg1; have hb1 : Kpt (Below w.heap.size w w1) := ⟨(((Below.refl _ _).alloc (Nat.le_refl _) _)).grown hg1 (by simp) (fun k h => by cases h)⟩; have hsz1 := hg1.size; have s0 : w1.cell? ⟨w.heap.size, 0, none⟩ = some (.bool false) := (far_cell hg1 ⟨w.heap.size, 0, none⟩ (by simp) (by simp)).trans (by simp); have s1 : w1.cell? ⟨w.heap.size, 1, none⟩ = some (.bool b) := (far_cell hg1 ⟨w.heap.size, 1, none⟩ (by simp) (by simp)).trans (by simp); have s2 : w1.cell? ⟨w.heap.size, 2, none⟩ = some (.bool c) := (far_cell hg1 ⟨w.heap.size, 2, none⟩ (by simp) (by simp)).trans (by simp); rw [made_u8] at hown1; rw [hsz] at hown1 hsz1 ⊢; have c0 := own_facts hown1 0 (by decide); have f0 := hown1.frozenAt 0; have c1 := own_facts hown1 1 (by decide); have f1 := hown1.frozenAt 1; have c2 := own_facts hown1 2 (by decide); have f2 := hown1.frozenAt 2; simp at c0 c1 c2; have HO := Kpt.mk hown1; clear hown1 hg1))
    go_ret
    exact ⟨_, rfl, Nat.le_succ _, (own_set (own_set HO.out 0 8) 1 18), ((hb1.out.setCell (p := ⟨w.heap.size + 1, 0, none⟩) (Nat.le_succ _) _).setCell (p := ⟨w.heap.size + 1, 1, none⟩) (Nat.le_succ _) _)⟩
  · simp only [Vs.vals]
    go_enter Try.func27, Try.ntmps27
    go_wp2_with (at_make; go_loud (refine wpList_make_full _ rfl _ _ 37 rfl w.heap.size 5 i0 (.int .u8 0) 1 Try.underlying37 hi0 hz0 hz1 .i64 .i64 _ _ 20 rfl rfl rfl rfl (by rw [hz2]; omega) hnm (by simp) ?_; intro w1 hown1 hg1; have hb1 : Kpt (Below w.heap.size w w1) := ⟨(((Below.refl _ _).alloc (Nat.le_refl _) _)).grown hg1 (by simp) (fun k h => by cases h)⟩; have hsz1 := hg1.size; have s0 : w1.cell? ⟨w.heap.size, 0, none⟩ = some (.bool true) := (far_cell hg1 ⟨w.heap.size, 0, none⟩ (by simp) (by simp)).trans (by simp); have s1 : w1.cell? ⟨w.heap.size, 1, none⟩ = some (.bool b) := (far_cell hg1 ⟨w.heap.size, 1, none⟩ (by simp) (by simp)).trans (by simp); have s2 : w1.cell? ⟨w.heap.size, 2, none⟩ = some (.bool c) := (far_cell hg1 ⟨w.heap.size, 2, none⟩ (by simp) (by simp)).trans (by simp); rw [made_u8] at hown1; rw [hsz] at hown1 hsz1 ⊢; have c0 := own_facts hown1 0 (by decide); have f0 := hown1.frozenAt 0; have c1 := own_facts hown1 1 (by decide); have f1 := hown1.frozenAt 1; have c2 := own_facts hown1 2 (by decide); have f2 := hown1.frozenAt 2; simp at c0 c1 c2; have HO := Kpt.mk hown1; clear hown1 hg1))
    go_ret
    exact ⟨_, rfl, Nat.le_succ _, (own_set (own_set (own_set HO.out 0 8) 1 18) 2 4), (((hb1.out.setCell (p := ⟨w.heap.size + 1, 0, none⟩) (Nat.le_succ _) _).setCell (p := ⟨w.heap.size + 1, 1, none⟩) (Nat.le_succ _) _).setCell (p := ⟨w.heap.size + 1, 2, none⟩) (Nat.le_succ _) _)⟩

set_option maxHeartbeats 1000000 in
theorem ctl_any (v : Vs) (w : World) : Calls Try.prog 28 #[.agg v.vals] w fun e w' => ∃ g, e = .returned (.slice (some ⟨g, 0, none⟩) 12 12) ∧ w.heap.size ≤ g ∧ w'.ownsRow w.heap.size 5 1 (.slice (some ⟨g, 0, none⟩) 12 12) 12 (cels (ctlL v)) ∧ Below w.heap.size w w' := by
  obtain ⟨a, b, c⟩ := v
  obtain ⟨i0, hi0, hz0, hz1, hz2⟩ := info_parts Try.info5
  have hnm : 12 ≤ maxLen := by unfold maxLen; omega
  have hsz : ∀ o, (w.alloc o).heap.size = w.heap.size + 1 := by intro o; simp
  cases b <;> cases c
  · simp only [Vs.vals]
    go_enter Try.func28, Try.ntmps28
    go_wp2_with (at_make; go_loud (refine wpList_make_full _ rfl _ _ 37 rfl w.heap.size 5 i0 (.int .u8 0) 1 Try.underlying37 hi0 hz0 hz1 .i64 .i64 _ _ 12 rfl rfl rfl rfl (by rw [hz2]; omega) hnm (by simp) ?_; intro w1 hown1 hg1; have hb1 : Kpt (Below w.heap.size w w1) := ⟨(((Below.refl _ _).alloc (Nat.le_refl _) _)).grown hg1 (by simp) (fun k h => by cases h)⟩; have hsz1 := hg1.size; have s0 : w1.cell? ⟨w.heap.size, 0, none⟩ = some (.bool a) := (far_cell hg1 ⟨w.heap.size, 0, none⟩ (by simp) (by simp)).trans (by simp); have s1 : w1.cell? ⟨w.heap.size, 1, none⟩ = some (.bool false) := (far_cell hg1 ⟨w.heap.size, 1, none⟩ (by simp) (by simp)).trans (by simp); have s2 : w1.cell? ⟨w.heap.size, 2, none⟩ = some (.bool false) := (far_cell hg1 ⟨w.heap.size, 2, none⟩ (by simp) (by simp)).trans (by simp); rw [made_u8] at hown1; rw [hsz] at hown1 hsz1 ⊢; have c0 := own_facts hown1 0 (by decide); have f0 := hown1.frozenAt 0; have c1 := own_facts hown1 1 (by decide); have f1 := hown1.frozenAt 1; have c2 := own_facts hown1 2 (by decide); have f2 := hown1.frozenAt 2; have c4 := own_facts hown1 4 (by decide); have f4 := hown1.frozenAt 4; simp at c0 c1 c2 c4; have HO := Kpt.mk hown1; clear hown1 hg1))
    go_ret
    exact ⟨_, rfl, Nat.le_succ _, (own_set (own_set HO.out 0 10) 1 10), ((hb1.out.setCell (p := ⟨w.heap.size + 1, 0, none⟩) (Nat.le_succ _) _).setCell (p := ⟨w.heap.size + 1, 1, none⟩) (Nat.le_succ _) _)⟩
  · simp only [Vs.vals]
    go_enter Try.func28, Try.ntmps28
    go_wp2_with (at_make; go_loud (refine wpList_make_full _ rfl _ _ 37 rfl w.heap.size 5 i0 (.int .u8 0) 1 Try.underlying37 hi0 hz0 hz1 .i64 .i64 _ _ 12 rfl rfl rfl rfl (by rw [hz2]; omega) hnm (by simp) ?_; intro w1 hown1 hg1; have hb1 : Kpt (Below w.heap.size w w1) := ⟨(((Below.refl _ _).alloc (Nat.le_refl _) _)).grown hg1 (by simp) (fun k h => by cases h)⟩; have hsz1 := hg1.size; have s0 : w1.cell? ⟨w.heap.size, 0, none⟩ = some (.bool a) := (far_cell hg1 ⟨w.heap.size, 0, none⟩ (by simp) (by simp)).trans (by simp); have s1 : w1.cell? ⟨w.heap.size, 1, none⟩ = some (.bool false) := (far_cell hg1 ⟨w.heap.size, 1, none⟩ (by simp) (by simp)).trans (by simp); have s2 : w1.cell? ⟨w.heap.size, 2, none⟩ = some (.bool true) := (far_cell hg1 ⟨w.heap.size, 2, none⟩ (by simp) (by simp)).trans (by simp); rw [made_u8] at hown1; rw [hsz] at hown1 hsz1 ⊢; have c0 := own_facts hown1 0 (by decide); have f0 := hown1.frozenAt 0; have c1 := own_facts hown1 1 (by decide); have f1 := hown1.frozenAt 1; have c2 := own_facts hown1 2 (by decide); have f2 := hown1.frozenAt 2; have c4 := own_facts hown1 4 (by decide); have f4 := hown1.frozenAt 4; simp at c0 c1 c2 c4; have HO := Kpt.mk hown1; clear hown1 hg1))
    go_ret
    exact ⟨_, rfl, Nat.le_succ _, (own_set (own_set (own_set HO.out 0 10) 1 10) 4 8), (((hb1.out.setCell (p := ⟨w.heap.size + 1, 0, none⟩) (Nat.le_succ _) _).setCell (p := ⟨w.heap.size + 1, 1, none⟩) (Nat.le_succ _) _).setCell (p := ⟨w.heap.size + 1, 4, none⟩) (Nat.le_succ _) _)⟩
  · simp only [Vs.vals]
    go_enter Try.func28, Try.ntmps28
    go_wp2_with (at_make; go_loud (refine wpList_make_full _ rfl _ _ 37 rfl w.heap.size 5 i0 (.int .u8 0) 1 Try.underlying37 hi0 hz0 hz1 .i64 .i64 _ _ 12 rfl rfl rfl rfl (by rw [hz2]; omega) hnm (by simp) ?_; intro w1 hown1 hg1; have hb1 : Kpt (Below w.heap.size w w1) := ⟨(((Below.refl _ _).alloc (Nat.le_refl _) _)).grown hg1 (by simp) (fun k h => by cases h)⟩; have hsz1 := hg1.size; have s0 : w1.cell? ⟨w.heap.size, 0, none⟩ = some (.bool a) := (far_cell hg1 ⟨w.heap.size, 0, none⟩ (by simp) (by simp)).trans (by simp); have s1 : w1.cell? ⟨w.heap.size, 1, none⟩ = some (.bool true) := (far_cell hg1 ⟨w.heap.size, 1, none⟩ (by simp) (by simp)).trans (by simp); have s2 : w1.cell? ⟨w.heap.size, 2, none⟩ = some (.bool false) := (far_cell hg1 ⟨w.heap.size, 2, none⟩ (by simp) (by simp)).trans (by simp); rw [made_u8] at hown1; rw [hsz] at hown1 hsz1 ⊢; have c0 := own_facts hown1 0 (by decide); have f0 := hown1.frozenAt 0; have c1 := own_facts hown1 1 (by decide); have f1 := hown1.frozenAt 1; have c2 := own_facts hown1 2 (by decide); have f2 := hown1.frozenAt 2; have c4 := own_facts hown1 4 (by decide); have f4 := hown1.frozenAt 4; simp at c0 c1 c2 c4; have HO := Kpt.mk hown1; clear hown1 hg1))
    go_ret
    exact ⟨_, rfl, Nat.le_succ _, (own_set (own_set (own_set HO.out 0 10) 1 10) 2 4), (((hb1.out.setCell (p := ⟨w.heap.size + 1, 0, none⟩) (Nat.le_succ _) _).setCell (p := ⟨w.heap.size + 1, 1, none⟩) (Nat.le_succ _) _).setCell (p := ⟨w.heap.size + 1, 2, none⟩) (Nat.le_succ _) _)⟩
  · simp only [Vs.vals]
    go_enter Try.func28, Try.ntmps28
    go_wp2_with (at_make; go_loud (refine wpList_make_full _ rfl _ _ 37 rfl w.heap.size 5 i0 (.int .u8 0) 1 Try.underlying37 hi0 hz0 hz1 .i64 .i64 _ _ 12 rfl rfl rfl rfl (by rw [hz2]; omega) hnm (by simp) ?_; intro w1 hown1 hg1; have hb1 : Kpt (Below w.heap.size w w1) := ⟨(((Below.refl _ _).alloc (Nat.le_refl _) _)).grown hg1 (by simp) (fun k h => by cases h)⟩; have hsz1 := hg1.size; have s0 : w1.cell? ⟨w.heap.size, 0, none⟩ = some (.bool a) := (far_cell hg1 ⟨w.heap.size, 0, none⟩ (by simp) (by simp)).trans (by simp); have s1 : w1.cell? ⟨w.heap.size, 1, none⟩ = some (.bool true) := (far_cell hg1 ⟨w.heap.size, 1, none⟩ (by simp) (by simp)).trans (by simp); have s2 : w1.cell? ⟨w.heap.size, 2, none⟩ = some (.bool true) := (far_cell hg1 ⟨w.heap.size, 2, none⟩ (by simp) (by simp)).trans (by simp); rw [made_u8] at hown1; rw [hsz] at hown1 hsz1 ⊢; have c0 := own_facts hown1 0 (by decide); have f0 := hown1.frozenAt 0; have c1 := own_facts hown1 1 (by decide); have f1 := hown1.frozenAt 1; have c2 := own_facts hown1 2 (by decide); have f2 := hown1.frozenAt 2; have c4 := own_facts hown1 4 (by decide); have f4 := hown1.frozenAt 4; simp at c0 c1 c2 c4; have HO := Kpt.mk hown1; clear hown1 hg1))
    go_ret
    exact ⟨_, rfl, Nat.le_succ _, (own_set (own_set (own_set (own_set HO.out 0 10) 1 10) 2 4) 4 8), ((((hb1.out.setCell (p := ⟨w.heap.size + 1, 0, none⟩) (Nat.le_succ _) _).setCell (p := ⟨w.heap.size + 1, 1, none⟩) (Nat.le_succ _) _).setCell (p := ⟨w.heap.size + 1, 2, none⟩) (Nat.le_succ _) _).setCell (p := ⟨w.heap.size + 1, 4, none⟩) (Nat.le_succ _) _)⟩
end Go.Proofs.Ytdojhgapdocngaa
