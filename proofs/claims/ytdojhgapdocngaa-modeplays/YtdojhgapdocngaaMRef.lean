/-
  ModePlays: the document's side: its fault, its page.
-/
import Derived.Test.YtdojhgapdocngaaMLayB
namespace Go.Proofs.Ytdojhgapdocngaa
open Go.RowKit
set_option linter.unusedVariables false
set_option linter.unusedSimpArgs false

/-- The three values as the document's bits. -/
def vB (v : Vs) : Int := b2 v.a 1 + b2 v.b 2 + b2 v.c 4
def faultR (k f b : Int) (ic : Bool) : Sn := ⟨5, k, 0, false, f, b, true, ic⟩
theorem rfault_any (k f b : Int) (ic : Bool) (w : World) : Calls Try.prog 19 #[.int .u16 k, .int .i64 f, .int .i64 b, .bool ic] w fun e w' => e = .returned (.agg (faultR k f b ic).vals) ∧ Below w.heap.size w w' := by
  go_enter Try.func19, Try.ntmps19
  go_wp2
  refine bodyPost_ret (v := .agg (faultR k f b ic).vals) (by simp [results, Try.results19, go_sem, faultR, Sn.vals]) rfl ⟨rfl, ?_⟩
  exact (Below.refl _ _).alloc (Nat.le_refl _) _

set_option maxHeartbeats 2000000 in
theorem dpage_8 (v : Vs) (w : World) : Calls Try.prog 20 #[.int .u8 8, .int .i64 (vB v)] w fun e w' => ∃ g, e = .returned (.slice (some ⟨g, 0, none⟩) 20 20) ∧ w.heap.size ≤ g ∧ w'.ownsRow w.heap.size 5 1 (.slice (some ⟨g, 0, none⟩) 20 20) 20 (cels (cachL v)) ∧ Below w.heap.size w w' := by
  obtain ⟨a, b, c⟩ := v
  obtain ⟨i0, hi0, hz0, hz1, hz2⟩ := info_parts Try.info5
  have hnm : 20 ≤ maxLen := by unfold maxLen; omega
  cases a <;> cases b <;> cases c
  · simp only [show ∀ a b c, vB ⟨a, b, c⟩ = b2 a 1 + b2 b 2 + b2 c 4 from fun _ _ _ => rfl, show b2 false 1 + b2 false 2 + b2 false 4 = 0 from rfl]
    go_enter Try.func20, Try.ntmps20
    go_wp2_with (at_make; refine wpList_make_full _ rfl _ _ 37 rfl w.heap.size 5 i0 (.int .u8 0) 1 Try.underlying37 hi0 hz0 hz1 .i64 .i64 _ _ 20 rfl rfl rfl rfl (by rw [hz2]; omega) hnm (Nat.le_refl _) ?_; intro w1 hown1 hg1; have hb1 : Kpt (Below w.heap.size w w1) := ⟨(Below.refl _ _).grown hg1 (Nat.le_refl _) (fun k h => by cases h)⟩; have hsz1 := hg1.size; rw [made_u8] at hown1; have c0 := own_facts hown1 0 (by decide); have f0 := hown1.frozenAt 0; have c1 := own_facts hown1 1 (by decide); have f1 := hown1.frozenAt 1; have c2 := own_facts hown1 2 (by decide); have f2 := hown1.frozenAt 2; simp at c0 c1 c2; have HO := Kpt.mk hown1; clear hown1 hg1)
    go_ret
    exact ⟨_, rfl, Nat.le_refl _, (own_set (own_set (own_set HO.out 0 8) 1 18) 2 0), (((hb1.out.setCell (p := ⟨w.heap.size, 0, none⟩) (Nat.le_refl _) _).setCell (p := ⟨w.heap.size, 1, none⟩) (Nat.le_refl _) _).setCell (p := ⟨w.heap.size, 2, none⟩) (Nat.le_refl _) _)⟩
  · simp only [show ∀ a b c, vB ⟨a, b, c⟩ = b2 a 1 + b2 b 2 + b2 c 4 from fun _ _ _ => rfl, show b2 false 1 + b2 false 2 + b2 true 4 = 4 from rfl]
    go_enter Try.func20, Try.ntmps20
    go_wp2_with (at_make; refine wpList_make_full _ rfl _ _ 37 rfl w.heap.size 5 i0 (.int .u8 0) 1 Try.underlying37 hi0 hz0 hz1 .i64 .i64 _ _ 20 rfl rfl rfl rfl (by rw [hz2]; omega) hnm (Nat.le_refl _) ?_; intro w1 hown1 hg1; have hb1 : Kpt (Below w.heap.size w w1) := ⟨(Below.refl _ _).grown hg1 (Nat.le_refl _) (fun k h => by cases h)⟩; have hsz1 := hg1.size; rw [made_u8] at hown1; have c0 := own_facts hown1 0 (by decide); have f0 := hown1.frozenAt 0; have c1 := own_facts hown1 1 (by decide); have f1 := hown1.frozenAt 1; have c2 := own_facts hown1 2 (by decide); have f2 := hown1.frozenAt 2; simp at c0 c1 c2; have HO := Kpt.mk hown1; clear hown1 hg1)
    go_ret
    exact ⟨_, rfl, Nat.le_refl _, (own_set (own_set (own_set HO.out 0 8) 1 18) 2 0), (((hb1.out.setCell (p := ⟨w.heap.size, 0, none⟩) (Nat.le_refl _) _).setCell (p := ⟨w.heap.size, 1, none⟩) (Nat.le_refl _) _).setCell (p := ⟨w.heap.size, 2, none⟩) (Nat.le_refl _) _)⟩
  · simp only [show ∀ a b c, vB ⟨a, b, c⟩ = b2 a 1 + b2 b 2 + b2 c 4 from fun _ _ _ => rfl, show b2 false 1 + b2 true 2 + b2 false 4 = 2 from rfl]
    go_enter Try.func20, Try.ntmps20
    go_wp2_with (at_make; refine wpList_make_full _ rfl _ _ 37 rfl w.heap.size 5 i0 (.int .u8 0) 1 Try.underlying37 hi0 hz0 hz1 .i64 .i64 _ _ 20 rfl rfl rfl rfl (by rw [hz2]; omega) hnm (Nat.le_refl _) ?_; intro w1 hown1 hg1; have hb1 : Kpt (Below w.heap.size w w1) := ⟨(Below.refl _ _).grown hg1 (Nat.le_refl _) (fun k h => by cases h)⟩; have hsz1 := hg1.size; rw [made_u8] at hown1; have c0 := own_facts hown1 0 (by decide); have f0 := hown1.frozenAt 0; have c1 := own_facts hown1 1 (by decide); have f1 := hown1.frozenAt 1; have c2 := own_facts hown1 2 (by decide); have f2 := hown1.frozenAt 2; simp at c0 c1 c2; have HO := Kpt.mk hown1; clear hown1 hg1)
    go_ret
    exact ⟨_, rfl, Nat.le_refl _, (own_set (own_set (own_set HO.out 0 8) 1 18) 2 0), (((hb1.out.setCell (p := ⟨w.heap.size, 0, none⟩) (Nat.le_refl _) _).setCell (p := ⟨w.heap.size, 1, none⟩) (Nat.le_refl _) _).setCell (p := ⟨w.heap.size, 2, none⟩) (Nat.le_refl _) _)⟩
  · simp only [show ∀ a b c, vB ⟨a, b, c⟩ = b2 a 1 + b2 b 2 + b2 c 4 from fun _ _ _ => rfl, show b2 false 1 + b2 true 2 + b2 true 4 = 6 from rfl]
    go_enter Try.func20, Try.ntmps20
    go_wp2_with (at_make; refine wpList_make_full _ rfl _ _ 37 rfl w.heap.size 5 i0 (.int .u8 0) 1 Try.underlying37 hi0 hz0 hz1 .i64 .i64 _ _ 20 rfl rfl rfl rfl (by rw [hz2]; omega) hnm (Nat.le_refl _) ?_; intro w1 hown1 hg1; have hb1 : Kpt (Below w.heap.size w w1) := ⟨(Below.refl _ _).grown hg1 (Nat.le_refl _) (fun k h => by cases h)⟩; have hsz1 := hg1.size; rw [made_u8] at hown1; have c0 := own_facts hown1 0 (by decide); have f0 := hown1.frozenAt 0; have c1 := own_facts hown1 1 (by decide); have f1 := hown1.frozenAt 1; have c2 := own_facts hown1 2 (by decide); have f2 := hown1.frozenAt 2; simp at c0 c1 c2; have HO := Kpt.mk hown1; clear hown1 hg1)
    go_ret
    exact ⟨_, rfl, Nat.le_refl _, (own_set (own_set (own_set HO.out 0 8) 1 18) 2 0), (((hb1.out.setCell (p := ⟨w.heap.size, 0, none⟩) (Nat.le_refl _) _).setCell (p := ⟨w.heap.size, 1, none⟩) (Nat.le_refl _) _).setCell (p := ⟨w.heap.size, 2, none⟩) (Nat.le_refl _) _)⟩
  · simp only [show ∀ a b c, vB ⟨a, b, c⟩ = b2 a 1 + b2 b 2 + b2 c 4 from fun _ _ _ => rfl, show b2 true 1 + b2 false 2 + b2 false 4 = 1 from rfl]
    go_enter Try.func20, Try.ntmps20
    go_wp2_with (at_make; refine wpList_make_full _ rfl _ _ 37 rfl w.heap.size 5 i0 (.int .u8 0) 1 Try.underlying37 hi0 hz0 hz1 .i64 .i64 _ _ 20 rfl rfl rfl rfl (by rw [hz2]; omega) hnm (Nat.le_refl _) ?_; intro w1 hown1 hg1; have hb1 : Kpt (Below w.heap.size w w1) := ⟨(Below.refl _ _).grown hg1 (Nat.le_refl _) (fun k h => by cases h)⟩; have hsz1 := hg1.size; rw [made_u8] at hown1; have c0 := own_facts hown1 0 (by decide); have f0 := hown1.frozenAt 0; have c1 := own_facts hown1 1 (by decide); have f1 := hown1.frozenAt 1; have c2 := own_facts hown1 2 (by decide); have f2 := hown1.frozenAt 2; simp at c0 c1 c2; have HO := Kpt.mk hown1; clear hown1 hg1)
    go_ret
    exact ⟨_, rfl, Nat.le_refl _, (own_set (own_set (own_set HO.out 0 8) 1 18) 2 4), (((hb1.out.setCell (p := ⟨w.heap.size, 0, none⟩) (Nat.le_refl _) _).setCell (p := ⟨w.heap.size, 1, none⟩) (Nat.le_refl _) _).setCell (p := ⟨w.heap.size, 2, none⟩) (Nat.le_refl _) _)⟩
  · simp only [show ∀ a b c, vB ⟨a, b, c⟩ = b2 a 1 + b2 b 2 + b2 c 4 from fun _ _ _ => rfl, show b2 true 1 + b2 false 2 + b2 true 4 = 5 from rfl]
    go_enter Try.func20, Try.ntmps20
    go_wp2_with (at_make; refine wpList_make_full _ rfl _ _ 37 rfl w.heap.size 5 i0 (.int .u8 0) 1 Try.underlying37 hi0 hz0 hz1 .i64 .i64 _ _ 20 rfl rfl rfl rfl (by rw [hz2]; omega) hnm (Nat.le_refl _) ?_; intro w1 hown1 hg1; have hb1 : Kpt (Below w.heap.size w w1) := ⟨(Below.refl _ _).grown hg1 (Nat.le_refl _) (fun k h => by cases h)⟩; have hsz1 := hg1.size; rw [made_u8] at hown1; have c0 := own_facts hown1 0 (by decide); have f0 := hown1.frozenAt 0; have c1 := own_facts hown1 1 (by decide); have f1 := hown1.frozenAt 1; have c2 := own_facts hown1 2 (by decide); have f2 := hown1.frozenAt 2; simp at c0 c1 c2; have HO := Kpt.mk hown1; clear hown1 hg1)
    go_ret
    exact ⟨_, rfl, Nat.le_refl _, (own_set (own_set (own_set HO.out 0 8) 1 18) 2 4), (((hb1.out.setCell (p := ⟨w.heap.size, 0, none⟩) (Nat.le_refl _) _).setCell (p := ⟨w.heap.size, 1, none⟩) (Nat.le_refl _) _).setCell (p := ⟨w.heap.size, 2, none⟩) (Nat.le_refl _) _)⟩
  · simp only [show ∀ a b c, vB ⟨a, b, c⟩ = b2 a 1 + b2 b 2 + b2 c 4 from fun _ _ _ => rfl, show b2 true 1 + b2 true 2 + b2 false 4 = 3 from rfl]
    go_enter Try.func20, Try.ntmps20
    go_wp2_with (at_make; refine wpList_make_full _ rfl _ _ 37 rfl w.heap.size 5 i0 (.int .u8 0) 1 Try.underlying37 hi0 hz0 hz1 .i64 .i64 _ _ 20 rfl rfl rfl rfl (by rw [hz2]; omega) hnm (Nat.le_refl _) ?_; intro w1 hown1 hg1; have hb1 : Kpt (Below w.heap.size w w1) := ⟨(Below.refl _ _).grown hg1 (Nat.le_refl _) (fun k h => by cases h)⟩; have hsz1 := hg1.size; rw [made_u8] at hown1; have c0 := own_facts hown1 0 (by decide); have f0 := hown1.frozenAt 0; have c1 := own_facts hown1 1 (by decide); have f1 := hown1.frozenAt 1; have c2 := own_facts hown1 2 (by decide); have f2 := hown1.frozenAt 2; simp at c0 c1 c2; have HO := Kpt.mk hown1; clear hown1 hg1)
    go_ret
    exact ⟨_, rfl, Nat.le_refl _, (own_set (own_set (own_set HO.out 0 8) 1 18) 2 4), (((hb1.out.setCell (p := ⟨w.heap.size, 0, none⟩) (Nat.le_refl _) _).setCell (p := ⟨w.heap.size, 1, none⟩) (Nat.le_refl _) _).setCell (p := ⟨w.heap.size, 2, none⟩) (Nat.le_refl _) _)⟩
  · simp only [show ∀ a b c, vB ⟨a, b, c⟩ = b2 a 1 + b2 b 2 + b2 c 4 from fun _ _ _ => rfl, show b2 true 1 + b2 true 2 + b2 true 4 = 7 from rfl]
    go_enter Try.func20, Try.ntmps20
    go_wp2_with (at_make; refine wpList_make_full _ rfl _ _ 37 rfl w.heap.size 5 i0 (.int .u8 0) 1 Try.underlying37 hi0 hz0 hz1 .i64 .i64 _ _ 20 rfl rfl rfl rfl (by rw [hz2]; omega) hnm (Nat.le_refl _) ?_; intro w1 hown1 hg1; have hb1 : Kpt (Below w.heap.size w w1) := ⟨(Below.refl _ _).grown hg1 (Nat.le_refl _) (fun k h => by cases h)⟩; have hsz1 := hg1.size; rw [made_u8] at hown1; have c0 := own_facts hown1 0 (by decide); have f0 := hown1.frozenAt 0; have c1 := own_facts hown1 1 (by decide); have f1 := hown1.frozenAt 1; have c2 := own_facts hown1 2 (by decide); have f2 := hown1.frozenAt 2; simp at c0 c1 c2; have HO := Kpt.mk hown1; clear hown1 hg1)
    go_ret
    exact ⟨_, rfl, Nat.le_refl _, (own_set (own_set (own_set HO.out 0 8) 1 18) 2 4), (((hb1.out.setCell (p := ⟨w.heap.size, 0, none⟩) (Nat.le_refl _) _).setCell (p := ⟨w.heap.size, 1, none⟩) (Nat.le_refl _) _).setCell (p := ⟨w.heap.size, 2, none⟩) (Nat.le_refl _) _)⟩

set_option maxHeartbeats 2000000 in
theorem dpage_10 (v : Vs) (w : World) : Calls Try.prog 20 #[.int .u8 10, .int .i64 (vB v)] w fun e w' => ∃ g, e = .returned (.slice (some ⟨g, 0, none⟩) 12 12) ∧ w.heap.size ≤ g ∧ w'.ownsRow w.heap.size 5 1 (.slice (some ⟨g, 0, none⟩) 12 12) 12 (cels (ctlL v)) ∧ Below w.heap.size w w' := by
  obtain ⟨a, b, c⟩ := v
  obtain ⟨i0, hi0, hz0, hz1, hz2⟩ := info_parts Try.info5
  have hnm : 12 ≤ maxLen := by unfold maxLen; omega
  cases a <;> cases b <;> cases c
  · simp only [show ∀ a b c, vB ⟨a, b, c⟩ = b2 a 1 + b2 b 2 + b2 c 4 from fun _ _ _ => rfl, show b2 false 1 + b2 false 2 + b2 false 4 = 0 from rfl]
    go_enter Try.func20, Try.ntmps20
    go_wp2_with (at_make; refine wpList_make_full _ rfl _ _ 37 rfl w.heap.size 5 i0 (.int .u8 0) 1 Try.underlying37 hi0 hz0 hz1 .i64 .i64 _ _ 12 rfl rfl rfl rfl (by rw [hz2]; omega) hnm (Nat.le_refl _) ?_; intro w1 hown1 hg1; have hb1 : Kpt (Below w.heap.size w w1) := ⟨(Below.refl _ _).grown hg1 (Nat.le_refl _) (fun k h => by cases h)⟩; have hsz1 := hg1.size; rw [made_u8] at hown1; have c0 := own_facts hown1 0 (by decide); have f0 := hown1.frozenAt 0; have c1 := own_facts hown1 1 (by decide); have f1 := hown1.frozenAt 1; have c2 := own_facts hown1 2 (by decide); have f2 := hown1.frozenAt 2; have c4 := own_facts hown1 4 (by decide); have f4 := hown1.frozenAt 4; simp at c0 c1 c2 c4; have HO := Kpt.mk hown1; clear hown1 hg1)
    go_ret
    exact ⟨_, rfl, Nat.le_refl _, (own_set (own_set (own_set (own_set HO.out 0 10) 1 10) 2 0) 4 0), ((((hb1.out.setCell (p := ⟨w.heap.size, 0, none⟩) (Nat.le_refl _) _).setCell (p := ⟨w.heap.size, 1, none⟩) (Nat.le_refl _) _).setCell (p := ⟨w.heap.size, 2, none⟩) (Nat.le_refl _) _).setCell (p := ⟨w.heap.size, 4, none⟩) (Nat.le_refl _) _)⟩
  · simp only [show ∀ a b c, vB ⟨a, b, c⟩ = b2 a 1 + b2 b 2 + b2 c 4 from fun _ _ _ => rfl, show b2 false 1 + b2 false 2 + b2 true 4 = 4 from rfl]
    go_enter Try.func20, Try.ntmps20
    go_wp2_with (at_make; refine wpList_make_full _ rfl _ _ 37 rfl w.heap.size 5 i0 (.int .u8 0) 1 Try.underlying37 hi0 hz0 hz1 .i64 .i64 _ _ 12 rfl rfl rfl rfl (by rw [hz2]; omega) hnm (Nat.le_refl _) ?_; intro w1 hown1 hg1; have hb1 : Kpt (Below w.heap.size w w1) := ⟨(Below.refl _ _).grown hg1 (Nat.le_refl _) (fun k h => by cases h)⟩; have hsz1 := hg1.size; rw [made_u8] at hown1; have c0 := own_facts hown1 0 (by decide); have f0 := hown1.frozenAt 0; have c1 := own_facts hown1 1 (by decide); have f1 := hown1.frozenAt 1; have c2 := own_facts hown1 2 (by decide); have f2 := hown1.frozenAt 2; have c4 := own_facts hown1 4 (by decide); have f4 := hown1.frozenAt 4; simp at c0 c1 c2 c4; have HO := Kpt.mk hown1; clear hown1 hg1)
    go_ret
    exact ⟨_, rfl, Nat.le_refl _, (own_set (own_set (own_set (own_set HO.out 0 10) 1 10) 2 0) 4 8), ((((hb1.out.setCell (p := ⟨w.heap.size, 0, none⟩) (Nat.le_refl _) _).setCell (p := ⟨w.heap.size, 1, none⟩) (Nat.le_refl _) _).setCell (p := ⟨w.heap.size, 2, none⟩) (Nat.le_refl _) _).setCell (p := ⟨w.heap.size, 4, none⟩) (Nat.le_refl _) _)⟩
  · simp only [show ∀ a b c, vB ⟨a, b, c⟩ = b2 a 1 + b2 b 2 + b2 c 4 from fun _ _ _ => rfl, show b2 false 1 + b2 true 2 + b2 false 4 = 2 from rfl]
    go_enter Try.func20, Try.ntmps20
    go_wp2_with (at_make; refine wpList_make_full _ rfl _ _ 37 rfl w.heap.size 5 i0 (.int .u8 0) 1 Try.underlying37 hi0 hz0 hz1 .i64 .i64 _ _ 12 rfl rfl rfl rfl (by rw [hz2]; omega) hnm (Nat.le_refl _) ?_; intro w1 hown1 hg1; have hb1 : Kpt (Below w.heap.size w w1) := ⟨(Below.refl _ _).grown hg1 (Nat.le_refl _) (fun k h => by cases h)⟩; have hsz1 := hg1.size; rw [made_u8] at hown1; have c0 := own_facts hown1 0 (by decide); have f0 := hown1.frozenAt 0; have c1 := own_facts hown1 1 (by decide); have f1 := hown1.frozenAt 1; have c2 := own_facts hown1 2 (by decide); have f2 := hown1.frozenAt 2; have c4 := own_facts hown1 4 (by decide); have f4 := hown1.frozenAt 4; simp at c0 c1 c2 c4; have HO := Kpt.mk hown1; clear hown1 hg1)
    go_ret
    exact ⟨_, rfl, Nat.le_refl _, (own_set (own_set (own_set (own_set HO.out 0 10) 1 10) 2 4) 4 0), ((((hb1.out.setCell (p := ⟨w.heap.size, 0, none⟩) (Nat.le_refl _) _).setCell (p := ⟨w.heap.size, 1, none⟩) (Nat.le_refl _) _).setCell (p := ⟨w.heap.size, 2, none⟩) (Nat.le_refl _) _).setCell (p := ⟨w.heap.size, 4, none⟩) (Nat.le_refl _) _)⟩
  · simp only [show ∀ a b c, vB ⟨a, b, c⟩ = b2 a 1 + b2 b 2 + b2 c 4 from fun _ _ _ => rfl, show b2 false 1 + b2 true 2 + b2 true 4 = 6 from rfl]
    go_enter Try.func20, Try.ntmps20
    go_wp2_with (at_make; refine wpList_make_full _ rfl _ _ 37 rfl w.heap.size 5 i0 (.int .u8 0) 1 Try.underlying37 hi0 hz0 hz1 .i64 .i64 _ _ 12 rfl rfl rfl rfl (by rw [hz2]; omega) hnm (Nat.le_refl _) ?_; intro w1 hown1 hg1; have hb1 : Kpt (Below w.heap.size w w1) := ⟨(Below.refl _ _).grown hg1 (Nat.le_refl _) (fun k h => by cases h)⟩; have hsz1 := hg1.size; rw [made_u8] at hown1; have c0 := own_facts hown1 0 (by decide); have f0 := hown1.frozenAt 0; have c1 := own_facts hown1 1 (by decide); have f1 := hown1.frozenAt 1; have c2 := own_facts hown1 2 (by decide); have f2 := hown1.frozenAt 2; have c4 := own_facts hown1 4 (by decide); have f4 := hown1.frozenAt 4; simp at c0 c1 c2 c4; have HO := Kpt.mk hown1; clear hown1 hg1)
    go_ret
    exact ⟨_, rfl, Nat.le_refl _, (own_set (own_set (own_set (own_set HO.out 0 10) 1 10) 2 4) 4 8), ((((hb1.out.setCell (p := ⟨w.heap.size, 0, none⟩) (Nat.le_refl _) _).setCell (p := ⟨w.heap.size, 1, none⟩) (Nat.le_refl _) _).setCell (p := ⟨w.heap.size, 2, none⟩) (Nat.le_refl _) _).setCell (p := ⟨w.heap.size, 4, none⟩) (Nat.le_refl _) _)⟩
  · simp only [show ∀ a b c, vB ⟨a, b, c⟩ = b2 a 1 + b2 b 2 + b2 c 4 from fun _ _ _ => rfl, show b2 true 1 + b2 false 2 + b2 false 4 = 1 from rfl]
    go_enter Try.func20, Try.ntmps20
    go_wp2_with (at_make; refine wpList_make_full _ rfl _ _ 37 rfl w.heap.size 5 i0 (.int .u8 0) 1 Try.underlying37 hi0 hz0 hz1 .i64 .i64 _ _ 12 rfl rfl rfl rfl (by rw [hz2]; omega) hnm (Nat.le_refl _) ?_; intro w1 hown1 hg1; have hb1 : Kpt (Below w.heap.size w w1) := ⟨(Below.refl _ _).grown hg1 (Nat.le_refl _) (fun k h => by cases h)⟩; have hsz1 := hg1.size; rw [made_u8] at hown1; have c0 := own_facts hown1 0 (by decide); have f0 := hown1.frozenAt 0; have c1 := own_facts hown1 1 (by decide); have f1 := hown1.frozenAt 1; have c2 := own_facts hown1 2 (by decide); have f2 := hown1.frozenAt 2; have c4 := own_facts hown1 4 (by decide); have f4 := hown1.frozenAt 4; simp at c0 c1 c2 c4; have HO := Kpt.mk hown1; clear hown1 hg1)
    go_ret
    exact ⟨_, rfl, Nat.le_refl _, (own_set (own_set (own_set (own_set HO.out 0 10) 1 10) 2 0) 4 0), ((((hb1.out.setCell (p := ⟨w.heap.size, 0, none⟩) (Nat.le_refl _) _).setCell (p := ⟨w.heap.size, 1, none⟩) (Nat.le_refl _) _).setCell (p := ⟨w.heap.size, 2, none⟩) (Nat.le_refl _) _).setCell (p := ⟨w.heap.size, 4, none⟩) (Nat.le_refl _) _)⟩
  · simp only [show ∀ a b c, vB ⟨a, b, c⟩ = b2 a 1 + b2 b 2 + b2 c 4 from fun _ _ _ => rfl, show b2 true 1 + b2 false 2 + b2 true 4 = 5 from rfl]
    go_enter Try.func20, Try.ntmps20
    go_wp2_with (at_make; refine wpList_make_full _ rfl _ _ 37 rfl w.heap.size 5 i0 (.int .u8 0) 1 Try.underlying37 hi0 hz0 hz1 .i64 .i64 _ _ 12 rfl rfl rfl rfl (by rw [hz2]; omega) hnm (Nat.le_refl _) ?_; intro w1 hown1 hg1; have hb1 : Kpt (Below w.heap.size w w1) := ⟨(Below.refl _ _).grown hg1 (Nat.le_refl _) (fun k h => by cases h)⟩; have hsz1 := hg1.size; rw [made_u8] at hown1; have c0 := own_facts hown1 0 (by decide); have f0 := hown1.frozenAt 0; have c1 := own_facts hown1 1 (by decide); have f1 := hown1.frozenAt 1; have c2 := own_facts hown1 2 (by decide); have f2 := hown1.frozenAt 2; have c4 := own_facts hown1 4 (by decide); have f4 := hown1.frozenAt 4; simp at c0 c1 c2 c4; have HO := Kpt.mk hown1; clear hown1 hg1)
    go_ret
    exact ⟨_, rfl, Nat.le_refl _, (own_set (own_set (own_set (own_set HO.out 0 10) 1 10) 2 0) 4 8), ((((hb1.out.setCell (p := ⟨w.heap.size, 0, none⟩) (Nat.le_refl _) _).setCell (p := ⟨w.heap.size, 1, none⟩) (Nat.le_refl _) _).setCell (p := ⟨w.heap.size, 2, none⟩) (Nat.le_refl _) _).setCell (p := ⟨w.heap.size, 4, none⟩) (Nat.le_refl _) _)⟩
  · simp only [show ∀ a b c, vB ⟨a, b, c⟩ = b2 a 1 + b2 b 2 + b2 c 4 from fun _ _ _ => rfl, show b2 true 1 + b2 true 2 + b2 false 4 = 3 from rfl]
    go_enter Try.func20, Try.ntmps20
    go_wp2_with (at_make; refine wpList_make_full _ rfl _ _ 37 rfl w.heap.size 5 i0 (.int .u8 0) 1 Try.underlying37 hi0 hz0 hz1 .i64 .i64 _ _ 12 rfl rfl rfl rfl (by rw [hz2]; omega) hnm (Nat.le_refl _) ?_; intro w1 hown1 hg1; have hb1 : Kpt (Below w.heap.size w w1) := ⟨(Below.refl _ _).grown hg1 (Nat.le_refl _) (fun k h => by cases h)⟩; have hsz1 := hg1.size; rw [made_u8] at hown1; have c0 := own_facts hown1 0 (by decide); have f0 := hown1.frozenAt 0; have c1 := own_facts hown1 1 (by decide); have f1 := hown1.frozenAt 1; have c2 := own_facts hown1 2 (by decide); have f2 := hown1.frozenAt 2; have c4 := own_facts hown1 4 (by decide); have f4 := hown1.frozenAt 4; simp at c0 c1 c2 c4; have HO := Kpt.mk hown1; clear hown1 hg1)
    go_ret
    exact ⟨_, rfl, Nat.le_refl _, (own_set (own_set (own_set (own_set HO.out 0 10) 1 10) 2 4) 4 0), ((((hb1.out.setCell (p := ⟨w.heap.size, 0, none⟩) (Nat.le_refl _) _).setCell (p := ⟨w.heap.size, 1, none⟩) (Nat.le_refl _) _).setCell (p := ⟨w.heap.size, 2, none⟩) (Nat.le_refl _) _).setCell (p := ⟨w.heap.size, 4, none⟩) (Nat.le_refl _) _)⟩
  · simp only [show ∀ a b c, vB ⟨a, b, c⟩ = b2 a 1 + b2 b 2 + b2 c 4 from fun _ _ _ => rfl, show b2 true 1 + b2 true 2 + b2 true 4 = 7 from rfl]
    go_enter Try.func20, Try.ntmps20
    go_wp2_with (at_make; refine wpList_make_full _ rfl _ _ 37 rfl w.heap.size 5 i0 (.int .u8 0) 1 Try.underlying37 hi0 hz0 hz1 .i64 .i64 _ _ 12 rfl rfl rfl rfl (by rw [hz2]; omega) hnm (Nat.le_refl _) ?_; intro w1 hown1 hg1; have hb1 : Kpt (Below w.heap.size w w1) := ⟨(Below.refl _ _).grown hg1 (Nat.le_refl _) (fun k h => by cases h)⟩; have hsz1 := hg1.size; rw [made_u8] at hown1; have c0 := own_facts hown1 0 (by decide); have f0 := hown1.frozenAt 0; have c1 := own_facts hown1 1 (by decide); have f1 := hown1.frozenAt 1; have c2 := own_facts hown1 2 (by decide); have f2 := hown1.frozenAt 2; have c4 := own_facts hown1 4 (by decide); have f4 := hown1.frozenAt 4; simp at c0 c1 c2 c4; have HO := Kpt.mk hown1; clear hown1 hg1)
    go_ret
    exact ⟨_, rfl, Nat.le_refl _, (own_set (own_set (own_set (own_set HO.out 0 10) 1 10) 2 4) 4 8), ((((hb1.out.setCell (p := ⟨w.heap.size, 0, none⟩) (Nat.le_refl _) _).setCell (p := ⟨w.heap.size, 1, none⟩) (Nat.le_refl _) _).setCell (p := ⟨w.heap.size, 2, none⟩) (Nat.le_refl _) _).setCell (p := ⟨w.heap.size, 4, none⟩) (Nat.le_refl _) _)⟩
end Go.Proofs.Ytdojhgapdocngaa
