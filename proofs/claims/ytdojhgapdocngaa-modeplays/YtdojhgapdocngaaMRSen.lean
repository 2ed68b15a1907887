/-
  ModePlays: the document's Sense of a page that there isn't.
-/
import Derived.Test.YtdojhgapdocngaaMRef
import Derived.Test.YtdojhgapdocngaaMSens
namespace Go.Proofs.Ytdojhgapdocngaa
open Go.RowKit
set_option linter.unusedVariables false
set_option linter.unusedSimpArgs false

/-- The document's pages in a block. -/
structure RPg (w : World) (B : Nat) (n s : Vs) : Prop where
  lt : B < w.heap.size
  c0 : w.cell? ⟨B, 0, none⟩ = some (.int .i64 (vB n))
  c1 : w.cell? ⟨B, 1, none⟩ = some (.int .i64 (vB s))
  free : ∀ j, w.frozen? ⟨B, j, none⟩ = false
theorem RPg.of_block {w w' : World} {B : Nat} {n s : Vs} (h : RPg w B n s) (hs : B < w'.heap.size) (hb : w'.heap[B]? = w.heap[B]?) : RPg w' B n s :=
  have c : ∀ j, w'.cell? ⟨B, j, none⟩ = w.cell? ⟨B, j, none⟩ := fun j => World.cell?_of_block (w := w) (w' := w') (a := ⟨B, j, none⟩) hb
  ⟨hs, (c 0).trans h.c0, (c 1).trans h.c1, fun j => (World.frozen?_of_block (w := w) (w' := w') (a := ⟨B, j, none⟩) hb).trans (h.free j)⟩
theorem RPg.below {w w' : World} {B m : Nat} {n s : Vs} (h : RPg w B n s) (hb : Below m w w') (hn : B < m) : RPg w' B n s := h.of_block (Nat.lt_of_lt_of_le h.lt hb.size) (hb.block B hn)
theorem RPg.below' {w w' : World} {B : Nat} {n s : Vs} (h : RPg w B n s) (hb : Below w.heap.size w w') : RPg w' B n s := h.below hb h.lt
theorem RPg.grown {w w' : World} {B : Nat} {row : Option Nat} {n s : Vs} (h : RPg w B n s) (hg : w.grownBy w' row) (hn : row ≠ some B) : RPg w' B n s :=
  h.of_block (Nat.lt_of_lt_of_le h.lt hg.size) (hg.block B h.lt (fun e => hn e.symm))

set_option maxRecDepth 100000 in
set_option maxHeartbeats 2000000 in
theorem rsense_no (B : Nat) (n s : Vs) (c : Cm) (w : World) (hP : RPg w B n s) (hpg : ¬ isPg c.pg) :
    Calls Try.prog 15 #[.pointer (some ⟨B, 0, none⟩), .agg c.vals] w fun e w' => e = .returned (.tuple #[.slice none 0 0, .agg pgFault.vals, .bool false]) ∧ Below w.heap.size w w' := by
  have HF := Kpt.mk (fun W => rfault_any 9216 2 5 true W)
  have hsz := Kpt.mk (sW_size w c)
  have hbl := Kpt.mk (sW_below w c)
  have hbx := Kpt.mk (sW_bx w c)
  have hP1 := hP.below (sW_below w c) hP.lt
  have x0 := hP1.c0
  have x1 := hP1.c1
  have z9 := sW_cell w c 9 (by decide)
  have z10 := sW_cell w c 10 (by decide)
  have hBlt := hP.lt
  have p8 : ¬ c.pg = 8 := fun h => hpg (.inl h)
  have p10 : ¬ c.pg = 10 := fun h => hpg (.inr (.inl h))
  have p63 : ¬ c.pg = 63 := fun h => hpg (.inr (.inr h))
  obtain ⟨kd, lg, lba, bl, al, fua, pr, um, ev, pg, ct, sv, se, ty, bs⟩ := c
  simp only [Cm.vals] at z9 z10 p8 p10 p63 ⊢
  simp at z9 z10
  generalize vB n = xn at x0
  generalize vB s = xs at x1
  simp only [sW, zeroS, Cm.vals] at x0 x1 z9 z10 hbl hbx hsz
  clear hP hpg hP1
  by_cases k1 : ct = 1
  · subst k1
    go_enter Try.func15, Try.ntmps15
    go_wp2_with (first | (go_at_call 19; go_loud (refine (HF.out _).mono ?_; rintro e w3 ⟨rfl, hb3⟩; have hbx3 := Kpt.mk (hbx.out.below hb3 (by rw [hsz.out]; omega)); have hbe3 := Kpt.mk (hbl.out.trans (hb3.mono (by rw [hsz.out]; omega))); clear x0 x1 z9 z10 hbl hbx hsz hb3)) | (refine wpList_store_bx rfl 42 (.tmp 5) (.tmp 29) rfl (w.heap.size + 1) _ pgFault.vals rfl rfl hbx3.out rfl infoS (Sn.vals_one pgFault) rfl ?_; intro w5 hbx5 hg5; have hbe5 := Kpt.mk (hbe3.out.grown hg5 hbe3.out.size (fun q hq => by cases hq; omega)); obtain ⟨c0, c1, c2, c3, c4, c5, c6, c7⟩ := bx_sn hbx5; clear hbx5 hg5 hbx3))
    refine bodyPost_ret (v := .tuple #[.slice none 0 0, .agg pgFault.vals, .bool false]) (by simp [results, Try.results15, go_sem, c0, c1, c2, c3, c4, c5, c6, c7, Sn.vals]) rfl ⟨rfl, hbe5.out⟩
  · by_cases k2 : ct = 2
    · subst k2
      go_enter Try.func15, Try.ntmps15
      go_wp2_with (first | (go_at_call 19; go_loud (refine (HF.out _).mono ?_; rintro e w3 ⟨rfl, hb3⟩; have hbx3 := Kpt.mk (hbx.out.below hb3 (by rw [hsz.out]; omega)); have hbe3 := Kpt.mk (hbl.out.trans (hb3.mono (by rw [hsz.out]; omega))); clear x0 x1 z9 z10 hbl hbx hsz hb3)) | (refine wpList_store_bx rfl 42 (.tmp 5) (.tmp 29) rfl (w.heap.size + 1) _ pgFault.vals rfl rfl hbx3.out rfl infoS (Sn.vals_one pgFault) rfl ?_; intro w5 hbx5 hg5; have hbe5 := Kpt.mk (hbe3.out.grown hg5 hbe3.out.size (fun q hq => by cases hq; omega)); obtain ⟨c0, c1, c2, c3, c4, c5, c6, c7⟩ := bx_sn hbx5; clear hbx5 hg5 hbx3))
      refine bodyPost_ret (v := .tuple #[.slice none 0 0, .agg pgFault.vals, .bool false]) (by simp [results, Try.results15, go_sem, c0, c1, c2, c3, c4, c5, c6, c7, Sn.vals]) rfl ⟨rfl, hbe5.out⟩
    · by_cases k3 : ct = 3
      · subst k3
        go_enter Try.func15, Try.ntmps15
        go_wp2_with (first | (go_at_call 19; go_loud (refine (HF.out _).mono ?_; rintro e w3 ⟨rfl, hb3⟩; have hbx3 := Kpt.mk (hbx.out.below hb3 (by rw [hsz.out]; omega)); have hbe3 := Kpt.mk (hbl.out.trans (hb3.mono (by rw [hsz.out]; omega))); clear x0 x1 z9 z10 hbl hbx hsz hb3)) | (refine wpList_store_bx rfl 42 (.tmp 5) (.tmp 29) rfl (w.heap.size + 1) _ pgFault.vals rfl rfl hbx3.out rfl infoS (Sn.vals_one pgFault) rfl ?_; intro w5 hbx5 hg5; have hbe5 := Kpt.mk (hbe3.out.grown hg5 hbe3.out.size (fun q hq => by cases hq; omega)); obtain ⟨c0, c1, c2, c3, c4, c5, c6, c7⟩ := bx_sn hbx5; clear hbx5 hg5 hbx3))
        refine bodyPost_ret (v := .tuple #[.slice none 0 0, .agg pgFault.vals, .bool false]) (by simp [results, Try.results15, go_sem, c0, c1, c2, c3, c4, c5, c6, c7, Sn.vals]) rfl ⟨rfl, hbe5.out⟩
      · go_enter Try.func15, Try.ntmps15
        go_wp2_with (first | (go_at_call 19; go_loud (refine (HF.out _).mono ?_; rintro e w3 ⟨rfl, hb3⟩; have hbx3 := Kpt.mk (hbx.out.below hb3 (by rw [hsz.out]; omega)); have hbe3 := Kpt.mk (hbl.out.trans (hb3.mono (by rw [hsz.out]; omega))); clear x0 x1 z9 z10 hbl hbx hsz hb3)) | (refine wpList_store_bx rfl 42 (.tmp 5) (.tmp 29) rfl (w.heap.size + 1) _ pgFault.vals rfl rfl hbx3.out rfl infoS (Sn.vals_one pgFault) rfl ?_; intro w5 hbx5 hg5; have hbe5 := Kpt.mk (hbe3.out.grown hg5 hbe3.out.size (fun q hq => by cases hq; omega)); obtain ⟨c0, c1, c2, c3, c4, c5, c6, c7⟩ := bx_sn hbx5; clear hbx5 hg5 hbx3))
        refine bodyPost_ret (v := .tuple #[.slice none 0 0, .agg pgFault.vals, .bool false]) (by simp [results, Try.results15, go_sem, c0, c1, c2, c3, c4, c5, c6, c7, Sn.vals]) rfl ⟨rfl, hbe5.out⟩
end Go.Proofs.Ytdojhgapdocngaa
