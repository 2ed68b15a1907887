/-
  Select of parameters that are wrong.
-/
import Derived.Test.YtdojhgapdocngaaMSelD
namespace Go.Proofs.Ytdojhgapdocngaa
open Go.RowKit
set_option linter.unusedVariables false
set_option linter.unusedSimpArgs false

set_option maxRecDepth 100000 in
set_option maxHeartbeats 4000000 in
theorem select_bad (B : Nat) (n s : Vs) (c : Cm) (b off k : Nat) (p : List Int) (w : World) (hP : Pg w B n s) (hp : Cl w b off p) (h1 : 1 ≤ p.length) (hnc : p.length ≤ k) (hmx : k ≤ maxLen) (hb : b < w.heap.size) (hby : ∀ j, 0 ≤ p.getD j 0 ∧ p.getD j 0 ≤ 255) (s' : Sn) (hE : (readL n c.lg p).2 = some s') :
    Calls Try.prog 12 #[.pointer (some ⟨B, 0, none⟩), .agg c.vals, .slice (some ⟨b, off, none⟩) p.length k] w fun e w' => e = .returned (.tuple #[.bool false, .agg s'.vals, .bool false]) ∧ Below w.heap.size w w' := by
  have HR : Kpt (∀ W, Cl W b off p → b < W.heap.size → Calls Try.prog 18 #[.agg n.vals, .bool c.lg, .slice (some ⟨b, off, none⟩) p.length k] W fun e w' => (∃ v' : Vs, e = .returned (.tuple #[.agg v'.vals, .agg s'.vals, .bool false])) ∧ Below W.heap.size W w') := ⟨fun W h hb => (read_any c.lg b off k n p W h h1 hnc hmx hb hby).mono (fun e w' ⟨h2, _, h3⟩ => ⟨h2 s' hE, h3⟩)⟩
  obtain ⟨l, hl⟩ : ∃ l, l = p.length := ⟨_, rfl⟩
  rw [← hl] at HR h1 ⊢
  have hl0 : ¬ (l : Int) = 0 := by omega
  have hsz := sW_size w c
  have hbl := sW_below w c
  have hR1 := sW_bx w c
  have hP1 := hP.below hbl hP.lt
  have hcl1 : Cl (sW w c) b off p := fun j hj => (hbl.cell (p := ⟨b, off + j, none⟩) hb).trans (hp j hj)
  have z1 := sW_cell w c 1 (by decide)
  have z11 := sW_cell w c 11 (by decide)
  have hBlt := hP.lt
  have hw1 : sW w c = (w.alloc (.cells c.vals 36)).alloc (.cells zeroS 42) := rfl
  obtain ⟨w1, hw1'⟩ : ∃ w1, w1 = sW w c := ⟨_, rfl⟩
  rw [← hw1'] at hw1 hsz hbl hR1 hP1 z1 z11 hcl1
  obtain ⟨kd, lg, lba, bl, al, fua, pr, um, ev, pg, ct, sv, se, ty, bs⟩ := c
  simp only [Cm.vals] at hw1 z1 z11 HR ⊢
  simp at z1 z11
  obtain ⟨na, nb, nc⟩ := n
  rw [show (Vs.vals ⟨na, nb, nc⟩) = #[.bool na, .bool nb, .bool nc] from rfl] at HR
  replace hw1 := Kpt.mk hw1
  clear hl hE hP hp hw1' hby hnc hmx
  go_enter Try.func12, Try.ntmps12
  go_wp2_with fail
  rw [show ((w.alloc (.cells #[.int .u8 kd, .bool lg, .int .u64 lba, .int .u64 bl, .int .i64 al, .bool fua, .int .u8 pr, .bool um, .bool ev, .int .u8 pg, .int .u8 ct, .bool sv, .int .u8 se, .int .u8 ty, .bool bs] 36)).alloc (.cells #[.int .u8 0, .int .u16 0, .int .u64 0, .bool false, .int .i64 0, .int .i64 0, .bool false, .bool false] 42)) = w1 from hw1.out.symm]
  clear hw1
  refine wp_region_any (by kernel_rfl) ?_
  refine wpAny_of_C (C := fun W => Pg W B ⟨na, nb, nc⟩ s ∧ W.cell? ⟨w.heap.size, 1, none⟩ = some (.bool lg)) _ _ _ _ ?_
  refine wpAnyC_take 0 (.pointer (some ⟨B, 0, none⟩)) rfl (by kernel_rfl) (by kernel_rfl) (by kernel_rfl) (fun _ _ _ h => h) (wanted_free rfl _) (fun W hW => by go_simp) ?_
  simp only [Act.put, List.getElem_toArray, List.getElem_cons_succ, List.getElem_cons_zero, List.setIfInBounds_toArray, List.set_cons_succ, List.set_cons_zero]
  refine wpAnyC_take 1 (.pointer (some ⟨B, 0, none⟩)) rfl (by kernel_rfl) (by kernel_rfl) (by kernel_rfl) (fun _ _ _ h => h) (wanted_free rfl _) (fun W hW => by go_simp) ?_
  simp only [Act.put, List.getElem_toArray, List.getElem_cons_succ, List.getElem_cons_zero, List.setIfInBounds_toArray, List.set_cons_succ, List.set_cons_zero]
  refine wpAnyC_take 2 (.pointer (some ⟨B, 0, none⟩)) rfl (by kernel_rfl) (by kernel_rfl) (by kernel_rfl) (fun _ _ _ h => h) (wanted_free rfl _) (fun W hW => by go_simp) ?_
  simp only [Act.put, List.getElem_toArray, List.getElem_cons_succ, List.getElem_cons_zero, List.setIfInBounds_toArray, List.set_cons_succ, List.set_cons_zero]
  refine wpAnyC_take 3 (.agg #[.bool na, .bool nb, .bool nc]) rfl (by kernel_rfl) (by kernel_rfl) (by kernel_rfl) (fun _ _ _ h => h) (wanted_free rfl _) (fun W hW => by obtain ⟨hp, _⟩ := hW; have y0 := hp.c0; have y1 := hp.c1; have y2 := hp.c2; simp only at y0 y1 y2; clear hp; go_simp) ?_
  simp only [Act.put, List.getElem_toArray, List.getElem_cons_succ, List.getElem_cons_zero, List.setIfInBounds_toArray, List.set_cons_succ, List.set_cons_zero]
  refine wpAnyC_take 4 (.pointer (some ⟨w.heap.size, 1, none⟩)) rfl (by kernel_rfl) (by kernel_rfl) (by kernel_rfl) (fun _ _ _ h => h) (wanted_free rfl _) (fun W hW => by go_simp) ?_
  simp only [Act.put, List.getElem_toArray, List.getElem_cons_succ, List.getElem_cons_zero, List.setIfInBounds_toArray, List.set_cons_succ, List.set_cons_zero]
  refine wpAnyC_take 5 (.bool lg) rfl (by kernel_rfl) (by kernel_rfl) (by kernel_rfl) (fun _ _ _ h => h) (wanted_free rfl _) (fun W hW => by obtain ⟨_, y0⟩ := hW; go_simp) ?_
  simp only [Act.put, List.getElem_toArray, List.getElem_cons_succ, List.getElem_cons_zero, List.setIfInBounds_toArray, List.set_cons_succ, List.set_cons_zero]
  refine wpAnyC_take 6 (.slice (some ⟨b, off, none⟩) l k) rfl (by kernel_rfl) (by kernel_rfl) (by kernel_rfl) (fun _ _ _ h => h) (wanted_free rfl _) (fun W hW => by go_simp) ?_
  simp only [Act.put, List.getElem_toArray, List.getElem_cons_succ, List.getElem_cons_zero, List.setIfInBounds_toArray, List.set_cons_succ, List.set_cons_zero]
  obtain ⟨W0, hW0⟩ : ∃ W0, W0 = w1.drew := ⟨_, rfl⟩
  have hP0 : Pg W0 B ⟨na, nb, nc⟩ s := by rw [hW0]; exact hP1.drew
  have hR0 : Bx W0 (w.heap.size + 1) zeroS := by rw [hW0]; exact hR1.drew
  have hB0 : Below w.heap.size w W0 := by rw [hW0]; exact hbl.drew
  have hC0 : Cl W0 b off p := by rw [hW0]; exact hcl1
  have hz0 : W0.cell? ⟨w.heap.size, 1, none⟩ = some (.bool lg) := by rw [hW0]; exact z1
  have hy0 : W0.cell? ⟨w.heap.size, 11, none⟩ = some (.bool sv) := by rw [hW0]; exact z11
  have hS0 : w.heap.size + 2 ≤ W0.heap.size := by rw [hW0]; show w.heap.size + 2 ≤ w1.heap.size; omega
  have hD : w1.drew = W0 := hW0.symm
  clear hW0 hP1 hR1 hbl hcl1 z1 z11 hsz
  first | rw [hD] | (show wpAnyC _ _ _ _ _ _ _ _ w1.drew; rw [hD])
  clear hD w1
  refine wpAnyC_three 7 12 13 ⟨hP0, hz0⟩ rfl rfl rfl (by kernel_rfl) (wanted_free rfl _) (wanted_free rfl _) (wanted_free rfl _) (fun KA hKA => ?_) (fun KA hKA => ?_) (fun KA hKA => ?_)
  · go_simp
    refine (HR.out W0 hC0 (Nat.lt_of_lt_of_le hb hB0.size)).mono ?_
    rintro e W1 ⟨⟨v', rfl⟩, hb7⟩
    have hP1 := hP0.below' hb7
    have hR1 := hR0.below' hb7
    have hC1 := hC0.below hb7 (Nat.lt_of_lt_of_le hb hB0.size)
    have hz1 := (hb7.cell (p := ⟨w.heap.size, 1, none⟩) (by show w.heap.size < _; omega)).trans hz0
    have hy1 := (hb7.cell (p := ⟨w.heap.size, 11, none⟩) (by show w.heap.size < _; omega)).trans hy0
    have hB1 := hB0.trans (hb7.mono hB0.size)
    have hS1 : w.heap.size + 2 ≤ W1.heap.size := Nat.le_trans hS0 hb7.size
    have hM1 : W0.heap.size ≤ W1.heap.size := hb7.size
    refine hKA _ _ ?_
    clear hKA KA hb7
    try simp only [Act.put, List.getElem_toArray, List.getElem_cons_succ, List.getElem_cons_zero, List.setIfInBounds_toArray, List.set_cons_succ, List.set_cons_zero]
    refine wpAnyC_take 8 (.tuple #[.agg v'.vals, .agg s'.vals, .bool false]) rfl (by kernel_rfl) (by kernel_rfl) (by kernel_rfl) (fun _ _ _ h => h) (wanted_free rfl _) (fun W hW => by go_simp) ?_
    simp only [Act.put, List.getElem_toArray, List.getElem_cons_succ, List.getElem_cons_zero, List.setIfInBounds_toArray, List.set_cons_succ, List.set_cons_zero]
    refine wpAnyC_take 9 (.agg v'.vals) rfl (by kernel_rfl) (by kernel_rfl) (by kernel_rfl) (fun _ _ _ h => h) (wanted_free rfl _) (fun W hW => by go_simp) ?_
    simp only [Act.put, List.getElem_toArray, List.getElem_cons_succ, List.getElem_cons_zero, List.setIfInBounds_toArray, List.set_cons_succ, List.set_cons_zero]
    refine wpAnyC_take 10 (.agg s'.vals) rfl (by kernel_rfl) (by kernel_rfl) (by kernel_rfl) (fun _ _ _ h => h) (wanted_free rfl _) (fun W hW => by go_simp) ?_
    simp only [Act.put, List.getElem_toArray, List.getElem_cons_succ, List.getElem_cons_zero, List.setIfInBounds_toArray, List.set_cons_succ, List.set_cons_zero]
    refine wpAnyC_take 11 (.bool false) rfl (by kernel_rfl) (by kernel_rfl) (by kernel_rfl) (fun _ _ _ h => h) (wanted_free rfl _) (fun W hW => by go_simp) ?_
    simp only [Act.put, List.getElem_toArray, List.getElem_cons_succ, List.getElem_cons_zero, List.setIfInBounds_toArray, List.set_cons_succ, List.set_cons_zero]
    refine wpAnyC_two 12 13 ⟨hP1, hz1⟩ rfl rfl (by kernel_rfl) (wanted_free rfl _) (wanted_free rfl _) (fun KA hKA => ?_) (fun KA hKA => ?_)
    · go_simp
      obtain ⟨W2, hWE⟩ : ∃ W, W = W1.alloc (.cells #[.bool false, .bool false, .bool false] 23) := ⟨_, rfl⟩
      have hb7 : Below W1.heap.size W1 W2 := by rw [hWE]; exact (Below.refl _ _).alloc (Nat.le_refl _) _
      have hV2 : Bx W2 W1.heap.size noV.vals := by rw [hWE]; exact bx_new W1 noV.vals 23
      rw [← hWE]
      clear hWE
      have hP2 := hP1.below' hb7
      have hR2 := hR1.below' hb7
      have hC2 := hC1.below hb7 (Nat.lt_of_lt_of_le hb hB1.size)
      have hz2 := (hb7.cell (p := ⟨w.heap.size, 1, none⟩) (by show w.heap.size < _; omega)).trans hz1
      have hy2 := (hb7.cell (p := ⟨w.heap.size, 11, none⟩) (by show w.heap.size < _; omega)).trans hy1
      have hB2 := hB1.trans (hb7.mono hB1.size)
      have hS2 : w.heap.size + 2 ≤ W2.heap.size := Nat.le_trans hS1 hb7.size
      have hM2 : W1.heap.size < W2.heap.size := hV2.lt
      refine hKA _ _ ?_
      clear hKA KA hb7
      try simp only [Act.put, List.getElem_toArray, List.getElem_cons_succ, List.getElem_cons_zero, List.setIfInBounds_toArray, List.set_cons_succ, List.set_cons_zero]
      refine wpAnyC_one 13 ⟨hP2, hz2⟩ rfl (by kernel_rfl) (wanted_free rfl _) (fun KA hKA => ?_)
      go_simp
      obtain ⟨W3, hWE⟩ : ∃ W, W = W2.alloc (.cells #[.int .u8 0, .int .u16 0, .int .u64 0, .bool false, .int .i64 0, .int .i64 0, .bool false, .bool false] 42) := ⟨_, rfl⟩
      have hb7 : Below W2.heap.size W2 W3 := by rw [hWE]; exact (Below.refl _ _).alloc (Nat.le_refl _) _
      have hX3 : Bx W3 W2.heap.size zeroS := by rw [hWE]; exact bx_new W2 zeroS 42
      rw [← hWE]
      clear hWE
      have hP3 := hP2.below' hb7
      have hR3 := hR2.below' hb7
      have hC3 := hC2.below hb7 (Nat.lt_of_lt_of_le hb hB2.size)
      have hz3 := (hb7.cell (p := ⟨w.heap.size, 1, none⟩) (by show w.heap.size < _; omega)).trans hz2
      have hy3 := (hb7.cell (p := ⟨w.heap.size, 11, none⟩) (by show w.heap.size < _; omega)).trans hy2
      have hB3 := hB2.trans (hb7.mono hB2.size)
      have hS3 : w.heap.size + 2 ≤ W3.heap.size := Nat.le_trans hS2 hb7.size
      have hM3 : W2.heap.size < W3.heap.size := hX3.lt
      have hV3 := hV2.below' hb7
      refine hKA _ _ ?_
      clear hKA KA hb7
      try simp only [Act.put, List.getElem_toArray, List.getElem_cons_succ, List.getElem_cons_zero, List.setIfInBounds_toArray, List.set_cons_succ, List.set_cons_zero]
      have hVl := hV3.lt
      have hXl := hX3.lt
      refine wpAnyC_one 14 ⟨hP3, hz3⟩ rfl (by kernel_rfl) (wanted_free rfl _) (fun KA hKA => ?_)
      refine wp_store_bx 23 (.tmp 9) (.tmp 30) rfl W1.heap.size noV.vals v'.vals rfl rfl hV3 rfl infoV (Vs.vals_one _) ?_
      intro W4 hV4 hg4
      have hX4 := hX3.grown hg4 (fun e => by have e' : W1.heap.size = W2.heap.size := Option.some.inj e; omega)
      have hR4 := hR3.grown hg4 (fun e => by have e' : W1.heap.size = w.heap.size + 1 := Option.some.inj e; omega)
      have hP4 := hP3.grown hg4 (fun e => by have e' : W1.heap.size = B := Option.some.inj e; omega)
      have hz4 := (far_cell hg4 ⟨w.heap.size, 1, none⟩ (by show w.heap.size < W3.heap.size; omega) (fun e => by have e' : W1.heap.size = w.heap.size := Option.some.inj e; omega)).trans hz3
      have hy4 := (far_cell hg4 ⟨w.heap.size, 11, none⟩ (by show w.heap.size < W3.heap.size; omega) (fun e => by have e' : W1.heap.size = w.heap.size := Option.some.inj e; omega)).trans hy3
      have hB4 := hB3.grown hg4 hB3.size (fun q hq => by cases hq; omega)
      refine hKA _ _ ?_
      clear hKA KA
      try simp only [Act.put, List.getElem_toArray, List.getElem_cons_succ, List.getElem_cons_zero, List.setIfInBounds_toArray, List.set_cons_succ, List.set_cons_zero]
      refine wpAnyC_one 15 ⟨hP4, hz4⟩ rfl (by kernel_rfl) (wanted_free rfl _) (fun KA hKA => ?_)
      refine wp_store_bx 42 (.tmp 10) (.tmp 31) rfl W2.heap.size zeroS s'.vals rfl rfl hX4 rfl infoS (Sn.vals_one _) ?_
      intro W5 hX5 hg5
      have hV5 := hV4.grown hg5 (fun e => by have e' : W2.heap.size = W1.heap.size := Option.some.inj e; omega)
      have hR5 := hR4.grown hg5 (fun e => by have e' : W2.heap.size = w.heap.size + 1 := Option.some.inj e; omega)
      have hP5 := hP4.grown hg5 (fun e => by have e' : W2.heap.size = B := Option.some.inj e; omega)
      have hS4 : W3.heap.size ≤ W4.heap.size := hg4.size
      have hz5 := (far_cell hg5 ⟨w.heap.size, 1, none⟩ (by show w.heap.size < W4.heap.size; omega) (fun e => by have e' : W2.heap.size = w.heap.size := Option.some.inj e; omega)).trans hz4
      have hy5 := (far_cell hg5 ⟨w.heap.size, 11, none⟩ (by show w.heap.size < W4.heap.size; omega) (fun e => by have e' : W2.heap.size = w.heap.size := Option.some.inj e; omega)).trans hy4
      have hB5 := hB4.grown hg5 hB4.size (fun q hq => by cases hq; omega)
      refine hKA _ _ ?_
      clear hKA KA
      try simp only [Act.put, List.getElem_toArray, List.getElem_cons_succ, List.getElem_cons_zero, List.setIfInBounds_toArray, List.set_cons_succ, List.set_cons_zero]
      refine wpAnyC_take 16 (.bool false) rfl (by kernel_rfl) (by kernel_rfl) (by kernel_rfl) (fun _ _ _ h => h) (wanted_free rfl _) (fun W hW => by go_simp) ?_
      simp only [Act.put, List.getElem_toArray, List.getElem_cons_succ, List.getElem_cons_zero, List.setIfInBounds_toArray, List.set_cons_succ, List.set_cons_zero]
      refine wpAnyC_done ⟨hP5, hz5⟩ (by kernel_rfl) ?_
      obtain ⟨X9, hX9⟩ : ∃ X, X = W1.heap.size := ⟨_, rfl⟩
      obtain ⟨X10, hX10⟩ : ∃ X, X = W2.heap.size := ⟨_, rfl⟩
      have hd1 : X9 ≠ X10 ∧ w.heap.size + 2 ≤ X9 ∧ w.heap.size + 2 ≤ X10 ∧ X9 ≠ B ∧ X10 ≠ B := by omega
      rw [← hX9] at hV5 ⊢
      rw [← hX10] at hX5 ⊢
      clear hX9 hX10 hVl hXl hS4 hg4 hg5 hV4 hX4 hR4 hP4 hz4 hy4 hB4 hz5
      clear hP0 hR0 hC0 hz0 hy0 hB0 hP1 hR1 hC1 hz1 hy1 hB1 hP2 hR2 hC2 hz2 hy2 hB2 hP3 hR3 hC3 hz3 hy3 hB3 hM1 hM2 hM3 hS0 hS1 hS2 hS3 hV3 hX3
      have hx5 := Kpt.mk hX5
      clear hX5
      obtain ⟨sk1, sc1, si1, shi1, sf1, sb1, shf1, sic1⟩ := s'
      have hB5 := Kpt.mk hB5
      have hR5 := Kpt.mk hR5
      clear hV5 hP5 hy5
      go_wp2_with fail
      refine wp_region_any (by kernel_rfl) ?_
      refine wpAny_of_C (C := fun W => Bx W X10 (Sn.vals ⟨sk1, sc1, si1, shi1, sf1, sb1, shf1, sic1⟩)) _ _ _ _ ?_
      refine wpAnyC_take 0 (.agg #[.int .u8 sk1, .int .u16 sc1, .int .u64 si1, .bool shi1, .int .i64 sf1, .int .i64 sb1, .bool shf1, .bool sic1]) rfl (by kernel_rfl) (by kernel_rfl) (by kernel_rfl) (fun _ _ _ h => h) (wanted_free rfl _) (fun W hW => by obtain ⟨y0, y1, y2, y3, y4, y5, y6, y7⟩ := bx_sn hW; simp only at y0 y1 y2 y3 y4 y5 y6 y7; clear hW; go_simp) ?_
      simp only [Act.put, List.getElem_toArray, List.getElem_cons_succ, List.getElem_cons_zero, List.setIfInBounds_toArray, List.set_cons_succ, List.set_cons_zero]
      refine wpAnyC_take 1 (.bool false) rfl (by kernel_rfl) (by kernel_rfl) (by kernel_rfl) (fun _ _ _ h => h) (wanted_free rfl _) (fun W hW => by go_simp) ?_
      simp only [Act.put, List.getElem_toArray, List.getElem_cons_succ, List.getElem_cons_zero, List.setIfInBounds_toArray, List.set_cons_succ, List.set_cons_zero]
      refine wpAnyC_one 2 hx5.out.drew rfl (by kernel_rfl) (wanted_free rfl _) (fun KA hKA => ?_)
      refine wp_store_bx 42 (.tmp 7) (.tmp 35) rfl (w.heap.size + 1) zeroS (Sn.vals ⟨sk1, sc1, si1, shi1, sf1, sb1, shf1, sic1⟩) rfl rfl hR5.out.drew rfl infoS (Sn.vals_one _) ?_
      intro W6 hR6 hg6
      have hx6 := hx5.out.drew.grown hg6 (fun e => by have e' : w.heap.size + 1 = X10 := Option.some.inj e; omega)
      have hB6 : Kpt (Below w.heap.size w W6) := ⟨hB5.out.drew.grown hg6 hB5.out.size (fun q hq => by cases hq; omega)⟩
      refine hKA _ _ ?_
      clear hKA KA
      try simp only [Act.put, List.getElem_toArray, List.getElem_cons_succ, List.getElem_cons_zero, List.setIfInBounds_toArray, List.set_cons_succ, List.set_cons_zero]
      refine wpAnyC_take 3 (.bool false) rfl (by kernel_rfl) (by kernel_rfl) (by kernel_rfl) (fun _ _ _ h => h) (wanted_free rfl _) (fun W hW => by go_simp) ?_
      simp only [Act.put, List.getElem_toArray, List.getElem_cons_succ, List.getElem_cons_zero, List.setIfInBounds_toArray, List.set_cons_succ, List.set_cons_zero]
      refine wpAnyC_done hx6 (by kernel_rfl) ?_
      obtain ⟨c0, c1, c2, c3, c4, c5, c6, c7⟩ := bx_sn hR6
      simp only at c0 c1 c2 c3 c4 c5 c6 c7
      clear hx5 hx6 hR6 hg6 hR5
      go_wp2_with fail
      refine bodyPost_ret (v := .tuple #[.bool false, .agg (Sn.vals ⟨sk1, sc1, si1, shi1, sf1, sb1, shf1, sic1⟩), .bool false]) (by simp [results, Try.results12, go_sem, c0, c1, c2, c3, c4, c5, c6, c7, Sn.vals]) rfl ⟨rfl, hB6.out⟩
    · go_simp
      obtain ⟨W2, hWE⟩ : ∃ W, W = W1.alloc (.cells #[.int .u8 0, .int .u16 0, .int .u64 0, .bool false, .int .i64 0, .int .i64 0, .bool false, .bool false] 42) := ⟨_, rfl⟩
      have hb7 : Below W1.heap.size W1 W2 := by rw [hWE]; exact (Below.refl _ _).alloc (Nat.le_refl _) _
      have hX2 : Bx W2 W1.heap.size zeroS := by rw [hWE]; exact bx_new W1 zeroS 42
      rw [← hWE]
      clear hWE
      have hP2 := hP1.below' hb7
      have hR2 := hR1.below' hb7
      have hC2 := hC1.below hb7 (Nat.lt_of_lt_of_le hb hB1.size)
      have hz2 := (hb7.cell (p := ⟨w.heap.size, 1, none⟩) (by show w.heap.size < _; omega)).trans hz1
      have hy2 := (hb7.cell (p := ⟨w.heap.size, 11, none⟩) (by show w.heap.size < _; omega)).trans hy1
      have hB2 := hB1.trans (hb7.mono hB1.size)
      have hS2 : w.heap.size + 2 ≤ W2.heap.size := Nat.le_trans hS1 hb7.size
      have hM2 : W1.heap.size < W2.heap.size := hX2.lt
      refine hKA _ _ ?_
      clear hKA KA hb7
      try simp only [Act.put, List.getElem_toArray, List.getElem_cons_succ, List.getElem_cons_zero, List.setIfInBounds_toArray, List.set_cons_succ, List.set_cons_zero]
      refine wpAnyC_one 12 ⟨hP2, hz2⟩ rfl (by kernel_rfl) (wanted_free rfl _) (fun KA hKA => ?_)
      go_simp
      obtain ⟨W3, hWE⟩ : ∃ W, W = W2.alloc (.cells #[.bool false, .bool false, .bool false] 23) := ⟨_, rfl⟩
      have hb7 : Below W2.heap.size W2 W3 := by rw [hWE]; exact (Below.refl _ _).alloc (Nat.le_refl _) _
      have hV3 : Bx W3 W2.heap.size noV.vals := by rw [hWE]; exact bx_new W2 noV.vals 23
      rw [← hWE]
      clear hWE
      have hP3 := hP2.below' hb7
      have hR3 := hR2.below' hb7
      have hC3 := hC2.below hb7 (Nat.lt_of_lt_of_le hb hB2.size)
      have hz3 := (hb7.cell (p := ⟨w.heap.size, 1, none⟩) (by show w.heap.size < _; omega)).trans hz2
      have hy3 := (hb7.cell (p := ⟨w.heap.size, 11, none⟩) (by show w.heap.size < _; omega)).trans hy2
      have hB3 := hB2.trans (hb7.mono hB2.size)
      have hS3 : w.heap.size + 2 ≤ W3.heap.size := Nat.le_trans hS2 hb7.size
      have hM3 : W2.heap.size < W3.heap.size := hV3.lt
      have hX3 := hX2.below' hb7
      refine hKA _ _ ?_
      clear hKA KA hb7
      try simp only [Act.put, List.getElem_toArray, List.getElem_cons_succ, List.getElem_cons_zero, List.setIfInBounds_toArray, List.set_cons_succ, List.set_cons_zero]
      have hVl := hV3.lt
      have hXl := hX3.lt
      refine wpAnyC_one 14 ⟨hP3, hz3⟩ rfl (by kernel_rfl) (wanted_free rfl _) (fun KA hKA => ?_)
      refine wp_store_bx 23 (.tmp 9) (.tmp 30) rfl W2.heap.size noV.vals v'.vals rfl rfl hV3 rfl infoV (Vs.vals_one _) ?_
      intro W4 hV4 hg4
      have hX4 := hX3.grown hg4 (fun e => by have e' : W2.heap.size = W1.heap.size := Option.some.inj e; omega)
      have hR4 := hR3.grown hg4 (fun e => by have e' : W2.heap.size = w.heap.size + 1 := Option.some.inj e; omega)
      have hP4 := hP3.grown hg4 (fun e => by have e' : W2.heap.size = B := Option.some.inj e; omega)
      have hz4 := (far_cell hg4 ⟨w.heap.size, 1, none⟩ (by show w.heap.size < W3.heap.size; omega) (fun e => by have e' : W2.heap.size = w.heap.size := Option.some.inj e; omega)).trans hz3
      have hy4 := (far_cell hg4 ⟨w.heap.size, 11, none⟩ (by show w.heap.size < W3.heap.size; omega) (fun e => by have e' : W2.heap.size = w.heap.size := Option.some.inj e; omega)).trans hy3
      have hB4 := hB3.grown hg4 hB3.size (fun q hq => by cases hq; omega)
      refine hKA _ _ ?_
      clear hKA KA
      try simp only [Act.put, List.getElem_toArray, List.getElem_cons_succ, List.getElem_cons_zero, List.setIfInBounds_toArray, List.set_cons_succ, List.set_cons_zero]
      refine wpAnyC_one 15 ⟨hP4, hz4⟩ rfl (by kernel_rfl) (wanted_free rfl _) (fun KA hKA => ?_)
      refine wp_store_bx 42 (.tmp 10) (.tmp 31) rfl W1.heap.size zeroS s'.vals rfl rfl hX4 rfl infoS (Sn.vals_one _) ?_
      intro W5 hX5 hg5
      have hV5 := hV4.grown hg5 (fun e => by have e' : W1.heap.size = W2.heap.size := Option.some.inj e; omega)
      have hR5 := hR4.grown hg5 (fun e => by have e' : W1.heap.size = w.heap.size + 1 := Option.some.inj e; omega)
      have hP5 := hP4.grown hg5 (fun e => by have e' : W1.heap.size = B := Option.some.inj e; omega)
      have hS4 : W3.heap.size ≤ W4.heap.size := hg4.size
      have hz5 := (far_cell hg5 ⟨w.heap.size, 1, none⟩ (by show w.heap.size < W4.heap.size; omega) (fun e => by have e' : W1.heap.size = w.heap.size := Option.some.inj e; omega)).trans hz4
      have hy5 := (far_cell hg5 ⟨w.heap.size, 11, none⟩ (by show w.heap.size < W4.heap.size; omega) (fun e => by have e' : W1.heap.size = w.heap.size := Option.some.inj e; omega)).trans hy4
      have hB5 := hB4.grown hg5 hB4.size (fun q hq => by cases hq; omega)
      refine hKA _ _ ?_
      clear hKA KA
      try simp only [Act.put, List.getElem_toArray, List.getElem_cons_succ, List.getElem_cons_zero, List.setIfInBounds_toArray, List.set_cons_succ, List.set_cons_zero]
      refine wpAnyC_take 16 (.bool false) rfl (by kernel_rfl) (by kernel_rfl) (by kernel_rfl) (fun _ _ _ h => h) (wanted_free rfl _) (fun W hW => by go_simp) ?_
      simp only [Act.put, List.getElem_toArray, List.getElem_cons_succ, List.getElem_cons_zero, List.setIfInBounds_toArray, List.set_cons_succ, List.set_cons_zero]
      refine wpAnyC_done ⟨hP5, hz5⟩ (by kernel_rfl) ?_
      obtain ⟨X9, hX9⟩ : ∃ X, X = W2.heap.size := ⟨_, rfl⟩
      obtain ⟨X10, hX10⟩ : ∃ X, X = W1.heap.size := ⟨_, rfl⟩
      have hd1 : X9 ≠ X10 ∧ w.heap.size + 2 ≤ X9 ∧ w.heap.size + 2 ≤ X10 ∧ X9 ≠ B ∧ X10 ≠ B := by omega
      rw [← hX9] at hV5 ⊢
      rw [← hX10] at hX5 ⊢
      clear hX9 hX10 hVl hXl hS4 hg4 hg5 hV4 hX4 hR4 hP4 hz4 hy4 hB4 hz5
      clear hP0 hR0 hC0 hz0 hy0 hB0 hP1 hR1 hC1 hz1 hy1 hB1 hP2 hR2 hC2 hz2 hy2 hB2 hP3 hR3 hC3 hz3 hy3 hB3 hM1 hM2 hM3 hS0 hS1 hS2 hS3 hV3 hX3
      have hx5 := Kpt.mk hX5
      clear hX5
      obtain ⟨sk1, sc1, si1, shi1, sf1, sb1, shf1, sic1⟩ := s'
      have hB5 := Kpt.mk hB5
      have hR5 := Kpt.mk hR5
      clear hV5 hP5 hy5
      go_wp2_with fail
      refine wp_region_any (by kernel_rfl) ?_
      refine wpAny_of_C (C := fun W => Bx W X10 (Sn.vals ⟨sk1, sc1, si1, shi1, sf1, sb1, shf1, sic1⟩)) _ _ _ _ ?_
      refine wpAnyC_take 0 (.agg #[.int .u8 sk1, .int .u16 sc1, .int .u64 si1, .bool shi1, .int .i64 sf1, .int .i64 sb1, .bool shf1, .bool sic1]) rfl (by kernel_rfl) (by kernel_rfl) (by kernel_rfl) (fun _ _ _ h => h) (wanted_free rfl _) (fun W hW => by obtain ⟨y0, y1, y2, y3, y4, y5, y6, y7⟩ := bx_sn hW; simp only at y0 y1 y2 y3 y4 y5 y6 y7; clear hW; go_simp) ?_
      simp only [Act.put, List.getElem_toArray, List.getElem_cons_succ, List.getElem_cons_zero, List.setIfInBounds_toArray, List.set_cons_succ, List.set_cons_zero]
      refine wpAnyC_take 1 (.bool false) rfl (by kernel_rfl) (by kernel_rfl) (by kernel_rfl) (fun _ _ _ h => h) (wanted_free rfl _) (fun W hW => by go_simp) ?_
      simp only [Act.put, List.getElem_toArray, List.getElem_cons_succ, List.getElem_cons_zero, List.setIfInBounds_toArray, List.set_cons_succ, List.set_cons_zero]
      refine wpAnyC_one 2 hx5.out.drew rfl (by kernel_rfl) (wanted_free rfl _) (fun KA hKA => ?_)
      refine wp_store_bx 42 (.tmp 7) (.tmp 35) rfl (w.heap.size + 1) zeroS (Sn.vals ⟨sk1, sc1, si1, shi1, sf1, sb1, shf1, sic1⟩) rfl rfl hR5.out.drew rfl infoS (Sn.vals_one _) ?_
      intro W6 hR6 hg6
      have hx6 := hx5.out.drew.grown hg6 (fun e => by have e' : w.heap.size + 1 = X10 := Option.some.inj e; omega)
      have hB6 : Kpt (Below w.heap.size w W6) := ⟨hB5.out.drew.grown hg6 hB5.out.size (fun q hq => by cases hq; omega)⟩
      refine hKA _ _ ?_
      clear hKA KA
      try simp only [Act.put, List.getElem_toArray, List.getElem_cons_succ, List.getElem_cons_zero, List.setIfInBounds_toArray, List.set_cons_succ, List.set_cons_zero]
      refine wpAnyC_take 3 (.bool false) rfl (by kernel_rfl) (by kernel_rfl) (by kernel_rfl) (fun _ _ _ h => h) (wanted_free rfl _) (fun W hW => by go_simp) ?_
      simp only [Act.put, List.getElem_toArray, List.getElem_cons_succ, List.getElem_cons_zero, List.setIfInBounds_toArray, List.set_cons_succ, List.set_cons_zero]
      refine wpAnyC_done hx6 (by kernel_rfl) ?_
      obtain ⟨c0, c1, c2, c3, c4, c5, c6, c7⟩ := bx_sn hR6
      simp only at c0 c1 c2 c3 c4 c5 c6 c7
      clear hx5 hx6 hR6 hg6 hR5
      go_wp2_with fail
      refine bodyPost_ret (v := .tuple #[.bool false, .agg (Sn.vals ⟨sk1, sc1, si1, shi1, sf1, sb1, shf1, sic1⟩), .bool false]) (by simp [results, Try.results12, go_sem, c0, c1, c2, c3, c4, c5, c6, c7, Sn.vals]) rfl ⟨rfl, hB6.out⟩
  · go_simp
    obtain ⟨W1, hWE⟩ : ∃ W, W = W0.alloc (.cells #[.bool false, .bool false, .bool false] 23) := ⟨_, rfl⟩
    have hb7 : Below W0.heap.size W0 W1 := by rw [hWE]; exact (Below.refl _ _).alloc (Nat.le_refl _) _
    have hV1 : Bx W1 W0.heap.size noV.vals := by rw [hWE]; exact bx_new W0 noV.vals 23
    rw [← hWE]
    clear hWE
    have hP1 := hP0.below' hb7
    have hR1 := hR0.below' hb7
    have hC1 := hC0.below hb7 (Nat.lt_of_lt_of_le hb hB0.size)
    have hz1 := (hb7.cell (p := ⟨w.heap.size, 1, none⟩) (by show w.heap.size < _; omega)).trans hz0
    have hy1 := (hb7.cell (p := ⟨w.heap.size, 11, none⟩) (by show w.heap.size < _; omega)).trans hy0
    have hB1 := hB0.trans (hb7.mono hB0.size)
    have hS1 : w.heap.size + 2 ≤ W1.heap.size := Nat.le_trans hS0 hb7.size
    have hM1 : W0.heap.size < W1.heap.size := hV1.lt
    refine hKA _ _ ?_
    clear hKA KA hb7
    try simp only [Act.put, List.getElem_toArray, List.getElem_cons_succ, List.getElem_cons_zero, List.setIfInBounds_toArray, List.set_cons_succ, List.set_cons_zero]
    refine wpAnyC_two 7 13 ⟨hP1, hz1⟩ rfl rfl (by kernel_rfl) (wanted_free rfl _) (wanted_free rfl _) (fun KA hKA => ?_) (fun KA hKA => ?_)
    · go_simp
      refine (HR.out W1 hC1 (Nat.lt_of_lt_of_le hb hB1.size)).mono ?_
      rintro e W2 ⟨⟨v', rfl⟩, hb7⟩
      have hP2 := hP1.below' hb7
      have hR2 := hR1.below' hb7
      have hC2 := hC1.below hb7 (Nat.lt_of_lt_of_le hb hB1.size)
      have hz2 := (hb7.cell (p := ⟨w.heap.size, 1, none⟩) (by show w.heap.size < _; omega)).trans hz1
      have hy2 := (hb7.cell (p := ⟨w.heap.size, 11, none⟩) (by show w.heap.size < _; omega)).trans hy1
      have hB2 := hB1.trans (hb7.mono hB1.size)
      have hS2 : w.heap.size + 2 ≤ W2.heap.size := Nat.le_trans hS1 hb7.size
      have hM2 : W1.heap.size ≤ W2.heap.size := hb7.size
      have hV2 := hV1.below' hb7
      refine hKA _ _ ?_
      clear hKA KA hb7
      try simp only [Act.put, List.getElem_toArray, List.getElem_cons_succ, List.getElem_cons_zero, List.setIfInBounds_toArray, List.set_cons_succ, List.set_cons_zero]
      refine wpAnyC_take 8 (.tuple #[.agg v'.vals, .agg s'.vals, .bool false]) rfl (by kernel_rfl) (by kernel_rfl) (by kernel_rfl) (fun _ _ _ h => h) (wanted_free rfl _) (fun W hW => by go_simp) ?_
      simp only [Act.put, List.getElem_toArray, List.getElem_cons_succ, List.getElem_cons_zero, List.setIfInBounds_toArray, List.set_cons_succ, List.set_cons_zero]
      refine wpAnyC_take 9 (.agg v'.vals) rfl (by kernel_rfl) (by kernel_rfl) (by kernel_rfl) (fun _ _ _ h => h) (wanted_free rfl _) (fun W hW => by go_simp) ?_
      simp only [Act.put, List.getElem_toArray, List.getElem_cons_succ, List.getElem_cons_zero, List.setIfInBounds_toArray, List.set_cons_succ, List.set_cons_zero]
      refine wpAnyC_take 10 (.agg s'.vals) rfl (by kernel_rfl) (by kernel_rfl) (by kernel_rfl) (fun _ _ _ h => h) (wanted_free rfl _) (fun W hW => by go_simp) ?_
      simp only [Act.put, List.getElem_toArray, List.getElem_cons_succ, List.getElem_cons_zero, List.setIfInBounds_toArray, List.set_cons_succ, List.set_cons_zero]
      refine wpAnyC_take 11 (.bool false) rfl (by kernel_rfl) (by kernel_rfl) (by kernel_rfl) (fun _ _ _ h => h) (wanted_free rfl _) (fun W hW => by go_simp) ?_
      simp only [Act.put, List.getElem_toArray, List.getElem_cons_succ, List.getElem_cons_zero, List.setIfInBounds_toArray, List.set_cons_succ, List.set_cons_zero]
      refine wpAnyC_one 13 ⟨hP2, hz2⟩ rfl (by kernel_rfl) (wanted_free rfl _) (fun KA hKA => ?_)
      go_simp
      obtain ⟨W3, hWE⟩ : ∃ W, W = W2.alloc (.cells #[.int .u8 0, .int .u16 0, .int .u64 0, .bool false, .int .i64 0, .int .i64 0, .bool false, .bool false] 42) := ⟨_, rfl⟩
      have hb7 : Below W2.heap.size W2 W3 := by rw [hWE]; exact (Below.refl _ _).alloc (Nat.le_refl _) _
      have hX3 : Bx W3 W2.heap.size zeroS := by rw [hWE]; exact bx_new W2 zeroS 42
      rw [← hWE]
      clear hWE
      have hP3 := hP2.below' hb7
      have hR3 := hR2.below' hb7
      have hC3 := hC2.below hb7 (Nat.lt_of_lt_of_le hb hB2.size)
      have hz3 := (hb7.cell (p := ⟨w.heap.size, 1, none⟩) (by show w.heap.size < _; omega)).trans hz2
      have hy3 := (hb7.cell (p := ⟨w.heap.size, 11, none⟩) (by show w.heap.size < _; omega)).trans hy2
      have hB3 := hB2.trans (hb7.mono hB2.size)
      have hS3 : w.heap.size + 2 ≤ W3.heap.size := Nat.le_trans hS2 hb7.size
      have hM3 : W2.heap.size < W3.heap.size := hX3.lt
      have hV3 := hV2.below' hb7
      refine hKA _ _ ?_
      clear hKA KA hb7
      try simp only [Act.put, List.getElem_toArray, List.getElem_cons_succ, List.getElem_cons_zero, List.setIfInBounds_toArray, List.set_cons_succ, List.set_cons_zero]
      have hVl := hV3.lt
      have hXl := hX3.lt
      refine wpAnyC_one 14 ⟨hP3, hz3⟩ rfl (by kernel_rfl) (wanted_free rfl _) (fun KA hKA => ?_)
      refine wp_store_bx 23 (.tmp 9) (.tmp 30) rfl W0.heap.size noV.vals v'.vals rfl rfl hV3 rfl infoV (Vs.vals_one _) ?_
      intro W4 hV4 hg4
      have hX4 := hX3.grown hg4 (fun e => by have e' : W0.heap.size = W2.heap.size := Option.some.inj e; omega)
      have hR4 := hR3.grown hg4 (fun e => by have e' : W0.heap.size = w.heap.size + 1 := Option.some.inj e; omega)
      have hP4 := hP3.grown hg4 (fun e => by have e' : W0.heap.size = B := Option.some.inj e; omega)
      have hz4 := (far_cell hg4 ⟨w.heap.size, 1, none⟩ (by show w.heap.size < W3.heap.size; omega) (fun e => by have e' : W0.heap.size = w.heap.size := Option.some.inj e; omega)).trans hz3
      have hy4 := (far_cell hg4 ⟨w.heap.size, 11, none⟩ (by show w.heap.size < W3.heap.size; omega) (fun e => by have e' : W0.heap.size = w.heap.size := Option.some.inj e; omega)).trans hy3
      have hB4 := hB3.grown hg4 hB3.size (fun q hq => by cases hq; omega)
      refine hKA _ _ ?_
      clear hKA KA
      try simp only [Act.put, List.getElem_toArray, List.getElem_cons_succ, List.getElem_cons_zero, List.setIfInBounds_toArray, List.set_cons_succ, List.set_cons_zero]
      refine wpAnyC_one 15 ⟨hP4, hz4⟩ rfl (by kernel_rfl) (wanted_free rfl _) (fun KA hKA => ?_)
      refine wp_store_bx 42 (.tmp 10) (.tmp 31) rfl W2.heap.size zeroS s'.vals rfl rfl hX4 rfl infoS (Sn.vals_one _) ?_
      intro W5 hX5 hg5
      have hV5 := hV4.grown hg5 (fun e => by have e' : W2.heap.size = W0.heap.size := Option.some.inj e; omega)
      have hR5 := hR4.grown hg5 (fun e => by have e' : W2.heap.size = w.heap.size + 1 := Option.some.inj e; omega)
      have hP5 := hP4.grown hg5 (fun e => by have e' : W2.heap.size = B := Option.some.inj e; omega)
      have hS4 : W3.heap.size ≤ W4.heap.size := hg4.size
      have hz5 := (far_cell hg5 ⟨w.heap.size, 1, none⟩ (by show w.heap.size < W4.heap.size; omega) (fun e => by have e' : W2.heap.size = w.heap.size := Option.some.inj e; omega)).trans hz4
      have hy5 := (far_cell hg5 ⟨w.heap.size, 11, none⟩ (by show w.heap.size < W4.heap.size; omega) (fun e => by have e' : W2.heap.size = w.heap.size := Option.some.inj e; omega)).trans hy4
      have hB5 := hB4.grown hg5 hB4.size (fun q hq => by cases hq; omega)
      refine hKA _ _ ?_
      clear hKA KA
      try simp only [Act.put, List.getElem_toArray, List.getElem_cons_succ, List.getElem_cons_zero, List.setIfInBounds_toArray, List.set_cons_succ, List.set_cons_zero]
      refine wpAnyC_take 16 (.bool false) rfl (by kernel_rfl) (by kernel_rfl) (by kernel_rfl) (fun _ _ _ h => h) (wanted_free rfl _) (fun W hW => by go_simp) ?_
      simp only [Act.put, List.getElem_toArray, List.getElem_cons_succ, List.getElem_cons_zero, List.setIfInBounds_toArray, List.set_cons_succ, List.set_cons_zero]
      refine wpAnyC_done ⟨hP5, hz5⟩ (by kernel_rfl) ?_
      obtain ⟨X9, hX9⟩ : ∃ X, X = W0.heap.size := ⟨_, rfl⟩
      obtain ⟨X10, hX10⟩ : ∃ X, X = W2.heap.size := ⟨_, rfl⟩
      have hd1 : X9 ≠ X10 ∧ w.heap.size + 2 ≤ X9 ∧ w.heap.size + 2 ≤ X10 ∧ X9 ≠ B ∧ X10 ≠ B := by omega
      rw [← hX9] at hV5 ⊢
      rw [← hX10] at hX5 ⊢
      clear hX9 hX10 hVl hXl hS4 hg4 hg5 hV4 hX4 hR4 hP4 hz4 hy4 hB4 hz5
      clear hP0 hR0 hC0 hz0 hy0 hB0 hP1 hR1 hC1 hz1 hy1 hB1 hP2 hR2 hC2 hz2 hy2 hB2 hP3 hR3 hC3 hz3 hy3 hB3 hM1 hM2 hM3 hS0 hS1 hS2 hS3 hV3 hX3
      have hx5 := Kpt.mk hX5
      clear hX5
      obtain ⟨sk1, sc1, si1, shi1, sf1, sb1, shf1, sic1⟩ := s'
      have hB5 := Kpt.mk hB5
      have hR5 := Kpt.mk hR5
      clear hV5 hP5 hy5
      go_wp2_with fail
      refine wp_region_any (by kernel_rfl) ?_
      refine wpAny_of_C (C := fun W => Bx W X10 (Sn.vals ⟨sk1, sc1, si1, shi1, sf1, sb1, shf1, sic1⟩)) _ _ _ _ ?_
      refine wpAnyC_take 0 (.agg #[.int .u8 sk1, .int .u16 sc1, .int .u64 si1, .bool shi1, .int .i64 sf1, .int .i64 sb1, .bool shf1, .bool sic1]) rfl (by kernel_rfl) (by kernel_rfl) (by kernel_rfl) (fun _ _ _ h => h) (wanted_free rfl _) (fun W hW => by obtain ⟨y0, y1, y2, y3, y4, y5, y6, y7⟩ := bx_sn hW; simp only at y0 y1 y2 y3 y4 y5 y6 y7; clear hW; go_simp) ?_
      simp only [Act.put, List.getElem_toArray, List.getElem_cons_succ, List.getElem_cons_zero, List.setIfInBounds_toArray, List.set_cons_succ, List.set_cons_zero]
      refine wpAnyC_take 1 (.bool false) rfl (by kernel_rfl) (by kernel_rfl) (by kernel_rfl) (fun _ _ _ h => h) (wanted_free rfl _) (fun W hW => by go_simp) ?_
      simp only [Act.put, List.getElem_toArray, List.getElem_cons_succ, List.getElem_cons_zero, List.setIfInBounds_toArray, List.set_cons_succ, List.set_cons_zero]
      refine wpAnyC_one 2 hx5.out.drew rfl (by kernel_rfl) (wanted_free rfl _) (fun KA hKA => ?_)
      refine wp_store_bx 42 (.tmp 7) (.tmp 35) rfl (w.heap.size + 1) zeroS (Sn.vals ⟨sk1, sc1, si1, shi1, sf1, sb1, shf1, sic1⟩) rfl rfl hR5.out.drew rfl infoS (Sn.vals_one _) ?_
      intro W6 hR6 hg6
      have hx6 := hx5.out.drew.grown hg6 (fun e => by have e' : w.heap.size + 1 = X10 := Option.some.inj e; omega)
      have hB6 : Kpt (Below w.heap.size w W6) := ⟨hB5.out.drew.grown hg6 hB5.out.size (fun q hq => by cases hq; omega)⟩
      refine hKA _ _ ?_
      clear hKA KA
      try simp only [Act.put, List.getElem_toArray, List.getElem_cons_succ, List.getElem_cons_zero, List.setIfInBounds_toArray, List.set_cons_succ, List.set_cons_zero]
      refine wpAnyC_take 3 (.bool false) rfl (by kernel_rfl) (by kernel_rfl) (by kernel_rfl) (fun _ _ _ h => h) (wanted_free rfl _) (fun W hW => by go_simp) ?_
      simp only [Act.put, List.getElem_toArray, List.getElem_cons_succ, List.getElem_cons_zero, List.setIfInBounds_toArray, List.set_cons_succ, List.set_cons_zero]
      refine wpAnyC_done hx6 (by kernel_rfl) ?_
      obtain ⟨c0, c1, c2, c3, c4, c5, c6, c7⟩ := bx_sn hR6
      simp only at c0 c1 c2 c3 c4 c5 c6 c7
      clear hx5 hx6 hR6 hg6 hR5
      go_wp2_with fail
      refine bodyPost_ret (v := .tuple #[.bool false, .agg (Sn.vals ⟨sk1, sc1, si1, shi1, sf1, sb1, shf1, sic1⟩), .bool false]) (by simp [results, Try.results12, go_sem, c0, c1, c2, c3, c4, c5, c6, c7, Sn.vals]) rfl ⟨rfl, hB6.out⟩
    · go_simp
      obtain ⟨W2, hWE⟩ : ∃ W, W = W1.alloc (.cells #[.int .u8 0, .int .u16 0, .int .u64 0, .bool false, .int .i64 0, .int .i64 0, .bool false, .bool false] 42) := ⟨_, rfl⟩
      have hb7 : Below W1.heap.size W1 W2 := by rw [hWE]; exact (Below.refl _ _).alloc (Nat.le_refl _) _
      have hX2 : Bx W2 W1.heap.size zeroS := by rw [hWE]; exact bx_new W1 zeroS 42
      rw [← hWE]
      clear hWE
      have hP2 := hP1.below' hb7
      have hR2 := hR1.below' hb7
      have hC2 := hC1.below hb7 (Nat.lt_of_lt_of_le hb hB1.size)
      have hz2 := (hb7.cell (p := ⟨w.heap.size, 1, none⟩) (by show w.heap.size < _; omega)).trans hz1
      have hy2 := (hb7.cell (p := ⟨w.heap.size, 11, none⟩) (by show w.heap.size < _; omega)).trans hy1
      have hB2 := hB1.trans (hb7.mono hB1.size)
      have hS2 : w.heap.size + 2 ≤ W2.heap.size := Nat.le_trans hS1 hb7.size
      have hM2 : W1.heap.size < W2.heap.size := hX2.lt
      have hV2 := hV1.below' hb7
      refine hKA _ _ ?_
      clear hKA KA hb7
      try simp only [Act.put, List.getElem_toArray, List.getElem_cons_succ, List.getElem_cons_zero, List.setIfInBounds_toArray, List.set_cons_succ, List.set_cons_zero]
      refine wpAnyC_one 7 ⟨hP2, hz2⟩ rfl (by kernel_rfl) (wanted_free rfl _) (fun KA hKA => ?_)
      go_simp
      refine (HR.out W2 hC2 (Nat.lt_of_lt_of_le hb hB2.size)).mono ?_
      rintro e W3 ⟨⟨v', rfl⟩, hb7⟩
      have hP3 := hP2.below' hb7
      have hR3 := hR2.below' hb7
      have hC3 := hC2.below hb7 (Nat.lt_of_lt_of_le hb hB2.size)
      have hz3 := (hb7.cell (p := ⟨w.heap.size, 1, none⟩) (by show w.heap.size < _; omega)).trans hz2
      have hy3 := (hb7.cell (p := ⟨w.heap.size, 11, none⟩) (by show w.heap.size < _; omega)).trans hy2
      have hB3 := hB2.trans (hb7.mono hB2.size)
      have hS3 : w.heap.size + 2 ≤ W3.heap.size := Nat.le_trans hS2 hb7.size
      have hM3 : W2.heap.size ≤ W3.heap.size := hb7.size
      have hV3 := hV2.below' hb7
      have hX3 := hX2.below' hb7
      refine hKA _ _ ?_
      clear hKA KA hb7
      try simp only [Act.put, List.getElem_toArray, List.getElem_cons_succ, List.getElem_cons_zero, List.setIfInBounds_toArray, List.set_cons_succ, List.set_cons_zero]
      refine wpAnyC_take 8 (.tuple #[.agg v'.vals, .agg s'.vals, .bool false]) rfl (by kernel_rfl) (by kernel_rfl) (by kernel_rfl) (fun _ _ _ h => h) (wanted_free rfl _) (fun W hW => by go_simp) ?_
      simp only [Act.put, List.getElem_toArray, List.getElem_cons_succ, List.getElem_cons_zero, List.setIfInBounds_toArray, List.set_cons_succ, List.set_cons_zero]
      refine wpAnyC_take 9 (.agg v'.vals) rfl (by kernel_rfl) (by kernel_rfl) (by kernel_rfl) (fun _ _ _ h => h) (wanted_free rfl _) (fun W hW => by go_simp) ?_
      simp only [Act.put, List.getElem_toArray, List.getElem_cons_succ, List.getElem_cons_zero, List.setIfInBounds_toArray, List.set_cons_succ, List.set_cons_zero]
      refine wpAnyC_take 10 (.agg s'.vals) rfl (by kernel_rfl) (by kernel_rfl) (by kernel_rfl) (fun _ _ _ h => h) (wanted_free rfl _) (fun W hW => by go_simp) ?_
      simp only [Act.put, List.getElem_toArray, List.getElem_cons_succ, List.getElem_cons_zero, List.setIfInBounds_toArray, List.set_cons_succ, List.set_cons_zero]
      refine wpAnyC_take 11 (.bool false) rfl (by kernel_rfl) (by kernel_rfl) (by kernel_rfl) (fun _ _ _ h => h) (wanted_free rfl _) (fun W hW => by go_simp) ?_
      simp only [Act.put, List.getElem_toArray, List.getElem_cons_succ, List.getElem_cons_zero, List.setIfInBounds_toArray, List.set_cons_succ, List.set_cons_zero]
      have hVl := hV3.lt
      have hXl := hX3.lt
      refine wpAnyC_one 14 ⟨hP3, hz3⟩ rfl (by kernel_rfl) (wanted_free rfl _) (fun KA hKA => ?_)
      refine wp_store_bx 23 (.tmp 9) (.tmp 30) rfl W0.heap.size noV.vals v'.vals rfl rfl hV3 rfl infoV (Vs.vals_one _) ?_
      intro W4 hV4 hg4
      have hX4 := hX3.grown hg4 (fun e => by have e' : W0.heap.size = W1.heap.size := Option.some.inj e; omega)
      have hR4 := hR3.grown hg4 (fun e => by have e' : W0.heap.size = w.heap.size + 1 := Option.some.inj e; omega)
      have hP4 := hP3.grown hg4 (fun e => by have e' : W0.heap.size = B := Option.some.inj e; omega)
      have hz4 := (far_cell hg4 ⟨w.heap.size, 1, none⟩ (by show w.heap.size < W3.heap.size; omega) (fun e => by have e' : W0.heap.size = w.heap.size := Option.some.inj e; omega)).trans hz3
      have hy4 := (far_cell hg4 ⟨w.heap.size, 11, none⟩ (by show w.heap.size < W3.heap.size; omega) (fun e => by have e' : W0.heap.size = w.heap.size := Option.some.inj e; omega)).trans hy3
      have hB4 := hB3.grown hg4 hB3.size (fun q hq => by cases hq; omega)
      refine hKA _ _ ?_
      clear hKA KA
      try simp only [Act.put, List.getElem_toArray, List.getElem_cons_succ, List.getElem_cons_zero, List.setIfInBounds_toArray, List.set_cons_succ, List.set_cons_zero]
      refine wpAnyC_one 15 ⟨hP4, hz4⟩ rfl (by kernel_rfl) (wanted_free rfl _) (fun KA hKA => ?_)
      refine wp_store_bx 42 (.tmp 10) (.tmp 31) rfl W1.heap.size zeroS s'.vals rfl rfl hX4 rfl infoS (Sn.vals_one _) ?_
      intro W5 hX5 hg5
      have hV5 := hV4.grown hg5 (fun e => by have e' : W1.heap.size = W0.heap.size := Option.some.inj e; omega)
      have hR5 := hR4.grown hg5 (fun e => by have e' : W1.heap.size = w.heap.size + 1 := Option.some.inj e; omega)
      have hP5 := hP4.grown hg5 (fun e => by have e' : W1.heap.size = B := Option.some.inj e; omega)
      have hS4 : W3.heap.size ≤ W4.heap.size := hg4.size
      have hz5 := (far_cell hg5 ⟨w.heap.size, 1, none⟩ (by show w.heap.size < W4.heap.size; omega) (fun e => by have e' : W1.heap.size = w.heap.size := Option.some.inj e; omega)).trans hz4
      have hy5 := (far_cell hg5 ⟨w.heap.size, 11, none⟩ (by show w.heap.size < W4.heap.size; omega) (fun e => by have e' : W1.heap.size = w.heap.size := Option.some.inj e; omega)).trans hy4
      have hB5 := hB4.grown hg5 hB4.size (fun q hq => by cases hq; omega)
      refine hKA _ _ ?_
      clear hKA KA
      try simp only [Act.put, List.getElem_toArray, List.getElem_cons_succ, List.getElem_cons_zero, List.setIfInBounds_toArray, List.set_cons_succ, List.set_cons_zero]
      refine wpAnyC_take 16 (.bool false) rfl (by kernel_rfl) (by kernel_rfl) (by kernel_rfl) (fun _ _ _ h => h) (wanted_free rfl _) (fun W hW => by go_simp) ?_
      simp only [Act.put, List.getElem_toArray, List.getElem_cons_succ, List.getElem_cons_zero, List.setIfInBounds_toArray, List.set_cons_succ, List.set_cons_zero]
      refine wpAnyC_done ⟨hP5, hz5⟩ (by kernel_rfl) ?_
      obtain ⟨X9, hX9⟩ : ∃ X, X = W0.heap.size := ⟨_, rfl⟩
      obtain ⟨X10, hX10⟩ : ∃ X, X = W1.heap.size := ⟨_, rfl⟩
      have hd1 : X9 ≠ X10 ∧ w.heap.size + 2 ≤ X9 ∧ w.heap.size + 2 ≤ X10 ∧ X9 ≠ B ∧ X10 ≠ B := by omega
      rw [← hX9] at hV5 ⊢
      rw [← hX10] at hX5 ⊢
      clear hX9 hX10 hVl hXl hS4 hg4 hg5 hV4 hX4 hR4 hP4 hz4 hy4 hB4 hz5
      clear hP0 hR0 hC0 hz0 hy0 hB0 hP1 hR1 hC1 hz1 hy1 hB1 hP2 hR2 hC2 hz2 hy2 hB2 hP3 hR3 hC3 hz3 hy3 hB3 hM1 hM2 hM3 hS0 hS1 hS2 hS3 hV3 hX3
      have hx5 := Kpt.mk hX5
      clear hX5
      obtain ⟨sk1, sc1, si1, shi1, sf1, sb1, shf1, sic1⟩ := s'
      have hB5 := Kpt.mk hB5
      have hR5 := Kpt.mk hR5
      clear hV5 hP5 hy5
      go_wp2_with fail
      refine wp_region_any (by kernel_rfl) ?_
      refine wpAny_of_C (C := fun W => Bx W X10 (Sn.vals ⟨sk1, sc1, si1, shi1, sf1, sb1, shf1, sic1⟩)) _ _ _ _ ?_
      refine wpAnyC_take 0 (.agg #[.int .u8 sk1, .int .u16 sc1, .int .u64 si1, .bool shi1, .int .i64 sf1, .int .i64 sb1, .bool shf1, .bool sic1]) rfl (by kernel_rfl) (by kernel_rfl) (by kernel_rfl) (fun _ _ _ h => h) (wanted_free rfl _) (fun W hW => by obtain ⟨y0, y1, y2, y3, y4, y5, y6, y7⟩ := bx_sn hW; simp only at y0 y1 y2 y3 y4 y5 y6 y7; clear hW; go_simp) ?_
      simp only [Act.put, List.getElem_toArray, List.getElem_cons_succ, List.getElem_cons_zero, List.setIfInBounds_toArray, List.set_cons_succ, List.set_cons_zero]
      refine wpAnyC_take 1 (.bool false) rfl (by kernel_rfl) (by kernel_rfl) (by kernel_rfl) (fun _ _ _ h => h) (wanted_free rfl _) (fun W hW => by go_simp) ?_
      simp only [Act.put, List.getElem_toArray, List.getElem_cons_succ, List.getElem_cons_zero, List.setIfInBounds_toArray, List.set_cons_succ, List.set_cons_zero]
      refine wpAnyC_one 2 hx5.out.drew rfl (by kernel_rfl) (wanted_free rfl _) (fun KA hKA => ?_)
      refine wp_store_bx 42 (.tmp 7) (.tmp 35) rfl (w.heap.size + 1) zeroS (Sn.vals ⟨sk1, sc1, si1, shi1, sf1, sb1, shf1, sic1⟩) rfl rfl hR5.out.drew rfl infoS (Sn.vals_one _) ?_
      intro W6 hR6 hg6
      have hx6 := hx5.out.drew.grown hg6 (fun e => by have e' : w.heap.size + 1 = X10 := Option.some.inj e; omega)
      have hB6 : Kpt (Below w.heap.size w W6) := ⟨hB5.out.drew.grown hg6 hB5.out.size (fun q hq => by cases hq; omega)⟩
      refine hKA _ _ ?_
      clear hKA KA
      try simp only [Act.put, List.getElem_toArray, List.getElem_cons_succ, List.getElem_cons_zero, List.setIfInBounds_toArray, List.set_cons_succ, List.set_cons_zero]
      refine wpAnyC_take 3 (.bool false) rfl (by kernel_rfl) (by kernel_rfl) (by kernel_rfl) (fun _ _ _ h => h) (wanted_free rfl _) (fun W hW => by go_simp) ?_
      simp only [Act.put, List.getElem_toArray, List.getElem_cons_succ, List.getElem_cons_zero, List.setIfInBounds_toArray, List.set_cons_succ, List.set_cons_zero]
      refine wpAnyC_done hx6 (by kernel_rfl) ?_
      obtain ⟨c0, c1, c2, c3, c4, c5, c6, c7⟩ := bx_sn hR6
      simp only at c0 c1 c2 c3 c4 c5 c6 c7
      clear hx5 hx6 hR6 hg6 hR5
      go_wp2_with fail
      refine bodyPost_ret (v := .tuple #[.bool false, .agg (Sn.vals ⟨sk1, sc1, si1, shi1, sf1, sb1, shf1, sic1⟩), .bool false]) (by simp [results, Try.results12, go_sem, c0, c1, c2, c3, c4, c5, c6, c7, Sn.vals]) rfl ⟨rfl, hB6.out⟩
  · go_simp
    obtain ⟨W1, hWE⟩ : ∃ W, W = W0.alloc (.cells #[.int .u8 0, .int .u16 0, .int .u64 0, .bool false, .int .i64 0, .int .i64 0, .bool false, .bool false] 42) := ⟨_, rfl⟩
    have hb7 : Below W0.heap.size W0 W1 := by rw [hWE]; exact (Below.refl _ _).alloc (Nat.le_refl _) _
    have hX1 : Bx W1 W0.heap.size zeroS := by rw [hWE]; exact bx_new W0 zeroS 42
    rw [← hWE]
    clear hWE
    have hP1 := hP0.below' hb7
    have hR1 := hR0.below' hb7
    have hC1 := hC0.below hb7 (Nat.lt_of_lt_of_le hb hB0.size)
    have hz1 := (hb7.cell (p := ⟨w.heap.size, 1, none⟩) (by show w.heap.size < _; omega)).trans hz0
    have hy1 := (hb7.cell (p := ⟨w.heap.size, 11, none⟩) (by show w.heap.size < _; omega)).trans hy0
    have hB1 := hB0.trans (hb7.mono hB0.size)
    have hS1 : w.heap.size + 2 ≤ W1.heap.size := Nat.le_trans hS0 hb7.size
    have hM1 : W0.heap.size < W1.heap.size := hX1.lt
    refine hKA _ _ ?_
    clear hKA KA hb7
    try simp only [Act.put, List.getElem_toArray, List.getElem_cons_succ, List.getElem_cons_zero, List.setIfInBounds_toArray, List.set_cons_succ, List.set_cons_zero]
    refine wpAnyC_two 7 12 ⟨hP1, hz1⟩ rfl rfl (by kernel_rfl) (wanted_free rfl _) (wanted_free rfl _) (fun KA hKA => ?_) (fun KA hKA => ?_)
    · go_simp
      refine (HR.out W1 hC1 (Nat.lt_of_lt_of_le hb hB1.size)).mono ?_
      rintro e W2 ⟨⟨v', rfl⟩, hb7⟩
      have hP2 := hP1.below' hb7
      have hR2 := hR1.below' hb7
      have hC2 := hC1.below hb7 (Nat.lt_of_lt_of_le hb hB1.size)
      have hz2 := (hb7.cell (p := ⟨w.heap.size, 1, none⟩) (by show w.heap.size < _; omega)).trans hz1
      have hy2 := (hb7.cell (p := ⟨w.heap.size, 11, none⟩) (by show w.heap.size < _; omega)).trans hy1
      have hB2 := hB1.trans (hb7.mono hB1.size)
      have hS2 : w.heap.size + 2 ≤ W2.heap.size := Nat.le_trans hS1 hb7.size
      have hM2 : W1.heap.size ≤ W2.heap.size := hb7.size
      have hX2 := hX1.below' hb7
      refine hKA _ _ ?_
      clear hKA KA hb7
      try simp only [Act.put, List.getElem_toArray, List.getElem_cons_succ, List.getElem_cons_zero, List.setIfInBounds_toArray, List.set_cons_succ, List.set_cons_zero]
      refine wpAnyC_take 8 (.tuple #[.agg v'.vals, .agg s'.vals, .bool false]) rfl (by kernel_rfl) (by kernel_rfl) (by kernel_rfl) (fun _ _ _ h => h) (wanted_free rfl _) (fun W hW => by go_simp) ?_
      simp only [Act.put, List.getElem_toArray, List.getElem_cons_succ, List.getElem_cons_zero, List.setIfInBounds_toArray, List.set_cons_succ, List.set_cons_zero]
      refine wpAnyC_take 9 (.agg v'.vals) rfl (by kernel_rfl) (by kernel_rfl) (by kernel_rfl) (fun _ _ _ h => h) (wanted_free rfl _) (fun W hW => by go_simp) ?_
      simp only [Act.put, List.getElem_toArray, List.getElem_cons_succ, List.getElem_cons_zero, List.setIfInBounds_toArray, List.set_cons_succ, List.set_cons_zero]
      refine wpAnyC_take 10 (.agg s'.vals) rfl (by kernel_rfl) (by kernel_rfl) (by kernel_rfl) (fun _ _ _ h => h) (wanted_free rfl _) (fun W hW => by go_simp) ?_
      simp only [Act.put, List.getElem_toArray, List.getElem_cons_succ, List.getElem_cons_zero, List.setIfInBounds_toArray, List.set_cons_succ, List.set_cons_zero]
      refine wpAnyC_take 11 (.bool false) rfl (by kernel_rfl) (by kernel_rfl) (by kernel_rfl) (fun _ _ _ h => h) (wanted_free rfl _) (fun W hW => by go_simp) ?_
      simp only [Act.put, List.getElem_toArray, List.getElem_cons_succ, List.getElem_cons_zero, List.setIfInBounds_toArray, List.set_cons_succ, List.set_cons_zero]
      refine wpAnyC_one 12 ⟨hP2, hz2⟩ rfl (by kernel_rfl) (wanted_free rfl _) (fun KA hKA => ?_)
      go_simp
      obtain ⟨W3, hWE⟩ : ∃ W, W = W2.alloc (.cells #[.bool false, .bool false, .bool false] 23) := ⟨_, rfl⟩
      have hb7 : Below W2.heap.size W2 W3 := by rw [hWE]; exact (Below.refl _ _).alloc (Nat.le_refl _) _
      have hV3 : Bx W3 W2.heap.size noV.vals := by rw [hWE]; exact bx_new W2 noV.vals 23
      rw [← hWE]
      clear hWE
      have hP3 := hP2.below' hb7
      have hR3 := hR2.below' hb7
      have hC3 := hC2.below hb7 (Nat.lt_of_lt_of_le hb hB2.size)
      have hz3 := (hb7.cell (p := ⟨w.heap.size, 1, none⟩) (by show w.heap.size < _; omega)).trans hz2
      have hy3 := (hb7.cell (p := ⟨w.heap.size, 11, none⟩) (by show w.heap.size < _; omega)).trans hy2
      have hB3 := hB2.trans (hb7.mono hB2.size)
      have hS3 : w.heap.size + 2 ≤ W3.heap.size := Nat.le_trans hS2 hb7.size
      have hM3 : W2.heap.size < W3.heap.size := hV3.lt
      have hX3 := hX2.below' hb7
      refine hKA _ _ ?_
      clear hKA KA hb7
      try simp only [Act.put, List.getElem_toArray, List.getElem_cons_succ, List.getElem_cons_zero, List.setIfInBounds_toArray, List.set_cons_succ, List.set_cons_zero]
      have hVl := hV3.lt
      have hXl := hX3.lt
      refine wpAnyC_one 14 ⟨hP3, hz3⟩ rfl (by kernel_rfl) (wanted_free rfl _) (fun KA hKA => ?_)
      refine wp_store_bx 23 (.tmp 9) (.tmp 30) rfl W2.heap.size noV.vals v'.vals rfl rfl hV3 rfl infoV (Vs.vals_one _) ?_
      intro W4 hV4 hg4
      have hX4 := hX3.grown hg4 (fun e => by have e' : W2.heap.size = W0.heap.size := Option.some.inj e; omega)
      have hR4 := hR3.grown hg4 (fun e => by have e' : W2.heap.size = w.heap.size + 1 := Option.some.inj e; omega)
      have hP4 := hP3.grown hg4 (fun e => by have e' : W2.heap.size = B := Option.some.inj e; omega)
      have hz4 := (far_cell hg4 ⟨w.heap.size, 1, none⟩ (by show w.heap.size < W3.heap.size; omega) (fun e => by have e' : W2.heap.size = w.heap.size := Option.some.inj e; omega)).trans hz3
      have hy4 := (far_cell hg4 ⟨w.heap.size, 11, none⟩ (by show w.heap.size < W3.heap.size; omega) (fun e => by have e' : W2.heap.size = w.heap.size := Option.some.inj e; omega)).trans hy3
      have hB4 := hB3.grown hg4 hB3.size (fun q hq => by cases hq; omega)
      refine hKA _ _ ?_
      clear hKA KA
      try simp only [Act.put, List.getElem_toArray, List.getElem_cons_succ, List.getElem_cons_zero, List.setIfInBounds_toArray, List.set_cons_succ, List.set_cons_zero]
      refine wpAnyC_one 15 ⟨hP4, hz4⟩ rfl (by kernel_rfl) (wanted_free rfl _) (fun KA hKA => ?_)
      refine wp_store_bx 42 (.tmp 10) (.tmp 31) rfl W0.heap.size zeroS s'.vals rfl rfl hX4 rfl infoS (Sn.vals_one _) ?_
      intro W5 hX5 hg5
      have hV5 := hV4.grown hg5 (fun e => by have e' : W0.heap.size = W2.heap.size := Option.some.inj e; omega)
      have hR5 := hR4.grown hg5 (fun e => by have e' : W0.heap.size = w.heap.size + 1 := Option.some.inj e; omega)
      have hP5 := hP4.grown hg5 (fun e => by have e' : W0.heap.size = B := Option.some.inj e; omega)
      have hS4 : W3.heap.size ≤ W4.heap.size := hg4.size
      have hz5 := (far_cell hg5 ⟨w.heap.size, 1, none⟩ (by show w.heap.size < W4.heap.size; omega) (fun e => by have e' : W0.heap.size = w.heap.size := Option.some.inj e; omega)).trans hz4
      have hy5 := (far_cell hg5 ⟨w.heap.size, 11, none⟩ (by show w.heap.size < W4.heap.size; omega) (fun e => by have e' : W0.heap.size = w.heap.size := Option.some.inj e; omega)).trans hy4
      have hB5 := hB4.grown hg5 hB4.size (fun q hq => by cases hq; omega)
      refine hKA _ _ ?_
      clear hKA KA
      try simp only [Act.put, List.getElem_toArray, List.getElem_cons_succ, List.getElem_cons_zero, List.setIfInBounds_toArray, List.set_cons_succ, List.set_cons_zero]
      refine wpAnyC_take 16 (.bool false) rfl (by kernel_rfl) (by kernel_rfl) (by kernel_rfl) (fun _ _ _ h => h) (wanted_free rfl _) (fun W hW => by go_simp) ?_
      simp only [Act.put, List.getElem_toArray, List.getElem_cons_succ, List.getElem_cons_zero, List.setIfInBounds_toArray, List.set_cons_succ, List.set_cons_zero]
      refine wpAnyC_done ⟨hP5, hz5⟩ (by kernel_rfl) ?_
      obtain ⟨X9, hX9⟩ : ∃ X, X = W2.heap.size := ⟨_, rfl⟩
      obtain ⟨X10, hX10⟩ : ∃ X, X = W0.heap.size := ⟨_, rfl⟩
      have hd1 : X9 ≠ X10 ∧ w.heap.size + 2 ≤ X9 ∧ w.heap.size + 2 ≤ X10 ∧ X9 ≠ B ∧ X10 ≠ B := by omega
      rw [← hX9] at hV5 ⊢
      rw [← hX10] at hX5 ⊢
      clear hX9 hX10 hVl hXl hS4 hg4 hg5 hV4 hX4 hR4 hP4 hz4 hy4 hB4 hz5
      clear hP0 hR0 hC0 hz0 hy0 hB0 hP1 hR1 hC1 hz1 hy1 hB1 hP2 hR2 hC2 hz2 hy2 hB2 hP3 hR3 hC3 hz3 hy3 hB3 hM1 hM2 hM3 hS0 hS1 hS2 hS3 hV3 hX3
      have hx5 := Kpt.mk hX5
      clear hX5
      obtain ⟨sk1, sc1, si1, shi1, sf1, sb1, shf1, sic1⟩ := s'
      have hB5 := Kpt.mk hB5
      have hR5 := Kpt.mk hR5
      clear hV5 hP5 hy5
      go_wp2_with fail
      refine wp_region_any (by kernel_rfl) ?_
      refine wpAny_of_C (C := fun W => Bx W X10 (Sn.vals ⟨sk1, sc1, si1, shi1, sf1, sb1, shf1, sic1⟩)) _ _ _ _ ?_
      refine wpAnyC_take 0 (.agg #[.int .u8 sk1, .int .u16 sc1, .int .u64 si1, .bool shi1, .int .i64 sf1, .int .i64 sb1, .bool shf1, .bool sic1]) rfl (by kernel_rfl) (by kernel_rfl) (by kernel_rfl) (fun _ _ _ h => h) (wanted_free rfl _) (fun W hW => by obtain ⟨y0, y1, y2, y3, y4, y5, y6, y7⟩ := bx_sn hW; simp only at y0 y1 y2 y3 y4 y5 y6 y7; clear hW; go_simp) ?_
      simp only [Act.put, List.getElem_toArray, List.getElem_cons_succ, List.getElem_cons_zero, List.setIfInBounds_toArray, List.set_cons_succ, List.set_cons_zero]
      refine wpAnyC_take 1 (.bool false) rfl (by kernel_rfl) (by kernel_rfl) (by kernel_rfl) (fun _ _ _ h => h) (wanted_free rfl _) (fun W hW => by go_simp) ?_
      simp only [Act.put, List.getElem_toArray, List.getElem_cons_succ, List.getElem_cons_zero, List.setIfInBounds_toArray, List.set_cons_succ, List.set_cons_zero]
      refine wpAnyC_one 2 hx5.out.drew rfl (by kernel_rfl) (wanted_free rfl _) (fun KA hKA => ?_)
      refine wp_store_bx 42 (.tmp 7) (.tmp 35) rfl (w.heap.size + 1) zeroS (Sn.vals ⟨sk1, sc1, si1, shi1, sf1, sb1, shf1, sic1⟩) rfl rfl hR5.out.drew rfl infoS (Sn.vals_one _) ?_
      intro W6 hR6 hg6
      have hx6 := hx5.out.drew.grown hg6 (fun e => by have e' : w.heap.size + 1 = X10 := Option.some.inj e; omega)
      have hB6 : Kpt (Below w.heap.size w W6) := ⟨hB5.out.drew.grown hg6 hB5.out.size (fun q hq => by cases hq; omega)⟩
      refine hKA _ _ ?_
      clear hKA KA
      try simp only [Act.put, List.getElem_toArray, List.getElem_cons_succ, List.getElem_cons_zero, List.setIfInBounds_toArray, List.set_cons_succ, List.set_cons_zero]
      refine wpAnyC_take 3 (.bool false) rfl (by kernel_rfl) (by kernel_rfl) (by kernel_rfl) (fun _ _ _ h => h) (wanted_free rfl _) (fun W hW => by go_simp) ?_
      simp only [Act.put, List.getElem_toArray, List.getElem_cons_succ, List.getElem_cons_zero, List.setIfInBounds_toArray, List.set_cons_succ, List.set_cons_zero]
      refine wpAnyC_done hx6 (by kernel_rfl) ?_
      obtain ⟨c0, c1, c2, c3, c4, c5, c6, c7⟩ := bx_sn hR6
      simp only at c0 c1 c2 c3 c4 c5 c6 c7
      clear hx5 hx6 hR6 hg6 hR5
      go_wp2_with fail
      refine bodyPost_ret (v := .tuple #[.bool false, .agg (Sn.vals ⟨sk1, sc1, si1, shi1, sf1, sb1, shf1, sic1⟩), .bool false]) (by simp [results, Try.results12, go_sem, c0, c1, c2, c3, c4, c5, c6, c7, Sn.vals]) rfl ⟨rfl, hB6.out⟩
    · go_simp
      obtain ⟨W2, hWE⟩ : ∃ W, W = W1.alloc (.cells #[.bool false, .bool false, .bool false] 23) := ⟨_, rfl⟩
      have hb7 : Below W1.heap.size W1 W2 := by rw [hWE]; exact (Below.refl _ _).alloc (Nat.le_refl _) _
      have hV2 : Bx W2 W1.heap.size noV.vals := by rw [hWE]; exact bx_new W1 noV.vals 23
      rw [← hWE]
      clear hWE
      have hP2 := hP1.below' hb7
      have hR2 := hR1.below' hb7
      have hC2 := hC1.below hb7 (Nat.lt_of_lt_of_le hb hB1.size)
      have hz2 := (hb7.cell (p := ⟨w.heap.size, 1, none⟩) (by show w.heap.size < _; omega)).trans hz1
      have hy2 := (hb7.cell (p := ⟨w.heap.size, 11, none⟩) (by show w.heap.size < _; omega)).trans hy1
      have hB2 := hB1.trans (hb7.mono hB1.size)
      have hS2 : w.heap.size + 2 ≤ W2.heap.size := Nat.le_trans hS1 hb7.size
      have hM2 : W1.heap.size < W2.heap.size := hV2.lt
      have hX2 := hX1.below' hb7
      refine hKA _ _ ?_
      clear hKA KA hb7
      try simp only [Act.put, List.getElem_toArray, List.getElem_cons_succ, List.getElem_cons_zero, List.setIfInBounds_toArray, List.set_cons_succ, List.set_cons_zero]
      refine wpAnyC_one 7 ⟨hP2, hz2⟩ rfl (by kernel_rfl) (wanted_free rfl _) (fun KA hKA => ?_)
      go_simp
      refine (HR.out W2 hC2 (Nat.lt_of_lt_of_le hb hB2.size)).mono ?_
      rintro e W3 ⟨⟨v', rfl⟩, hb7⟩
      have hP3 := hP2.below' hb7
      have hR3 := hR2.below' hb7
      have hC3 := hC2.below hb7 (Nat.lt_of_lt_of_le hb hB2.size)
      have hz3 := (hb7.cell (p := ⟨w.heap.size, 1, none⟩) (by show w.heap.size < _; omega)).trans hz2
      have hy3 := (hb7.cell (p := ⟨w.heap.size, 11, none⟩) (by show w.heap.size < _; omega)).trans hy2
      have hB3 := hB2.trans (hb7.mono hB2.size)
      have hS3 : w.heap.size + 2 ≤ W3.heap.size := Nat.le_trans hS2 hb7.size
      have hM3 : W2.heap.size ≤ W3.heap.size := hb7.size
      have hV3 := hV2.below' hb7
      have hX3 := hX2.below' hb7
      refine hKA _ _ ?_
      clear hKA KA hb7
      try simp only [Act.put, List.getElem_toArray, List.getElem_cons_succ, List.getElem_cons_zero, List.setIfInBounds_toArray, List.set_cons_succ, List.set_cons_zero]
      refine wpAnyC_take 8 (.tuple #[.agg v'.vals, .agg s'.vals, .bool false]) rfl (by kernel_rfl) (by kernel_rfl) (by kernel_rfl) (fun _ _ _ h => h) (wanted_free rfl _) (fun W hW => by go_simp) ?_
      simp only [Act.put, List.getElem_toArray, List.getElem_cons_succ, List.getElem_cons_zero, List.setIfInBounds_toArray, List.set_cons_succ, List.set_cons_zero]
      refine wpAnyC_take 9 (.agg v'.vals) rfl (by kernel_rfl) (by kernel_rfl) (by kernel_rfl) (fun _ _ _ h => h) (wanted_free rfl _) (fun W hW => by go_simp) ?_
      simp only [Act.put, List.getElem_toArray, List.getElem_cons_succ, List.getElem_cons_zero, List.setIfInBounds_toArray, List.set_cons_succ, List.set_cons_zero]
      refine wpAnyC_take 10 (.agg s'.vals) rfl (by kernel_rfl) (by kernel_rfl) (by kernel_rfl) (fun _ _ _ h => h) (wanted_free rfl _) (fun W hW => by go_simp) ?_
      simp only [Act.put, List.getElem_toArray, List.getElem_cons_succ, List.getElem_cons_zero, List.setIfInBounds_toArray, List.set_cons_succ, List.set_cons_zero]
      refine wpAnyC_take 11 (.bool false) rfl (by kernel_rfl) (by kernel_rfl) (by kernel_rfl) (fun _ _ _ h => h) (wanted_free rfl _) (fun W hW => by go_simp) ?_
      simp only [Act.put, List.getElem_toArray, List.getElem_cons_succ, List.getElem_cons_zero, List.setIfInBounds_toArray, List.set_cons_succ, List.set_cons_zero]
      have hVl := hV3.lt
      have hXl := hX3.lt
      refine wpAnyC_one 14 ⟨hP3, hz3⟩ rfl (by kernel_rfl) (wanted_free rfl _) (fun KA hKA => ?_)
      refine wp_store_bx 23 (.tmp 9) (.tmp 30) rfl W1.heap.size noV.vals v'.vals rfl rfl hV3 rfl infoV (Vs.vals_one _) ?_
      intro W4 hV4 hg4
      have hX4 := hX3.grown hg4 (fun e => by have e' : W1.heap.size = W0.heap.size := Option.some.inj e; omega)
      have hR4 := hR3.grown hg4 (fun e => by have e' : W1.heap.size = w.heap.size + 1 := Option.some.inj e; omega)
      have hP4 := hP3.grown hg4 (fun e => by have e' : W1.heap.size = B := Option.some.inj e; omega)
      have hz4 := (far_cell hg4 ⟨w.heap.size, 1, none⟩ (by show w.heap.size < W3.heap.size; omega) (fun e => by have e' : W1.heap.size = w.heap.size := Option.some.inj e; omega)).trans hz3
      have hy4 := (far_cell hg4 ⟨w.heap.size, 11, none⟩ (by show w.heap.size < W3.heap.size; omega) (fun e => by have e' : W1.heap.size = w.heap.size := Option.some.inj e; omega)).trans hy3
      have hB4 := hB3.grown hg4 hB3.size (fun q hq => by cases hq; omega)
      refine hKA _ _ ?_
      clear hKA KA
      try simp only [Act.put, List.getElem_toArray, List.getElem_cons_succ, List.getElem_cons_zero, List.setIfInBounds_toArray, List.set_cons_succ, List.set_cons_zero]
      refine wpAnyC_one 15 ⟨hP4, hz4⟩ rfl (by kernel_rfl) (wanted_free rfl _) (fun KA hKA => ?_)
      refine wp_store_bx 42 (.tmp 10) (.tmp 31) rfl W0.heap.size zeroS s'.vals rfl rfl hX4 rfl infoS (Sn.vals_one _) ?_
      intro W5 hX5 hg5
      have hV5 := hV4.grown hg5 (fun e => by have e' : W0.heap.size = W1.heap.size := Option.some.inj e; omega)
      have hR5 := hR4.grown hg5 (fun e => by have e' : W0.heap.size = w.heap.size + 1 := Option.some.inj e; omega)
      have hP5 := hP4.grown hg5 (fun e => by have e' : W0.heap.size = B := Option.some.inj e; omega)
      have hS4 : W3.heap.size ≤ W4.heap.size := hg4.size
      have hz5 := (far_cell hg5 ⟨w.heap.size, 1, none⟩ (by show w.heap.size < W4.heap.size; omega) (fun e => by have e' : W0.heap.size = w.heap.size := Option.some.inj e; omega)).trans hz4
      have hy5 := (far_cell hg5 ⟨w.heap.size, 11, none⟩ (by show w.heap.size < W4.heap.size; omega) (fun e => by have e' : W0.heap.size = w.heap.size := Option.some.inj e; omega)).trans hy4
      have hB5 := hB4.grown hg5 hB4.size (fun q hq => by cases hq; omega)
      refine hKA _ _ ?_
      clear hKA KA
      try simp only [Act.put, List.getElem_toArray, List.getElem_cons_succ, List.getElem_cons_zero, List.setIfInBounds_toArray, List.set_cons_succ, List.set_cons_zero]
      refine wpAnyC_take 16 (.bool false) rfl (by kernel_rfl) (by kernel_rfl) (by kernel_rfl) (fun _ _ _ h => h) (wanted_free rfl _) (fun W hW => by go_simp) ?_
      simp only [Act.put, List.getElem_toArray, List.getElem_cons_succ, List.getElem_cons_zero, List.setIfInBounds_toArray, List.set_cons_succ, List.set_cons_zero]
      refine wpAnyC_done ⟨hP5, hz5⟩ (by kernel_rfl) ?_
      obtain ⟨X9, hX9⟩ : ∃ X, X = W1.heap.size := ⟨_, rfl⟩
      obtain ⟨X10, hX10⟩ : ∃ X, X = W0.heap.size := ⟨_, rfl⟩
      have hd1 : X9 ≠ X10 ∧ w.heap.size + 2 ≤ X9 ∧ w.heap.size + 2 ≤ X10 ∧ X9 ≠ B ∧ X10 ≠ B := by omega
      rw [← hX9] at hV5 ⊢
      rw [← hX10] at hX5 ⊢
      clear hX9 hX10 hVl hXl hS4 hg4 hg5 hV4 hX4 hR4 hP4 hz4 hy4 hB4 hz5
      clear hP0 hR0 hC0 hz0 hy0 hB0 hP1 hR1 hC1 hz1 hy1 hB1 hP2 hR2 hC2 hz2 hy2 hB2 hP3 hR3 hC3 hz3 hy3 hB3 hM1 hM2 hM3 hS0 hS1 hS2 hS3 hV3 hX3
      have hx5 := Kpt.mk hX5
      clear hX5
      obtain ⟨sk1, sc1, si1, shi1, sf1, sb1, shf1, sic1⟩ := s'
      have hB5 := Kpt.mk hB5
      have hR5 := Kpt.mk hR5
      clear hV5 hP5 hy5
      go_wp2_with fail
      refine wp_region_any (by kernel_rfl) ?_
      refine wpAny_of_C (C := fun W => Bx W X10 (Sn.vals ⟨sk1, sc1, si1, shi1, sf1, sb1, shf1, sic1⟩)) _ _ _ _ ?_
      refine wpAnyC_take 0 (.agg #[.int .u8 sk1, .int .u16 sc1, .int .u64 si1, .bool shi1, .int .i64 sf1, .int .i64 sb1, .bool shf1, .bool sic1]) rfl (by kernel_rfl) (by kernel_rfl) (by kernel_rfl) (fun _ _ _ h => h) (wanted_free rfl _) (fun W hW => by obtain ⟨y0, y1, y2, y3, y4, y5, y6, y7⟩ := bx_sn hW; simp only at y0 y1 y2 y3 y4 y5 y6 y7; clear hW; go_simp) ?_
      simp only [Act.put, List.getElem_toArray, List.getElem_cons_succ, List.getElem_cons_zero, List.setIfInBounds_toArray, List.set_cons_succ, List.set_cons_zero]
      refine wpAnyC_take 1 (.bool false) rfl (by kernel_rfl) (by kernel_rfl) (by kernel_rfl) (fun _ _ _ h => h) (wanted_free rfl _) (fun W hW => by go_simp) ?_
      simp only [Act.put, List.getElem_toArray, List.getElem_cons_succ, List.getElem_cons_zero, List.setIfInBounds_toArray, List.set_cons_succ, List.set_cons_zero]
      refine wpAnyC_one 2 hx5.out.drew rfl (by kernel_rfl) (wanted_free rfl _) (fun KA hKA => ?_)
      refine wp_store_bx 42 (.tmp 7) (.tmp 35) rfl (w.heap.size + 1) zeroS (Sn.vals ⟨sk1, sc1, si1, shi1, sf1, sb1, shf1, sic1⟩) rfl rfl hR5.out.drew rfl infoS (Sn.vals_one _) ?_
      intro W6 hR6 hg6
      have hx6 := hx5.out.drew.grown hg6 (fun e => by have e' : w.heap.size + 1 = X10 := Option.some.inj e; omega)
      have hB6 : Kpt (Below w.heap.size w W6) := ⟨hB5.out.drew.grown hg6 hB5.out.size (fun q hq => by cases hq; omega)⟩
      refine hKA _ _ ?_
      clear hKA KA
      try simp only [Act.put, List.getElem_toArray, List.getElem_cons_succ, List.getElem_cons_zero, List.setIfInBounds_toArray, List.set_cons_succ, List.set_cons_zero]
      refine wpAnyC_take 3 (.bool false) rfl (by kernel_rfl) (by kernel_rfl) (by kernel_rfl) (fun _ _ _ h => h) (wanted_free rfl _) (fun W hW => by go_simp) ?_
      simp only [Act.put, List.getElem_toArray, List.getElem_cons_succ, List.getElem_cons_zero, List.setIfInBounds_toArray, List.set_cons_succ, List.set_cons_zero]
      refine wpAnyC_done hx6 (by kernel_rfl) ?_
      obtain ⟨c0, c1, c2, c3, c4, c5, c6, c7⟩ := bx_sn hR6
      simp only at c0 c1 c2 c3 c4 c5 c6 c7
      clear hx5 hx6 hR6 hg6 hR5
      go_wp2_with fail
      refine bodyPost_ret (v := .tuple #[.bool false, .agg (Sn.vals ⟨sk1, sc1, si1, shi1, sf1, sb1, shf1, sic1⟩), .bool false]) (by simp [results, Try.results12, go_sem, c0, c1, c2, c3, c4, c5, c6, c7, Sn.vals]) rfl ⟨rfl, hB6.out⟩
end Go.Proofs.Ytdojhgapdocngaa
