/-
  ModePlays: the document's Sense of a page that there is.
-/
import Derived.Test.YtdojhgapdocngaaMRSenB
namespace Go.Proofs.Ytdojhgapdocngaa
open Go.RowKit
set_option linter.unusedVariables false
set_option linter.unusedSimpArgs false


set_option maxRecDepth 100000 in
set_option maxHeartbeats 2000000 in
theorem rsense_10_1_0_0 (B : Nat) (n s : Vs) (c : Cm) (w : World) (hP : RPg w B n s) (hpg : c.pg = 10) (hct : c.ct = 1) (hlg : c.lg = false) (hnc : n.c = false) :
    Calls Try.prog 15 #[.pointer (some ⟨B, 0, none⟩), .agg c.vals] w fun e w' => ∃ v, e = .returned (.tuple #[v, .agg noS.vals, .bool true]) ∧ RdAt w' v (senL c.lg c.pg c.ct n s) ∧ Below w.heap.size w w' := by
  have hsz := Kpt.mk (sW_size w c)
  have hbl := Kpt.mk (sW_below w c)
  have hbx := Kpt.mk (sW_bx w c)
  have hP1 := hP.below (sW_below w c) hP.lt
  have x0 := hP1.c0
  have x1 := hP1.c1
  have z1 := sW_cell w c 1 (by decide)
  have z9 := sW_cell w c 9 (by decide)
  have z10 := sW_cell w c 10 (by decide)
  have hBlt := hP.lt
  have hq := vB_div n
  rw [hnc] at hq
  simp only [if_true, if_false, Bool.false_eq_true, reduceIte] at hq
  obtain ⟨av, hav⟩ : ∃ av, av = askV c.ct n s := ⟨_, rfl⟩
  have hsen : senL c.lg c.pg c.ct n s = headL false (12 : Nat) false ++ ctlL av := by rw [hav, hlg, hpg]; unfold senL layB; simp [hnc, cachL, ctlL]
  rw [hsen]
  have HP := Kpt.mk (fun W => dpage_10 av W)
  have hv : vB av = 7 := by rw [hav]; unfold askV; rw [if_pos hct]; rfl
  rw [hv] at HP
  obtain ⟨kd, lg, lba, bl, al, fua, pr, um, ev, pg, ct, sv, se, ty, bs⟩ := c
  simp only at hpg hct hlg
  subst hpg hlg
  subst hct
  simp only [Cm.vals] at z1 z9 z10 ⊢
  simp at z1 z9 z10
  clear hav hv hsen hP hP1 hnc
  generalize vB n = xn at *
  generalize vB s = xs at *
  simp only [sW, zeroS, Cm.vals] at x0 x1 z1 z9 z10 hbl hbx hsz
  go_enter Try.func15, Try.ntmps15
  go_wp2_with (first | (go_at_call 20; go_loud (refine (HP.out _).mono ?_; rintro e w3 ⟨g3, rfl, hg3, ho3, hb3⟩; have hbx3 := Kpt.mk (hbx.out.below hb3 (by rw [hsz.out]; omega)); have hbe3 := Kpt.mk (hbl.out.trans (hb3.mono (by rw [hsz.out]; omega))); have y0 := (hb3.cell (p := ⟨B, 0, none⟩) (by show B < _; rw [hsz.out]; omega)).trans x0; have y1 : ∀ o, (w3.alloc o).cell? ⟨w.heap.size, 1, none⟩ = some (.bool false) := fun o => (((Below.refl w3.heap.size w3).alloc (Nat.le_refl _) o).cell (p := ⟨w.heap.size, 1, none⟩) (by have := hbx3.out.lt; show w.heap.size < _; omega)).trans ((hb3.cell (p := ⟨w.heap.size, 1, none⟩) (by show w.heap.size < _; rw [hsz.out]; omega)).trans z1); replace ho3 := Kpt.mk ho3; clear x0 x1 z1 z9 z10 hbl hbx hsz hb3)) | (at_builtin; go_loud (refine wpList_append_new rfl (.tmp 66) (.tmp 67) rfl w3.heap.size _ _ (headL false (12 : Nat) false) (ctlL av) 4 16 rfl rfl (own_alloc w3 w3.heap.size 4 w3.heap.size (headL false (12 : Nat) false) (by simp) rfl (by decide) (by omega)) (rd_on ho3.out (by decide) ((Below.refl w3.heap.size w3).alloc (Nat.le_refl _) _)) (by show (0 : Nat) < 12; decide) rfl rfl (by decide) (by simp <;> omega) ?_; intro g5 cap5 w5 ho5 hg5 hgr5; have hbx5 := Kpt.mk ((hbx3.out.alloc _).grown hgr5.out (fun e => by have h1 := hbx3.out.lt; have h2 : w3.heap.size = w.heap.size + 1 := Option.some.inj e; omega)); have hbe5 : Kpt (Below w.heap.size w w5) := ⟨(hbe3.out.trans (((Below.refl w3.heap.size w3).alloc (Nat.le_refl _) _).mono hbe3.out.size)).grown hgr5.out (by have h1 := hbe3.out.size; simp; omega) (fun q hq => by have h1 := hbe3.out.size; have h2 : w3.heap.size = q := Option.some.inj hq; omega)⟩; have hl3 := Kpt.mk hbx3.out.lt; clear hbx3 ho3 hgr5 y0 y1)) | (refine wpList_store_bx rfl 42 (.tmp 5) (.tmp 69) rfl (w.heap.size + 1) _ noS.vals rfl rfl hbx5.out rfl infoS (Sn.vals_one noS) rfl ?_; intro w6 hbx6 hg6; have hbe6 := Kpt.mk (hbe5.out.grown hg6 hbe5.out.size (fun q hq => by cases hq; omega)); have hr6 := Kpt.mk (rd_past ho5.out hg5.out hg6 hl3.out); obtain ⟨c0, c1, c2, c3, c4, c5, c6, c7⟩ := bx_sn hbx6; clear hbx6 hg6 hbx5 hbe5 ho5))
  refine bodyPost_ret (v := .tuple #[_, .agg noS.vals, .bool true]) (by simp [results, Try.results15, go_sem, c0, c1, c2, c3, c4, c5, c6, c7, Sn.vals]) rfl ⟨_, rfl, hr6.out, hbe6.out⟩

set_option maxRecDepth 100000 in
set_option maxHeartbeats 2000000 in
theorem rsense_10_1_0_1 (B : Nat) (n s : Vs) (c : Cm) (w : World) (hP : RPg w B n s) (hpg : c.pg = 10) (hct : c.ct = 1) (hlg : c.lg = false) (hnc : n.c = true) :
    Calls Try.prog 15 #[.pointer (some ⟨B, 0, none⟩), .agg c.vals] w fun e w' => ∃ v, e = .returned (.tuple #[v, .agg noS.vals, .bool true]) ∧ RdAt w' v (senL c.lg c.pg c.ct n s) ∧ Below w.heap.size w w' := by
  have hsz := Kpt.mk (sW_size w c)
  have hbl := Kpt.mk (sW_below w c)
  have hbx := Kpt.mk (sW_bx w c)
  have hP1 := hP.below (sW_below w c) hP.lt
  have x0 := hP1.c0
  have x1 := hP1.c1
  have z1 := sW_cell w c 1 (by decide)
  have z9 := sW_cell w c 9 (by decide)
  have z10 := sW_cell w c 10 (by decide)
  have hBlt := hP.lt
  have hq := vB_div n
  rw [hnc] at hq
  simp only [if_true, if_false, Bool.false_eq_true, reduceIte] at hq
  obtain ⟨av, hav⟩ : ∃ av, av = askV c.ct n s := ⟨_, rfl⟩
  have hsen : senL c.lg c.pg c.ct n s = headL false (12 : Nat) true ++ ctlL av := by rw [hav, hlg, hpg]; unfold senL layB; simp [hnc, cachL, ctlL]
  rw [hsen]
  have HP := Kpt.mk (fun W => dpage_10 av W)
  have hv : vB av = 7 := by rw [hav]; unfold askV; rw [if_pos hct]; rfl
  rw [hv] at HP
  obtain ⟨kd, lg, lba, bl, al, fua, pr, um, ev, pg, ct, sv, se, ty, bs⟩ := c
  simp only at hpg hct hlg
  subst hpg hlg
  subst hct
  simp only [Cm.vals] at z1 z9 z10 ⊢
  simp at z1 z9 z10
  clear hav hv hsen hP hP1 hnc
  generalize vB n = xn at *
  generalize vB s = xs at *
  simp only [sW, zeroS, Cm.vals] at x0 x1 z1 z9 z10 hbl hbx hsz
  go_enter Try.func15, Try.ntmps15
  go_wp2_with (first | (go_at_call 20; go_loud (refine (HP.out _).mono ?_; rintro e w3 ⟨g3, rfl, hg3, ho3, hb3⟩; have hbx3 := Kpt.mk (hbx.out.below hb3 (by rw [hsz.out]; omega)); have hbe3 := Kpt.mk (hbl.out.trans (hb3.mono (by rw [hsz.out]; omega))); have y0 := (hb3.cell (p := ⟨B, 0, none⟩) (by show B < _; rw [hsz.out]; omega)).trans x0; have y1 : ∀ o, (w3.alloc o).cell? ⟨w.heap.size, 1, none⟩ = some (.bool false) := fun o => (((Below.refl w3.heap.size w3).alloc (Nat.le_refl _) o).cell (p := ⟨w.heap.size, 1, none⟩) (by have := hbx3.out.lt; show w.heap.size < _; omega)).trans ((hb3.cell (p := ⟨w.heap.size, 1, none⟩) (by show w.heap.size < _; rw [hsz.out]; omega)).trans z1); replace ho3 := Kpt.mk ho3; clear x0 x1 z1 z9 z10 hbl hbx hsz hb3)) | (at_builtin; go_loud (refine wpList_append_new rfl (.tmp 66) (.tmp 67) rfl w3.heap.size _ _ (headL false (12 : Nat) true) (ctlL av) 4 16 rfl rfl (own_alloc w3 w3.heap.size 4 w3.heap.size (headL false (12 : Nat) true) (by simp) rfl (by decide) (by omega)) (rd_on ho3.out (by decide) ((Below.refl w3.heap.size w3).alloc (Nat.le_refl _) _)) (by show (0 : Nat) < 12; decide) rfl rfl (by decide) (by simp <;> omega) ?_; intro g5 cap5 w5 ho5 hg5 hgr5; have hbx5 := Kpt.mk ((hbx3.out.alloc _).grown hgr5.out (fun e => by have h1 := hbx3.out.lt; have h2 : w3.heap.size = w.heap.size + 1 := Option.some.inj e; omega)); have hbe5 : Kpt (Below w.heap.size w w5) := ⟨(hbe3.out.trans (((Below.refl w3.heap.size w3).alloc (Nat.le_refl _) _).mono hbe3.out.size)).grown hgr5.out (by have h1 := hbe3.out.size; simp; omega) (fun q hq => by have h1 := hbe3.out.size; have h2 : w3.heap.size = q := Option.some.inj hq; omega)⟩; have hl3 := Kpt.mk hbx3.out.lt; clear hbx3 ho3 hgr5 y0 y1)) | (refine wpList_store_bx rfl 42 (.tmp 5) (.tmp 69) rfl (w.heap.size + 1) _ noS.vals rfl rfl hbx5.out rfl infoS (Sn.vals_one noS) rfl ?_; intro w6 hbx6 hg6; have hbe6 := Kpt.mk (hbe5.out.grown hg6 hbe5.out.size (fun q hq => by cases hq; omega)); have hr6 := Kpt.mk (rd_past ho5.out hg5.out hg6 hl3.out); obtain ⟨c0, c1, c2, c3, c4, c5, c6, c7⟩ := bx_sn hbx6; clear hbx6 hg6 hbx5 hbe5 ho5))
  refine bodyPost_ret (v := .tuple #[_, .agg noS.vals, .bool true]) (by simp [results, Try.results15, go_sem, c0, c1, c2, c3, c4, c5, c6, c7, Sn.vals]) rfl ⟨_, rfl, hr6.out, hbe6.out⟩

set_option maxRecDepth 100000 in
set_option maxHeartbeats 2000000 in
theorem rsense_10_1_1_0 (B : Nat) (n s : Vs) (c : Cm) (w : World) (hP : RPg w B n s) (hpg : c.pg = 10) (hct : c.ct = 1) (hlg : c.lg = true) (hnc : n.c = false) :
    Calls Try.prog 15 #[.pointer (some ⟨B, 0, none⟩), .agg c.vals] w fun e w' => ∃ v, e = .returned (.tuple #[v, .agg noS.vals, .bool true]) ∧ RdAt w' v (senL c.lg c.pg c.ct n s) ∧ Below w.heap.size w w' := by
  have hsz := Kpt.mk (sW_size w c)
  have hbl := Kpt.mk (sW_below w c)
  have hbx := Kpt.mk (sW_bx w c)
  have hP1 := hP.below (sW_below w c) hP.lt
  have x0 := hP1.c0
  have x1 := hP1.c1
  have z1 := sW_cell w c 1 (by decide)
  have z9 := sW_cell w c 9 (by decide)
  have z10 := sW_cell w c 10 (by decide)
  have hBlt := hP.lt
  have hq := vB_div n
  rw [hnc] at hq
  simp only [if_true, if_false, Bool.false_eq_true, reduceIte] at hq
  obtain ⟨av, hav⟩ : ∃ av, av = askV c.ct n s := ⟨_, rfl⟩
  have hsen : senL c.lg c.pg c.ct n s = headL true (12 : Nat) false ++ ctlL av := by rw [hav, hlg, hpg]; unfold senL layB; simp [hnc, cachL, ctlL]
  rw [hsen]
  have HP := Kpt.mk (fun W => dpage_10 av W)
  have hv : vB av = 7 := by rw [hav]; unfold askV; rw [if_pos hct]; rfl
  rw [hv] at HP
  obtain ⟨kd, lg, lba, bl, al, fua, pr, um, ev, pg, ct, sv, se, ty, bs⟩ := c
  simp only at hpg hct hlg
  subst hpg hlg
  subst hct
  simp only [Cm.vals] at z1 z9 z10 ⊢
  simp at z1 z9 z10
  clear hav hv hsen hP hP1 hnc
  generalize vB n = xn at *
  generalize vB s = xs at *
  simp only [sW, zeroS, Cm.vals] at x0 x1 z1 z9 z10 hbl hbx hsz
  go_enter Try.func15, Try.ntmps15
  go_wp2_with (first | (go_at_call 20; go_loud (refine (HP.out _).mono ?_; rintro e w3 ⟨g3, rfl, hg3, ho3, hb3⟩; have hbx3 := Kpt.mk (hbx.out.below hb3 (by rw [hsz.out]; omega)); have hbe3 := Kpt.mk (hbl.out.trans (hb3.mono (by rw [hsz.out]; omega))); have y0 := (hb3.cell (p := ⟨B, 0, none⟩) (by show B < _; rw [hsz.out]; omega)).trans x0; have y1 : ∀ o, (w3.alloc o).cell? ⟨w.heap.size, 1, none⟩ = some (.bool true) := fun o => (((Below.refl w3.heap.size w3).alloc (Nat.le_refl _) o).cell (p := ⟨w.heap.size, 1, none⟩) (by have := hbx3.out.lt; show w.heap.size < _; omega)).trans ((hb3.cell (p := ⟨w.heap.size, 1, none⟩) (by show w.heap.size < _; rw [hsz.out]; omega)).trans z1); replace ho3 := Kpt.mk ho3; clear x0 x1 z1 z9 z10 hbl hbx hsz hb3)) | (at_builtin; go_loud (refine wpList_append_new rfl (.tmp 66) (.tmp 67) rfl w3.heap.size _ _ (headL true (12 : Nat) false) (ctlL av) 8 20 rfl rfl (own_alloc (w3.alloc _) (w3.heap.size + 1) 8 w3.heap.size (headL true (12 : Nat) false) (by simp) rfl (by decide) (by omega)) (rd_on ho3.out (by decide) (((Below.refl w3.heap.size w3).alloc (Nat.le_refl _) _).alloc (by simp) _)) (by show (0 : Nat) < 12; decide) rfl rfl (by decide) (by simp <;> omega) ?_; intro g5 cap5 w5 ho5 hg5 hgr5; have hbx5 := Kpt.mk (((hbx3.out.alloc _).alloc _).grown hgr5.out (fun e => by have h1 := hbx3.out.lt; have h2 : (w3.heap.size + 1) = w.heap.size + 1 := Option.some.inj e; omega)); have hbe5 : Kpt (Below w.heap.size w w5) := ⟨(hbe3.out.trans ((((Below.refl w3.heap.size w3).alloc (Nat.le_refl _) _).alloc (by simp) _).mono hbe3.out.size)).grown hgr5.out (by have h1 := hbe3.out.size; simp; omega) (fun q hq => by have h1 := hbe3.out.size; have h2 : (w3.heap.size + 1) = q := Option.some.inj hq; omega)⟩; have hl3 := Kpt.mk hbx3.out.lt; clear hbx3 ho3 hgr5 y0 y1)) | (refine wpList_store_bx rfl 42 (.tmp 5) (.tmp 69) rfl (w.heap.size + 1) _ noS.vals rfl rfl hbx5.out rfl infoS (Sn.vals_one noS) rfl ?_; intro w6 hbx6 hg6; have hbe6 := Kpt.mk (hbe5.out.grown hg6 hbe5.out.size (fun q hq => by cases hq; omega)); have hr6 := Kpt.mk (rd_past ho5.out hg5.out hg6 hl3.out); obtain ⟨c0, c1, c2, c3, c4, c5, c6, c7⟩ := bx_sn hbx6; clear hbx6 hg6 hbx5 hbe5 ho5))
  refine bodyPost_ret (v := .tuple #[_, .agg noS.vals, .bool true]) (by simp [results, Try.results15, go_sem, c0, c1, c2, c3, c4, c5, c6, c7, Sn.vals]) rfl ⟨_, rfl, hr6.out, hbe6.out⟩

set_option maxRecDepth 100000 in
set_option maxHeartbeats 2000000 in
theorem rsense_10_1_1_1 (B : Nat) (n s : Vs) (c : Cm) (w : World) (hP : RPg w B n s) (hpg : c.pg = 10) (hct : c.ct = 1) (hlg : c.lg = true) (hnc : n.c = true) :
    Calls Try.prog 15 #[.pointer (some ⟨B, 0, none⟩), .agg c.vals] w fun e w' => ∃ v, e = .returned (.tuple #[v, .agg noS.vals, .bool true]) ∧ RdAt w' v (senL c.lg c.pg c.ct n s) ∧ Below w.heap.size w w' := by
  have hsz := Kpt.mk (sW_size w c)
  have hbl := Kpt.mk (sW_below w c)
  have hbx := Kpt.mk (sW_bx w c)
  have hP1 := hP.below (sW_below w c) hP.lt
  have x0 := hP1.c0
  have x1 := hP1.c1
  have z1 := sW_cell w c 1 (by decide)
  have z9 := sW_cell w c 9 (by decide)
  have z10 := sW_cell w c 10 (by decide)
  have hBlt := hP.lt
  have hq := vB_div n
  rw [hnc] at hq
  simp only [if_true, if_false, Bool.false_eq_true, reduceIte] at hq
  obtain ⟨av, hav⟩ : ∃ av, av = askV c.ct n s := ⟨_, rfl⟩
  have hsen : senL c.lg c.pg c.ct n s = headL true (12 : Nat) true ++ ctlL av := by rw [hav, hlg, hpg]; unfold senL layB; simp [hnc, cachL, ctlL]
  rw [hsen]
  have HP := Kpt.mk (fun W => dpage_10 av W)
  have hv : vB av = 7 := by rw [hav]; unfold askV; rw [if_pos hct]; rfl
  rw [hv] at HP
  obtain ⟨kd, lg, lba, bl, al, fua, pr, um, ev, pg, ct, sv, se, ty, bs⟩ := c
  simp only at hpg hct hlg
  subst hpg hlg
  subst hct
  simp only [Cm.vals] at z1 z9 z10 ⊢
  simp at z1 z9 z10
  clear hav hv hsen hP hP1 hnc
  generalize vB n = xn at *
  generalize vB s = xs at *
  simp only [sW, zeroS, Cm.vals] at x0 x1 z1 z9 z10 hbl hbx hsz
  go_enter Try.func15, Try.ntmps15
  go_wp2_with (first | (go_at_call 20; go_loud (refine (HP.out _).mono ?_; rintro e w3 ⟨g3, rfl, hg3, ho3, hb3⟩; have hbx3 := Kpt.mk (hbx.out.below hb3 (by rw [hsz.out]; omega)); have hbe3 := Kpt.mk (hbl.out.trans (hb3.mono (by rw [hsz.out]; omega))); have y0 := (hb3.cell (p := ⟨B, 0, none⟩) (by show B < _; rw [hsz.out]; omega)).trans x0; have y1 : ∀ o, (w3.alloc o).cell? ⟨w.heap.size, 1, none⟩ = some (.bool true) := fun o => (((Below.refl w3.heap.size w3).alloc (Nat.le_refl _) o).cell (p := ⟨w.heap.size, 1, none⟩) (by have := hbx3.out.lt; show w.heap.size < _; omega)).trans ((hb3.cell (p := ⟨w.heap.size, 1, none⟩) (by show w.heap.size < _; rw [hsz.out]; omega)).trans z1); replace ho3 := Kpt.mk ho3; clear x0 x1 z1 z9 z10 hbl hbx hsz hb3)) | (at_builtin; go_loud (refine wpList_append_new rfl (.tmp 66) (.tmp 67) rfl w3.heap.size _ _ (headL true (12 : Nat) true) (ctlL av) 8 20 rfl rfl (own_alloc (w3.alloc _) (w3.heap.size + 1) 8 w3.heap.size (headL true (12 : Nat) true) (by simp) rfl (by decide) (by omega)) (rd_on ho3.out (by decide) (((Below.refl w3.heap.size w3).alloc (Nat.le_refl _) _).alloc (by simp) _)) (by show (0 : Nat) < 12; decide) rfl rfl (by decide) (by simp <;> omega) ?_; intro g5 cap5 w5 ho5 hg5 hgr5; have hbx5 := Kpt.mk (((hbx3.out.alloc _).alloc _).grown hgr5.out (fun e => by have h1 := hbx3.out.lt; have h2 : (w3.heap.size + 1) = w.heap.size + 1 := Option.some.inj e; omega)); have hbe5 : Kpt (Below w.heap.size w w5) := ⟨(hbe3.out.trans ((((Below.refl w3.heap.size w3).alloc (Nat.le_refl _) _).alloc (by simp) _).mono hbe3.out.size)).grown hgr5.out (by have h1 := hbe3.out.size; simp; omega) (fun q hq => by have h1 := hbe3.out.size; have h2 : (w3.heap.size + 1) = q := Option.some.inj hq; omega)⟩; have hl3 := Kpt.mk hbx3.out.lt; clear hbx3 ho3 hgr5 y0 y1)) | (refine wpList_store_bx rfl 42 (.tmp 5) (.tmp 69) rfl (w.heap.size + 1) _ noS.vals rfl rfl hbx5.out rfl infoS (Sn.vals_one noS) rfl ?_; intro w6 hbx6 hg6; have hbe6 := Kpt.mk (hbe5.out.grown hg6 hbe5.out.size (fun q hq => by cases hq; omega)); have hr6 := Kpt.mk (rd_past ho5.out hg5.out hg6 hl3.out); obtain ⟨c0, c1, c2, c3, c4, c5, c6, c7⟩ := bx_sn hbx6; clear hbx6 hg6 hbx5 hbe5 ho5))
  refine bodyPost_ret (v := .tuple #[_, .agg noS.vals, .bool true]) (by simp [results, Try.results15, go_sem, c0, c1, c2, c3, c4, c5, c6, c7, Sn.vals]) rfl ⟨_, rfl, hr6.out, hbe6.out⟩

set_option maxRecDepth 100000 in
set_option maxHeartbeats 2000000 in
theorem rsense_10_2_0_0 (B : Nat) (n s : Vs) (c : Cm) (w : World) (hP : RPg w B n s) (hpg : c.pg = 10) (hct : c.ct = 2) (hlg : c.lg = false) (hnc : n.c = false) :
    Calls Try.prog 15 #[.pointer (some ⟨B, 0, none⟩), .agg c.vals] w fun e w' => ∃ v, e = .returned (.tuple #[v, .agg noS.vals, .bool true]) ∧ RdAt w' v (senL c.lg c.pg c.ct n s) ∧ Below w.heap.size w w' := by
  have hsz := Kpt.mk (sW_size w c)
  have hbl := Kpt.mk (sW_below w c)
  have hbx := Kpt.mk (sW_bx w c)
  have hP1 := hP.below (sW_below w c) hP.lt
  have x0 := hP1.c0
  have x1 := hP1.c1
  have z1 := sW_cell w c 1 (by decide)
  have z9 := sW_cell w c 9 (by decide)
  have z10 := sW_cell w c 10 (by decide)
  have hBlt := hP.lt
  have hq := vB_div n
  rw [hnc] at hq
  simp only [if_true, if_false, Bool.false_eq_true, reduceIte] at hq
  obtain ⟨av, hav⟩ : ∃ av, av = askV c.ct n s := ⟨_, rfl⟩
  have hsen : senL c.lg c.pg c.ct n s = headL false (12 : Nat) false ++ ctlL av := by rw [hav, hlg, hpg]; unfold senL layB; simp [hnc, cachL, ctlL]
  rw [hsen]
  have HP := Kpt.mk (fun W => dpage_10 av W)
  have hv : vB av = 1 := by rw [hav]; unfold askV; rw [if_neg (by omega), if_pos hct]; rfl
  rw [hv] at HP
  obtain ⟨kd, lg, lba, bl, al, fua, pr, um, ev, pg, ct, sv, se, ty, bs⟩ := c
  simp only at hpg hct hlg
  subst hpg hlg
  subst hct
  simp only [Cm.vals] at z1 z9 z10 ⊢
  simp at z1 z9 z10
  clear hav hv hsen hP hP1 hnc
  generalize vB n = xn at *
  generalize vB s = xs at *
  simp only [sW, zeroS, Cm.vals] at x0 x1 z1 z9 z10 hbl hbx hsz
  go_enter Try.func15, Try.ntmps15
  go_wp2_with (first | (go_at_call 20; go_loud (refine (HP.out _).mono ?_; rintro e w3 ⟨g3, rfl, hg3, ho3, hb3⟩; have hbx3 := Kpt.mk (hbx.out.below hb3 (by rw [hsz.out]; omega)); have hbe3 := Kpt.mk (hbl.out.trans (hb3.mono (by rw [hsz.out]; omega))); have y0 := (hb3.cell (p := ⟨B, 0, none⟩) (by show B < _; rw [hsz.out]; omega)).trans x0; have y1 : ∀ o, (w3.alloc o).cell? ⟨w.heap.size, 1, none⟩ = some (.bool false) := fun o => (((Below.refl w3.heap.size w3).alloc (Nat.le_refl _) o).cell (p := ⟨w.heap.size, 1, none⟩) (by have := hbx3.out.lt; show w.heap.size < _; omega)).trans ((hb3.cell (p := ⟨w.heap.size, 1, none⟩) (by show w.heap.size < _; rw [hsz.out]; omega)).trans z1); replace ho3 := Kpt.mk ho3; clear x0 x1 z1 z9 z10 hbl hbx hsz hb3)) | (at_builtin; go_loud (refine wpList_append_new rfl (.tmp 66) (.tmp 67) rfl w3.heap.size _ _ (headL false (12 : Nat) false) (ctlL av) 4 16 rfl rfl (own_alloc w3 w3.heap.size 4 w3.heap.size (headL false (12 : Nat) false) (by simp) rfl (by decide) (by omega)) (rd_on ho3.out (by decide) ((Below.refl w3.heap.size w3).alloc (Nat.le_refl _) _)) (by show (0 : Nat) < 12; decide) rfl rfl (by decide) (by simp <;> omega) ?_; intro g5 cap5 w5 ho5 hg5 hgr5; have hbx5 := Kpt.mk ((hbx3.out.alloc _).grown hgr5.out (fun e => by have h1 := hbx3.out.lt; have h2 : w3.heap.size = w.heap.size + 1 := Option.some.inj e; omega)); have hbe5 : Kpt (Below w.heap.size w w5) := ⟨(hbe3.out.trans (((Below.refl w3.heap.size w3).alloc (Nat.le_refl _) _).mono hbe3.out.size)).grown hgr5.out (by have h1 := hbe3.out.size; simp; omega) (fun q hq => by have h1 := hbe3.out.size; have h2 : w3.heap.size = q := Option.some.inj hq; omega)⟩; have hl3 := Kpt.mk hbx3.out.lt; clear hbx3 ho3 hgr5 y0 y1)) | (refine wpList_store_bx rfl 42 (.tmp 5) (.tmp 69) rfl (w.heap.size + 1) _ noS.vals rfl rfl hbx5.out rfl infoS (Sn.vals_one noS) rfl ?_; intro w6 hbx6 hg6; have hbe6 := Kpt.mk (hbe5.out.grown hg6 hbe5.out.size (fun q hq => by cases hq; omega)); have hr6 := Kpt.mk (rd_past ho5.out hg5.out hg6 hl3.out); obtain ⟨c0, c1, c2, c3, c4, c5, c6, c7⟩ := bx_sn hbx6; clear hbx6 hg6 hbx5 hbe5 ho5))
  refine bodyPost_ret (v := .tuple #[_, .agg noS.vals, .bool true]) (by simp [results, Try.results15, go_sem, c0, c1, c2, c3, c4, c5, c6, c7, Sn.vals]) rfl ⟨_, rfl, hr6.out, hbe6.out⟩

set_option maxRecDepth 100000 in
set_option maxHeartbeats 2000000 in
theorem rsense_10_2_0_1 (B : Nat) (n s : Vs) (c : Cm) (w : World) (hP : RPg w B n s) (hpg : c.pg = 10) (hct : c.ct = 2) (hlg : c.lg = false) (hnc : n.c = true) :
    Calls Try.prog 15 #[.pointer (some ⟨B, 0, none⟩), .agg c.vals] w fun e w' => ∃ v, e = .returned (.tuple #[v, .agg noS.vals, .bool true]) ∧ RdAt w' v (senL c.lg c.pg c.ct n s) ∧ Below w.heap.size w w' := by
  have hsz := Kpt.mk (sW_size w c)
  have hbl := Kpt.mk (sW_below w c)
  have hbx := Kpt.mk (sW_bx w c)
  have hP1 := hP.below (sW_below w c) hP.lt
  have x0 := hP1.c0
  have x1 := hP1.c1
  have z1 := sW_cell w c 1 (by decide)
  have z9 := sW_cell w c 9 (by decide)
  have z10 := sW_cell w c 10 (by decide)
  have hBlt := hP.lt
  have hq := vB_div n
  rw [hnc] at hq
  simp only [if_true, if_false, Bool.false_eq_true, reduceIte] at hq
  obtain ⟨av, hav⟩ : ∃ av, av = askV c.ct n s := ⟨_, rfl⟩
  have hsen : senL c.lg c.pg c.ct n s = headL false (12 : Nat) true ++ ctlL av := by rw [hav, hlg, hpg]; unfold senL layB; simp [hnc, cachL, ctlL]
  rw [hsen]
  have HP := Kpt.mk (fun W => dpage_10 av W)
  have hv : vB av = 1 := by rw [hav]; unfold askV; rw [if_neg (by omega), if_pos hct]; rfl
  rw [hv] at HP
  obtain ⟨kd, lg, lba, bl, al, fua, pr, um, ev, pg, ct, sv, se, ty, bs⟩ := c
  simp only at hpg hct hlg
  subst hpg hlg
  subst hct
  simp only [Cm.vals] at z1 z9 z10 ⊢
  simp at z1 z9 z10
  clear hav hv hsen hP hP1 hnc
  generalize vB n = xn at *
  generalize vB s = xs at *
  simp only [sW, zeroS, Cm.vals] at x0 x1 z1 z9 z10 hbl hbx hsz
  go_enter Try.func15, Try.ntmps15
  go_wp2_with (first | (go_at_call 20; go_loud (refine (HP.out _).mono ?_; rintro e w3 ⟨g3, rfl, hg3, ho3, hb3⟩; have hbx3 := Kpt.mk (hbx.out.below hb3 (by rw [hsz.out]; omega)); have hbe3 := Kpt.mk (hbl.out.trans (hb3.mono (by rw [hsz.out]; omega))); have y0 := (hb3.cell (p := ⟨B, 0, none⟩) (by show B < _; rw [hsz.out]; omega)).trans x0; have y1 : ∀ o, (w3.alloc o).cell? ⟨w.heap.size, 1, none⟩ = some (.bool false) := fun o => (((Below.refl w3.heap.size w3).alloc (Nat.le_refl _) o).cell (p := ⟨w.heap.size, 1, none⟩) (by have := hbx3.out.lt; show w.heap.size < _; omega)).trans ((hb3.cell (p := ⟨w.heap.size, 1, none⟩) (by show w.heap.size < _; rw [hsz.out]; omega)).trans z1); replace ho3 := Kpt.mk ho3; clear x0 x1 z1 z9 z10 hbl hbx hsz hb3)) | (at_builtin; go_loud (refine wpList_append_new rfl (.tmp 66) (.tmp 67) rfl w3.heap.size _ _ (headL false (12 : Nat) true) (ctlL av) 4 16 rfl rfl (own_alloc w3 w3.heap.size 4 w3.heap.size (headL false (12 : Nat) true) (by simp) rfl (by decide) (by omega)) (rd_on ho3.out (by decide) ((Below.refl w3.heap.size w3).alloc (Nat.le_refl _) _)) (by show (0 : Nat) < 12; decide) rfl rfl (by decide) (by simp <;> omega) ?_; intro g5 cap5 w5 ho5 hg5 hgr5; have hbx5 := Kpt.mk ((hbx3.out.alloc _).grown hgr5.out (fun e => by have h1 := hbx3.out.lt; have h2 : w3.heap.size = w.heap.size + 1 := Option.some.inj e; omega)); have hbe5 : Kpt (Below w.heap.size w w5) := ⟨(hbe3.out.trans (((Below.refl w3.heap.size w3).alloc (Nat.le_refl _) _).mono hbe3.out.size)).grown hgr5.out (by have h1 := hbe3.out.size; simp; omega) (fun q hq => by have h1 := hbe3.out.size; have h2 : w3.heap.size = q := Option.some.inj hq; omega)⟩; have hl3 := Kpt.mk hbx3.out.lt; clear hbx3 ho3 hgr5 y0 y1)) | (refine wpList_store_bx rfl 42 (.tmp 5) (.tmp 69) rfl (w.heap.size + 1) _ noS.vals rfl rfl hbx5.out rfl infoS (Sn.vals_one noS) rfl ?_; intro w6 hbx6 hg6; have hbe6 := Kpt.mk (hbe5.out.grown hg6 hbe5.out.size (fun q hq => by cases hq; omega)); have hr6 := Kpt.mk (rd_past ho5.out hg5.out hg6 hl3.out); obtain ⟨c0, c1, c2, c3, c4, c5, c6, c7⟩ := bx_sn hbx6; clear hbx6 hg6 hbx5 hbe5 ho5))
  refine bodyPost_ret (v := .tuple #[_, .agg noS.vals, .bool true]) (by simp [results, Try.results15, go_sem, c0, c1, c2, c3, c4, c5, c6, c7, Sn.vals]) rfl ⟨_, rfl, hr6.out, hbe6.out⟩

set_option maxRecDepth 100000 in
set_option maxHeartbeats 2000000 in
theorem rsense_10_2_1_0 (B : Nat) (n s : Vs) (c : Cm) (w : World) (hP : RPg w B n s) (hpg : c.pg = 10) (hct : c.ct = 2) (hlg : c.lg = true) (hnc : n.c = false) :
    Calls Try.prog 15 #[.pointer (some ⟨B, 0, none⟩), .agg c.vals] w fun e w' => ∃ v, e = .returned (.tuple #[v, .agg noS.vals, .bool true]) ∧ RdAt w' v (senL c.lg c.pg c.ct n s) ∧ Below w.heap.size w w' := by
  have hsz := Kpt.mk (sW_size w c)
  have hbl := Kpt.mk (sW_below w c)
  have hbx := Kpt.mk (sW_bx w c)
  have hP1 := hP.below (sW_below w c) hP.lt
  have x0 := hP1.c0
  have x1 := hP1.c1
  have z1 := sW_cell w c 1 (by decide)
  have z9 := sW_cell w c 9 (by decide)
  have z10 := sW_cell w c 10 (by decide)
  have hBlt := hP.lt
  have hq := vB_div n
  rw [hnc] at hq
  simp only [if_true, if_false, Bool.false_eq_true, reduceIte] at hq
  obtain ⟨av, hav⟩ : ∃ av, av = askV c.ct n s := ⟨_, rfl⟩
  have hsen : senL c.lg c.pg c.ct n s = headL true (12 : Nat) false ++ ctlL av := by rw [hav, hlg, hpg]; unfold senL layB; simp [hnc, cachL, ctlL]
  rw [hsen]
  have HP := Kpt.mk (fun W => dpage_10 av W)
  have hv : vB av = 1 := by rw [hav]; unfold askV; rw [if_neg (by omega), if_pos hct]; rfl
  rw [hv] at HP
  obtain ⟨kd, lg, lba, bl, al, fua, pr, um, ev, pg, ct, sv, se, ty, bs⟩ := c
  simp only at hpg hct hlg
  subst hpg hlg
  subst hct
  simp only [Cm.vals] at z1 z9 z10 ⊢
  simp at z1 z9 z10
  clear hav hv hsen hP hP1 hnc
  generalize vB n = xn at *
  generalize vB s = xs at *
  simp only [sW, zeroS, Cm.vals] at x0 x1 z1 z9 z10 hbl hbx hsz
  go_enter Try.func15, Try.ntmps15
  go_wp2_with (first | (go_at_call 20; go_loud (refine (HP.out _).mono ?_; rintro e w3 ⟨g3, rfl, hg3, ho3, hb3⟩; have hbx3 := Kpt.mk (hbx.out.below hb3 (by rw [hsz.out]; omega)); have hbe3 := Kpt.mk (hbl.out.trans (hb3.mono (by rw [hsz.out]; omega))); have y0 := (hb3.cell (p := ⟨B, 0, none⟩) (by show B < _; rw [hsz.out]; omega)).trans x0; have y1 : ∀ o, (w3.alloc o).cell? ⟨w.heap.size, 1, none⟩ = some (.bool true) := fun o => (((Below.refl w3.heap.size w3).alloc (Nat.le_refl _) o).cell (p := ⟨w.heap.size, 1, none⟩) (by have := hbx3.out.lt; show w.heap.size < _; omega)).trans ((hb3.cell (p := ⟨w.heap.size, 1, none⟩) (by show w.heap.size < _; rw [hsz.out]; omega)).trans z1); replace ho3 := Kpt.mk ho3; clear x0 x1 z1 z9 z10 hbl hbx hsz hb3)) | (at_builtin; go_loud (refine wpList_append_new rfl (.tmp 66) (.tmp 67) rfl w3.heap.size _ _ (headL true (12 : Nat) false) (ctlL av) 8 20 rfl rfl (own_alloc (w3.alloc _) (w3.heap.size + 1) 8 w3.heap.size (headL true (12 : Nat) false) (by simp) rfl (by decide) (by omega)) (rd_on ho3.out (by decide) (((Below.refl w3.heap.size w3).alloc (Nat.le_refl _) _).alloc (by simp) _)) (by show (0 : Nat) < 12; decide) rfl rfl (by decide) (by simp <;> omega) ?_; intro g5 cap5 w5 ho5 hg5 hgr5; have hbx5 := Kpt.mk (((hbx3.out.alloc _).alloc _).grown hgr5.out (fun e => by have h1 := hbx3.out.lt; have h2 : (w3.heap.size + 1) = w.heap.size + 1 := Option.some.inj e; omega)); have hbe5 : Kpt (Below w.heap.size w w5) := ⟨(hbe3.out.trans ((((Below.refl w3.heap.size w3).alloc (Nat.le_refl _) _).alloc (by simp) _).mono hbe3.out.size)).grown hgr5.out (by have h1 := hbe3.out.size; simp; omega) (fun q hq => by have h1 := hbe3.out.size; have h2 : (w3.heap.size + 1) = q := Option.some.inj hq; omega)⟩; have hl3 := Kpt.mk hbx3.out.lt; clear hbx3 ho3 hgr5 y0 y1)) | (refine wpList_store_bx rfl 42 (.tmp 5) (.tmp 69) rfl (w.heap.size + 1) _ noS.vals rfl rfl hbx5.out rfl infoS (Sn.vals_one noS) rfl ?_; intro w6 hbx6 hg6; have hbe6 := Kpt.mk (hbe5.out.grown hg6 hbe5.out.size (fun q hq => by cases hq; omega)); have hr6 := Kpt.mk (rd_past ho5.out hg5.out hg6 hl3.out); obtain ⟨c0, c1, c2, c3, c4, c5, c6, c7⟩ := bx_sn hbx6; clear hbx6 hg6 hbx5 hbe5 ho5))
  refine bodyPost_ret (v := .tuple #[_, .agg noS.vals, .bool true]) (by simp [results, Try.results15, go_sem, c0, c1, c2, c3, c4, c5, c6, c7, Sn.vals]) rfl ⟨_, rfl, hr6.out, hbe6.out⟩

set_option maxRecDepth 100000 in
set_option maxHeartbeats 2000000 in
theorem rsense_10_2_1_1 (B : Nat) (n s : Vs) (c : Cm) (w : World) (hP : RPg w B n s) (hpg : c.pg = 10) (hct : c.ct = 2) (hlg : c.lg = true) (hnc : n.c = true) :
    Calls Try.prog 15 #[.pointer (some ⟨B, 0, none⟩), .agg c.vals] w fun e w' => ∃ v, e = .returned (.tuple #[v, .agg noS.vals, .bool true]) ∧ RdAt w' v (senL c.lg c.pg c.ct n s) ∧ Below w.heap.size w w' := by
  have hsz := Kpt.mk (sW_size w c)
  have hbl := Kpt.mk (sW_below w c)
  have hbx := Kpt.mk (sW_bx w c)
  have hP1 := hP.below (sW_below w c) hP.lt
  have x0 := hP1.c0
  have x1 := hP1.c1
  have z1 := sW_cell w c 1 (by decide)
  have z9 := sW_cell w c 9 (by decide)
  have z10 := sW_cell w c 10 (by decide)
  have hBlt := hP.lt
  have hq := vB_div n
  rw [hnc] at hq
  simp only [if_true, if_false, Bool.false_eq_true, reduceIte] at hq
  obtain ⟨av, hav⟩ : ∃ av, av = askV c.ct n s := ⟨_, rfl⟩
  have hsen : senL c.lg c.pg c.ct n s = headL true (12 : Nat) true ++ ctlL av := by rw [hav, hlg, hpg]; unfold senL layB; simp [hnc, cachL, ctlL]
  rw [hsen]
  have HP := Kpt.mk (fun W => dpage_10 av W)
  have hv : vB av = 1 := by rw [hav]; unfold askV; rw [if_neg (by omega), if_pos hct]; rfl
  rw [hv] at HP
  obtain ⟨kd, lg, lba, bl, al, fua, pr, um, ev, pg, ct, sv, se, ty, bs⟩ := c
  simp only at hpg hct hlg
  subst hpg hlg
  subst hct
  simp only [Cm.vals] at z1 z9 z10 ⊢
  simp at z1 z9 z10
  clear hav hv hsen hP hP1 hnc
  generalize vB n = xn at *
  generalize vB s = xs at *
  simp only [sW, zeroS, Cm.vals] at x0 x1 z1 z9 z10 hbl hbx hsz
  go_enter Try.func15, Try.ntmps15
  go_wp2_with (first | (go_at_call 20; go_loud (refine (HP.out _).mono ?_; rintro e w3 ⟨g3, rfl, hg3, ho3, hb3⟩; have hbx3 := Kpt.mk (hbx.out.below hb3 (by rw [hsz.out]; omega)); have hbe3 := Kpt.mk (hbl.out.trans (hb3.mono (by rw [hsz.out]; omega))); have y0 := (hb3.cell (p := ⟨B, 0, none⟩) (by show B < _; rw [hsz.out]; omega)).trans x0; have y1 : ∀ o, (w3.alloc o).cell? ⟨w.heap.size, 1, none⟩ = some (.bool true) := fun o => (((Below.refl w3.heap.size w3).alloc (Nat.le_refl _) o).cell (p := ⟨w.heap.size, 1, none⟩) (by have := hbx3.out.lt; show w.heap.size < _; omega)).trans ((hb3.cell (p := ⟨w.heap.size, 1, none⟩) (by show w.heap.size < _; rw [hsz.out]; omega)).trans z1); replace ho3 := Kpt.mk ho3; clear x0 x1 z1 z9 z10 hbl hbx hsz hb3)) | (at_builtin; go_loud (refine wpList_append_new rfl (.tmp 66) (.tmp 67) rfl w3.heap.size _ _ (headL true (12 : Nat) true) (ctlL av) 8 20 rfl rfl (own_alloc (w3.alloc _) (w3.heap.size + 1) 8 w3.heap.size (headL true (12 : Nat) true) (by simp) rfl (by decide) (by omega)) (rd_on ho3.out (by decide) (((Below.refl w3.heap.size w3).alloc (Nat.le_refl _) _).alloc (by simp) _)) (by show (0 : Nat) < 12; decide) rfl rfl (by decide) (by simp <;> omega) ?_; intro g5 cap5 w5 ho5 hg5 hgr5; have hbx5 := Kpt.mk (((hbx3.out.alloc _).alloc _).grown hgr5.out (fun e => by have h1 := hbx3.out.lt; have h2 : (w3.heap.size + 1) = w.heap.size + 1 := Option.some.inj e; omega)); have hbe5 : Kpt (Below w.heap.size w w5) := ⟨(hbe3.out.trans ((((Below.refl w3.heap.size w3).alloc (Nat.le_refl _) _).alloc (by simp) _).mono hbe3.out.size)).grown hgr5.out (by have h1 := hbe3.out.size; simp; omega) (fun q hq => by have h1 := hbe3.out.size; have h2 : (w3.heap.size + 1) = q := Option.some.inj hq; omega)⟩; have hl3 := Kpt.mk hbx3.out.lt; clear hbx3 ho3 hgr5 y0 y1)) | (refine wpList_store_bx rfl 42 (.tmp 5) (.tmp 69) rfl (w.heap.size + 1) _ noS.vals rfl rfl hbx5.out rfl infoS (Sn.vals_one noS) rfl ?_; intro w6 hbx6 hg6; have hbe6 := Kpt.mk (hbe5.out.grown hg6 hbe5.out.size (fun q hq => by cases hq; omega)); have hr6 := Kpt.mk (rd_past ho5.out hg5.out hg6 hl3.out); obtain ⟨c0, c1, c2, c3, c4, c5, c6, c7⟩ := bx_sn hbx6; clear hbx6 hg6 hbx5 hbe5 ho5))
  refine bodyPost_ret (v := .tuple #[_, .agg noS.vals, .bool true]) (by simp [results, Try.results15, go_sem, c0, c1, c2, c3, c4, c5, c6, c7, Sn.vals]) rfl ⟨_, rfl, hr6.out, hbe6.out⟩

set_option maxRecDepth 100000 in
set_option maxHeartbeats 2000000 in
theorem rsense_10_3_0_0 (B : Nat) (n s : Vs) (c : Cm) (w : World) (hP : RPg w B n s) (hpg : c.pg = 10) (hct : c.ct = 3) (hlg : c.lg = false) (hnc : n.c = false) :
    Calls Try.prog 15 #[.pointer (some ⟨B, 0, none⟩), .agg c.vals] w fun e w' => ∃ v, e = .returned (.tuple #[v, .agg noS.vals, .bool true]) ∧ RdAt w' v (senL c.lg c.pg c.ct n s) ∧ Below w.heap.size w w' := by
  have hsz := Kpt.mk (sW_size w c)
  have hbl := Kpt.mk (sW_below w c)
  have hbx := Kpt.mk (sW_bx w c)
  have hP1 := hP.below (sW_below w c) hP.lt
  have x0 := hP1.c0
  have x1 := hP1.c1
  have z1 := sW_cell w c 1 (by decide)
  have z9 := sW_cell w c 9 (by decide)
  have z10 := sW_cell w c 10 (by decide)
  have hBlt := hP.lt
  have hq := vB_div n
  rw [hnc] at hq
  simp only [if_true, if_false, Bool.false_eq_true, reduceIte] at hq
  obtain ⟨av, hav⟩ : ∃ av, av = askV c.ct n s := ⟨_, rfl⟩
  have hsen : senL c.lg c.pg c.ct n s = headL false (12 : Nat) false ++ ctlL av := by rw [hav, hlg, hpg]; unfold senL layB; simp [hnc, cachL, ctlL]
  rw [hsen]
  have HP := Kpt.mk (fun W => dpage_10 av W)
  have hv : vB av = vB s := by rw [hav]; unfold askV; rw [if_neg (by omega), if_neg (by omega), if_pos hct]
  rw [hv] at HP
  obtain ⟨kd, lg, lba, bl, al, fua, pr, um, ev, pg, ct, sv, se, ty, bs⟩ := c
  simp only at hpg hct hlg
  subst hpg hlg
  subst hct
  simp only [Cm.vals] at z1 z9 z10 ⊢
  simp at z1 z9 z10
  clear hav hv hsen hP hP1 hnc
  generalize vB n = xn at *
  generalize vB s = xs at *
  simp only [sW, zeroS, Cm.vals] at x0 x1 z1 z9 z10 hbl hbx hsz
  go_enter Try.func15, Try.ntmps15
  go_wp2_with (first | (go_at_call 20; go_loud (refine (HP.out _).mono ?_; rintro e w3 ⟨g3, rfl, hg3, ho3, hb3⟩; have hbx3 := Kpt.mk (hbx.out.below hb3 (by rw [hsz.out]; omega)); have hbe3 := Kpt.mk (hbl.out.trans (hb3.mono (by rw [hsz.out]; omega))); have y0 := (hb3.cell (p := ⟨B, 0, none⟩) (by show B < _; rw [hsz.out]; omega)).trans x0; have y1 : ∀ o, (w3.alloc o).cell? ⟨w.heap.size, 1, none⟩ = some (.bool false) := fun o => (((Below.refl w3.heap.size w3).alloc (Nat.le_refl _) o).cell (p := ⟨w.heap.size, 1, none⟩) (by have := hbx3.out.lt; show w.heap.size < _; omega)).trans ((hb3.cell (p := ⟨w.heap.size, 1, none⟩) (by show w.heap.size < _; rw [hsz.out]; omega)).trans z1); replace ho3 := Kpt.mk ho3; clear x0 x1 z1 z9 z10 hbl hbx hsz hb3)) | (at_builtin; go_loud (refine wpList_append_new rfl (.tmp 66) (.tmp 67) rfl w3.heap.size _ _ (headL false (12 : Nat) false) (ctlL av) 4 16 rfl rfl (own_alloc w3 w3.heap.size 4 w3.heap.size (headL false (12 : Nat) false) (by simp) rfl (by decide) (by omega)) (rd_on ho3.out (by decide) ((Below.refl w3.heap.size w3).alloc (Nat.le_refl _) _)) (by show (0 : Nat) < 12; decide) rfl rfl (by decide) (by simp <;> omega) ?_; intro g5 cap5 w5 ho5 hg5 hgr5; have hbx5 := Kpt.mk ((hbx3.out.alloc _).grown hgr5.out (fun e => by have h1 := hbx3.out.lt; have h2 : w3.heap.size = w.heap.size + 1 := Option.some.inj e; omega)); have hbe5 : Kpt (Below w.heap.size w w5) := ⟨(hbe3.out.trans (((Below.refl w3.heap.size w3).alloc (Nat.le_refl _) _).mono hbe3.out.size)).grown hgr5.out (by have h1 := hbe3.out.size; simp; omega) (fun q hq => by have h1 := hbe3.out.size; have h2 : w3.heap.size = q := Option.some.inj hq; omega)⟩; have hl3 := Kpt.mk hbx3.out.lt; clear hbx3 ho3 hgr5 y0 y1)) | (refine wpList_store_bx rfl 42 (.tmp 5) (.tmp 69) rfl (w.heap.size + 1) _ noS.vals rfl rfl hbx5.out rfl infoS (Sn.vals_one noS) rfl ?_; intro w6 hbx6 hg6; have hbe6 := Kpt.mk (hbe5.out.grown hg6 hbe5.out.size (fun q hq => by cases hq; omega)); have hr6 := Kpt.mk (rd_past ho5.out hg5.out hg6 hl3.out); obtain ⟨c0, c1, c2, c3, c4, c5, c6, c7⟩ := bx_sn hbx6; clear hbx6 hg6 hbx5 hbe5 ho5))
  refine bodyPost_ret (v := .tuple #[_, .agg noS.vals, .bool true]) (by simp [results, Try.results15, go_sem, c0, c1, c2, c3, c4, c5, c6, c7, Sn.vals]) rfl ⟨_, rfl, hr6.out, hbe6.out⟩

set_option maxRecDepth 100000 in
set_option maxHeartbeats 2000000 in
theorem rsense_10_3_0_1 (B : Nat) (n s : Vs) (c : Cm) (w : World) (hP : RPg w B n s) (hpg : c.pg = 10) (hct : c.ct = 3) (hlg : c.lg = false) (hnc : n.c = true) :
    Calls Try.prog 15 #[.pointer (some ⟨B, 0, none⟩), .agg c.vals] w fun e w' => ∃ v, e = .returned (.tuple #[v, .agg noS.vals, .bool true]) ∧ RdAt w' v (senL c.lg c.pg c.ct n s) ∧ Below w.heap.size w w' := by
  have hsz := Kpt.mk (sW_size w c)
  have hbl := Kpt.mk (sW_below w c)
  have hbx := Kpt.mk (sW_bx w c)
  have hP1 := hP.below (sW_below w c) hP.lt
  have x0 := hP1.c0
  have x1 := hP1.c1
  have z1 := sW_cell w c 1 (by decide)
  have z9 := sW_cell w c 9 (by decide)
  have z10 := sW_cell w c 10 (by decide)
  have hBlt := hP.lt
  have hq := vB_div n
  rw [hnc] at hq
  simp only [if_true, if_false, Bool.false_eq_true, reduceIte] at hq
  obtain ⟨av, hav⟩ : ∃ av, av = askV c.ct n s := ⟨_, rfl⟩
  have hsen : senL c.lg c.pg c.ct n s = headL false (12 : Nat) true ++ ctlL av := by rw [hav, hlg, hpg]; unfold senL layB; simp [hnc, cachL, ctlL]
  rw [hsen]
  have HP := Kpt.mk (fun W => dpage_10 av W)
  have hv : vB av = vB s := by rw [hav]; unfold askV; rw [if_neg (by omega), if_neg (by omega), if_pos hct]
  rw [hv] at HP
  obtain ⟨kd, lg, lba, bl, al, fua, pr, um, ev, pg, ct, sv, se, ty, bs⟩ := c
  simp only at hpg hct hlg
  subst hpg hlg
  subst hct
  simp only [Cm.vals] at z1 z9 z10 ⊢
  simp at z1 z9 z10
  clear hav hv hsen hP hP1 hnc
  generalize vB n = xn at *
  generalize vB s = xs at *
  simp only [sW, zeroS, Cm.vals] at x0 x1 z1 z9 z10 hbl hbx hsz
  go_enter Try.func15, Try.ntmps15
  go_wp2_with (first | (go_at_call 20; go_loud (refine (HP.out _).mono ?_; rintro e w3 ⟨g3, rfl, hg3, ho3, hb3⟩; have hbx3 := Kpt.mk (hbx.out.below hb3 (by rw [hsz.out]; omega)); have hbe3 := Kpt.mk (hbl.out.trans (hb3.mono (by rw [hsz.out]; omega))); have y0 := (hb3.cell (p := ⟨B, 0, none⟩) (by show B < _; rw [hsz.out]; omega)).trans x0; have y1 : ∀ o, (w3.alloc o).cell? ⟨w.heap.size, 1, none⟩ = some (.bool false) := fun o => (((Below.refl w3.heap.size w3).alloc (Nat.le_refl _) o).cell (p := ⟨w.heap.size, 1, none⟩) (by have := hbx3.out.lt; show w.heap.size < _; omega)).trans ((hb3.cell (p := ⟨w.heap.size, 1, none⟩) (by show w.heap.size < _; rw [hsz.out]; omega)).trans z1); replace ho3 := Kpt.mk ho3; clear x0 x1 z1 z9 z10 hbl hbx hsz hb3)) | (at_builtin; go_loud (refine wpList_append_new rfl (.tmp 66) (.tmp 67) rfl w3.heap.size _ _ (headL false (12 : Nat) true) (ctlL av) 4 16 rfl rfl (own_alloc w3 w3.heap.size 4 w3.heap.size (headL false (12 : Nat) true) (by simp) rfl (by decide) (by omega)) (rd_on ho3.out (by decide) ((Below.refl w3.heap.size w3).alloc (Nat.le_refl _) _)) (by show (0 : Nat) < 12; decide) rfl rfl (by decide) (by simp <;> omega) ?_; intro g5 cap5 w5 ho5 hg5 hgr5; have hbx5 := Kpt.mk ((hbx3.out.alloc _).grown hgr5.out (fun e => by have h1 := hbx3.out.lt; have h2 : w3.heap.size = w.heap.size + 1 := Option.some.inj e; omega)); have hbe5 : Kpt (Below w.heap.size w w5) := ⟨(hbe3.out.trans (((Below.refl w3.heap.size w3).alloc (Nat.le_refl _) _).mono hbe3.out.size)).grown hgr5.out (by have h1 := hbe3.out.size; simp; omega) (fun q hq => by have h1 := hbe3.out.size; have h2 : w3.heap.size = q := Option.some.inj hq; omega)⟩; have hl3 := Kpt.mk hbx3.out.lt; clear hbx3 ho3 hgr5 y0 y1)) | (refine wpList_store_bx rfl 42 (.tmp 5) (.tmp 69) rfl (w.heap.size + 1) _ noS.vals rfl rfl hbx5.out rfl infoS (Sn.vals_one noS) rfl ?_; intro w6 hbx6 hg6; have hbe6 := Kpt.mk (hbe5.out.grown hg6 hbe5.out.size (fun q hq => by cases hq; omega)); have hr6 := Kpt.mk (rd_past ho5.out hg5.out hg6 hl3.out); obtain ⟨c0, c1, c2, c3, c4, c5, c6, c7⟩ := bx_sn hbx6; clear hbx6 hg6 hbx5 hbe5 ho5))
  refine bodyPost_ret (v := .tuple #[_, .agg noS.vals, .bool true]) (by simp [results, Try.results15, go_sem, c0, c1, c2, c3, c4, c5, c6, c7, Sn.vals]) rfl ⟨_, rfl, hr6.out, hbe6.out⟩

set_option maxRecDepth 100000 in
set_option maxHeartbeats 2000000 in
theorem rsense_10_3_1_0 (B : Nat) (n s : Vs) (c : Cm) (w : World) (hP : RPg w B n s) (hpg : c.pg = 10) (hct : c.ct = 3) (hlg : c.lg = true) (hnc : n.c = false) :
    Calls Try.prog 15 #[.pointer (some ⟨B, 0, none⟩), .agg c.vals] w fun e w' => ∃ v, e = .returned (.tuple #[v, .agg noS.vals, .bool true]) ∧ RdAt w' v (senL c.lg c.pg c.ct n s) ∧ Below w.heap.size w w' := by
  have hsz := Kpt.mk (sW_size w c)
  have hbl := Kpt.mk (sW_below w c)
  have hbx := Kpt.mk (sW_bx w c)
  have hP1 := hP.below (sW_below w c) hP.lt
  have x0 := hP1.c0
  have x1 := hP1.c1
  have z1 := sW_cell w c 1 (by decide)
  have z9 := sW_cell w c 9 (by decide)
  have z10 := sW_cell w c 10 (by decide)
  have hBlt := hP.lt
  have hq := vB_div n
  rw [hnc] at hq
  simp only [if_true, if_false, Bool.false_eq_true, reduceIte] at hq
  obtain ⟨av, hav⟩ : ∃ av, av = askV c.ct n s := ⟨_, rfl⟩
  have hsen : senL c.lg c.pg c.ct n s = headL true (12 : Nat) false ++ ctlL av := by rw [hav, hlg, hpg]; unfold senL layB; simp [hnc, cachL, ctlL]
  rw [hsen]
  have HP := Kpt.mk (fun W => dpage_10 av W)
  have hv : vB av = vB s := by rw [hav]; unfold askV; rw [if_neg (by omega), if_neg (by omega), if_pos hct]
  rw [hv] at HP
  obtain ⟨kd, lg, lba, bl, al, fua, pr, um, ev, pg, ct, sv, se, ty, bs⟩ := c
  simp only at hpg hct hlg
  subst hpg hlg
  subst hct
  simp only [Cm.vals] at z1 z9 z10 ⊢
  simp at z1 z9 z10
  clear hav hv hsen hP hP1 hnc
  generalize vB n = xn at *
  generalize vB s = xs at *
  simp only [sW, zeroS, Cm.vals] at x0 x1 z1 z9 z10 hbl hbx hsz
  go_enter Try.func15, Try.ntmps15
  go_wp2_with (first | (go_at_call 20; go_loud (refine (HP.out _).mono ?_; rintro e w3 ⟨g3, rfl, hg3, ho3, hb3⟩; have hbx3 := Kpt.mk (hbx.out.below hb3 (by rw [hsz.out]; omega)); have hbe3 := Kpt.mk (hbl.out.trans (hb3.mono (by rw [hsz.out]; omega))); have y0 := (hb3.cell (p := ⟨B, 0, none⟩) (by show B < _; rw [hsz.out]; omega)).trans x0; have y1 : ∀ o, (w3.alloc o).cell? ⟨w.heap.size, 1, none⟩ = some (.bool true) := fun o => (((Below.refl w3.heap.size w3).alloc (Nat.le_refl _) o).cell (p := ⟨w.heap.size, 1, none⟩) (by have := hbx3.out.lt; show w.heap.size < _; omega)).trans ((hb3.cell (p := ⟨w.heap.size, 1, none⟩) (by show w.heap.size < _; rw [hsz.out]; omega)).trans z1); replace ho3 := Kpt.mk ho3; clear x0 x1 z1 z9 z10 hbl hbx hsz hb3)) | (at_builtin; go_loud (refine wpList_append_new rfl (.tmp 66) (.tmp 67) rfl w3.heap.size _ _ (headL true (12 : Nat) false) (ctlL av) 8 20 rfl rfl (own_alloc (w3.alloc _) (w3.heap.size + 1) 8 w3.heap.size (headL true (12 : Nat) false) (by simp) rfl (by decide) (by omega)) (rd_on ho3.out (by decide) (((Below.refl w3.heap.size w3).alloc (Nat.le_refl _) _).alloc (by simp) _)) (by show (0 : Nat) < 12; decide) rfl rfl (by decide) (by simp <;> omega) ?_; intro g5 cap5 w5 ho5 hg5 hgr5; have hbx5 := Kpt.mk (((hbx3.out.alloc _).alloc _).grown hgr5.out (fun e => by have h1 := hbx3.out.lt; have h2 : (w3.heap.size + 1) = w.heap.size + 1 := Option.some.inj e; omega)); have hbe5 : Kpt (Below w.heap.size w w5) := ⟨(hbe3.out.trans ((((Below.refl w3.heap.size w3).alloc (Nat.le_refl _) _).alloc (by simp) _).mono hbe3.out.size)).grown hgr5.out (by have h1 := hbe3.out.size; simp; omega) (fun q hq => by have h1 := hbe3.out.size; have h2 : (w3.heap.size + 1) = q := Option.some.inj hq; omega)⟩; have hl3 := Kpt.mk hbx3.out.lt; clear hbx3 ho3 hgr5 y0 y1)) | (refine wpList_store_bx rfl 42 (.tmp 5) (.tmp 69) rfl (w.heap.size + 1) _ noS.vals rfl rfl hbx5.out rfl infoS (Sn.vals_one noS) rfl ?_; intro w6 hbx6 hg6; have hbe6 := Kpt.mk (hbe5.out.grown hg6 hbe5.out.size (fun q hq => by cases hq; omega)); have hr6 := Kpt.mk (rd_past ho5.out hg5.out hg6 hl3.out); obtain ⟨c0, c1, c2, c3, c4, c5, c6, c7⟩ := bx_sn hbx6; clear hbx6 hg6 hbx5 hbe5 ho5))
  refine bodyPost_ret (v := .tuple #[_, .agg noS.vals, .bool true]) (by simp [results, Try.results15, go_sem, c0, c1, c2, c3, c4, c5, c6, c7, Sn.vals]) rfl ⟨_, rfl, hr6.out, hbe6.out⟩

set_option maxRecDepth 100000 in
set_option maxHeartbeats 2000000 in
theorem rsense_10_3_1_1 (B : Nat) (n s : Vs) (c : Cm) (w : World) (hP : RPg w B n s) (hpg : c.pg = 10) (hct : c.ct = 3) (hlg : c.lg = true) (hnc : n.c = true) :
    Calls Try.prog 15 #[.pointer (some ⟨B, 0, none⟩), .agg c.vals] w fun e w' => ∃ v, e = .returned (.tuple #[v, .agg noS.vals, .bool true]) ∧ RdAt w' v (senL c.lg c.pg c.ct n s) ∧ Below w.heap.size w w' := by
  have hsz := Kpt.mk (sW_size w c)
  have hbl := Kpt.mk (sW_below w c)
  have hbx := Kpt.mk (sW_bx w c)
  have hP1 := hP.below (sW_below w c) hP.lt
  have x0 := hP1.c0
  have x1 := hP1.c1
  have z1 := sW_cell w c 1 (by decide)
  have z9 := sW_cell w c 9 (by decide)
  have z10 := sW_cell w c 10 (by decide)
  have hBlt := hP.lt
  have hq := vB_div n
  rw [hnc] at hq
  simp only [if_true, if_false, Bool.false_eq_true, reduceIte] at hq
  obtain ⟨av, hav⟩ : ∃ av, av = askV c.ct n s := ⟨_, rfl⟩
  have hsen : senL c.lg c.pg c.ct n s = headL true (12 : Nat) true ++ ctlL av := by rw [hav, hlg, hpg]; unfold senL layB; simp [hnc, cachL, ctlL]
  rw [hsen]
  have HP := Kpt.mk (fun W => dpage_10 av W)
  have hv : vB av = vB s := by rw [hav]; unfold askV; rw [if_neg (by omega), if_neg (by omega), if_pos hct]
  rw [hv] at HP
  obtain ⟨kd, lg, lba, bl, al, fua, pr, um, ev, pg, ct, sv, se, ty, bs⟩ := c
  simp only at hpg hct hlg
  subst hpg hlg
  subst hct
  simp only [Cm.vals] at z1 z9 z10 ⊢
  simp at z1 z9 z10
  clear hav hv hsen hP hP1 hnc
  generalize vB n = xn at *
  generalize vB s = xs at *
  simp only [sW, zeroS, Cm.vals] at x0 x1 z1 z9 z10 hbl hbx hsz
  go_enter Try.func15, Try.ntmps15
  go_wp2_with (first | (go_at_call 20; go_loud (refine (HP.out _).mono ?_; rintro e w3 ⟨g3, rfl, hg3, ho3, hb3⟩; have hbx3 := Kpt.mk (hbx.out.below hb3 (by rw [hsz.out]; omega)); have hbe3 := Kpt.mk (hbl.out.trans (hb3.mono (by rw [hsz.out]; omega))); have y0 := (hb3.cell (p := ⟨B, 0, none⟩) (by show B < _; rw [hsz.out]; omega)).trans x0; have y1 : ∀ o, (w3.alloc o).cell? ⟨w.heap.size, 1, none⟩ = some (.bool true) := fun o => (((Below.refl w3.heap.size w3).alloc (Nat.le_refl _) o).cell (p := ⟨w.heap.size, 1, none⟩) (by have := hbx3.out.lt; show w.heap.size < _; omega)).trans ((hb3.cell (p := ⟨w.heap.size, 1, none⟩) (by show w.heap.size < _; rw [hsz.out]; omega)).trans z1); replace ho3 := Kpt.mk ho3; clear x0 x1 z1 z9 z10 hbl hbx hsz hb3)) | (at_builtin; go_loud (refine wpList_append_new rfl (.tmp 66) (.tmp 67) rfl w3.heap.size _ _ (headL true (12 : Nat) true) (ctlL av) 8 20 rfl rfl (own_alloc (w3.alloc _) (w3.heap.size + 1) 8 w3.heap.size (headL true (12 : Nat) true) (by simp) rfl (by decide) (by omega)) (rd_on ho3.out (by decide) (((Below.refl w3.heap.size w3).alloc (Nat.le_refl _) _).alloc (by simp) _)) (by show (0 : Nat) < 12; decide) rfl rfl (by decide) (by simp <;> omega) ?_; intro g5 cap5 w5 ho5 hg5 hgr5; have hbx5 := Kpt.mk (((hbx3.out.alloc _).alloc _).grown hgr5.out (fun e => by have h1 := hbx3.out.lt; have h2 : (w3.heap.size + 1) = w.heap.size + 1 := Option.some.inj e; omega)); have hbe5 : Kpt (Below w.heap.size w w5) := ⟨(hbe3.out.trans ((((Below.refl w3.heap.size w3).alloc (Nat.le_refl _) _).alloc (by simp) _).mono hbe3.out.size)).grown hgr5.out (by have h1 := hbe3.out.size; simp; omega) (fun q hq => by have h1 := hbe3.out.size; have h2 : (w3.heap.size + 1) = q := Option.some.inj hq; omega)⟩; have hl3 := Kpt.mk hbx3.out.lt; clear hbx3 ho3 hgr5 y0 y1)) | (refine wpList_store_bx rfl 42 (.tmp 5) (.tmp 69) rfl (w.heap.size + 1) _ noS.vals rfl rfl hbx5.out rfl infoS (Sn.vals_one noS) rfl ?_; intro w6 hbx6 hg6; have hbe6 := Kpt.mk (hbe5.out.grown hg6 hbe5.out.size (fun q hq => by cases hq; omega)); have hr6 := Kpt.mk (rd_past ho5.out hg5.out hg6 hl3.out); obtain ⟨c0, c1, c2, c3, c4, c5, c6, c7⟩ := bx_sn hbx6; clear hbx6 hg6 hbx5 hbe5 ho5))
  refine bodyPost_ret (v := .tuple #[_, .agg noS.vals, .bool true]) (by simp [results, Try.results15, go_sem, c0, c1, c2, c3, c4, c5, c6, c7, Sn.vals]) rfl ⟨_, rfl, hr6.out, hbe6.out⟩

set_option maxRecDepth 100000 in
set_option maxHeartbeats 2000000 in
theorem rsense_10_0_0_0 (B : Nat) (n s : Vs) (c : Cm) (w : World) (hP : RPg w B n s) (hpg : c.pg = 10) (hct : c.ct ≠ 1 ∧ c.ct ≠ 2 ∧ c.ct ≠ 3) (hlg : c.lg = false) (hnc : n.c = false) :
    Calls Try.prog 15 #[.pointer (some ⟨B, 0, none⟩), .agg c.vals] w fun e w' => ∃ v, e = .returned (.tuple #[v, .agg noS.vals, .bool true]) ∧ RdAt w' v (senL c.lg c.pg c.ct n s) ∧ Below w.heap.size w w' := by
  have hsz := Kpt.mk (sW_size w c)
  have hbl := Kpt.mk (sW_below w c)
  have hbx := Kpt.mk (sW_bx w c)
  have hP1 := hP.below (sW_below w c) hP.lt
  have x0 := hP1.c0
  have x1 := hP1.c1
  have z1 := sW_cell w c 1 (by decide)
  have z9 := sW_cell w c 9 (by decide)
  have z10 := sW_cell w c 10 (by decide)
  have hBlt := hP.lt
  have hq := vB_div n
  rw [hnc] at hq
  simp only [if_true, if_false, Bool.false_eq_true, reduceIte] at hq
  obtain ⟨av, hav⟩ : ∃ av, av = askV c.ct n s := ⟨_, rfl⟩
  have hsen : senL c.lg c.pg c.ct n s = headL false (12 : Nat) false ++ ctlL av := by rw [hav, hlg, hpg]; unfold senL layB; simp [hnc, cachL, ctlL]
  rw [hsen]
  have HP := Kpt.mk (fun W => dpage_10 av W)
  have hv : vB av = vB n := by rw [hav]; unfold askV; rw [if_neg hct.1, if_neg hct.2.1, if_neg hct.2.2]
  rw [hv] at HP
  obtain ⟨kd, lg, lba, bl, al, fua, pr, um, ev, pg, ct, sv, se, ty, bs⟩ := c
  simp only at hpg hct hlg
  subst hpg hlg
  obtain ⟨k1, k2, k3⟩ := hct
  simp only [Cm.vals] at z1 z9 z10 ⊢
  simp at z1 z9 z10
  clear hav hv hsen hP hP1 hnc
  generalize vB n = xn at *
  generalize vB s = xs at *
  simp only [sW, zeroS, Cm.vals] at x0 x1 z1 z9 z10 hbl hbx hsz
  go_enter Try.func15, Try.ntmps15
  go_wp2_with (first | (go_at_call 20; go_loud (refine (HP.out _).mono ?_; rintro e w3 ⟨g3, rfl, hg3, ho3, hb3⟩; have hbx3 := Kpt.mk (hbx.out.below hb3 (by rw [hsz.out]; omega)); have hbe3 := Kpt.mk (hbl.out.trans (hb3.mono (by rw [hsz.out]; omega))); have y0 := (hb3.cell (p := ⟨B, 0, none⟩) (by show B < _; rw [hsz.out]; omega)).trans x0; have y1 : ∀ o, (w3.alloc o).cell? ⟨w.heap.size, 1, none⟩ = some (.bool false) := fun o => (((Below.refl w3.heap.size w3).alloc (Nat.le_refl _) o).cell (p := ⟨w.heap.size, 1, none⟩) (by have := hbx3.out.lt; show w.heap.size < _; omega)).trans ((hb3.cell (p := ⟨w.heap.size, 1, none⟩) (by show w.heap.size < _; rw [hsz.out]; omega)).trans z1); replace ho3 := Kpt.mk ho3; clear x0 x1 z1 z9 z10 hbl hbx hsz hb3)) | (at_builtin; go_loud (refine wpList_append_new rfl (.tmp 66) (.tmp 67) rfl w3.heap.size _ _ (headL false (12 : Nat) false) (ctlL av) 4 16 rfl rfl (own_alloc w3 w3.heap.size 4 w3.heap.size (headL false (12 : Nat) false) (by simp) rfl (by decide) (by omega)) (rd_on ho3.out (by decide) ((Below.refl w3.heap.size w3).alloc (Nat.le_refl _) _)) (by show (0 : Nat) < 12; decide) rfl rfl (by decide) (by simp <;> omega) ?_; intro g5 cap5 w5 ho5 hg5 hgr5; have hbx5 := Kpt.mk ((hbx3.out.alloc _).grown hgr5.out (fun e => by have h1 := hbx3.out.lt; have h2 : w3.heap.size = w.heap.size + 1 := Option.some.inj e; omega)); have hbe5 : Kpt (Below w.heap.size w w5) := ⟨(hbe3.out.trans (((Below.refl w3.heap.size w3).alloc (Nat.le_refl _) _).mono hbe3.out.size)).grown hgr5.out (by have h1 := hbe3.out.size; simp; omega) (fun q hq => by have h1 := hbe3.out.size; have h2 : w3.heap.size = q := Option.some.inj hq; omega)⟩; have hl3 := Kpt.mk hbx3.out.lt; clear hbx3 ho3 hgr5 y0 y1)) | (refine wpList_store_bx rfl 42 (.tmp 5) (.tmp 69) rfl (w.heap.size + 1) _ noS.vals rfl rfl hbx5.out rfl infoS (Sn.vals_one noS) rfl ?_; intro w6 hbx6 hg6; have hbe6 := Kpt.mk (hbe5.out.grown hg6 hbe5.out.size (fun q hq => by cases hq; omega)); have hr6 := Kpt.mk (rd_past ho5.out hg5.out hg6 hl3.out); obtain ⟨c0, c1, c2, c3, c4, c5, c6, c7⟩ := bx_sn hbx6; clear hbx6 hg6 hbx5 hbe5 ho5))
  refine bodyPost_ret (v := .tuple #[_, .agg noS.vals, .bool true]) (by simp [results, Try.results15, go_sem, c0, c1, c2, c3, c4, c5, c6, c7, Sn.vals]) rfl ⟨_, rfl, hr6.out, hbe6.out⟩

set_option maxRecDepth 100000 in
set_option maxHeartbeats 2000000 in
theorem rsense_10_0_0_1 (B : Nat) (n s : Vs) (c : Cm) (w : World) (hP : RPg w B n s) (hpg : c.pg = 10) (hct : c.ct ≠ 1 ∧ c.ct ≠ 2 ∧ c.ct ≠ 3) (hlg : c.lg = false) (hnc : n.c = true) :
    Calls Try.prog 15 #[.pointer (some ⟨B, 0, none⟩), .agg c.vals] w fun e w' => ∃ v, e = .returned (.tuple #[v, .agg noS.vals, .bool true]) ∧ RdAt w' v (senL c.lg c.pg c.ct n s) ∧ Below w.heap.size w w' := by
  have hsz := Kpt.mk (sW_size w c)
  have hbl := Kpt.mk (sW_below w c)
  have hbx := Kpt.mk (sW_bx w c)
  have hP1 := hP.below (sW_below w c) hP.lt
  have x0 := hP1.c0
  have x1 := hP1.c1
  have z1 := sW_cell w c 1 (by decide)
  have z9 := sW_cell w c 9 (by decide)
  have z10 := sW_cell w c 10 (by decide)
  have hBlt := hP.lt
  have hq := vB_div n
  rw [hnc] at hq
  simp only [if_true, if_false, Bool.false_eq_true, reduceIte] at hq
  obtain ⟨av, hav⟩ : ∃ av, av = askV c.ct n s := ⟨_, rfl⟩
  have hsen : senL c.lg c.pg c.ct n s = headL false (12 : Nat) true ++ ctlL av := by rw [hav, hlg, hpg]; unfold senL layB; simp [hnc, cachL, ctlL]
  rw [hsen]
  have HP := Kpt.mk (fun W => dpage_10 av W)
  have hv : vB av = vB n := by rw [hav]; unfold askV; rw [if_neg hct.1, if_neg hct.2.1, if_neg hct.2.2]
  rw [hv] at HP
  obtain ⟨kd, lg, lba, bl, al, fua, pr, um, ev, pg, ct, sv, se, ty, bs⟩ := c
  simp only at hpg hct hlg
  subst hpg hlg
  obtain ⟨k1, k2, k3⟩ := hct
  simp only [Cm.vals] at z1 z9 z10 ⊢
  simp at z1 z9 z10
  clear hav hv hsen hP hP1 hnc
  generalize vB n = xn at *
  generalize vB s = xs at *
  simp only [sW, zeroS, Cm.vals] at x0 x1 z1 z9 z10 hbl hbx hsz
  go_enter Try.func15, Try.ntmps15
  go_wp2_with (first | (go_at_call 20; go_loud (refine (HP.out _).mono ?_; rintro e w3 ⟨g3, rfl, hg3, ho3, hb3⟩; have hbx3 := Kpt.mk (hbx.out.below hb3 (by rw [hsz.out]; omega)); have hbe3 := Kpt.mk (hbl.out.trans (hb3.mono (by rw [hsz.out]; omega))); have y0 := (hb3.cell (p := ⟨B, 0, none⟩) (by show B < _; rw [hsz.out]; omega)).trans x0; have y1 : ∀ o, (w3.alloc o).cell? ⟨w.heap.size, 1, none⟩ = some (.bool false) := fun o => (((Below.refl w3.heap.size w3).alloc (Nat.le_refl _) o).cell (p := ⟨w.heap.size, 1, none⟩) (by have := hbx3.out.lt; show w.heap.size < _; omega)).trans ((hb3.cell (p := ⟨w.heap.size, 1, none⟩) (by show w.heap.size < _; rw [hsz.out]; omega)).trans z1); replace ho3 := Kpt.mk ho3; clear x0 x1 z1 z9 z10 hbl hbx hsz hb3)) | (at_builtin; go_loud (refine wpList_append_new rfl (.tmp 66) (.tmp 67) rfl w3.heap.size _ _ (headL false (12 : Nat) true) (ctlL av) 4 16 rfl rfl (own_alloc w3 w3.heap.size 4 w3.heap.size (headL false (12 : Nat) true) (by simp) rfl (by decide) (by omega)) (rd_on ho3.out (by decide) ((Below.refl w3.heap.size w3).alloc (Nat.le_refl _) _)) (by show (0 : Nat) < 12; decide) rfl rfl (by decide) (by simp <;> omega) ?_; intro g5 cap5 w5 ho5 hg5 hgr5; have hbx5 := Kpt.mk ((hbx3.out.alloc _).grown hgr5.out (fun e => by have h1 := hbx3.out.lt; have h2 : w3.heap.size = w.heap.size + 1 := Option.some.inj e; omega)); have hbe5 : Kpt (Below w.heap.size w w5) := ⟨(hbe3.out.trans (((Below.refl w3.heap.size w3).alloc (Nat.le_refl _) _).mono hbe3.out.size)).grown hgr5.out (by have h1 := hbe3.out.size; simp; omega) (fun q hq => by have h1 := hbe3.out.size; have h2 : w3.heap.size = q := Option.some.inj hq; omega)⟩; have hl3 := Kpt.mk hbx3.out.lt; clear hbx3 ho3 hgr5 y0 y1)) | (refine wpList_store_bx rfl 42 (.tmp 5) (.tmp 69) rfl (w.heap.size + 1) _ noS.vals rfl rfl hbx5.out rfl infoS (Sn.vals_one noS) rfl ?_; intro w6 hbx6 hg6; have hbe6 := Kpt.mk (hbe5.out.grown hg6 hbe5.out.size (fun q hq => by cases hq; omega)); have hr6 := Kpt.mk (rd_past ho5.out hg5.out hg6 hl3.out); obtain ⟨c0, c1, c2, c3, c4, c5, c6, c7⟩ := bx_sn hbx6; clear hbx6 hg6 hbx5 hbe5 ho5))
  refine bodyPost_ret (v := .tuple #[_, .agg noS.vals, .bool true]) (by simp [results, Try.results15, go_sem, c0, c1, c2, c3, c4, c5, c6, c7, Sn.vals]) rfl ⟨_, rfl, hr6.out, hbe6.out⟩

set_option maxRecDepth 100000 in
set_option maxHeartbeats 2000000 in
theorem rsense_10_0_1_0 (B : Nat) (n s : Vs) (c : Cm) (w : World) (hP : RPg w B n s) (hpg : c.pg = 10) (hct : c.ct ≠ 1 ∧ c.ct ≠ 2 ∧ c.ct ≠ 3) (hlg : c.lg = true) (hnc : n.c = false) :
    Calls Try.prog 15 #[.pointer (some ⟨B, 0, none⟩), .agg c.vals] w fun e w' => ∃ v, e = .returned (.tuple #[v, .agg noS.vals, .bool true]) ∧ RdAt w' v (senL c.lg c.pg c.ct n s) ∧ Below w.heap.size w w' := by
  have hsz := Kpt.mk (sW_size w c)
  have hbl := Kpt.mk (sW_below w c)
  have hbx := Kpt.mk (sW_bx w c)
  have hP1 := hP.below (sW_below w c) hP.lt
  have x0 := hP1.c0
  have x1 := hP1.c1
  have z1 := sW_cell w c 1 (by decide)
  have z9 := sW_cell w c 9 (by decide)
  have z10 := sW_cell w c 10 (by decide)
  have hBlt := hP.lt
  have hq := vB_div n
  rw [hnc] at hq
  simp only [if_true, if_false, Bool.false_eq_true, reduceIte] at hq
  obtain ⟨av, hav⟩ : ∃ av, av = askV c.ct n s := ⟨_, rfl⟩
  have hsen : senL c.lg c.pg c.ct n s = headL true (12 : Nat) false ++ ctlL av := by rw [hav, hlg, hpg]; unfold senL layB; simp [hnc, cachL, ctlL]
  rw [hsen]
  have HP := Kpt.mk (fun W => dpage_10 av W)
  have hv : vB av = vB n := by rw [hav]; unfold askV; rw [if_neg hct.1, if_neg hct.2.1, if_neg hct.2.2]
  rw [hv] at HP
  obtain ⟨kd, lg, lba, bl, al, fua, pr, um, ev, pg, ct, sv, se, ty, bs⟩ := c
  simp only at hpg hct hlg
  subst hpg hlg
  obtain ⟨k1, k2, k3⟩ := hct
  simp only [Cm.vals] at z1 z9 z10 ⊢
  simp at z1 z9 z10
  clear hav hv hsen hP hP1 hnc
  generalize vB n = xn at *
  generalize vB s = xs at *
  simp only [sW, zeroS, Cm.vals] at x0 x1 z1 z9 z10 hbl hbx hsz
  go_enter Try.func15, Try.ntmps15
  go_wp2_with (first | (go_at_call 20; go_loud (refine (HP.out _).mono ?_; rintro e w3 ⟨g3, rfl, hg3, ho3, hb3⟩; have hbx3 := Kpt.mk (hbx.out.below hb3 (by rw [hsz.out]; omega)); have hbe3 := Kpt.mk (hbl.out.trans (hb3.mono (by rw [hsz.out]; omega))); have y0 := (hb3.cell (p := ⟨B, 0, none⟩) (by show B < _; rw [hsz.out]; omega)).trans x0; have y1 : ∀ o, (w3.alloc o).cell? ⟨w.heap.size, 1, none⟩ = some (.bool true) := fun o => (((Below.refl w3.heap.size w3).alloc (Nat.le_refl _) o).cell (p := ⟨w.heap.size, 1, none⟩) (by have := hbx3.out.lt; show w.heap.size < _; omega)).trans ((hb3.cell (p := ⟨w.heap.size, 1, none⟩) (by show w.heap.size < _; rw [hsz.out]; omega)).trans z1); replace ho3 := Kpt.mk ho3; clear x0 x1 z1 z9 z10 hbl hbx hsz hb3)) | (at_builtin; go_loud (refine wpList_append_new rfl (.tmp 66) (.tmp 67) rfl w3.heap.size _ _ (headL true (12 : Nat) false) (ctlL av) 8 20 rfl rfl (own_alloc (w3.alloc _) (w3.heap.size + 1) 8 w3.heap.size (headL true (12 : Nat) false) (by simp) rfl (by decide) (by omega)) (rd_on ho3.out (by decide) (((Below.refl w3.heap.size w3).alloc (Nat.le_refl _) _).alloc (by simp) _)) (by show (0 : Nat) < 12; decide) rfl rfl (by decide) (by simp <;> omega) ?_; intro g5 cap5 w5 ho5 hg5 hgr5; have hbx5 := Kpt.mk (((hbx3.out.alloc _).alloc _).grown hgr5.out (fun e => by have h1 := hbx3.out.lt; have h2 : (w3.heap.size + 1) = w.heap.size + 1 := Option.some.inj e; omega)); have hbe5 : Kpt (Below w.heap.size w w5) := ⟨(hbe3.out.trans ((((Below.refl w3.heap.size w3).alloc (Nat.le_refl _) _).alloc (by simp) _).mono hbe3.out.size)).grown hgr5.out (by have h1 := hbe3.out.size; simp; omega) (fun q hq => by have h1 := hbe3.out.size; have h2 : (w3.heap.size + 1) = q := Option.some.inj hq; omega)⟩; have hl3 := Kpt.mk hbx3.out.lt; clear hbx3 ho3 hgr5 y0 y1)) | (refine wpList_store_bx rfl 42 (.tmp 5) (.tmp 69) rfl (w.heap.size + 1) _ noS.vals rfl rfl hbx5.out rfl infoS (Sn.vals_one noS) rfl ?_; intro w6 hbx6 hg6; have hbe6 := Kpt.mk (hbe5.out.grown hg6 hbe5.out.size (fun q hq => by cases hq; omega)); have hr6 := Kpt.mk (rd_past ho5.out hg5.out hg6 hl3.out); obtain ⟨c0, c1, c2, c3, c4, c5, c6, c7⟩ := bx_sn hbx6; clear hbx6 hg6 hbx5 hbe5 ho5))
  refine bodyPost_ret (v := .tuple #[_, .agg noS.vals, .bool true]) (by simp [results, Try.results15, go_sem, c0, c1, c2, c3, c4, c5, c6, c7, Sn.vals]) rfl ⟨_, rfl, hr6.out, hbe6.out⟩

set_option maxRecDepth 100000 in
set_option maxHeartbeats 2000000 in
theorem rsense_10_0_1_1 (B : Nat) (n s : Vs) (c : Cm) (w : World) (hP : RPg w B n s) (hpg : c.pg = 10) (hct : c.ct ≠ 1 ∧ c.ct ≠ 2 ∧ c.ct ≠ 3) (hlg : c.lg = true) (hnc : n.c = true) :
    Calls Try.prog 15 #[.pointer (some ⟨B, 0, none⟩), .agg c.vals] w fun e w' => ∃ v, e = .returned (.tuple #[v, .agg noS.vals, .bool true]) ∧ RdAt w' v (senL c.lg c.pg c.ct n s) ∧ Below w.heap.size w w' := by
  have hsz := Kpt.mk (sW_size w c)
  have hbl := Kpt.mk (sW_below w c)
  have hbx := Kpt.mk (sW_bx w c)
  have hP1 := hP.below (sW_below w c) hP.lt
  have x0 := hP1.c0
  have x1 := hP1.c1
  have z1 := sW_cell w c 1 (by decide)
  have z9 := sW_cell w c 9 (by decide)
  have z10 := sW_cell w c 10 (by decide)
  have hBlt := hP.lt
  have hq := vB_div n
  rw [hnc] at hq
  simp only [if_true, if_false, Bool.false_eq_true, reduceIte] at hq
  obtain ⟨av, hav⟩ : ∃ av, av = askV c.ct n s := ⟨_, rfl⟩
  have hsen : senL c.lg c.pg c.ct n s = headL true (12 : Nat) true ++ ctlL av := by rw [hav, hlg, hpg]; unfold senL layB; simp [hnc, cachL, ctlL]
  rw [hsen]
  have HP := Kpt.mk (fun W => dpage_10 av W)
  have hv : vB av = vB n := by rw [hav]; unfold askV; rw [if_neg hct.1, if_neg hct.2.1, if_neg hct.2.2]
  rw [hv] at HP
  obtain ⟨kd, lg, lba, bl, al, fua, pr, um, ev, pg, ct, sv, se, ty, bs⟩ := c
  simp only at hpg hct hlg
  subst hpg hlg
  obtain ⟨k1, k2, k3⟩ := hct
  simp only [Cm.vals] at z1 z9 z10 ⊢
  simp at z1 z9 z10
  clear hav hv hsen hP hP1 hnc
  generalize vB n = xn at *
  generalize vB s = xs at *
  simp only [sW, zeroS, Cm.vals] at x0 x1 z1 z9 z10 hbl hbx hsz
  go_enter Try.func15, Try.ntmps15
  go_wp2_with (first | (go_at_call 20; go_loud (refine (HP.out _).mono ?_; rintro e w3 ⟨g3, rfl, hg3, ho3, hb3⟩; have hbx3 := Kpt.mk (hbx.out.below hb3 (by rw [hsz.out]; omega)); have hbe3 := Kpt.mk (hbl.out.trans (hb3.mono (by rw [hsz.out]; omega))); have y0 := (hb3.cell (p := ⟨B, 0, none⟩) (by show B < _; rw [hsz.out]; omega)).trans x0; have y1 : ∀ o, (w3.alloc o).cell? ⟨w.heap.size, 1, none⟩ = some (.bool true) := fun o => (((Below.refl w3.heap.size w3).alloc (Nat.le_refl _) o).cell (p := ⟨w.heap.size, 1, none⟩) (by have := hbx3.out.lt; show w.heap.size < _; omega)).trans ((hb3.cell (p := ⟨w.heap.size, 1, none⟩) (by show w.heap.size < _; rw [hsz.out]; omega)).trans z1); replace ho3 := Kpt.mk ho3; clear x0 x1 z1 z9 z10 hbl hbx hsz hb3)) | (at_builtin; go_loud (refine wpList_append_new rfl (.tmp 66) (.tmp 67) rfl w3.heap.size _ _ (headL true (12 : Nat) true) (ctlL av) 8 20 rfl rfl (own_alloc (w3.alloc _) (w3.heap.size + 1) 8 w3.heap.size (headL true (12 : Nat) true) (by simp) rfl (by decide) (by omega)) (rd_on ho3.out (by decide) (((Below.refl w3.heap.size w3).alloc (Nat.le_refl _) _).alloc (by simp) _)) (by show (0 : Nat) < 12; decide) rfl rfl (by decide) (by simp <;> omega) ?_; intro g5 cap5 w5 ho5 hg5 hgr5; have hbx5 := Kpt.mk (((hbx3.out.alloc _).alloc _).grown hgr5.out (fun e => by have h1 := hbx3.out.lt; have h2 : (w3.heap.size + 1) = w.heap.size + 1 := Option.some.inj e; omega)); have hbe5 : Kpt (Below w.heap.size w w5) := ⟨(hbe3.out.trans ((((Below.refl w3.heap.size w3).alloc (Nat.le_refl _) _).alloc (by simp) _).mono hbe3.out.size)).grown hgr5.out (by have h1 := hbe3.out.size; simp; omega) (fun q hq => by have h1 := hbe3.out.size; have h2 : (w3.heap.size + 1) = q := Option.some.inj hq; omega)⟩; have hl3 := Kpt.mk hbx3.out.lt; clear hbx3 ho3 hgr5 y0 y1)) | (refine wpList_store_bx rfl 42 (.tmp 5) (.tmp 69) rfl (w.heap.size + 1) _ noS.vals rfl rfl hbx5.out rfl infoS (Sn.vals_one noS) rfl ?_; intro w6 hbx6 hg6; have hbe6 := Kpt.mk (hbe5.out.grown hg6 hbe5.out.size (fun q hq => by cases hq; omega)); have hr6 := Kpt.mk (rd_past ho5.out hg5.out hg6 hl3.out); obtain ⟨c0, c1, c2, c3, c4, c5, c6, c7⟩ := bx_sn hbx6; clear hbx6 hg6 hbx5 hbe5 ho5))
  refine bodyPost_ret (v := .tuple #[_, .agg noS.vals, .bool true]) (by simp [results, Try.results15, go_sem, c0, c1, c2, c3, c4, c5, c6, c7, Sn.vals]) rfl ⟨_, rfl, hr6.out, hbe6.out⟩

theorem rsense_10 (B : Nat) (n s : Vs) (c : Cm) (w : World) (hP : RPg w B n s) (hpg : c.pg = 10) :
    Calls Try.prog 15 #[.pointer (some ⟨B, 0, none⟩), .agg c.vals] w fun e w' => ∃ v, e = .returned (.tuple #[v, .agg noS.vals, .bool true]) ∧ RdAt w' v (senL c.lg c.pg c.ct n s) ∧ Below w.heap.size w w' := by
  have hc : c.ct = 1 ∨ c.ct = 2 ∨ c.ct = 3 ∨ (c.ct ≠ 1 ∧ c.ct ≠ 2 ∧ c.ct ≠ 3) := by omega
  have hL : c.lg = false ∨ c.lg = true := by cases c.lg <;> simp
  have hN : n.c = false ∨ n.c = true := by cases n.c <;> simp
  rcases hL with hl | hl <;> rcases hN with hn | hn <;> rcases hc with h | h | h | h
  · exact rsense_10_1_0_0 B n s c w hP hpg h hl hn
  · exact rsense_10_2_0_0 B n s c w hP hpg h hl hn
  · exact rsense_10_3_0_0 B n s c w hP hpg h hl hn
  · exact rsense_10_0_0_0 B n s c w hP hpg h hl hn
  · exact rsense_10_1_0_1 B n s c w hP hpg h hl hn
  · exact rsense_10_2_0_1 B n s c w hP hpg h hl hn
  · exact rsense_10_3_0_1 B n s c w hP hpg h hl hn
  · exact rsense_10_0_0_1 B n s c w hP hpg h hl hn
  · exact rsense_10_1_1_0 B n s c w hP hpg h hl hn
  · exact rsense_10_2_1_0 B n s c w hP hpg h hl hn
  · exact rsense_10_3_1_0 B n s c w hP hpg h hl hn
  · exact rsense_10_0_1_0 B n s c w hP hpg h hl hn
  · exact rsense_10_1_1_1 B n s c w hP hpg h hl hn
  · exact rsense_10_2_1_1 B n s c w hP hpg h hl hn
  · exact rsense_10_3_1_1 B n s c w hP hpg h hl hn
  · exact rsense_10_0_1_1 B n s c w hP hpg h hl hn
end Go.Proofs.Ytdojhgapdocngaa
