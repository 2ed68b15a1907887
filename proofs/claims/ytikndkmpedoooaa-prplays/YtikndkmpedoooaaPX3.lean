/-
  The document's Do: registrations that go; what is refused.
-/
import Derived.Test.YtikndkmpedoooaaPX2
namespace Go.Proofs.Ytikndkmpedoooaa
open Go.RowKit
set_option linter.unusedVariables false
set_option linter.unusedSimpArgs false

theorem void_iff (t : Tb) : (t.regs.length : Int) = 0 ↔ t.void = true := by
  unfold Tb.void
  simp only [List.all_eq_true, List.mem_range, decide_eq_true_eq]
  constructor
  · intro h j hj
    apply Classical.byContradiction
    intro hk
    have := List.length_pos_of_mem ((regs_mem t _).2 ⟨j, hj, rfl, hk⟩)
    omega
  · intro h
    cases hl : t.regs with
    | nil => rfl
    | cons r l =>
      obtain ⟨m, hm, _, hk⟩ := (regs_mem t r).1 (by rw [hl]; simp)
      exact absurd (h m hm) hk
/-- The table without the registration of a nexus. -/
def Tb.cut (t : Tb) (n : Nat) : Tb := { t with ks := upd t.ks n 0 }
theorem put_cut (t : Tb) (n : Nat) (o : Ou) (hac : o.ac = 0) : t.put n o = { t.cut n with la := o.ap, gn := (t.gn + 1) % 4294967296 } := by unfold Tb.put Tb.cut; rw [hac]
theorem cut_bereft (t : Tb) (n : Nat) (o : Ou) (hac : o.ac = 0) : (t.put n o).bereft n = if isAll t.kd = true then (t.cut n).void else decide (t.kd ≠ 0 ∧ t.ho = n) := by rw [put_cut t n o hac]; rfl
theorem cut_end (t : Tb) (n : Nat) (o : Ou) (hac : o.ac = 0) : (t.put n o).endE n = (t.cut n).endE n := by rw [put_cut t n o hac]; rfl

theorem new_cell' (w : World) (cs : Array Value) (ty : TypeId) (b : Nat) (hb : b = w.heap.size) (j : Nat) : (w.alloc (.cells cs ty)).cell? ⟨b, j, none⟩ = cs[j]? := by subst hb; simp
set_option maxRecDepth 100000 in
set_option maxHeartbeats 2000000 in
theorem rgone_a (C : Nat) (t : Tb) (x : Int) (n : Nat) (o : Ou) (w : World) (h : RTab w C t x) (hg : t.good) (hn : n < 8) (hsv : (o.sv = 0 ∧ o.ky = t.ks n) ∨ o.sv = 6) (hac : o.ac = 0) (h0 : t.ks n ≠ 0) (hk0 : t.kd = 0) :
    Calls Try.prog 16 #[.pointer (some ⟨C, 0, none⟩), .int .i64 n, .agg o.rvals] w fun e w' => RDone w w' C e (0, 0) (t.registerE n o) (t.register n o) := by
  have hbr : (t.put n o).bereft n = false := by rw [cut_bereft t n o hac, hk0]; simp [isAll]
  have hE : Kpt (t.registerE n o = []) := ⟨by unfold Tb.registerE; rw [hbr]; rw [if_neg (by simp)]⟩
  have hfin : Kpt (∀ W y, RTab W C { t.cut n with la := o.ap, gn := (t.gn + 1) % 4294967296 } y → RTab W C (t.register n o) y) := ⟨fun W y hW => by
    unfold Tb.register
    rw [hbr]
    rw [if_neg (by simp), put_cut t n o hac]; exact hW⟩
  generalize t.registerE n o = RE at *
  generalize t.register n o = RT at *
  have hn0 : ¬ ((n : Int) < 0) := by omega
  have hn7 : (n : Int) ≤ 7 := by omega
  have hn8 : (n : Int) < 8 := by omega
  have hlt := h.lt
  have hgn := hg.gn0
  have hkd0 := hg.ok.kd0
  have hkb : ((t.ks n : Int) != 0) = true := by simp [h0]
  have c8 := h.c8
  have c9 := h.c9
  have fr := h.free n
  have kn := h.key n hn
  have hK := Kpt.mk h
  obtain ⟨sv, ty, ky, ac, ap⟩ := o
  simp only [Ou.rvals] at *
  subst hac
  have hne : C ≠ w.heap.size := by omega
  have HA := fun k W => Kpt.mk (risAll_any k W)
  have hal0 : isAll 0 = false := rfl
  rw [hk0] at c8
  rcases hsv with ⟨e1, e2⟩ | e1
  · subst e1
    subst e2
    go_enter Try.func16, Try.ntmps16
    go_wp2_with fail
    obtain ⟨W1, hW1⟩ : ∃ W1 : World, W1 = ((w.setCell ⟨C, n, none⟩ (.int .u64 0)).alloc (.cells #[.int .i64 0, .int .i64 ty, .int .u64 (t.ks n), .int .u64 0, .bool ap] 52)) := ⟨_, rfl⟩
    rw [← hW1]
    have hT1 : Kpt (RTab W1 C (t.cut n) x) := ⟨by rw [hW1]; exact (hK.out.setKey n hn 0).alloc _⟩
    have hG1 : Kpt (w.grownBy W1 (some C)) := ⟨by rw [hW1]; exact grown_trans (grown_setCell w ⟨C, n, none⟩ _) (grown_alloc _ _ _)⟩
    have q4 : W1.cell? ⟨w.heap.size, 4, none⟩ = some (.bool ap) := by rw [hW1]; exact new_cell' _ _ _ _ (by simp) 4
    have hs1 : w.heap.size < W1.heap.size := by rw [hW1]; simp
    have d8 : W1.cell? ⟨C, 8, none⟩ = some (.int .i64 0) := hk0 ▸ hT1.out.c8
    have d10 : W1.cell? ⟨C, 10, none⟩ = some (.int .u32 t.gn) := hT1.out.c10
    have d11 := hT1.out.c11
    have df := hT1.out.free
    have dlt := hT1.out.lt
    clear hW1 fr kn
    have hF := Kpt.mk (hfin.out _ x (((hT1.out).setLa ap).setGn ((t.gn + 1) % 4294967296)))
    have hGF : Kpt (w.grownBy ((W1.setCell ⟨C, 11, none⟩ (.bool ap)).setCell ⟨C, 10, none⟩ (.int .u32 ((t.gn + 1) % 4294967296))) (some C)) := ⟨grown_trans (hG1.out) (grown_trans (grown_setCell W1 ⟨C, 11, none⟩ _) (grown_setCell _ ⟨C, 10, none⟩ _))⟩
    generalize t.gn = gn at *
    refine (HA _ _).out.mono ?_
    rintro e W1 ⟨rfl, rfl⟩
    rw [hal0]
    go_wp2
    go_ret3
    exact ⟨_, x, rfl, by rw [hE.out]; exact own_nil _ _ _ _, hF.out, hGF.out⟩
  · subst e1
    go_enter Try.func16, Try.ntmps16
    go_wp2_with fail
    obtain ⟨W1, hW1⟩ : ∃ W1 : World, W1 = ((w.setCell ⟨C, n, none⟩ (.int .u64 0)).alloc (.cells #[.int .i64 6, .int .i64 ty, .int .u64 ky, .int .u64 0, .bool ap] 52)) := ⟨_, rfl⟩
    rw [← hW1]
    have hT1 : Kpt (RTab W1 C (t.cut n) x) := ⟨by rw [hW1]; exact (hK.out.setKey n hn 0).alloc _⟩
    have hG1 : Kpt (w.grownBy W1 (some C)) := ⟨by rw [hW1]; exact grown_trans (grown_setCell w ⟨C, n, none⟩ _) (grown_alloc _ _ _)⟩
    have q4 : W1.cell? ⟨w.heap.size, 4, none⟩ = some (.bool ap) := by rw [hW1]; exact new_cell' _ _ _ _ (by simp) 4
    have hs1 : w.heap.size < W1.heap.size := by rw [hW1]; simp
    have d8 : W1.cell? ⟨C, 8, none⟩ = some (.int .i64 0) := hk0 ▸ hT1.out.c8
    have d10 : W1.cell? ⟨C, 10, none⟩ = some (.int .u32 t.gn) := hT1.out.c10
    have d11 := hT1.out.c11
    have df := hT1.out.free
    have dlt := hT1.out.lt
    clear hW1 fr kn
    have hF := Kpt.mk (hfin.out _ x (((hT1.out).setLa ap).setGn ((t.gn + 1) % 4294967296)))
    have hGF : Kpt (w.grownBy ((W1.setCell ⟨C, 11, none⟩ (.bool ap)).setCell ⟨C, 10, none⟩ (.int .u32 ((t.gn + 1) % 4294967296))) (some C)) := ⟨grown_trans (hG1.out) (grown_trans (grown_setCell W1 ⟨C, 11, none⟩ _) (grown_setCell _ ⟨C, 10, none⟩ _))⟩
    generalize t.gn = gn at *
    refine (HA _ _).out.mono ?_
    rintro e W1 ⟨rfl, rfl⟩
    rw [hal0]
    go_wp2
    go_ret3
    exact ⟨_, x, rfl, by rw [hE.out]; exact own_nil _ _ _ _, hF.out, hGF.out⟩

set_option maxRecDepth 100000 in
set_option maxHeartbeats 2000000 in
theorem rgone_b (C : Nat) (t : Tb) (x : Int) (n : Nat) (o : Ou) (w : World) (h : RTab w C t x) (hg : t.good) (hn : n < 8) (hsv : (o.sv = 0 ∧ o.ky = t.ks n) ∨ o.sv = 6) (hac : o.ac = 0) (h0 : t.ks n ≠ 0) (hal : isAll t.kd = true) (hvd : (t.cut n).void = false) :
    Calls Try.prog 16 #[.pointer (some ⟨C, 0, none⟩), .int .i64 n, .agg o.rvals] w fun e w' => RDone w w' C e (0, 0) (t.registerE n o) (t.register n o) := by
  have hk0 : t.kd ≠ 0 := fun e => by rw [e] at hal; simp [isAll] at hal
  have hbr : (t.put n o).bereft n = false := by rw [cut_bereft t n o hac, if_pos hal, hvd]
  have hE : Kpt (t.registerE n o = []) := ⟨by unfold Tb.registerE; rw [hbr]; rw [if_neg (by simp)]⟩
  have hfin : Kpt (∀ W y, RTab W C { t.cut n with la := o.ap, gn := (t.gn + 1) % 4294967296 } y → RTab W C (t.register n o) y) := ⟨fun W y hW => by
    unfold Tb.register
    rw [hbr]
    rw [if_neg (by simp), put_cut t n o hac]; exact hW⟩
  generalize t.registerE n o = RE at *
  generalize t.register n o = RT at *
  have hn0 : ¬ ((n : Int) < 0) := by omega
  have hn7 : (n : Int) ≤ 7 := by omega
  have hn8 : (n : Int) < 8 := by omega
  have hlt := h.lt
  have hgn := hg.gn0
  have hkd0 := hg.ok.kd0
  have hkb : ((t.ks n : Int) != 0) = true := by simp [h0]
  have c8 := h.c8
  have c9 := h.c9
  have fr := h.free n
  have kn := h.key n hn
  have hK := Kpt.mk h
  obtain ⟨sv, ty, ky, ac, ap⟩ := o
  simp only [Ou.rvals] at *
  subst hac
  have hne : C ≠ w.heap.size := by omega
  have HA := fun k W => Kpt.mk (risAll_any k W)
  have hk0b : ((t.kd : Int) != 0) = true := by simp [hk0]
  rcases hsv with ⟨e1, e2⟩ | e1
  · subst e1
    subst e2
    go_enter Try.func16, Try.ntmps16
    go_wp2_with fail
    refine (HA _ _).out.mono ?_
    rintro e w0 ⟨rfl, rfl⟩
    rw [hal]
    go_wp2_with fail
    obtain ⟨W1, hW1⟩ : ∃ W1 : World, W1 = ((w.setCell ⟨C, n, none⟩ (.int .u64 0)).alloc (.cells #[.int .i64 0, .int .i64 ty, .int .u64 (t.ks n), .int .u64 0, .bool ap] 52)) := ⟨_, rfl⟩
    rw [← hW1]
    have hT1 : Kpt (RTab W1 C (t.cut n) x) := ⟨by rw [hW1]; exact (hK.out.setKey n hn 0).alloc _⟩
    have hG1 : Kpt (w.grownBy W1 (some C)) := ⟨by rw [hW1]; exact grown_trans (grown_setCell w ⟨C, n, none⟩ _) (grown_alloc _ _ _)⟩
    have q4 : W1.cell? ⟨w.heap.size, 4, none⟩ = some (.bool ap) := by rw [hW1]; exact new_cell' _ _ _ _ (by simp) 4
    have hs1 : w.heap.size < W1.heap.size := by rw [hW1]; simp
    have d8 : W1.cell? ⟨C, 8, none⟩ = some (.int .i64 t.kd) := hT1.out.c8
    have d10 : W1.cell? ⟨C, 10, none⟩ = some (.int .u32 t.gn) := hT1.out.c10
    have d11 := hT1.out.c11
    have df := hT1.out.free
    have dlt := hT1.out.lt
    clear hW1 c8 c9 fr kn
    refine (HA _ _).out.mono ?_
    rintro e W1 ⟨rfl, rfl⟩
    rw [hal]
    go_wp2_with fail
    refine (rcount_any C (t.cut n) x W1 hT1.out).mono ?_
    rintro e W2 ⟨rfl, hB2⟩
    have hT2 := Kpt.mk (hT1.out.below' hB2)
    have hG2 : Kpt (w.grownBy W2 (some C)) := ⟨grown_trans hG1.out (grown_below hB2)⟩
    have q42 : W2.cell? ⟨w.heap.size, 4, none⟩ = some (.bool ap) := (hB2.cell (p := ⟨w.heap.size, 4, none⟩) hs1).trans q4
    have hs2 : w.heap.size < W2.heap.size := Nat.lt_of_lt_of_le hs1 hB2.size
    clear d8 d10 d11 df q4
    have d10 : W2.cell? ⟨C, 10, none⟩ = some (.int .u32 t.gn) := hT2.out.c10
    have d11 := hT2.out.c11
    have df := hT2.out.free
    have dlt2 := hT2.out.lt
    have hvb : (((t.cut n).regs.length : Int) == 0) = false := by simp only [beq_eq_false_iff_ne]; intro e; rw [(void_iff _).1 e] at hvd; cases hvd
    have hF := Kpt.mk (hfin.out _ x (((hT2.out).setLa ap).setGn ((t.gn + 1) % 4294967296)))
    have hGF : Kpt (w.grownBy ((W2.setCell ⟨C, 11, none⟩ (.bool ap)).setCell ⟨C, 10, none⟩ (.int .u32 ((t.gn + 1) % 4294967296))) (some C)) := ⟨grown_trans (hG2.out) (grown_trans (grown_setCell W2 ⟨C, 11, none⟩ _) (grown_setCell _ ⟨C, 10, none⟩ _))⟩
    generalize ((t.cut n).regs.length : Int) = ln at *
    generalize t.gn = gn at *
    go_wp2
    go_ret3
    exact ⟨_, x, rfl, by rw [hE.out]; exact own_nil _ _ _ _, hF.out, hGF.out⟩
  · subst e1
    go_enter Try.func16, Try.ntmps16
    go_wp2_with fail
    refine (HA _ _).out.mono ?_
    rintro e w0 ⟨rfl, rfl⟩
    rw [hal]
    go_wp2_with fail
    obtain ⟨W1, hW1⟩ : ∃ W1 : World, W1 = ((w.setCell ⟨C, n, none⟩ (.int .u64 0)).alloc (.cells #[.int .i64 6, .int .i64 ty, .int .u64 ky, .int .u64 0, .bool ap] 52)) := ⟨_, rfl⟩
    rw [← hW1]
    have hT1 : Kpt (RTab W1 C (t.cut n) x) := ⟨by rw [hW1]; exact (hK.out.setKey n hn 0).alloc _⟩
    have hG1 : Kpt (w.grownBy W1 (some C)) := ⟨by rw [hW1]; exact grown_trans (grown_setCell w ⟨C, n, none⟩ _) (grown_alloc _ _ _)⟩
    have q4 : W1.cell? ⟨w.heap.size, 4, none⟩ = some (.bool ap) := by rw [hW1]; exact new_cell' _ _ _ _ (by simp) 4
    have hs1 : w.heap.size < W1.heap.size := by rw [hW1]; simp
    have d8 : W1.cell? ⟨C, 8, none⟩ = some (.int .i64 t.kd) := hT1.out.c8
    have d10 : W1.cell? ⟨C, 10, none⟩ = some (.int .u32 t.gn) := hT1.out.c10
    have d11 := hT1.out.c11
    have df := hT1.out.free
    have dlt := hT1.out.lt
    clear hW1 c8 c9 fr kn
    refine (HA _ _).out.mono ?_
    rintro e W1 ⟨rfl, rfl⟩
    rw [hal]
    go_wp2_with fail
    refine (rcount_any C (t.cut n) x W1 hT1.out).mono ?_
    rintro e W2 ⟨rfl, hB2⟩
    have hT2 := Kpt.mk (hT1.out.below' hB2)
    have hG2 : Kpt (w.grownBy W2 (some C)) := ⟨grown_trans hG1.out (grown_below hB2)⟩
    have q42 : W2.cell? ⟨w.heap.size, 4, none⟩ = some (.bool ap) := (hB2.cell (p := ⟨w.heap.size, 4, none⟩) hs1).trans q4
    have hs2 : w.heap.size < W2.heap.size := Nat.lt_of_lt_of_le hs1 hB2.size
    clear d8 d10 d11 df q4
    have d10 : W2.cell? ⟨C, 10, none⟩ = some (.int .u32 t.gn) := hT2.out.c10
    have d11 := hT2.out.c11
    have df := hT2.out.free
    have dlt2 := hT2.out.lt
    have hvb : (((t.cut n).regs.length : Int) == 0) = false := by simp only [beq_eq_false_iff_ne]; intro e; rw [(void_iff _).1 e] at hvd; cases hvd
    have hF := Kpt.mk (hfin.out _ x (((hT2.out).setLa ap).setGn ((t.gn + 1) % 4294967296)))
    have hGF : Kpt (w.grownBy ((W2.setCell ⟨C, 11, none⟩ (.bool ap)).setCell ⟨C, 10, none⟩ (.int .u32 ((t.gn + 1) % 4294967296))) (some C)) := ⟨grown_trans (hG2.out) (grown_trans (grown_setCell W2 ⟨C, 11, none⟩ _) (grown_setCell _ ⟨C, 10, none⟩ _))⟩
    generalize ((t.cut n).regs.length : Int) = ln at *
    generalize t.gn = gn at *
    go_wp2
    go_ret3
    exact ⟨_, x, rfl, by rw [hE.out]; exact own_nil _ _ _ _, hF.out, hGF.out⟩

set_option maxRecDepth 100000 in
set_option maxHeartbeats 2000000 in
theorem rgone_bv (C : Nat) (t : Tb) (x : Int) (n : Nat) (o : Ou) (w : World) (h : RTab w C t x) (hg : t.good) (hn : n < 8) (hsv : (o.sv = 0 ∧ o.ky = t.ks n) ∨ o.sv = 6) (hac : o.ac = 0) (h0 : t.ks n ≠ 0) (hal : isAll t.kd = true) (hvd : (t.cut n).void = true) :
    Calls Try.prog 16 #[.pointer (some ⟨C, 0, none⟩), .int .i64 n, .agg o.rvals] w fun e w' => RDone w w' C e (0, 0) (t.registerE n o) (t.register n o) := by
  have hk0 : t.kd ≠ 0 := fun e => by rw [e] at hal; simp [isAll] at hal
  have hbr : (t.put n o).bereft n = true := by rw [cut_bereft t n o hac, if_pos hal, hvd]
  have hE : Kpt (t.registerE n o = (t.cut n).endE n) := ⟨by unfold Tb.registerE; rw [hbr]; rw [if_pos ⟨hac, rfl⟩]; exact cut_end t n o hac⟩
  have hfin : Kpt (∀ W y, RTab W C { t.cut n with kd := 0, la := o.ap, gn := (t.gn + 1) % 4294967296 } y → RTab W C (t.register n o) y) := ⟨fun W y hW => by
    unfold Tb.register
    rw [hbr]
    rw [if_pos ⟨hac, rfl⟩, put_cut t n o hac]; exact hW⟩
  generalize t.registerE n o = RE at *
  generalize t.register n o = RT at *
  have hn0 : ¬ ((n : Int) < 0) := by omega
  have hn7 : (n : Int) ≤ 7 := by omega
  have hn8 : (n : Int) < 8 := by omega
  have hlt := h.lt
  have hgn := hg.gn0
  have hkd0 := hg.ok.kd0
  have hkb : ((t.ks n : Int) != 0) = true := by simp [h0]
  have c8 := h.c8
  have c9 := h.c9
  have fr := h.free n
  have kn := h.key n hn
  have hK := Kpt.mk h
  obtain ⟨sv, ty, ky, ac, ap⟩ := o
  simp only [Ou.rvals] at *
  subst hac
  have hne : C ≠ w.heap.size := by omega
  have HA := fun k W => Kpt.mk (risAll_any k W)
  have hk0b : ((t.kd : Int) != 0) = true := by simp [hk0]
  rcases hsv with ⟨e1, e2⟩ | e1
  · subst e1
    subst e2
    go_enter Try.func16, Try.ntmps16
    go_wp2_with fail
    refine (HA _ _).out.mono ?_
    rintro e w0 ⟨rfl, rfl⟩
    rw [hal]
    go_wp2_with fail
    obtain ⟨W1, hW1⟩ : ∃ W1 : World, W1 = ((w.setCell ⟨C, n, none⟩ (.int .u64 0)).alloc (.cells #[.int .i64 0, .int .i64 ty, .int .u64 (t.ks n), .int .u64 0, .bool ap] 52)) := ⟨_, rfl⟩
    rw [← hW1]
    have hT1 : Kpt (RTab W1 C (t.cut n) x) := ⟨by rw [hW1]; exact (hK.out.setKey n hn 0).alloc _⟩
    have hG1 : Kpt (w.grownBy W1 (some C)) := ⟨by rw [hW1]; exact grown_trans (grown_setCell w ⟨C, n, none⟩ _) (grown_alloc _ _ _)⟩
    have q4 : W1.cell? ⟨w.heap.size, 4, none⟩ = some (.bool ap) := by rw [hW1]; exact new_cell' _ _ _ _ (by simp) 4
    have hs1 : w.heap.size < W1.heap.size := by rw [hW1]; simp
    have d8 : W1.cell? ⟨C, 8, none⟩ = some (.int .i64 t.kd) := hT1.out.c8
    have d10 : W1.cell? ⟨C, 10, none⟩ = some (.int .u32 t.gn) := hT1.out.c10
    have d11 := hT1.out.c11
    have df := hT1.out.free
    have dlt := hT1.out.lt
    clear hW1 c8 c9 fr kn
    refine (HA _ _).out.mono ?_
    rintro e W1 ⟨rfl, rfl⟩
    rw [hal]
    go_wp2_with fail
    refine (rcount_any C (t.cut n) x W1 hT1.out).mono ?_
    rintro e W2 ⟨rfl, hB2⟩
    have hT2 := Kpt.mk (hT1.out.below' hB2)
    have hG2 : Kpt (w.grownBy W2 (some C)) := ⟨grown_trans hG1.out (grown_below hB2)⟩
    have q42 : W2.cell? ⟨w.heap.size, 4, none⟩ = some (.bool ap) := (hB2.cell (p := ⟨w.heap.size, 4, none⟩) hs1).trans q4
    have hs2 : w.heap.size < W2.heap.size := Nat.lt_of_lt_of_le hs1 hB2.size
    clear d8 d10 d11 df q4
    have hvb : ((t.cut n).regs.length : Int) = 0 := (void_iff _).2 hvd
    rw [hvb]
    go_wp2_with fail
    refine (rend_any C (t.cut n) x n W2 hT2.out hkd0).mono ?_
    rintro e W3 ⟨v3, rfl, hO3, hT3, hG3⟩
    have hGG : Kpt (w.grownBy W3 (some C)) := ⟨grown_trans hG2.out hG3⟩
    have q43 : W3.cell? ⟨w.heap.size, 4, none⟩ = some (.bool ap) := (World.cell?_of_block (w := W2) (w' := W3) (a := ⟨w.heap.size, 4, none⟩) (hG3.block w.heap.size hs2 (fun e => hne (by simpa using e.symm)))).trans q42
    have hs3 : w.heap.size < W3.heap.size := Nat.lt_of_lt_of_le hs2 hG3.size
    have d10 : W3.cell? ⟨C, 10, none⟩ = some (.int .u32 t.gn) := hT3.c10
    have d11 := hT3.c11
    have df := hT3.free
    have dlt3 := hT3.lt
    have hO3K := Kpt.mk hO3
    have hF := Kpt.mk (hfin.out _ 0 (((hT3).setLa ap).setGn ((t.gn + 1) % 4294967296)))
    have hGF : Kpt (w.grownBy ((W3.setCell ⟨C, 11, none⟩ (.bool ap)).setCell ⟨C, 10, none⟩ (.int .u32 ((t.gn + 1) % 4294967296))) (some C)) := ⟨grown_trans (hGG.out) (grown_trans (grown_setCell W3 ⟨C, 11, none⟩ _) (grown_setCell _ ⟨C, 10, none⟩ _))⟩
    clear hT3 hG3 hO3 q42
    have hsz2 : Kpt (w.heap.size ≤ W2.heap.size ∧ C < W2.heap.size) := ⟨by have := hT2.out.lt; omega⟩
    generalize t.gn = gn at *
    go_wp2
    go_ret3
    exact ⟨_, 0, rfl, by rw [hE.out]; exact (hO3K.out.lower hsz2.out.1).of_block (fun g hg => by
      have hgC : g ≠ C := fun e => by have := (hO3K.out.lt hg).1; have := hsz2.out.2; omega
      exact (Below.heap_setCell _ _ _ _ (fun e => hgC (by simpa using e))).trans (Below.heap_setCell _ _ _ _ (fun e => hgC (by simpa using e)))), hF.out, hGF.out⟩
  · subst e1
    go_enter Try.func16, Try.ntmps16
    go_wp2_with fail
    refine (HA _ _).out.mono ?_
    rintro e w0 ⟨rfl, rfl⟩
    rw [hal]
    go_wp2_with fail
    obtain ⟨W1, hW1⟩ : ∃ W1 : World, W1 = ((w.setCell ⟨C, n, none⟩ (.int .u64 0)).alloc (.cells #[.int .i64 6, .int .i64 ty, .int .u64 ky, .int .u64 0, .bool ap] 52)) := ⟨_, rfl⟩
    rw [← hW1]
    have hT1 : Kpt (RTab W1 C (t.cut n) x) := ⟨by rw [hW1]; exact (hK.out.setKey n hn 0).alloc _⟩
    have hG1 : Kpt (w.grownBy W1 (some C)) := ⟨by rw [hW1]; exact grown_trans (grown_setCell w ⟨C, n, none⟩ _) (grown_alloc _ _ _)⟩
    have q4 : W1.cell? ⟨w.heap.size, 4, none⟩ = some (.bool ap) := by rw [hW1]; exact new_cell' _ _ _ _ (by simp) 4
    have hs1 : w.heap.size < W1.heap.size := by rw [hW1]; simp
    have d8 : W1.cell? ⟨C, 8, none⟩ = some (.int .i64 t.kd) := hT1.out.c8
    have d10 : W1.cell? ⟨C, 10, none⟩ = some (.int .u32 t.gn) := hT1.out.c10
    have d11 := hT1.out.c11
    have df := hT1.out.free
    have dlt := hT1.out.lt
    clear hW1 c8 c9 fr kn
    refine (HA _ _).out.mono ?_
    rintro e W1 ⟨rfl, rfl⟩
    rw [hal]
    go_wp2_with fail
    refine (rcount_any C (t.cut n) x W1 hT1.out).mono ?_
    rintro e W2 ⟨rfl, hB2⟩
    have hT2 := Kpt.mk (hT1.out.below' hB2)
    have hG2 : Kpt (w.grownBy W2 (some C)) := ⟨grown_trans hG1.out (grown_below hB2)⟩
    have q42 : W2.cell? ⟨w.heap.size, 4, none⟩ = some (.bool ap) := (hB2.cell (p := ⟨w.heap.size, 4, none⟩) hs1).trans q4
    have hs2 : w.heap.size < W2.heap.size := Nat.lt_of_lt_of_le hs1 hB2.size
    clear d8 d10 d11 df q4
    have hvb : ((t.cut n).regs.length : Int) = 0 := (void_iff _).2 hvd
    rw [hvb]
    go_wp2_with fail
    refine (rend_any C (t.cut n) x n W2 hT2.out hkd0).mono ?_
    rintro e W3 ⟨v3, rfl, hO3, hT3, hG3⟩
    have hGG : Kpt (w.grownBy W3 (some C)) := ⟨grown_trans hG2.out hG3⟩
    have q43 : W3.cell? ⟨w.heap.size, 4, none⟩ = some (.bool ap) := (World.cell?_of_block (w := W2) (w' := W3) (a := ⟨w.heap.size, 4, none⟩) (hG3.block w.heap.size hs2 (fun e => hne (by simpa using e.symm)))).trans q42
    have hs3 : w.heap.size < W3.heap.size := Nat.lt_of_lt_of_le hs2 hG3.size
    have d10 : W3.cell? ⟨C, 10, none⟩ = some (.int .u32 t.gn) := hT3.c10
    have d11 := hT3.c11
    have df := hT3.free
    have dlt3 := hT3.lt
    have hO3K := Kpt.mk hO3
    have hF := Kpt.mk (hfin.out _ 0 (((hT3).setLa ap).setGn ((t.gn + 1) % 4294967296)))
    have hGF : Kpt (w.grownBy ((W3.setCell ⟨C, 11, none⟩ (.bool ap)).setCell ⟨C, 10, none⟩ (.int .u32 ((t.gn + 1) % 4294967296))) (some C)) := ⟨grown_trans (hGG.out) (grown_trans (grown_setCell W3 ⟨C, 11, none⟩ _) (grown_setCell _ ⟨C, 10, none⟩ _))⟩
    clear hT3 hG3 hO3 q42
    have hsz2 : Kpt (w.heap.size ≤ W2.heap.size ∧ C < W2.heap.size) := ⟨by have := hT2.out.lt; omega⟩
    generalize t.gn = gn at *
    go_wp2
    go_ret3
    exact ⟨_, 0, rfl, by rw [hE.out]; exact (hO3K.out.lower hsz2.out.1).of_block (fun g hg => by
      have hgC : g ≠ C := fun e => by have := (hO3K.out.lt hg).1; have := hsz2.out.2; omega
      exact (Below.heap_setCell _ _ _ _ (fun e => hgC (by simpa using e))).trans (Below.heap_setCell _ _ _ _ (fun e => hgC (by simpa using e)))), hF.out, hGF.out⟩

set_option maxRecDepth 100000 in
set_option maxHeartbeats 2000000 in
theorem rgone_c (C : Nat) (t : Tb) (x : Int) (n : Nat) (o : Ou) (w : World) (h : RTab w C t x) (hg : t.good) (hn : n < 8) (hsv : (o.sv = 0 ∧ o.ky = t.ks n) ∨ o.sv = 6) (hac : o.ac = 0) (h0 : t.ks n ≠ 0) (hk0 : t.kd ≠ 0) (hal : isAll t.kd = false) (how : t.ho ≠ (n : Int)) :
    Calls Try.prog 16 #[.pointer (some ⟨C, 0, none⟩), .int .i64 n, .agg o.rvals] w fun e w' => RDone w w' C e (0, 0) (t.registerE n o) (t.register n o) := by
  have hbr : (t.put n o).bereft n = false := by rw [cut_bereft t n o hac, hal]; simp [hk0, how]
  have hxo := h.hold hk0 hal
  have hxb : ((x : Int) == (n : Int)) = false := by rw [hxo]; simp [how]
  clear hxo
  have hE : Kpt (t.registerE n o = []) := ⟨by unfold Tb.registerE; rw [hbr]; rw [if_neg (by simp)]⟩
  have hfin : Kpt (∀ W y, RTab W C { t.cut n with la := o.ap, gn := (t.gn + 1) % 4294967296 } y → RTab W C (t.register n o) y) := ⟨fun W y hW => by
    unfold Tb.register
    rw [hbr]
    rw [if_neg (by simp), put_cut t n o hac]; exact hW⟩
  generalize t.registerE n o = RE at *
  generalize t.register n o = RT at *
  have hn0 : ¬ ((n : Int) < 0) := by omega
  have hn7 : (n : Int) ≤ 7 := by omega
  have hn8 : (n : Int) < 8 := by omega
  have hlt := h.lt
  have hgn := hg.gn0
  have hkd0 := hg.ok.kd0
  have hkb : ((t.ks n : Int) != 0) = true := by simp [h0]
  have c8 := h.c8
  have c9 := h.c9
  have fr := h.free n
  have kn := h.key n hn
  have hK := Kpt.mk h
  obtain ⟨sv, ty, ky, ac, ap⟩ := o
  simp only [Ou.rvals] at *
  subst hac
  have hne : C ≠ w.heap.size := by omega
  have HA := fun k W => Kpt.mk (risAll_any k W)
  have hk0b : ((t.kd : Int) != 0) = true := by simp [hk0]
  rcases hsv with ⟨e1, e2⟩ | e1
  · subst e1
    subst e2
    go_enter Try.func16, Try.ntmps16
    go_wp2_with fail
    refine (HA _ _).out.mono ?_
    rintro e w0 ⟨rfl, rfl⟩
    rw [hal]
    go_wp2_with fail
    obtain ⟨W1, hW1⟩ : ∃ W1 : World, W1 = ((w.setCell ⟨C, n, none⟩ (.int .u64 0)).alloc (.cells #[.int .i64 0, .int .i64 ty, .int .u64 (t.ks n), .int .u64 0, .bool ap] 52)) := ⟨_, rfl⟩
    rw [← hW1]
    have hT1 : Kpt (RTab W1 C (t.cut n) x) := ⟨by rw [hW1]; exact (hK.out.setKey n hn 0).alloc _⟩
    have hG1 : Kpt (w.grownBy W1 (some C)) := ⟨by rw [hW1]; exact grown_trans (grown_setCell w ⟨C, n, none⟩ _) (grown_alloc _ _ _)⟩
    have q4 : W1.cell? ⟨w.heap.size, 4, none⟩ = some (.bool ap) := by rw [hW1]; exact new_cell' _ _ _ _ (by simp) 4
    have hs1 : w.heap.size < W1.heap.size := by rw [hW1]; simp
    have d8 : W1.cell? ⟨C, 8, none⟩ = some (.int .i64 t.kd) := hT1.out.c8
    have d10 : W1.cell? ⟨C, 10, none⟩ = some (.int .u32 t.gn) := hT1.out.c10
    have d11 := hT1.out.c11
    have df := hT1.out.free
    have dlt := hT1.out.lt
    clear hW1 c8 c9 fr kn
    have hF := Kpt.mk (hfin.out _ x (((hT1.out).setLa ap).setGn ((t.gn + 1) % 4294967296)))
    have hGF : Kpt (w.grownBy ((W1.setCell ⟨C, 11, none⟩ (.bool ap)).setCell ⟨C, 10, none⟩ (.int .u32 ((t.gn + 1) % 4294967296))) (some C)) := ⟨grown_trans (hG1.out) (grown_trans (grown_setCell W1 ⟨C, 11, none⟩ _) (grown_setCell _ ⟨C, 10, none⟩ _))⟩
    generalize t.gn = gn at *
    refine (HA _ _).out.mono ?_
    rintro e W1 ⟨rfl, rfl⟩
    rw [hal]
    go_wp2
    go_ret3
    exact ⟨_, x, rfl, by rw [hE.out]; exact own_nil _ _ _ _, hF.out, hGF.out⟩
  · subst e1
    go_enter Try.func16, Try.ntmps16
    go_wp2_with fail
    refine (HA _ _).out.mono ?_
    rintro e w0 ⟨rfl, rfl⟩
    rw [hal]
    go_wp2_with fail
    obtain ⟨W1, hW1⟩ : ∃ W1 : World, W1 = ((w.setCell ⟨C, n, none⟩ (.int .u64 0)).alloc (.cells #[.int .i64 6, .int .i64 ty, .int .u64 ky, .int .u64 0, .bool ap] 52)) := ⟨_, rfl⟩
    rw [← hW1]
    have hT1 : Kpt (RTab W1 C (t.cut n) x) := ⟨by rw [hW1]; exact (hK.out.setKey n hn 0).alloc _⟩
    have hG1 : Kpt (w.grownBy W1 (some C)) := ⟨by rw [hW1]; exact grown_trans (grown_setCell w ⟨C, n, none⟩ _) (grown_alloc _ _ _)⟩
    have q4 : W1.cell? ⟨w.heap.size, 4, none⟩ = some (.bool ap) := by rw [hW1]; exact new_cell' _ _ _ _ (by simp) 4
    have hs1 : w.heap.size < W1.heap.size := by rw [hW1]; simp
    have d8 : W1.cell? ⟨C, 8, none⟩ = some (.int .i64 t.kd) := hT1.out.c8
    have d10 : W1.cell? ⟨C, 10, none⟩ = some (.int .u32 t.gn) := hT1.out.c10
    have d11 := hT1.out.c11
    have df := hT1.out.free
    have dlt := hT1.out.lt
    clear hW1 c8 c9 fr kn
    have hF := Kpt.mk (hfin.out _ x (((hT1.out).setLa ap).setGn ((t.gn + 1) % 4294967296)))
    have hGF : Kpt (w.grownBy ((W1.setCell ⟨C, 11, none⟩ (.bool ap)).setCell ⟨C, 10, none⟩ (.int .u32 ((t.gn + 1) % 4294967296))) (some C)) := ⟨grown_trans (hG1.out) (grown_trans (grown_setCell W1 ⟨C, 11, none⟩ _) (grown_setCell _ ⟨C, 10, none⟩ _))⟩
    generalize t.gn = gn at *
    refine (HA _ _).out.mono ?_
    rintro e W1 ⟨rfl, rfl⟩
    rw [hal]
    go_wp2
    go_ret3
    exact ⟨_, x, rfl, by rw [hE.out]; exact own_nil _ _ _ _, hF.out, hGF.out⟩

set_option maxRecDepth 100000 in
set_option maxHeartbeats 2000000 in
theorem rgone_co (C : Nat) (t : Tb) (x : Int) (n : Nat) (o : Ou) (w : World) (h : RTab w C t x) (hg : t.good) (hn : n < 8) (hsv : (o.sv = 0 ∧ o.ky = t.ks n) ∨ o.sv = 6) (hac : o.ac = 0) (h0 : t.ks n ≠ 0) (hk0 : t.kd ≠ 0) (hal : isAll t.kd = false) (how : t.ho = (n : Int)) :
    Calls Try.prog 16 #[.pointer (some ⟨C, 0, none⟩), .int .i64 n, .agg o.rvals] w fun e w' => RDone w w' C e (0, 0) (t.registerE n o) (t.register n o) := by
  have hbr : (t.put n o).bereft n = true := by rw [cut_bereft t n o hac, hal]; simp [hk0, how]
  have hxo := h.hold hk0 hal
  have hxb : ((x : Int) == (n : Int)) = true := by rw [hxo]; simp [how]
  clear hxo
  have hE : Kpt (t.registerE n o = (t.cut n).endE n) := ⟨by unfold Tb.registerE; rw [hbr]; rw [if_pos ⟨hac, rfl⟩]; exact cut_end t n o hac⟩
  have hfin : Kpt (∀ W y, RTab W C { t.cut n with kd := 0, la := o.ap, gn := (t.gn + 1) % 4294967296 } y → RTab W C (t.register n o) y) := ⟨fun W y hW => by
    unfold Tb.register
    rw [hbr]
    rw [if_pos ⟨hac, rfl⟩, put_cut t n o hac]; exact hW⟩
  generalize t.registerE n o = RE at *
  generalize t.register n o = RT at *
  have hn0 : ¬ ((n : Int) < 0) := by omega
  have hn7 : (n : Int) ≤ 7 := by omega
  have hn8 : (n : Int) < 8 := by omega
  have hlt := h.lt
  have hgn := hg.gn0
  have hkd0 := hg.ok.kd0
  have hkb : ((t.ks n : Int) != 0) = true := by simp [h0]
  have c8 := h.c8
  have c9 := h.c9
  have fr := h.free n
  have kn := h.key n hn
  have hK := Kpt.mk h
  obtain ⟨sv, ty, ky, ac, ap⟩ := o
  simp only [Ou.rvals] at *
  subst hac
  have hne : C ≠ w.heap.size := by omega
  have HA := fun k W => Kpt.mk (risAll_any k W)
  have hk0b : ((t.kd : Int) != 0) = true := by simp [hk0]
  rcases hsv with ⟨e1, e2⟩ | e1
  · subst e1
    subst e2
    go_enter Try.func16, Try.ntmps16
    go_wp2_with fail
    refine (HA _ _).out.mono ?_
    rintro e w0 ⟨rfl, rfl⟩
    rw [hal]
    go_wp2_with fail
    obtain ⟨W1, hW1⟩ : ∃ W1 : World, W1 = ((w.setCell ⟨C, n, none⟩ (.int .u64 0)).alloc (.cells #[.int .i64 0, .int .i64 ty, .int .u64 (t.ks n), .int .u64 0, .bool ap] 52)) := ⟨_, rfl⟩
    rw [← hW1]
    have hT1 : Kpt (RTab W1 C (t.cut n) x) := ⟨by rw [hW1]; exact (hK.out.setKey n hn 0).alloc _⟩
    have hG1 : Kpt (w.grownBy W1 (some C)) := ⟨by rw [hW1]; exact grown_trans (grown_setCell w ⟨C, n, none⟩ _) (grown_alloc _ _ _)⟩
    have q4 : W1.cell? ⟨w.heap.size, 4, none⟩ = some (.bool ap) := by rw [hW1]; exact new_cell' _ _ _ _ (by simp) 4
    have hs1 : w.heap.size < W1.heap.size := by rw [hW1]; simp
    have d8 : W1.cell? ⟨C, 8, none⟩ = some (.int .i64 t.kd) := hT1.out.c8
    have d10 : W1.cell? ⟨C, 10, none⟩ = some (.int .u32 t.gn) := hT1.out.c10
    have d11 := hT1.out.c11
    have df := hT1.out.free
    have dlt := hT1.out.lt
    clear hW1 c8 c9 fr kn
    refine (rend_any C (t.cut n) x n W1 hT1.out hkd0).mono ?_
    rintro e W3 ⟨v3, rfl, hO3, hT3, hG3⟩
    have hGG : Kpt (w.grownBy W3 (some C)) := ⟨grown_trans hG1.out hG3⟩
    have q43 : W3.cell? ⟨w.heap.size, 4, none⟩ = some (.bool ap) := (World.cell?_of_block (w := W1) (w' := W3) (a := ⟨w.heap.size, 4, none⟩) (hG3.block w.heap.size hs1 (fun e => hne (by simpa using e.symm)))).trans q4
    have hs3 : w.heap.size < W3.heap.size := Nat.lt_of_lt_of_le hs1 hG3.size
    clear d8 d10 d11 df q4
    have d10 : W3.cell? ⟨C, 10, none⟩ = some (.int .u32 t.gn) := hT3.c10
    have d11 := hT3.c11
    have df := hT3.free
    have dlt3 := hT3.lt
    have hO3K := Kpt.mk hO3
    have hF := Kpt.mk (hfin.out _ 0 (((hT3).setLa ap).setGn ((t.gn + 1) % 4294967296)))
    have hGF : Kpt (w.grownBy ((W3.setCell ⟨C, 11, none⟩ (.bool ap)).setCell ⟨C, 10, none⟩ (.int .u32 ((t.gn + 1) % 4294967296))) (some C)) := ⟨grown_trans (hGG.out) (grown_trans (grown_setCell W3 ⟨C, 11, none⟩ _) (grown_setCell _ ⟨C, 10, none⟩ _))⟩
    clear hT3 hG3 hO3
    have hsz2 : Kpt (w.heap.size ≤ W1.heap.size ∧ C < W1.heap.size) := ⟨by have := hT1.out.lt; omega⟩
    generalize t.gn = gn at *
    go_wp2
    go_ret3
    exact ⟨_, 0, rfl, by rw [hE.out]; exact (hO3K.out.lower hsz2.out.1).of_block (fun g hg => by
      have hgC : g ≠ C := fun e => by have := (hO3K.out.lt hg).1; have := hsz2.out.2; omega
      exact (Below.heap_setCell _ _ _ _ (fun e => hgC (by simpa using e))).trans (Below.heap_setCell _ _ _ _ (fun e => hgC (by simpa using e)))), hF.out, hGF.out⟩
  · subst e1
    go_enter Try.func16, Try.ntmps16
    go_wp2_with fail
    refine (HA _ _).out.mono ?_
    rintro e w0 ⟨rfl, rfl⟩
    rw [hal]
    go_wp2_with fail
    obtain ⟨W1, hW1⟩ : ∃ W1 : World, W1 = ((w.setCell ⟨C, n, none⟩ (.int .u64 0)).alloc (.cells #[.int .i64 6, .int .i64 ty, .int .u64 ky, .int .u64 0, .bool ap] 52)) := ⟨_, rfl⟩
    rw [← hW1]
    have hT1 : Kpt (RTab W1 C (t.cut n) x) := ⟨by rw [hW1]; exact (hK.out.setKey n hn 0).alloc _⟩
    have hG1 : Kpt (w.grownBy W1 (some C)) := ⟨by rw [hW1]; exact grown_trans (grown_setCell w ⟨C, n, none⟩ _) (grown_alloc _ _ _)⟩
    have q4 : W1.cell? ⟨w.heap.size, 4, none⟩ = some (.bool ap) := by rw [hW1]; exact new_cell' _ _ _ _ (by simp) 4
    have hs1 : w.heap.size < W1.heap.size := by rw [hW1]; simp
    have d8 : W1.cell? ⟨C, 8, none⟩ = some (.int .i64 t.kd) := hT1.out.c8
    have d10 : W1.cell? ⟨C, 10, none⟩ = some (.int .u32 t.gn) := hT1.out.c10
    have d11 := hT1.out.c11
    have df := hT1.out.free
    have dlt := hT1.out.lt
    clear hW1 c8 c9 fr kn
    refine (rend_any C (t.cut n) x n W1 hT1.out hkd0).mono ?_
    rintro e W3 ⟨v3, rfl, hO3, hT3, hG3⟩
    have hGG : Kpt (w.grownBy W3 (some C)) := ⟨grown_trans hG1.out hG3⟩
    have q43 : W3.cell? ⟨w.heap.size, 4, none⟩ = some (.bool ap) := (World.cell?_of_block (w := W1) (w' := W3) (a := ⟨w.heap.size, 4, none⟩) (hG3.block w.heap.size hs1 (fun e => hne (by simpa using e.symm)))).trans q4
    have hs3 : w.heap.size < W3.heap.size := Nat.lt_of_lt_of_le hs1 hG3.size
    clear d8 d10 d11 df q4
    have d10 : W3.cell? ⟨C, 10, none⟩ = some (.int .u32 t.gn) := hT3.c10
    have d11 := hT3.c11
    have df := hT3.free
    have dlt3 := hT3.lt
    have hO3K := Kpt.mk hO3
    have hF := Kpt.mk (hfin.out _ 0 (((hT3).setLa ap).setGn ((t.gn + 1) % 4294967296)))
    have hGF : Kpt (w.grownBy ((W3.setCell ⟨C, 11, none⟩ (.bool ap)).setCell ⟨C, 10, none⟩ (.int .u32 ((t.gn + 1) % 4294967296))) (some C)) := ⟨grown_trans (hGG.out) (grown_trans (grown_setCell W3 ⟨C, 11, none⟩ _) (grown_setCell _ ⟨C, 10, none⟩ _))⟩
    clear hT3 hG3 hO3
    have hsz2 : Kpt (w.heap.size ≤ W1.heap.size ∧ C < W1.heap.size) := ⟨by have := hT1.out.lt; omega⟩
    generalize t.gn = gn at *
    go_wp2
    go_ret3
    exact ⟨_, 0, rfl, by rw [hE.out]; exact (hO3K.out.lower hsz2.out.1).of_block (fun g hg => by
      have hgC : g ≠ C := fun e => by have := (hO3K.out.lt hg).1; have := hsz2.out.2; omega
      exact (Below.heap_setCell _ _ _ _ (fun e => hgC (by simpa using e))).trans (Below.heap_setCell _ _ _ _ (fun e => hgC (by simpa using e)))), hF.out, hGF.out⟩

end Go.Proofs.Ytikndkmpedoooaa
