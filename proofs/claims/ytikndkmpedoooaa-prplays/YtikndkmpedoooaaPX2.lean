/-
  The document's Do: registrations.
-/
import Derived.Test.YtikndkmpedoooaaPX1
import Derived.Test.YtikndkmpedoooaaPGood
namespace Go.Proofs.Ytikndkmpedoooaa
open Go.RowKit
set_option linter.unusedVariables false
set_option linter.unusedSimpArgs false

abbrev Ou.rvals (o : Ou) : Array Value := #[.int .i64 o.sv, .int .i64 o.ty, .int .u64 o.ky, .int .u64 o.ac, .bool o.ap]
/-- What the document's Do leaves. -/
def RDone (w w' : World) (C : Nat) (e : Ending) (R : Int × Int) (E : List (Int × Int)) (T : Tb) : Prop := ∃ v y, e = .returned (.tuple #[.int .i64 R.1, .int .i64 R.2, v]) ∧ Own .i64 57 w.heap.size w' v E ∧ RTab w' C T y ∧ w.grownBy w' (some C)
theorem not_bereft {t : Tb} (hg : t.good) (n : Nat) (hn : n < 8) (o : Ou) (h0 : t.ks n = 0) (hac : o.ac = 0) : (t.put n o).bereft n = false := by
  have hks : (t.put n o).ks = upd t.ks n o.ac := rfl
  have hkd : (t.put n o).kd = t.kd := rfl
  have hho : (t.put n o).ho = t.ho := rfl
  unfold Tb.bereft
  rw [hkd, hho]
  cases hal : isAll t.kd with
  | true =>
    rw [if_pos rfl]
    obtain ⟨j, hj, hkj⟩ := hg.all hal
    have : j ≠ n := fun e => hkj (by rw [e]; exact h0)
    unfold Tb.void
    rw [List.all_eq_false]
    exact ⟨j, List.mem_range.2 hj, by rw [hks]; simp [upd, this, hkj]⟩
  | false =>
    simp
    intro hk e
    obtain ⟨a, b, c⟩ := hg.one hk hal
    rw [e] at c
    exact c (by simpa using h0)
set_option maxRecDepth 100000 in
set_option maxHeartbeats 2000000 in
theorem rdo_put0 (C : Nat) (t : Tb) (x : Int) (n : Nat) (o : Ou) (w : World) (h : RTab w C t x) (hg : t.good) (hn : n < 8) (hsv : o.sv = 0) (hky : o.ky = t.ks n) (hac : o.ac ≠ 0) :
    Calls Try.prog 16 #[.pointer (some ⟨C, 0, none⟩), .int .i64 n, .agg o.rvals] w fun e w' => RDone w w' C e (0, 0) (t.registerE n o) (t.register n o) := by
  have hE : Kpt (t.registerE n o = []) := ⟨by unfold Tb.registerE; rw [if_neg (by simp [hac])]⟩
  have hT : Kpt (t.register n o = t.put n o) := ⟨by unfold Tb.register; rw [if_neg (by simp [hac])]⟩
  have hput : Kpt (∀ W, RTab W C { t with ks := upd t.ks n o.ac, la := o.ap, gn := (t.gn + 1) % 4294967296 } x → RTab W C (t.put n o) x) := ⟨fun W h => h⟩
  generalize t.registerE n o = RE at *
  generalize t.register n o = RT at *
  generalize t.put n o = PT at *
  have hn0 : ¬ ((n : Int) < 0) := by omega
  have hn7 : (n : Int) ≤ 7 := by omega
  have hn8 : (n : Int) < 8 := by omega
  have hlt := h.lt
  obtain ⟨sv, ty, ky, ac, ap⟩ := o
  simp only [Ou.rvals] at *
  subst hsv
  subst hky
  obtain ⟨w0, hw0⟩ : ∃ w0, w0 = w.alloc (.cells #[.int .i64 0, .int .i64 ty, .int .u64 (t.ks n), .int .u64 ac, .bool ap] 52) := ⟨_, rfl⟩
  have hT0 : RTab w0 C t x := by rw [hw0]; exact h.alloc _
  have hG0 : Kpt (w.grownBy w0 (some C)) := ⟨by rw [hw0]; exact grown_alloc _ _ _⟩
  have hs0 : w0.heap.size = w.heap.size + 1 := by rw [hw0]; simp
  have kn := hT0.key n hn
  have f8 := hT0.free
  rw [hw0] at kn f8
  have hT0K := Kpt.mk hT0
  replace hw0 := Kpt.mk hw0
  replace hs0 := Kpt.mk hs0
  have hab : ((ac : Int) != 0) = true := by simp [hac]
  have hgn := hg.gn0
  have hK := Kpt.mk h
  generalize hks : t.ks n = y at *
  clear hT0
  go_enter Try.func16, Try.ntmps16
  go_wp2_with fail
  go_region
  obtain ⟨w1, hw1⟩ : ∃ w1, w1 = (((w.setCell ⟨C, n, none⟩ (.int .u64 ac)).alloc (.cells #[.int .i64 0, .int .i64 ty, .int .u64 y, .int .u64 ac, .bool ap] 52)).drew) := ⟨_, rfl⟩
  rw [← hw1]
  have hT1 : RTab w1 C { t with ks := upd t.ks n ac } x := by rw [hw1]; exact ((hK.out.setKey n hn ac).alloc _).drew
  have hG1 : Kpt (w.grownBy w1 (some C)) := ⟨by rw [hw1]; exact grown_trans (grown_setCell w ⟨C, n, none⟩ _) (grown_trans (grown_alloc _ _ _) (grown_drewN _ 1 _))⟩
  have q4 : w1.cell? ⟨w.heap.size, 4, none⟩ = some (.bool ap) := by rw [hw1]; exact new_cell _ _ _ _ (by simp) 4
  have hs1 : w.heap.size < w1.heap.size := by rw [hw1]; simp
  have c10 := hT1.c10
  have c11 := hT1.c11
  have f10 := hT1.free 10
  have f11 := hT1.free 11
  have lt1 := hT1.lt
  have hT2 := Kpt.mk (hput.out _ ((hT1.setLa ap).setGn ((t.gn + 1) % 4294967296)))
  have hG2 : Kpt (w.grownBy ((w1.setCell ⟨C, 11, none⟩ (.bool ap)).setCell ⟨C, 10, none⟩ (.int .u32 ((t.gn + 1) % 4294967296))) (some C)) := ⟨grown_trans hG1.out (grown_trans (grown_setCell w1 ⟨C, 11, none⟩ _) (grown_setCell _ ⟨C, 10, none⟩ _))⟩
  generalize t.gn = gn at *
  have hne : C ≠ w.heap.size := by omega
  clear hw1 hT1 hG1 h hg kn f8
  go_wp2
  go_ret3
  exact ⟨_, x, rfl, by rw [hE.out]; exact own_nil _ _ _ _, by rw [hT.out]; exact hT2.out, hG2.out⟩

set_option maxRecDepth 100000 in
set_option maxHeartbeats 2000000 in
theorem rdo_nil0 (C : Nat) (t : Tb) (x : Int) (n : Nat) (o : Ou) (w : World) (h : RTab w C t x) (hg : t.good) (hn : n < 8) (hsv : o.sv = 0) (hky : o.ky = t.ks n) (hac : o.ac = 0) (h0 : t.ks n = 0) :
    Calls Try.prog 16 #[.pointer (some ⟨C, 0, none⟩), .int .i64 n, .agg o.rvals] w fun e w' => RDone w w' C e (0, 0) (t.registerE n o) (t.register n o) := by
  have hnb := not_bereft hg n hn o h0 hac
  have hE : Kpt (t.registerE n o = []) := ⟨by unfold Tb.registerE; rw [hnb, if_neg (by simp)]⟩
  have hT : Kpt (t.register n o = t.put n o) := ⟨by unfold Tb.register; rw [hnb, if_neg (by simp)]⟩
  have hput : Kpt (∀ W, RTab W C { t with la := o.ap, gn := (t.gn + 1) % 4294967296 } x → RTab W C (t.put n o) x) := ⟨fun W h => h.congr (fun j hj => by
    show upd t.ks n o.ac j = t.ks j
    unfold upd
    split
    · rename_i e; subst e; rw [h0, hac]
    · rfl) rfl rfl rfl h.hold⟩
  clear hnb
  generalize t.registerE n o = RE at *
  generalize t.register n o = RT at *
  generalize t.put n o = PT at *
  have hn0 : ¬ ((n : Int) < 0) := by omega
  have hn7 : (n : Int) ≤ 7 := by omega
  have hn8 : (n : Int) < 8 := by omega
  have hlt := h.lt
  obtain ⟨sv, ty, ky, ac, ap⟩ := o
  simp only [Ou.rvals] at *
  subst hsv
  subst hky
  subst hac
  obtain ⟨w0, hw0⟩ : ∃ w0, w0 = w.alloc (.cells #[.int .i64 0, .int .i64 ty, .int .u64 (t.ks n), .int .u64 0, .bool ap] 52) := ⟨_, rfl⟩
  have hT0 : RTab w0 C t x := by rw [hw0]; exact h.alloc _
  have hG0 : Kpt (w.grownBy w0 (some C)) := ⟨by rw [hw0]; exact grown_alloc _ _ _⟩
  have hs0 : w0.heap.size = w.heap.size + 1 := by rw [hw0]; simp
  have kn := hT0.key n hn
  have f8 := hT0.free
  rw [hw0] at kn f8
  have hT0K := Kpt.mk hT0
  replace hw0 := Kpt.mk hw0
  replace hs0 := Kpt.mk hs0
  have hgn := hg.gn0
  have c10 := h.c10
  have c11 := h.c11
  have c10f := h.free 10
  have c11f := h.free 11
  have knw := h.key n hn
  have hT2 : Kpt (∀ ob, RTab (((w.setCell ⟨C, 11, none⟩ (.bool ap)).setCell ⟨C, 10, none⟩ (.int .u32 ((t.gn + 1) % 4294967296))).alloc ob) C PT x) := ⟨fun ob => hput.out _ (((h.setLa ap).setGn ((t.gn + 1) % 4294967296)).alloc ob)⟩
  have hG2 : Kpt (∀ ob, w.grownBy (((w.setCell ⟨C, 11, none⟩ (.bool ap)).setCell ⟨C, 10, none⟩ (.int .u32 ((t.gn + 1) % 4294967296))).alloc ob) (some C)) := ⟨fun ob => grown_trans (grown_trans (grown_setCell w ⟨C, 11, none⟩ _) (grown_setCell _ ⟨C, 10, none⟩ _)) (grown_alloc _ _ _)⟩
  rw [h0] at *
  generalize t.gn = gn at *
  have hne : C ≠ w.heap.size := by omega
  clear h hg hT0
  go_enter Try.func16, Try.ntmps16
  go_wp2
  go_ret3
  exact ⟨_, x, rfl, by rw [hE.out]; exact own_nil _ _ _ _, by rw [hT.out]; exact hT2.out _, hG2.out _⟩

set_option maxRecDepth 100000 in
set_option maxHeartbeats 2000000 in
theorem rdo_put6 (C : Nat) (t : Tb) (x : Int) (n : Nat) (o : Ou) (w : World) (h : RTab w C t x) (hg : t.good) (hn : n < 8) (hsv : o.sv = 6) (hac : o.ac ≠ 0) :
    Calls Try.prog 16 #[.pointer (some ⟨C, 0, none⟩), .int .i64 n, .agg o.rvals] w fun e w' => RDone w w' C e (0, 0) (t.registerE n o) (t.register n o) := by
  have hE : Kpt (t.registerE n o = []) := ⟨by unfold Tb.registerE; rw [if_neg (by simp [hac])]⟩
  have hT : Kpt (t.register n o = t.put n o) := ⟨by unfold Tb.register; rw [if_neg (by simp [hac])]⟩
  have hput : Kpt (∀ W, RTab W C { t with ks := upd t.ks n o.ac, la := o.ap, gn := (t.gn + 1) % 4294967296 } x → RTab W C (t.put n o) x) := ⟨fun W h => h⟩
  generalize t.registerE n o = RE at *
  generalize t.register n o = RT at *
  generalize t.put n o = PT at *
  have hn0 : ¬ ((n : Int) < 0) := by omega
  have hn7 : (n : Int) ≤ 7 := by omega
  have hn8 : (n : Int) < 8 := by omega
  have hlt := h.lt
  obtain ⟨sv, ty, ky, ac, ap⟩ := o
  simp only [Ou.rvals] at *
  subst hsv
  obtain ⟨w0, hw0⟩ : ∃ w0, w0 = w.alloc (.cells #[.int .i64 6, .int .i64 ty, .int .u64 ky, .int .u64 ac, .bool ap] 52) := ⟨_, rfl⟩
  have hT0 : RTab w0 C t x := by rw [hw0]; exact h.alloc _
  have hG0 : Kpt (w.grownBy w0 (some C)) := ⟨by rw [hw0]; exact grown_alloc _ _ _⟩
  have hs0 : w0.heap.size = w.heap.size + 1 := by rw [hw0]; simp
  have kn := hT0.key n hn
  have f8 := hT0.free
  rw [hw0] at kn f8
  have hT0K := Kpt.mk hT0
  replace hw0 := Kpt.mk hw0
  replace hs0 := Kpt.mk hs0
  have hab : ((ac : Int) != 0) = true := by simp [hac]
  have hgn := hg.gn0
  have hK := Kpt.mk h
  generalize hks : t.ks n = y at *
  clear hT0
  go_enter Try.func16, Try.ntmps16
  go_wp2_with fail
  go_region
  obtain ⟨w1, hw1⟩ : ∃ w1, w1 = (((w.setCell ⟨C, n, none⟩ (.int .u64 ac)).alloc (.cells #[.int .i64 6, .int .i64 ty, .int .u64 ky, .int .u64 ac, .bool ap] 52)).drew) := ⟨_, rfl⟩
  rw [← hw1]
  have hT1 : RTab w1 C { t with ks := upd t.ks n ac } x := by rw [hw1]; exact ((hK.out.setKey n hn ac).alloc _).drew
  have hG1 : Kpt (w.grownBy w1 (some C)) := ⟨by rw [hw1]; exact grown_trans (grown_setCell w ⟨C, n, none⟩ _) (grown_trans (grown_alloc _ _ _) (grown_drewN _ 1 _))⟩
  have q4 : w1.cell? ⟨w.heap.size, 4, none⟩ = some (.bool ap) := by rw [hw1]; exact new_cell _ _ _ _ (by simp) 4
  have hs1 : w.heap.size < w1.heap.size := by rw [hw1]; simp
  have c10 := hT1.c10
  have c11 := hT1.c11
  have f10 := hT1.free 10
  have f11 := hT1.free 11
  have lt1 := hT1.lt
  have hT2 := Kpt.mk (hput.out _ ((hT1.setLa ap).setGn ((t.gn + 1) % 4294967296)))
  have hG2 : Kpt (w.grownBy ((w1.setCell ⟨C, 11, none⟩ (.bool ap)).setCell ⟨C, 10, none⟩ (.int .u32 ((t.gn + 1) % 4294967296))) (some C)) := ⟨grown_trans hG1.out (grown_trans (grown_setCell w1 ⟨C, 11, none⟩ _) (grown_setCell _ ⟨C, 10, none⟩ _))⟩
  generalize t.gn = gn at *
  have hne : C ≠ w.heap.size := by omega
  clear hw1 hT1 hG1 h hg kn f8
  go_wp2
  go_ret3
  exact ⟨_, x, rfl, by rw [hE.out]; exact own_nil _ _ _ _, by rw [hT.out]; exact hT2.out, hG2.out⟩

set_option maxRecDepth 100000 in
set_option maxHeartbeats 2000000 in
theorem rdo_nil6 (C : Nat) (t : Tb) (x : Int) (n : Nat) (o : Ou) (w : World) (h : RTab w C t x) (hg : t.good) (hn : n < 8) (hsv : o.sv = 6) (hac : o.ac = 0) (h0 : t.ks n = 0) :
    Calls Try.prog 16 #[.pointer (some ⟨C, 0, none⟩), .int .i64 n, .agg o.rvals] w fun e w' => RDone w w' C e (0, 0) (t.registerE n o) (t.register n o) := by
  have hnb := not_bereft hg n hn o h0 hac
  have hE : Kpt (t.registerE n o = []) := ⟨by unfold Tb.registerE; rw [hnb, if_neg (by simp)]⟩
  have hT : Kpt (t.register n o = t.put n o) := ⟨by unfold Tb.register; rw [hnb, if_neg (by simp)]⟩
  have hput : Kpt (∀ W, RTab W C { t with la := o.ap, gn := (t.gn + 1) % 4294967296 } x → RTab W C (t.put n o) x) := ⟨fun W h => h.congr (fun j hj => by
    show upd t.ks n o.ac j = t.ks j
    unfold upd
    split
    · rename_i e; subst e; rw [h0, hac]
    · rfl) rfl rfl rfl h.hold⟩
  clear hnb
  generalize t.registerE n o = RE at *
  generalize t.register n o = RT at *
  generalize t.put n o = PT at *
  have hn0 : ¬ ((n : Int) < 0) := by omega
  have hn7 : (n : Int) ≤ 7 := by omega
  have hn8 : (n : Int) < 8 := by omega
  have hlt := h.lt
  obtain ⟨sv, ty, ky, ac, ap⟩ := o
  simp only [Ou.rvals] at *
  subst hsv
  subst hac
  obtain ⟨w0, hw0⟩ : ∃ w0, w0 = w.alloc (.cells #[.int .i64 6, .int .i64 ty, .int .u64 ky, .int .u64 0, .bool ap] 52) := ⟨_, rfl⟩
  have hT0 : RTab w0 C t x := by rw [hw0]; exact h.alloc _
  have hG0 : Kpt (w.grownBy w0 (some C)) := ⟨by rw [hw0]; exact grown_alloc _ _ _⟩
  have hs0 : w0.heap.size = w.heap.size + 1 := by rw [hw0]; simp
  have kn := hT0.key n hn
  have f8 := hT0.free
  rw [hw0] at kn f8
  have hT0K := Kpt.mk hT0
  replace hw0 := Kpt.mk hw0
  replace hs0 := Kpt.mk hs0
  have hgn := hg.gn0
  have c10 := h.c10
  have c11 := h.c11
  have c10f := h.free 10
  have c11f := h.free 11
  have knw := h.key n hn
  have hT2 : Kpt (∀ ob, RTab (((w.setCell ⟨C, 11, none⟩ (.bool ap)).setCell ⟨C, 10, none⟩ (.int .u32 ((t.gn + 1) % 4294967296))).alloc ob) C PT x) := ⟨fun ob => hput.out _ (((h.setLa ap).setGn ((t.gn + 1) % 4294967296)).alloc ob)⟩
  have hG2 : Kpt (∀ ob, w.grownBy (((w.setCell ⟨C, 11, none⟩ (.bool ap)).setCell ⟨C, 10, none⟩ (.int .u32 ((t.gn + 1) % 4294967296))).alloc ob) (some C)) := ⟨fun ob => grown_trans (grown_trans (grown_setCell w ⟨C, 11, none⟩ _) (grown_setCell _ ⟨C, 10, none⟩ _)) (grown_alloc _ _ _)⟩
  rw [h0] at *
  generalize t.gn = gn at *
  have hne : C ≠ w.heap.size := by omega
  clear h hg hT0
  go_enter Try.func16, Try.ntmps16
  go_wp2
  go_ret3
  exact ⟨_, x, rfl, by rw [hE.out]; exact own_nil _ _ _ _, by rw [hT.out]; exact hT2.out _, hG2.out _⟩

end Go.Proofs.Ytikndkmpedoooaa
