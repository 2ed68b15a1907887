/-
  The document's Do: what is refused, Reserve, Release, Clear.
-/
import Derived.Test.YtikndkmpedoooaaPX3
namespace Go.Proofs.Ytikndkmpedoooaa
open Go.RowKit
set_option linter.unusedVariables false
set_option linter.unusedSimpArgs false

set_option maxRecDepth 100000 in
set_option maxHeartbeats 2000000 in
theorem rdo_lo (C : Nat) (t : Tb) (x : Int) (n : Int) (o : Ou) (w : World) (h : RTab w C t x) (hg : t.good) (hb : n < 0) :
    Calls Try.prog 16 #[.pointer (some ⟨C, 0, none⟩), .int .i64 n, .agg o.rvals] w fun e w' => RDone w w' C e (2, 9216) [] t := by
  have hlt := h.lt
  have hK := Kpt.mk h
  obtain ⟨sv, ty, ky, ac, ap⟩ := o
  simp only [Ou.rvals] at *
  clear h hg
  go_enter Try.func16, Try.ntmps16
  go_wp2
  go_ret3
  exact ⟨_, x, rfl, own_nil _ _ _ _, hK.out.alloc _, grown_alloc _ _ _⟩

set_option maxRecDepth 100000 in
set_option maxHeartbeats 2000000 in
theorem rdo_hi (C : Nat) (t : Tb) (x : Int) (n : Int) (o : Ou) (w : World) (h : RTab w C t x) (hg : t.good) (hb : 7 < n) :
    Calls Try.prog 16 #[.pointer (some ⟨C, 0, none⟩), .int .i64 n, .agg o.rvals] w fun e w' => RDone w w' C e (2, 9216) [] t := by
  have hlt := h.lt
  have hK := Kpt.mk h
  obtain ⟨sv, ty, ky, ac, ap⟩ := o
  simp only [Ou.rvals] at *
  have hb0 : ¬ n < 0 := by omega
  clear h hg
  go_enter Try.func16, Try.ntmps16
  go_wp2
  go_ret3
  exact ⟨_, x, rfl, own_nil _ _ _ _, hK.out.alloc _, grown_alloc _ _ _⟩

set_option maxRecDepth 100000 in
set_option maxHeartbeats 2000000 in
theorem rdo_sv (C : Nat) (t : Tb) (x : Int) (n : Nat) (o : Ou) (w : World) (h : RTab w C t x) (hg : t.good) (hn : n < 8) (hb : 6 < o.sv) :
    Calls Try.prog 16 #[.pointer (some ⟨C, 0, none⟩), .int .i64 n, .agg o.rvals] w fun e w' => RDone w w' C e (2, 9216) [] t := by
  have hn0 : ¬ ((n : Int) < 0) := by omega
  have hn7 : (n : Int) ≤ 7 := by omega
  have hn8 : (n : Int) < 8 := by omega
  have kn := h.key n hn
  have hlt := h.lt
  have hK := Kpt.mk h
  obtain ⟨sv, ty, ky, ac, ap⟩ := o
  simp only [Ou.rvals] at *
  clear h hg
  go_enter Try.func16, Try.ntmps16
  go_wp2
  go_ret3
  exact ⟨_, x, rfl, own_nil _ _ _ _, hK.out.alloc _, grown_alloc _ _ _⟩

set_option maxRecDepth 100000 in
set_option maxHeartbeats 2000000 in
theorem rdo_conf0 (C : Nat) (t : Tb) (x : Int) (n : Nat) (o : Ou) (w : World) (h : RTab w C t x) (hg : t.good) (hn : n < 8) (hsv : o.sv = 0) (hk : o.ky ≠ t.ks n) :
    Calls Try.prog 16 #[.pointer (some ⟨C, 0, none⟩), .int .i64 n, .agg o.rvals] w fun e w' => RDone w w' C e (24, 0) [] t := by
  have hn0 : ¬ ((n : Int) < 0) := by omega
  have hn7 : (n : Int) ≤ 7 := by omega
  have hn8 : (n : Int) < 8 := by omega
  have kn := h.key n hn
  have hlt := h.lt
  have hK := Kpt.mk h
  obtain ⟨sv, ty, ky, ac, ap⟩ := o
  simp only [Ou.rvals] at *
  subst hsv
  generalize t.ks n = y at *
  have hkb : ((ky : Int) != y) = true := by simp [hk]
  clear h hg
  go_enter Try.func16, Try.ntmps16
  go_wp2
  go_ret3
  exact ⟨_, x, rfl, own_nil _ _ _ _, hK.out.alloc _, grown_alloc _ _ _⟩

set_option maxRecDepth 100000 in
set_option maxHeartbeats 2000000 in
theorem rdo_conf1 (C : Nat) (t : Tb) (x : Int) (n : Nat) (o : Ou) (w : World) (h : RTab w C t x) (hg : t.good) (hn : n < 8) (hs : ¬ 6 < o.sv) (h0 : o.sv ≠ 0) (h6 : o.sv ≠ 6) (hk : t.ks n = 0) :
    Calls Try.prog 16 #[.pointer (some ⟨C, 0, none⟩), .int .i64 n, .agg o.rvals] w fun e w' => RDone w w' C e (24, 0) [] t := by
  have hn0 : ¬ ((n : Int) < 0) := by omega
  have hn7 : (n : Int) ≤ 7 := by omega
  have hn8 : (n : Int) < 8 := by omega
  have kn := h.key n hn
  have hlt := h.lt
  have hK := Kpt.mk h
  obtain ⟨sv, ty, ky, ac, ap⟩ := o
  simp only [Ou.rvals] at *
  have s0 : ((sv : Int) == 0) = false := by simp [h0]
  have s6 : ((sv : Int) == 6) = false := by simp [h6]
  have sle : sv ≤ 6 := by omega
  rw [hk] at kn
  clear h hg
  go_enter Try.func16, Try.ntmps16
  go_wp2
  go_ret3
  exact ⟨_, x, rfl, own_nil _ _ _ _, hK.out.alloc _, grown_alloc _ _ _⟩

set_option maxRecDepth 100000 in
set_option maxHeartbeats 2000000 in
theorem rdo_conf2 (C : Nat) (t : Tb) (x : Int) (n : Nat) (o : Ou) (w : World) (h : RTab w C t x) (hg : t.good) (hn : n < 8) (hs : ¬ 6 < o.sv) (h0 : o.sv ≠ 0) (h6 : o.sv ≠ 6) (hk0 : t.ks n ≠ 0) (hk : o.ky ≠ t.ks n) :
    Calls Try.prog 16 #[.pointer (some ⟨C, 0, none⟩), .int .i64 n, .agg o.rvals] w fun e w' => RDone w w' C e (24, 0) [] t := by
  have hn0 : ¬ ((n : Int) < 0) := by omega
  have hn7 : (n : Int) ≤ 7 := by omega
  have hn8 : (n : Int) < 8 := by omega
  have kn := h.key n hn
  have hlt := h.lt
  have hK := Kpt.mk h
  obtain ⟨sv, ty, ky, ac, ap⟩ := o
  simp only [Ou.rvals] at *
  have s0 : ((sv : Int) == 0) = false := by simp [h0]
  have s6 : ((sv : Int) == 6) = false := by simp [h6]
  have sle : sv ≤ 6 := by omega
  generalize t.ks n = y at *
  have hkb : ((ky : Int) != y) = true := by simp [hk]
  have hyb : ((y : Int) == 0) = false := by simp [hk0]
  clear h hg
  go_enter Try.func16, Try.ntmps16
  go_wp2
  go_ret3
  exact ⟨_, x, rfl, own_nil _ _ _ _, hK.out.alloc _, grown_alloc _ _ _⟩

set_option maxRecDepth 100000 in
set_option maxHeartbeats 2000000 in
theorem rdo_res_ty (C : Nat) (t : Tb) (x : Int) (n : Nat) (o : Ou) (w : World) (h : RTab w C t x) (hg : t.good) (hn : n < 8) (hsv : o.sv = 1) (hk0 : t.ks n ≠ 0) (hky : o.ky = t.ks n) (hty : isTy o.ty = false) :
    Calls Try.prog 16 #[.pointer (some ⟨C, 0, none⟩), .int .i64 n, .agg o.rvals] w fun e w' => RDone w w' C e (t.reserveR n o.ty) [] (t.reserve n o.ty) := by
  rw [show t.reserveR n o.ty = (2, 9216) from by unfold Tb.reserveR; rw [if_pos hty], show t.reserve n o.ty = t from by unfold Tb.reserve; rw [if_neg (by simp [hty])]]
  have hn0 : ¬ ((n : Int) < 0) := by omega
  have hn7 : (n : Int) ≤ 7 := by omega
  have hn8 : (n : Int) < 8 := by omega
  have kn := h.key n hn
  have hlt := h.lt
  have hK := Kpt.mk h
  obtain ⟨sv, ty, ky, ac, ap⟩ := o
  simp only [Ou.rvals] at *
  have c8 := h.c8
  have c9 := h.c9
  have c10 := h.c10
  have hkd0 := hg.ok.kd0
  have fr := h.free
  have hgn := hg.gn0
  have HH := fun ob => Kpt.mk (rholds_any C t x n _ (h.alloc ob) hg.ok.fit)
  have HY := fun k W => Kpt.mk (risTy_any k W)
  subst hsv
  subst hky
  have hyb : ((t.ks n : Int) == 0) = false := by simp [hk0]
  have hne : C ≠ w.heap.size := by omega
  clear h hg
  generalize t.ks n = y at *
  go_enter Try.func16, Try.ntmps16
  go_wp2_with fail
  refine (HY _ _).out.mono ?_
  rintro e w0 ⟨rfl, rfl⟩
  rw [hty]
  go_wp2
  go_ret3
  exact ⟨_, x, rfl, own_nil _ _ _ _, hK.out.alloc _, grown_alloc _ _ _⟩

set_option maxRecDepth 100000 in
set_option maxHeartbeats 2000000 in
theorem rdo_res_new (C : Nat) (t : Tb) (x : Int) (n : Nat) (o : Ou) (w : World) (h : RTab w C t x) (hg : t.good) (hn : n < 8) (hsv : o.sv = 1) (hk0 : t.ks n ≠ 0) (hky : o.ky = t.ks n) (hty : isTy o.ty = true) (hkd : t.kd = 0) :
    Calls Try.prog 16 #[.pointer (some ⟨C, 0, none⟩), .int .i64 n, .agg o.rvals] w fun e w' => RDone w w' C e (t.reserveR n o.ty) [] (t.reserve n o.ty) := by
  rw [show t.reserveR n o.ty = (0, 0) from by unfold Tb.reserveR; rw [if_neg (by simp [hty]), if_pos hkd], show t.reserve n o.ty = { t with kd := o.ty, ho := n } from by unfold Tb.reserve; rw [if_pos ⟨hty, hkd⟩]]
  have hn0 : ¬ ((n : Int) < 0) := by omega
  have hn7 : (n : Int) ≤ 7 := by omega
  have hn8 : (n : Int) < 8 := by omega
  have kn := h.key n hn
  have hlt := h.lt
  have hK := Kpt.mk h
  obtain ⟨sv, ty, ky, ac, ap⟩ := o
  simp only [Ou.rvals] at *
  have c8 := h.c8
  have c9 := h.c9
  have c10 := h.c10
  have hkd0 := hg.ok.kd0
  have fr := h.free
  have hgn := hg.gn0
  have HH := fun ob => Kpt.mk (rholds_any C t x n _ (h.alloc ob) hg.ok.fit)
  have HY := fun k W => Kpt.mk (risTy_any k W)
  subst hsv
  subst hky
  have hyb : ((t.ks n : Int) == 0) = false := by simp [hk0]
  have hne : C ≠ w.heap.size := by omega
  rw [hkd] at c8
  have hT : Kpt (∀ ob, RTab (((w.setCell ⟨C, 8, none⟩ (.int .i64 ty)).setCell ⟨C, 9, none⟩ (.int .i64 n)).alloc ob) C { t with kd := ty, ho := n } n) := ⟨fun ob => (hK.out.setKH ty n n (fun _ _ => rfl)).alloc ob⟩
  have hG : Kpt (∀ ob, w.grownBy (((w.setCell ⟨C, 8, none⟩ (.int .i64 ty)).setCell ⟨C, 9, none⟩ (.int .i64 n)).alloc ob) (some C)) := ⟨fun ob => grown_trans (grown_trans (grown_setCell w ⟨C, 8, none⟩ _) (grown_setCell _ ⟨C, 9, none⟩ _)) (grown_alloc _ _ _)⟩
  clear h hg
  generalize t.ks n = y at *
  go_enter Try.func16, Try.ntmps16
  go_wp2_with fail
  refine (HY _ _).out.mono ?_
  rintro e w0 ⟨rfl, rfl⟩
  rw [hty]
  go_wp2
  go_ret3
  exact ⟨_, n, rfl, own_nil _ _ _ _, hT.out _, hG.out _⟩

set_option maxRecDepth 100000 in
set_option maxHeartbeats 2000000 in
theorem rdo_res_own (C : Nat) (t : Tb) (x : Int) (n : Nat) (o : Ou) (w : World) (h : RTab w C t x) (hg : t.good) (hn : n < 8) (hsv : o.sv = 1) (hk0 : t.ks n ≠ 0) (hky : o.ky = t.ks n) (hty : isTy o.ty = true) (hkd : t.kd ≠ 0) (hhd : t.holds n = true) (he : t.kd = o.ty) :
    Calls Try.prog 16 #[.pointer (some ⟨C, 0, none⟩), .int .i64 n, .agg o.rvals] w fun e w' => RDone w w' C e (t.reserveR n o.ty) [] (t.reserve n o.ty) := by
  rw [show t.reserveR n o.ty = (0, 0) from by unfold Tb.reserveR; rw [if_neg (by simp [hty]), if_neg hkd, if_pos ⟨hhd, he⟩], show t.reserve n o.ty = t from by unfold Tb.reserve; rw [if_neg (by simp [hkd])]]
  have hn0 : ¬ ((n : Int) < 0) := by omega
  have hn7 : (n : Int) ≤ 7 := by omega
  have hn8 : (n : Int) < 8 := by omega
  have kn := h.key n hn
  have hlt := h.lt
  have hK := Kpt.mk h
  obtain ⟨sv, ty, ky, ac, ap⟩ := o
  simp only [Ou.rvals] at *
  have c8 := h.c8
  have c9 := h.c9
  have c10 := h.c10
  have hkd0 := hg.ok.kd0
  have fr := h.free
  have hgn := hg.gn0
  have HH := fun ob => Kpt.mk (rholds_any C t x n _ (h.alloc ob) hg.ok.fit)
  have HY := fun k W => Kpt.mk (risTy_any k W)
  subst hsv
  subst hky
  have hyb : ((t.ks n : Int) == 0) = false := by simp [hk0]
  have hne : C ≠ w.heap.size := by omega
  have HHq : Kpt (∀ q, Calls Try.prog 45 #[.pointer (some ⟨C, 0, none⟩), .int .i64 n] ((w.alloc (.cells #[.int .i64 1, .int .i64 ty, .int .u64 (t.ks n), .int .u64 ac, .bool ap] 52)).drewN q) fun e w' => e = .returned (.bool true) ∧ w' = (w.alloc (.cells #[.int .i64 1, .int .i64 ty, .int .u64 (t.ks n), .int .u64 ac, .bool ap] 52)).drewN q) := ⟨fun q => by have := rholds_any C t x n _ ((hK.out.alloc (.cells #[.int .i64 1, .int .i64 ty, .int .u64 (t.ks n), .int .u64 ac, .bool ap] 52)).drewN q) hg.ok.fit; rw [hhd] at this; exact this⟩
  have hkb : ((t.kd : Int) == 0) = false := by simp [hkd]
  have heb : ((t.kd : Int) == ty) = true := by simp [he]
  clear h hg HH
  generalize t.ks n = y at *
  generalize t.kd = kd at *
  subst he
  go_enter Try.func16, Try.ntmps16
  go_wp2_with fail
  refine (HY _ _).out.mono ?_
  rintro e w0 ⟨rfl, rfl⟩
  rw [hty]
  go_wp2_with fail
  go_quiet ((go_at_call 45; exact Calls.quiet_of_same (HHq.out _)))
  go_wp2
  go_ret3
  exact ⟨_, x, rfl, own_nil _ _ _ _, (hK.out.alloc _).drewN _, grown_trans (grown_alloc _ _ _) (grown_drewN _ _ _)⟩

set_option maxRecDepth 100000 in
set_option maxHeartbeats 2000000 in
theorem rdo_res_kind (C : Nat) (t : Tb) (x : Int) (n : Nat) (o : Ou) (w : World) (h : RTab w C t x) (hg : t.good) (hn : n < 8) (hsv : o.sv = 1) (hk0 : t.ks n ≠ 0) (hky : o.ky = t.ks n) (hty : isTy o.ty = true) (hkd : t.kd ≠ 0) (hhd : t.holds n = true) (he : t.kd ≠ o.ty) :
    Calls Try.prog 16 #[.pointer (some ⟨C, 0, none⟩), .int .i64 n, .agg o.rvals] w fun e w' => RDone w w' C e (t.reserveR n o.ty) [] (t.reserve n o.ty) := by
  rw [show t.reserveR n o.ty = (24, 0) from by unfold Tb.reserveR; rw [if_neg (by simp [hty]), if_neg hkd, if_neg (by simp [he])], show t.reserve n o.ty = t from by unfold Tb.reserve; rw [if_neg (by simp [hkd])]]
  have hn0 : ¬ ((n : Int) < 0) := by omega
  have hn7 : (n : Int) ≤ 7 := by omega
  have hn8 : (n : Int) < 8 := by omega
  have kn := h.key n hn
  have hlt := h.lt
  have hK := Kpt.mk h
  obtain ⟨sv, ty, ky, ac, ap⟩ := o
  simp only [Ou.rvals] at *
  have c8 := h.c8
  have c9 := h.c9
  have c10 := h.c10
  have hkd0 := hg.ok.kd0
  have fr := h.free
  have hgn := hg.gn0
  have HH := fun ob => Kpt.mk (rholds_any C t x n _ (h.alloc ob) hg.ok.fit)
  have HY := fun k W => Kpt.mk (risTy_any k W)
  subst hsv
  subst hky
  have hyb : ((t.ks n : Int) == 0) = false := by simp [hk0]
  have hne : C ≠ w.heap.size := by omega
  have HHq : Kpt (∀ q, Calls Try.prog 45 #[.pointer (some ⟨C, 0, none⟩), .int .i64 n] ((w.alloc (.cells #[.int .i64 1, .int .i64 ty, .int .u64 (t.ks n), .int .u64 ac, .bool ap] 52)).drewN q) fun e w' => e = .returned (.bool true) ∧ w' = (w.alloc (.cells #[.int .i64 1, .int .i64 ty, .int .u64 (t.ks n), .int .u64 ac, .bool ap] 52)).drewN q) := ⟨fun q => by have := rholds_any C t x n _ ((hK.out.alloc (.cells #[.int .i64 1, .int .i64 ty, .int .u64 (t.ks n), .int .u64 ac, .bool ap] 52)).drewN q) hg.ok.fit; rw [hhd] at this; exact this⟩
  have hkb : ((t.kd : Int) == 0) = false := by simp [hkd]
  have heb : ((t.kd : Int) == ty) = false := by simp [he]
  clear h hg HH
  generalize t.ks n = y at *
  generalize t.kd = kd at *
  go_enter Try.func16, Try.ntmps16
  go_wp2_with fail
  refine (HY _ _).out.mono ?_
  rintro e w0 ⟨rfl, rfl⟩
  rw [hty]
  go_wp2_with fail
  go_quiet ((go_at_call 45; exact Calls.quiet_of_same (HHq.out _)))
  go_wp2
  go_ret3
  exact ⟨_, x, rfl, own_nil _ _ _ _, (hK.out.alloc _).drewN _, grown_trans (grown_alloc _ _ _) (grown_drewN _ _ _)⟩

set_option maxRecDepth 100000 in
set_option maxHeartbeats 2000000 in
theorem rdo_res_not (C : Nat) (t : Tb) (x : Int) (n : Nat) (o : Ou) (w : World) (h : RTab w C t x) (hg : t.good) (hn : n < 8) (hsv : o.sv = 1) (hk0 : t.ks n ≠ 0) (hky : o.ky = t.ks n) (hty : isTy o.ty = true) (hkd : t.kd ≠ 0) (hhd : t.holds n = false) :
    Calls Try.prog 16 #[.pointer (some ⟨C, 0, none⟩), .int .i64 n, .agg o.rvals] w fun e w' => RDone w w' C e (t.reserveR n o.ty) [] (t.reserve n o.ty) := by
  rw [show t.reserveR n o.ty = (24, 0) from by unfold Tb.reserveR; rw [if_neg (by simp [hty]), if_neg hkd, if_neg (by simp [hhd])], show t.reserve n o.ty = t from by unfold Tb.reserve; rw [if_neg (by simp [hkd])]]
  have hn0 : ¬ ((n : Int) < 0) := by omega
  have hn7 : (n : Int) ≤ 7 := by omega
  have hn8 : (n : Int) < 8 := by omega
  have kn := h.key n hn
  have hlt := h.lt
  have hK := Kpt.mk h
  obtain ⟨sv, ty, ky, ac, ap⟩ := o
  simp only [Ou.rvals] at *
  have c8 := h.c8
  have c9 := h.c9
  have c10 := h.c10
  have hkd0 := hg.ok.kd0
  have fr := h.free
  have hgn := hg.gn0
  have HH := fun ob => Kpt.mk (rholds_any C t x n _ (h.alloc ob) hg.ok.fit)
  have HY := fun k W => Kpt.mk (risTy_any k W)
  subst hsv
  subst hky
  have hyb : ((t.ks n : Int) == 0) = false := by simp [hk0]
  have hne : C ≠ w.heap.size := by omega
  have HHq : Kpt (∀ q, Calls Try.prog 45 #[.pointer (some ⟨C, 0, none⟩), .int .i64 n] ((w.alloc (.cells #[.int .i64 1, .int .i64 ty, .int .u64 (t.ks n), .int .u64 ac, .bool ap] 52)).drewN q) fun e w' => e = .returned (.bool false) ∧ w' = (w.alloc (.cells #[.int .i64 1, .int .i64 ty, .int .u64 (t.ks n), .int .u64 ac, .bool ap] 52)).drewN q) := ⟨fun q => by have := rholds_any C t x n _ ((hK.out.alloc (.cells #[.int .i64 1, .int .i64 ty, .int .u64 (t.ks n), .int .u64 ac, .bool ap] 52)).drewN q) hg.ok.fit; rw [hhd] at this; exact this⟩
  have hkb : ((t.kd : Int) == 0) = false := by simp [hkd]
  clear h hg HH
  generalize t.ks n = y at *
  generalize t.kd = kd at *
  go_enter Try.func16, Try.ntmps16
  go_wp2_with fail
  refine (HY _ _).out.mono ?_
  rintro e w0 ⟨rfl, rfl⟩
  rw [hty]
  go_wp2_with fail
  go_quiet ((go_at_call 45; exact Calls.quiet_of_same (HHq.out _)))
  go_wp2
  go_ret3
  exact ⟨_, x, rfl, own_nil _ _ _ _, (hK.out.alloc _).drewN _, grown_trans (grown_alloc _ _ _) (grown_drewN _ _ _)⟩

set_option maxRecDepth 100000 in
set_option maxHeartbeats 2000000 in
theorem rdo_rel_not (C : Nat) (t : Tb) (x : Int) (n : Nat) (o : Ou) (w : World) (h : RTab w C t x) (hg : t.good) (hn : n < 8) (hsv : o.sv = 2) (hk0 : t.ks n ≠ 0) (hky : o.ky = t.ks n) (hhd : t.holds n = false) :
    Calls Try.prog 16 #[.pointer (some ⟨C, 0, none⟩), .int .i64 n, .agg o.rvals] w fun e w' => RDone w w' C e (t.releaseR n o.ty) (t.releaseE n o.ty) (t.release n o.ty) := by
  rw [show t.releaseR n o.ty = (0, 0) from by unfold Tb.releaseR; rw [if_neg (by simp [hhd])], show t.releaseE n o.ty = [] from by unfold Tb.releaseE; rw [if_neg (by simp [hhd])], show t.release n o.ty = t from by unfold Tb.release; rw [if_neg (by simp [hhd])]]
  have hn0 : ¬ ((n : Int) < 0) := by omega
  have hn7 : (n : Int) ≤ 7 := by omega
  have hn8 : (n : Int) < 8 := by omega
  have kn := h.key n hn
  have hlt := h.lt
  have hK := Kpt.mk h
  obtain ⟨sv, ty, ky, ac, ap⟩ := o
  simp only [Ou.rvals] at *
  have c8 := h.c8
  have c9 := h.c9
  have c10 := h.c10
  have hkd0 := hg.ok.kd0
  have fr := h.free
  have hgn := hg.gn0
  have HH := fun ob => Kpt.mk (rholds_any C t x n _ (h.alloc ob) hg.ok.fit)
  have HY := fun k W => Kpt.mk (risTy_any k W)
  subst hsv
  subst hky
  have hyb : ((t.ks n : Int) == 0) = false := by simp [hk0]
  have hne : C ≠ w.heap.size := by omega
  clear h hg
  generalize t.ks n = y at *
  go_enter Try.func16, Try.ntmps16
  go_wp2_with fail
  refine (HH _).out.mono ?_
  rintro e w0 ⟨rfl, rfl⟩
  rw [hhd]
  go_wp2
  go_ret3
  exact ⟨_, x, rfl, own_nil _ _ _ _, hK.out.alloc _, grown_alloc _ _ _⟩

set_option maxRecDepth 100000 in
set_option maxHeartbeats 2000000 in
theorem rdo_rel_kind (C : Nat) (t : Tb) (x : Int) (n : Nat) (o : Ou) (w : World) (h : RTab w C t x) (hg : t.good) (hn : n < 8) (hsv : o.sv = 2) (hk0 : t.ks n ≠ 0) (hky : o.ky = t.ks n) (hhd : t.holds n = true) (he : t.kd ≠ o.ty) :
    Calls Try.prog 16 #[.pointer (some ⟨C, 0, none⟩), .int .i64 n, .agg o.rvals] w fun e w' => RDone w w' C e (t.releaseR n o.ty) (t.releaseE n o.ty) (t.release n o.ty) := by
  rw [show t.releaseR n o.ty = (2, 9216) from by unfold Tb.releaseR; rw [if_pos ⟨hhd, he⟩], show t.releaseE n o.ty = [] from by unfold Tb.releaseE; rw [if_neg (by simp [he])], show t.release n o.ty = t from by unfold Tb.release; rw [if_neg (by simp [he])]]
  have hn0 : ¬ ((n : Int) < 0) := by omega
  have hn7 : (n : Int) ≤ 7 := by omega
  have hn8 : (n : Int) < 8 := by omega
  have kn := h.key n hn
  have hlt := h.lt
  have hK := Kpt.mk h
  obtain ⟨sv, ty, ky, ac, ap⟩ := o
  simp only [Ou.rvals] at *
  have c8 := h.c8
  have c9 := h.c9
  have c10 := h.c10
  have hkd0 := hg.ok.kd0
  have fr := h.free
  have hgn := hg.gn0
  have HH := fun ob => Kpt.mk (rholds_any C t x n _ (h.alloc ob) hg.ok.fit)
  have HY := fun k W => Kpt.mk (risTy_any k W)
  subst hsv
  subst hky
  have hyb : ((t.ks n : Int) == 0) = false := by simp [hk0]
  have hne : C ≠ w.heap.size := by omega
  have heb : ((t.kd : Int) != ty) = true := by simp [he]
  clear h hg
  generalize t.ks n = y at *
  generalize t.kd = kd at *
  go_enter Try.func16, Try.ntmps16
  go_wp2_with fail
  refine (HH _).out.mono ?_
  rintro e w0 ⟨rfl, rfl⟩
  rw [hhd]
  go_wp2_with fail
  go_quiet (fail)
  go_wp2
  go_ret3
  exact ⟨_, x, rfl, own_nil _ _ _ _, (hK.out.alloc _).drewN _, grown_trans (grown_alloc _ _ _) (grown_drewN _ _ _)⟩

set_option maxRecDepth 100000 in
set_option maxHeartbeats 2000000 in
theorem rdo_rel_own (C : Nat) (t : Tb) (x : Int) (n : Nat) (o : Ou) (w : World) (h : RTab w C t x) (hg : t.good) (hn : n < 8) (hsv : o.sv = 2) (hk0 : t.ks n ≠ 0) (hky : o.ky = t.ks n) (hhd : t.holds n = true) (he : t.kd = o.ty) :
    Calls Try.prog 16 #[.pointer (some ⟨C, 0, none⟩), .int .i64 n, .agg o.rvals] w fun e w' => RDone w w' C e (t.releaseR n o.ty) (t.releaseE n o.ty) (t.release n o.ty) := by
  rw [show t.releaseR n o.ty = (0, 0) from by unfold Tb.releaseR; rw [if_neg (by simp [he])], show t.releaseE n o.ty = t.endE n from by unfold Tb.releaseE; rw [if_pos ⟨hhd, he⟩], show t.release n o.ty = { t with kd := 0 } from by unfold Tb.release; rw [if_pos ⟨hhd, he⟩]]
  have hn0 : ¬ ((n : Int) < 0) := by omega
  have hn7 : (n : Int) ≤ 7 := by omega
  have hn8 : (n : Int) < 8 := by omega
  have kn := h.key n hn
  have hlt := h.lt
  have hK := Kpt.mk h
  obtain ⟨sv, ty, ky, ac, ap⟩ := o
  simp only [Ou.rvals] at *
  have c8 := h.c8
  have c9 := h.c9
  have c10 := h.c10
  have hkd0 := hg.ok.kd0
  have fr := h.free
  have hgn := hg.gn0
  have HH := fun ob => Kpt.mk (rholds_any C t x n _ (h.alloc ob) hg.ok.fit)
  have HY := fun k W => Kpt.mk (risTy_any k W)
  subst hsv
  subst hky
  have hyb : ((t.ks n : Int) == 0) = false := by simp [hk0]
  have hne : C ≠ w.heap.size := by omega
  have HE := fun W (hW : RTab W C t x) => Kpt.mk (rend_any C t x n W hW hkd0)
  clear h hg
  generalize t.ks n = y at *
  subst he
  go_enter Try.func16, Try.ntmps16
  go_wp2_with fail
  refine (HH _).out.mono ?_
  rintro e w0 ⟨rfl, rfl⟩
  rw [hhd]
  go_wp2_with fail
  go_quiet (fail)
  go_wp2_with fail
  refine (HE _ ((hK.out.alloc _).drewN _)).out.mono ?_
  rintro e w1 ⟨v, rfl, hO1, hT1, hG1⟩
  have hG2 : Kpt (w.grownBy w1 (some C)) := ⟨grown_trans (grown_trans (grown_alloc _ _ _) (grown_drewN _ _ _)) hG1⟩
  replace hO1 := Kpt.mk (hO1.lower (show w.heap.size ≤ _ by simp))
  replace hT1 := Kpt.mk hT1
  clear hG1
  go_wp2
  go_ret3
  exact ⟨v, 0, rfl, hO1.out, hT1.out, hG2.out⟩

theorem RTab.wipe {w : World} {B : Nat} {t : Tb} {h : Int} (H : RTab w B t h) : RTab (wiped w B) B { t with ks := fun _ => 0 } h := by
  have := ((((((((H.setKey 0 (by omega) 0).setKey 1 (by omega) 0).setKey 2 (by omega) 0).setKey 3 (by omega) 0).setKey 4 (by omega) 0).setKey 5 (by omega) 0).setKey 6 (by omega) 0).setKey 7 (by omega) 0)
  refine RTab.congr (t := _) this (fun j hj => ?_) rfl rfl rfl H.hold
  obtain rfl | rfl | rfl | rfl | rfl | rfl | rfl | rfl : j = 0 ∨ j = 1 ∨ j = 2 ∨ j = 3 ∨ j = 4 ∨ j = 5 ∨ j = 6 ∨ j = 7 := by omega
  all_goals simp [upd]
set_option maxRecDepth 100000 in
set_option maxHeartbeats 2000000 in
theorem rdo_clear (C : Nat) (t : Tb) (x : Int) (n : Nat) (o : Ou) (w : World) (h : RTab w C t x) (hg : t.good) (hn : n < 8) (hsv : o.sv = 3) (hk0 : t.ks n ≠ 0) (hky : o.ky = t.ks n)  :
    Calls Try.prog 16 #[.pointer (some ⟨C, 0, none⟩), .int .i64 n, .agg o.rvals] w fun e w' => RDone w w' C e (0, 0) (othersL n 10755 t.regs) t.clear := by
  have hn0 : ¬ ((n : Int) < 0) := by omega
  have hn7 : (n : Int) ≤ 7 := by omega
  have hn8 : (n : Int) < 8 := by omega
  have kn := h.key n hn
  have hlt := h.lt
  have hK := Kpt.mk h
  obtain ⟨sv, ty, ky, ac, ap⟩ := o
  simp only [Ou.rvals] at *
  have c8 := h.c8
  have c9 := h.c9
  have c10 := h.c10
  have hkd0 := hg.ok.kd0
  have fr := h.free
  have hgn := hg.gn0
  have HH := fun ob => Kpt.mk (rholds_any C t x n _ (h.alloc ob) hg.ok.fit)
  have HY := fun k W => Kpt.mk (risTy_any k W)
  subst hsv
  subst hky
  have hyb : ((t.ks n : Int) == 0) = false := by simp [hk0]
  have hne : C ≠ w.heap.size := by omega
  have HO := fun W (hW : RTab W C t x) => Kpt.mk (rothers_any C t x n 10755 W hW)
  have hS : Kpt (∀ W, RTab W C { t with ks := fun _ => 0, kd := 0, ho := t.ho, gn := (t.gn + 1) % 4294967296 } 0 → RTab W C t.clear 0) := ⟨fun W h => h⟩
  clear h hg
  generalize hy : t.ks n = y at *
  clear hy
  go_enter Try.func16, Try.ntmps16
  go_wp2_with fail
  refine (HO _ (hK.out.alloc _)).out.mono ?_
  rintro e w1 ⟨v, rfl, hO1, hB1⟩
  have hT1 := Kpt.mk ((hK.out.alloc _).below' hB1)
  have hG1 : Kpt (w.grownBy w1 (some C)) := ⟨grown_trans (grown_alloc _ _ _) (grown_below hB1)⟩
  have lt1 := hT1.out.lt
  have k0 := hT1.out.key 0 (by omega)
  have k1 := hT1.out.key 1 (by omega)
  have k2 := hT1.out.key 2 (by omega)
  have k3 := hT1.out.key 3 (by omega)
  have k4 := hT1.out.key 4 (by omega)
  have k5 := hT1.out.key 5 (by omega)
  have k6 := hT1.out.key 6 (by omega)
  have k7 := hT1.out.key 7 (by omega)
  have d8 := hT1.out.c8
  have d9 := hT1.out.c9
  have d10 := hT1.out.c10
  have df := hT1.out.free
  replace hO1 := Kpt.mk (hO1.lower (show w.heap.size ≤ _ by simp))
  have hCv : Kpt (∀ g, v.ownBlock = some g → g ≠ C) := ⟨fun g hg e => by have := (hO1.out.lt hg).1; omega⟩
  clear hB1 c8 c9 c10 fr kn HO HH HY
  have hF := Kpt.mk (hS.out _ ((hT1.out.wipe.setKH 0 0 t.ho (fun e => absurd rfl e)).setGn ((t.gn + 1) % 4294967296)))
  have hGF : Kpt (w1.grownBy ((((wiped w1 C).setCell ⟨C, 8, none⟩ (.int .i64 0)).setCell ⟨C, 9, none⟩ (.int .i64 0)).setCell ⟨C, 10, none⟩ (.int .u32 ((t.gn + 1) % 4294967296))) (some C)) := ⟨grown_trans (grown_wiped w1 C) (grown_trans (grown_setCell _ ⟨C, 8, none⟩ _) (grown_trans (grown_setCell _ ⟨C, 9, none⟩ _) (grown_setCell _ ⟨C, 10, none⟩ _)))⟩
  generalize t.gn = gn at *
  go_wp2
  go_ret3
  exact ⟨v, 0, rfl, hO1.out.of_block (fun g hg => hGF.out.block g (hO1.out.lt hg).2 (fun e => hCv.out g hg (by simpa using e))), hF.out, grown_trans hG1.out hGF.out⟩
end Go.Proofs.Ytikndkmpedoooaa
