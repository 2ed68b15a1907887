/-
  The document's preempt and Do, whatever is asked.
-/
import Derived.Test.YtikndkmpedoooaaPX8
import Derived.Test.YtikndkmpedoooaaPX9
import Derived.Test.YtikndkmpedoooaaPX10
import Derived.Test.YtikndkmpedoooaaPAct
namespace Go.Proofs.Ytikndkmpedoooaa
open Go.RowKit
set_option linter.unusedVariables false
set_option linter.unusedSimpArgs false

theorem rpre_any (C : Nat) (t : Tb) (x : Int) (n : Nat) (o : Ou) (w : World) (h : RTab w C t x) (hg : t.good) (hn : n < 8) :
    Calls Try.prog 47 #[.pointer (some ⟨C, 0, none⟩), .int .i64 n, .agg o.rvals] w fun e w' => RDone w w' C e (t.preemptR o) (t.preemptE n o) (t.preempt n o) := by
  cases htk : t.taken o.ac with
  | false =>
    by_cases hac : o.ac = 0
    · exact rpre_par C t x n o w h hg hn hac htk
    · cases hha : t.has o.ac with
      | false => exact rpre_conf C t x n o w h hg hn hac htk hha
      | true => exact rpre_rm C t x n o w h hg hn hac htk hha
  | true =>
    cases hty : isTy o.ty with
    | false => exact rpre_field C t x n o w h hg hn htk hty
    | true =>
      have hha : o.ac = 0 ∨ t.has o.ac = true := by
        rcases tk_of htk with ⟨_, _, e⟩ | ⟨h0, h1, e⟩
        · exact .inl e
        · obtain ⟨a, b, c⟩ := hg.one h0 h1
          exact .inr ((has_iff t o.ac).2 ⟨t.ho.toNat, by omega, e⟩)
      by_cases h5 : 5 ≤ t.kd
      · by_cases hne : t.kd = o.ty
        · exact rpre_doneS C t x n o w h hg hn htk hty hha h5 hne
        · exact rpre_done C t x n o w h hg hn htk hty hha h5 hne
      · exact rpre_doneN C t x n o w h hg hn htk hty hha h5

set_option maxRecDepth 100000 in
set_option maxHeartbeats 2000000 in
theorem rdo_pre (C : Nat) (t : Tb) (x : Int) (n : Nat) (o : Ou) (w : World) (h : RTab w C t x) (hg : t.good) (hn : n < 8) (hsv : o.sv = 4 ∨ o.sv = 5) (hk0 : t.ks n ≠ 0) (hky : o.ky = t.ks n) :
    Calls Try.prog 16 #[.pointer (some ⟨C, 0, none⟩), .int .i64 n, .agg o.rvals] w fun e w' => RDone w w' C e (t.preemptR o) (t.preemptE n o) (t.preempt n o) := by
  have HP : Kpt (∀ W, RTab W C t x → Calls Try.prog 47 #[.pointer (some ⟨C, 0, none⟩), .int .i64 n, .agg o.rvals] W fun e w' => RDone W w' C e (t.preemptR o) (t.preemptE n o) (t.preempt n o)) := ⟨fun W hW => rpre_any C t x n o W hW hg hn⟩
  generalize t.preemptR o = RR at *
  generalize t.preemptE n o = EE at *
  generalize t.preempt n o = TT at *
  have hn0 : ¬ ((n : Int) < 0) := by omega
  have hn7 : (n : Int) ≤ 7 := by omega
  have hn8 : (n : Int) < 8 := by omega
  have kn := h.key n hn
  have hlt := h.lt
  have hK := Kpt.mk h
  obtain ⟨sv, ty, ky, ac, ap⟩ := o
  simp only [Ou.rvals] at *
  subst hky
  have hyb : ((t.ks n : Int) == 0) = false := by simp [hk0]
  clear h hg
  generalize t.ks n = y at *
  rcases hsv with rfl | rfl
  all_goals
    go_enter Try.func16, Try.ntmps16
    go_wp2_with fail
    refine (HP.out _ (hK.out.alloc _)).mono ?_
    rintro e w1 ⟨v, z, rfl, hO, hT, hG⟩
    have hO1 := Kpt.mk (hO.lower (base' := w.heap.size) (by simp))
    have hT1 := Kpt.mk hT
    have hG1 : Kpt (w.grownBy w1 (some C)) := ⟨grown_trans (grown_alloc _ _ _) hG⟩
    clear hO hT hG
    go_wp2
    go_ret3
    exact ⟨v, z, rfl, hO1.out, hT1.out, hG1.out⟩

theorem rdo_any (C : Nat) (t : Tb) (x n : Int) (o : Ou) (w : World) (h : RTab w C t x) (hg : t.good) (ho : o.wf) :
    Calls Try.prog 16 #[.pointer (some ⟨C, 0, none⟩), .int .i64 n, .agg o.rvals] w fun e w' => RDone w w' C e (t.doR n o) (t.doE n o) (t.doT n o) := by
  by_cases hlo : n < 0
  · have hb : t.bad n o = true := by unfold Tb.bad; simp only [decide_eq_true_eq]; exact .inl (by omega)
    rw [show t.doR n o = (2, 9216) from by unfold Tb.doR; rw [if_pos hb], show t.doE n o = [] from by unfold Tb.doE; rw [if_pos hb], show t.doT n o = t from by unfold Tb.doT; rw [if_pos hb]]
    exact rdo_lo C t x n o w h hg hlo
  by_cases hhi : 7 < n
  · have hb : t.bad n o = true := by unfold Tb.bad; simp only [decide_eq_true_eq]; exact .inl (by omega)
    rw [show t.doR n o = (2, 9216) from by unfold Tb.doR; rw [if_pos hb], show t.doE n o = [] from by unfold Tb.doE; rw [if_pos hb], show t.doT n o = t from by unfold Tb.doT; rw [if_pos hb]]
    exact rdo_hi C t x n o w h hg hhi
  obtain ⟨m, rfl⟩ : ∃ m : Nat, n = m := ⟨n.toNat, by omega⟩
  have hm : m < 8 := by omega
  by_cases hs : 6 < o.sv
  · have hb : t.bad m o = true := by unfold Tb.bad; simp only [decide_eq_true_eq]; exact .inr hs
    rw [show t.doR m o = (2, 9216) from by unfold Tb.doR; rw [if_pos hb], show t.doE m o = [] from by unfold Tb.doE; rw [if_pos hb], show t.doT m o = t from by unfold Tb.doT; rw [if_pos hb]]
    exact rdo_sv C t x m o w h hg hm hs
  have hb : ¬ t.bad m o = true := by unfold Tb.bad; simp only [decide_eq_true_eq]; omega
  have hsv := ho.sv
  have hR : t.doR m o = if t.allows m o = false then (24, 0) else if o.sv = 1 then t.reserveR m o.ty else if o.sv = 2 then t.releaseR m o.ty else if o.sv = 3 then (0, 0) else if o.sv = 4 ∨ o.sv = 5 then t.preemptR o else (0, 0) := by unfold Tb.doR; rw [if_neg hb, Int.toNat_natCast]
  have hE : t.doE m o = if t.allows m o = false then [] else if o.sv = 1 then [] else if o.sv = 2 then t.releaseE m o.ty else if o.sv = 3 then othersL m 10755 t.regs else if o.sv = 4 ∨ o.sv = 5 then t.preemptE m o else t.registerE m o := by unfold Tb.doE; rw [if_neg hb, Int.toNat_natCast]
  have hT : t.doT m o = if t.allows m o = false then t else if o.sv = 1 then t.reserve m o.ty else if o.sv = 2 then t.release m o.ty else if o.sv = 3 then t.clear else if o.sv = 4 ∨ o.sv = 5 then t.preempt m o else t.register m o := by unfold Tb.doT; rw [if_neg hb, Int.toNat_natCast]
  have hA : t.allows m o = if o.sv = 6 then true else if o.sv = 0 then decide (o.ky = t.ks m) else decide (t.ks m ≠ 0 ∧ o.ky = t.ks m) := rfl
  rw [hR, hE, hT]
  have reg : (hq : (o.sv = 0 ∧ o.ky = t.ks m) ∨ o.sv = 6) → Calls Try.prog 16 #[.pointer (some ⟨C, 0, none⟩), .int .i64 m, .agg o.rvals] w fun e w' => RDone w w' C e (0, 0) (t.registerE m o) (t.register m o) := fun hq => by
    by_cases hac : o.ac = 0
    · by_cases h0 : t.ks m = 0
      · rcases hq with ⟨e1, e2⟩ | e1
        · exact rdo_nil0 C t x m o w h hg hm e1 e2 hac h0
        · exact rdo_nil6 C t x m o w h hg hm e1 hac h0
      · by_cases hk0 : t.kd = 0
        · exact rgone_a C t x m o w h hg hm hq hac h0 hk0
        · cases hal : isAll t.kd with
          | true =>
            cases hvd : (t.cut m).void with
            | true => exact rgone_bv C t x m o w h hg hm hq hac h0 hal hvd
            | false => exact rgone_b C t x m o w h hg hm hq hac h0 hal hvd
          | false =>
            by_cases how : t.ho = (m : Int)
            · exact rgone_co C t x m o w h hg hm hq hac h0 hk0 hal how
            · exact rgone_c C t x m o w h hg hm hq hac h0 hk0 hal how
    · rcases hq with ⟨e1, e2⟩ | e1
      · exact rdo_put0 C t x m o w h hg hm e1 e2 hac
      · exact rdo_put6 C t x m o w h hg hm e1 hac
  by_cases h6 : o.sv = 6
  · have : t.allows m o = true := by rw [hA, if_pos h6]
    rw [this]
    simp only [h6, Bool.true_eq_false, if_false]
    simpa using reg (.inr h6)
  by_cases h0 : o.sv = 0
  · by_cases hk : o.ky = t.ks m
    · have : t.allows m o = true := by rw [hA, if_neg h6, if_pos h0]; simp [hk]
      rw [this]
      simp only [h0, Bool.true_eq_false, if_false]
      simpa using reg (.inl ⟨h0, hk⟩)
    · have : t.allows m o = false := by rw [hA, if_neg h6, if_pos h0]; simp [hk]
      rw [this]
      exact rdo_conf0 C t x m o w h hg hm h0 hk
  by_cases hk0 : t.ks m = 0
  · have : t.allows m o = false := by rw [hA, if_neg h6, if_neg h0]; simp [hk0]
    rw [this]
    exact rdo_conf1 C t x m o w h hg hm hs h0 h6 hk0
  by_cases hk : o.ky = t.ks m
  · have hal : ¬ t.allows m o = false := by rw [hA, if_neg h6, if_neg h0]; simp [hk0, hk]
    rw [if_neg hal, if_neg hal, if_neg hal]
    by_cases h1 : o.sv = 1
    · rw [if_pos h1, if_pos h1, if_pos h1]
      cases hty : isTy o.ty with
      | false => exact rdo_res_ty C t x m o w h hg hm h1 hk0 hk hty
      | true =>
        by_cases hkd : t.kd = 0
        · exact rdo_res_new C t x m o w h hg hm h1 hk0 hk hty hkd
        · cases hhd : t.holds m with
          | false => exact rdo_res_not C t x m o w h hg hm h1 hk0 hk hty hkd hhd
          | true =>
            by_cases he : t.kd = o.ty
            · exact rdo_res_own C t x m o w h hg hm h1 hk0 hk hty hkd hhd he
            · exact rdo_res_kind C t x m o w h hg hm h1 hk0 hk hty hkd hhd he
    rw [if_neg h1, if_neg h1, if_neg h1]
    by_cases h2 : o.sv = 2
    · rw [if_pos h2, if_pos h2, if_pos h2]
      cases hhd : t.holds m with
      | false => exact rdo_rel_not C t x m o w h hg hm h2 hk0 hk hhd
      | true =>
        by_cases he : t.kd = o.ty
        · exact rdo_rel_own C t x m o w h hg hm h2 hk0 hk hhd he
        · exact rdo_rel_kind C t x m o w h hg hm h2 hk0 hk hhd he
    rw [if_neg h2, if_neg h2, if_neg h2]
    by_cases h3 : o.sv = 3
    · rw [if_pos h3, if_pos h3, if_pos h3]
      exact rdo_clear C t x m o w h hg hm h3 hk0 hk
    rw [if_neg h3, if_neg h3, if_neg h3]
    have h45 : o.sv = 4 ∨ o.sv = 5 := by omega
    rw [if_pos h45, if_pos h45, if_pos h45]
    exact rdo_pre C t x m o w h hg hm h45 hk0 hk
  · have : t.allows m o = false := by rw [hA, if_neg h6, if_neg h0]; simp [hk]
    rw [this]
    exact rdo_conf2 C t x m o w h hg hm hs h0 h6 hk0 hk
end Go.Proofs.Ytikndkmpedoooaa
