/-
  of, of long lists.
-/
import Derived.Test.YtnebcbfjlkhimaaDoorJSame
import Derived.Test.YtnebcbfjlkhimaaDoorJOpn
namespace Go.Proofs.YtnebcbfjlkhimaaDoor
open Go.RowKit
set_option linter.unusedVariables false
set_option linter.unusedSimpArgs false
theorem wp_append_rowB {w : World} {o : Oper} {a : Act} {K : Act → World → Prop} {Q : Exit → Act → World → Prop} (sl ty k by' : Nat) (Z : Value) (hu : Tryd.prog.underlying sl = some (.slice ty)) (hinf : (Tryd.prog.info? ty).map (fun i => (i.zero, i.size, i.bytes)) = some (some Z, k, by')) (hzl : Z.cells.size = k) (hk0 : 0 < k) (hby : 1 ≤ by')
    (d s : Operand) (ho : o.op = .call { callee := .builtin .append, args := #[d, s], argTypes := #[sl, sl] })
    (v sv : Value) (zs ds : List (Array Value)) (hd : a.eval d = v) (hs : a.eval s = sv) (hown : OwnR ty k w v zs) (hrd : RdR k w sv ds) (hds : 0 < ds.length) (hl : (zs.length + ds.length) * by' ≤ 140737488355328)
    (h : ∀ v' w', OwnR ty k w' v' (zs ++ ds) → w.grownBy w' v.ownBlock → (v'.ownBlock = v.ownBlock ∨ v'.ownBlock = some w.heap.size) → K (a.put o.dst v') w') : o.wp Tryd.prog a w K Q := by
  obtain ⟨i0, hi0, hz0, hz1, hz2⟩ := info_parts hinf
  obtain ⟨hw, sa, sc, rfl, hsc, hr⟩ := hrd
  obtain ⟨g, rfl, hg1, hg2, hg3⟩ := hr hds
  obtain ⟨v', w', hr, h2, h3, h4, h5⟩ := run_append_own_at (P := Tryd.prog) w 0 sl o.type ty i0 Z k by' hu hi0 hz0 hz1 hz2 hzl hk0 v zs.length (chs zs) hown.own ⟨g, 0, none⟩ ds.length sc (chs ds) (chs_length hw) (fun j u hu => by
    rw [Go.WideShapes.add_plain, Nat.zero_add]
    have hj : j < ds.length * k := by rw [← chs_length hw]; exact (List.getElem?_eq_some_iff.1 hu).1
    have hq : j / k < ds.length := Nat.div_lt_of_lt_mul (by rw [Nat.mul_comm]; exact hj)
    have hm : j % k < k := Nat.mod_lt _ hk0
    have he : j / k * k + j % k = j := by rw [Nat.mul_comm]; exact Nat.div_add_mod j k
    have hz := List.getElem?_eq_getElem hq
    have h1 := hg3 (j / k) _ hz
    have h2 := chs_at ds hw (j / k) (j % k) _ hz hm
    rw [he, hu] at h2
    have h3 := h1 (j % k) u (by rw [Array.getElem?_toList]; exact h2.symm)
    rw [he] at h3
    exact h3) (chs_oneC hw) (by have := Nat.le_mul_of_pos_right (zs.length + ds.length) hby; unfold maxLen; omega) hl (Nat.zero_le _)
  unfold Oper.wp execOp
  simp only [ho, resolve, invoke, builtin, Sem.run_bind, Sem.run_pure, Result.andThen_ok, List.map_toArray, List.map_cons, List.map_nil, hd, hs, hr]
  exact h v' w' ⟨by rw [chs_append, List.length_append]; exact h2, hown.wide.append hw⟩ h3 h5
theorem wpList_append_rowB {w : World} {ops : Array Oper} {rest : List Oper} {o : Oper} {a : Act} {Q : Exit → Act → World → Prop} (hgd : o.guard = none) (sl ty k by' : Nat) (Z : Value) (hu : Tryd.prog.underlying sl = some (.slice ty)) (hinf : (Tryd.prog.info? ty).map (fun i => (i.zero, i.size, i.bytes)) = some (some Z, k, by')) (hzl : Z.cells.size = k) (hk0 : 0 < k) (hby : 1 ≤ by')
    (d s : Operand) (ho : o.op = .call { callee := .builtin .append, args := #[d, s], argTypes := #[sl, sl] })
    (v sv : Value) (zs ds : List (Array Value)) (hd : a.eval d = v) (hs : a.eval s = sv) (hown : OwnR ty k w v zs) (hrd : RdR k w sv ds) (hds : 0 < ds.length) (hl : (zs.length + ds.length) * by' ≤ 140737488355328)
    (h : ∀ v' w', Kpt (OwnR ty k w' v' (zs ++ ds)) → Kpt (w.grownBy w' v.ownBlock) → Kpt (v'.ownBlock = v.ownBlock ∨ v'.ownBlock = some w.heap.size) → wpList Tryd.prog ops Q rest (a.put o.dst v') w') : wpList Tryd.prog ops Q (o :: rest) a w :=
  wpList_plain hgd fun K hK => wp_append_rowB sl ty k by' Z hu hinf hzl hk0 hby d s ho v sv zs ds hd hs hown hrd hds hl (fun v' w' h1 h2 h3 => hK _ _ (h v' w' ⟨h1⟩ ⟨h2⟩ ⟨h3⟩))
set_option maxRecDepth 100000 in
set_option maxHeartbeats 4000000 in
theorem of_big (ua : Option Addr) (un uc : Nat) (sa : Option Addr) (sn sc : Nat) (ss : List Sg) (w : World) (hs : Ro 5 w (.slice sa sn sc) (ss.map Sg.vals)) (hl : sn * 40 ≤ 140737488351232) :
    Calls Tryd.prog 12 #[.agg (lsV (.slice ua un uc) (.slice sa sn sc))] w fun e w' => ∃ v, e = .returned (.agg (lsV (.slice ua un uc) v)) ∧ OwnR 61 5 w' v (ss.map Sg.vals) ∧ (∀ g, v.ownBlock = some g → w.heap.size ≤ g) ∧ Below w.heap.size w w' := by
  obtain ⟨hsl, hsc⟩ := hs.len
  rw [List.length_map] at hsl
  have hsK := Kpt.mk hs
  have hslK := Kpt.mk hsl
  clear hs hsl
  go_enter Tryd.func12, Tryd.ntmps12
  have hb := Kpt.mk (Below.refl w.heap.size w)
  go_wp2_with (first
      | (have hm := m3; refine wpList_store_bx rfl 36 _ _ rfl bl _ (lsV (.slice ua un uc) (.slice none 0 0)) rfl rfl Ol.out rfl infoRL (lsV_one rfl rfl) rfl ?_; intro w4 hX_ hg_; replace Oa := Kpt.mk (Oa.out.grown hg_ (by simp; omega)); replace OL := Kpt.mk (OL.out.grown hg_ (by simp; omega)); replace hb := Kpt.mk (hb.out.trans (bel_own hg_ hb.out.size ll.out)); replace Ol := Kpt.mk hX_; replace ca0 := ls_c0 Oa.out; replace ca1 := ls_c1 Oa.out; clear hX_ hg_; clear hm m3; have m4 : Kpt True := ⟨trivial⟩)
      | (have hm := m2; refine wpList_var rfl 36 rfl zeroL zeroRLi ?_; intro bl w_l hl_ hX_ h_; have q_a_l : ba < bl := Nat.lt_of_lt_of_le Oa.out.lt hl_; have q_L_l : bL < bl := Nat.lt_of_lt_of_le OL.out.lt hl_; have ll := Kpt.mk (Nat.le_trans hb.out.size hl_); replace Oa := Kpt.mk (Oa.out.below h_ Oa.out.lt); replace OL := Kpt.mk (OL.out.below h_ OL.out.lt); replace hb := Kpt.mk (hb.out.trans (h_.mono hb.out.size)); replace ca0 := ls_c0 Oa.out; replace ca1 := ls_c1 Oa.out; have Ol := Kpt.mk hX_; clear hl_ hX_ h_; clear hm m2; have m3 : Kpt True := ⟨trivial⟩)
      | (have hm := m1; refine wpList_var rfl 36 rfl zeroL zeroRLi ?_; intro bL w_L hl_ hX_ h_; have q_a_L : ba < bL := Nat.lt_of_lt_of_le Oa.out.lt hl_; have lL := Kpt.mk (Nat.le_trans hb.out.size hl_); replace Oa := Kpt.mk (Oa.out.below h_ Oa.out.lt); replace hb := Kpt.mk (hb.out.trans (h_.mono hb.out.size)); replace ca0 := ls_c0 Oa.out; replace ca1 := ls_c1 Oa.out; have OL := Kpt.mk hX_; clear hl_ hX_ h_; clear hm m1; have m2 : Kpt True := ⟨trivial⟩)
      | (refine wpList_box rfl 27 _ rfl (lsV (.slice ua un uc) (.slice sa sn sc)) rfl ?_; intro ba w_a hl_ hX_ h_ _; have la := Kpt.mk (Nat.le_trans hb.out.size hl_); replace hb := Kpt.mk (hb.out.trans (h_.mono hb.out.size)); have Oa := Kpt.mk hX_; have ca0 := ls_c0 Oa.out; have ca1 := ls_c1 Oa.out; clear hl_ hX_ h_; have m1 : Kpt True := ⟨trivial⟩)
      | fail)
  have hP : Kpt (Pt 61 w w4 bl (.slice ua un uc) (.slice none 0 0) (.slice none 0 0) (.slice none 0 0) [] []) := ⟨⟨hb.out, ll.out, Ol.out, OwnR.nil _ _ _, OwnR.nil _ _ _, fun g e => (by cases e), fun g e => (by cases e), fun g e => (by cases e)⟩⟩
  clear hb Ol ca0 ca1
  go_loopw [4] (fun t4 wr => ∃ (k vn vc : Nat) (va : Option Addr) (gs : List (Array Value)), k ≤ sn ∧ t4 = .int .i64 k ∧ Kpt (gs = (ss.take k).map Sg.vals) ∧ gs.length = k ∧ Kpt (Pt 61 w wr bl (.slice ua un uc) (.slice va vn vc) (.slice none 0 0) (.slice va vn vc) [] gs) ∧ Kpt (Bx wr ba (lsV (.slice ua un uc) (.slice sa sn sc))) ∧ Kpt (Bx wr bL zeroL)) (fun t4 _ => sn - (intOf t4).toNat)
  case atStart => exact ⟨0, 0, 0, none, [], by omega, rfl, ⟨by simp⟩, rfl, hP, Oa, OL⟩
  case round =>
    clear hP Oa OL
    obtain ⟨k, vn, vc, va, gs, hk, rfl, hgs, hgl, hP, Oa, OL⟩ := hrel
    have cl0 := ls_c0 hP.out.bx
    have cl1 := ls_c1 hP.out.bx
    have ca1 := ls_c1 Oa.out
    by_cases hkn : k < sn
    · have hkI : (k : Int) < sn := by omega
      have hcI : (sn : Int) ≤ sc := by omega
      obtain ⟨g, off, rfl, hg, hcm, hr⟩ := hsK.out.at (by omega)
      have hkl : k < ss.length := by have := hslK.out; omega
      have hx := hr k (ss[k]).vals (by rw [List.getElem?_map, List.getElem?_eq_getElem hkl]; rfl)
      have hx2 : Kpt (wr.rangeAt g (off + k * 5) (ss[k]).vals.toList) := ⟨rangeAt_block hx (hP.out.bel.block g hg)⟩
      have hgs2 : Kpt (gs ++ [(ss[k]).vals] = (ss.take (k + 1)).map Sg.vals) := ⟨by rw [hgs.out, ← List.take_append_getElem hkl, List.map_append]; rfl⟩
      have hgl2 : Kpt ((gs ++ [(ss[k]).vals]).length = k + 1) := ⟨by rw [List.length_append, hgl]; rfl⟩
      generalize ss[k] = gk at hx2 hgs2 hgl2
      obtain ⟨gF, gT, gB, gS, gD⟩ := gk
      unfold maxLen at hcm
      clear hr hx hgs
      go_wp2_with (first
        | (have hm := m5; refine wpList_store_cell rfl rfl bl 1 (lsV (.slice ua un uc) (.slice va vn vc)) (.slice xa xn xc) rfl rfl rfl hP.out.bx (by simp [lsV]) oneRG rfl ?_; intro w6 hX_ hg_; replace OL := Kpt.mk (OL.out.grown hg_ (fun e => by injection e with e; omega)); replace Oa := Kpt.mk (Oa.out.grown hg_ (fun e => by injection e with e; omega)); replace hP := Kpt.mk (hP.out.st (d0 := (.slice ua un uc)) (d1 := (.slice xa xn xc)) hX_ hg_); replace cl0 := ls_c0 hP.out.bx; replace cl1 := ls_c1 hP.out.bx; clear hX_ hg_; clear hm m5; have m6 : Kpt True := ⟨trivial⟩)
        | (have hm := m4; refine wpList_append_rowB rfl 34 61 5 40 _ Tryd.underlying34 infoRGb rfl (by decide) (by decide) _ _ rfl (.slice va vn vc) (.slice (some ⟨bz, 0, none⟩) 1 1) gs [(Sg.vals ⟨gF, gT, gB, gS, gD⟩)] rfl rfl hP.out.sr (Oz.out.one ⟨rfl, Sg.vals_one _⟩) (by simp) (by simp only [List.length_singleton]; omega) ?_; intro v5 w5 ho_ hg_ hor_; obtain ⟨xa, xc, hv_, _⟩ := ho_.out.shape; obtain ⟨xn, hvn⟩ : ∃ n, n = (gs ++ [(Sg.vals ⟨gF, gT, gB, gS, gD⟩)]).length := ⟨_, rfl⟩; rw [← hvn] at hv_; subst hv_; clear hvn; replace OL := Kpt.mk (OL.out.grown hg_.out (fun e => by have := hP.out.ns _ e; omega)); replace Oa := Kpt.mk (Oa.out.grown hg_.out (fun e => by have := hP.out.ns _ e; omega)); replace ca1 := ls_c1 Oa.out; replace hP := Kpt.mk (hP.out.appS ho_.out hg_.out hor_.out); replace cl0 := ls_c0 hP.out.bx; replace cl1 := ls_c1 hP.out.bx; clear ho_ hg_ hor_ Oz; clear hm m4; have m5 : Kpt True := ⟨trivial⟩)
        | (have hm := m3; refine wpList_build1 rfl 34 61 5 40 _ Tryd.underlying34 infoRGb (by decide) (by decide) _ rfl (.agg (Sg.vals ⟨gF, gT, gB, gS, gD⟩)) (Sg.vals ⟨gF, gT, gB, gS, gD⟩) rfl rfl rfl ?_; intro bz w4 hz_ hX_ h_ _; replace hP := Kpt.mk (hP.out.below h_); replace cl0 := ls_c0 hP.out.bx; replace cl1 := ls_c1 hP.out.bx; replace OL := Kpt.mk (OL.out.below h_ OL.out.lt); replace Oa := Kpt.mk (Oa.out.below h_ Oa.out.lt); replace ca1 := ls_c1 Oa.out; have Oz := Kpt.mk hX_; clear hz_ hX_ h_; clear hm m3; have m4 : Kpt True := ⟨trivial⟩)
        | (have hm := m2; refine wpList_store_bx rfl 50 _ _ rfl bx zeroG (Sg.vals ⟨gF, gT, gB, gS, gD⟩) rfl rfl Ox.out rfl infoG (Sg.vals_one _) rfl ?_; intro w3 hX_ hg_; replace hB := Kpt.mk (hB.out.trans (bel_own hg_ hB.out.size lx.out)); replace Ox := Kpt.mk hX_; clear hX_ hg_; replace hP := Kpt.mk (hP.out.below hB.out); replace cl0 := ls_c0 hP.out.bx; replace cl1 := ls_c1 hP.out.bx; replace OL := Kpt.mk (OL.out.below hB.out OL.out.lt); replace Oa := Kpt.mk (Oa.out.below hB.out Oa.out.lt); replace ca1 := ls_c1 Oa.out; clear hB; clear hm m2; have m3 : Kpt True := ⟨trivial⟩; have cx0 := sg_c0 Ox.out; have cx1 := sg_c1 Ox.out; have cx2 := sg_c2 Ox.out; have cx3 := sg_c3 Ox.out; have cx4 := sg_c4 Ox.out)
        | (have hm := m1; refine wpList_var rfl 50 rfl zeroG zeroGi ?_; intro bx w2 hl_ hX_ h_; have lx := Kpt.mk hl_; have hB := Kpt.mk h_; have Ox := Kpt.mk hX_; clear hl_ hX_ h_; clear hm m1; have m2 : Kpt True := ⟨trivial⟩)
        | (refine (?_ : wpList _ _ _ (Oper.mk _ (Op.load 50 _) _ _ _ _ :: _) _ _); go_must (refine wpList_load_mid rfl 50 _ rfl g (off + k * 5) rfl (Sg.vals ⟨gF, gT, gB, gS, gD⟩).toList _ hx2.out Tryd.underlying50 rfl infoG ?_; have m1 : Kpt True := ⟨trivial⟩))
        | fail)
      go_roundw
      case rel => exact ⟨k + 1, xn, xc, xa, gs ++ [(Sg.vals ⟨gF, gT, gB, gS, gD⟩)], by omega, by go_num, hgs2, hgl2.out, hP, Oa, OL⟩
      case measure => simp [intOf]; omega
    · obtain rfl : k = sn := by omega
      have hkI : ¬ (k : Int) < k := by omega
      have hfin : Kpt (gs = ss.map Sg.vals) := ⟨by rw [hgs.out, List.take_of_length_le (by have := hslK.out; omega)]⟩
      clear hgs
      go_wp2_with (first
        | (refine wpList_store_bx rfl 36 _ _ rfl bL zeroL (lsV (.slice ua un uc) (.slice va vn vc)) rfl rfl OL.out rfl infoRL (lsV_one rfl rfl) rfl ?_; intro w1 hX_ hg_; replace hP := Kpt.mk (hP.out.oth hg_ lL.out (by omega)); replace OL := Kpt.mk hX_; clear hX_ hg_; have m1 : Kpt True := ⟨trivial⟩)
        | (refine wpList_load_bx rfl 36 _ rfl bl (lsV (.slice ua un uc) (.slice va vn vc)) rfl hP.out.bx _ Tryd.underlying36 rfl infoRL ?_)
        | fail)
      refine bodyPost_ret (v := .agg (lsV (.slice ua un uc) (.slice va vn vc))) (by simp [results, Tryd.results12, asAddr, Act.put, resRL_run OL.out]) rfl ⟨.slice va vn vc, rfl, hfin.out ▸ hP.out.sr, fun g e => Nat.le_trans hP.out.ll (Nat.le_of_lt (hP.out.ns g e)), hP.out.bel⟩
theorem list_sized {H : Type} {ts : List TypeId} {ds : List (DataW H)} (hsz : (DataW.weightsEach Tryd.prog ts ds).all (· ≤ reachBytes) = true) {j : Nat} {d0 d1 : DataW H} (ht : ts[j]? = some 27) (hd : ds[j]? = some (.agg [d0, d1])) {sn : Nat}
    (h : sn = 0 ∨ ∃ el s, d1 = .slice el s ∧ sn ≤ el.length + s.length) : sn * 40 ≤ 140737488351232 := by
  rcases h with rfl | ⟨el, s, rfl, hle⟩
  · omega
  · have hm := DataW.weights_mem_each (P := Tryd.prog) ht hd ((el.length + s.length) * Tryd.prog.bytesOf 50) (by
      have e1 : ∀ d1 : DataW H, (DataW.agg [d0, d1]).weights Tryd.prog 27 = d0.weights Tryd.prog 24 ++ (d1.weights Tryd.prog 25 ++ []) := fun d1 => by
        rw [DataW.weights, Tryd.underlying27]
        rfl
      have e2 : (DataW.slice el s).weights Tryd.prog 25 = (el.length + s.length) * Tryd.prog.bytesOf 50 :: (DataW.weightsAll Tryd.prog 50 el ++ DataW.weightsAll Tryd.prog 50 s) := by
        rw [DataW.weights, Tryd.underlying25]
      rw [e1, e2]
      simp)
    have hb : Tryd.prog.bytesOf 50 = 40 := by kernel_rfl
    rw [hb] at hm
    have h1 := List.all_eq_true.1 hsz _ hm
    have h2 : (el.length + s.length) * 40 ≤ reachBytes := by simpa using h1
    have h3 : reachBytes = 140737488351232 := rfl
    omega
end Go.Proofs.YtnebcbfjlkhimaaDoor
