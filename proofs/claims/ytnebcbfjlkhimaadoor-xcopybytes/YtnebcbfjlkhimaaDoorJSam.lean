/-
  Rows wherever they begin; of and same.
-/
import Derived.Test.YtnebcbfjlkhimaaDoorJPt
namespace Go.Proofs.YtnebcbfjlkhimaaDoor
open Go.RowKit
set_option linter.unusedVariables false
set_option linter.unusedSimpArgs false
/-- A slice of structs that can be read, wherever it begins. -/
structure Ro (k : Nat) (w : World) (v : Value) (zs : List (Array Value)) : Prop where
  wide : Wide k zs
  rd : ∃ a c, v = .slice a zs.length c ∧ zs.length ≤ c ∧ (0 < zs.length → ∃ g off, a = some ⟨g, off, none⟩ ∧ g < w.heap.size ∧ c ≤ maxLen ∧ ∀ j z, zs[j]? = some z → w.rangeAt g (off + j * k) z.toList)
theorem RdR.ro {k : Nat} {w : World} {v : Value} {zs : List (Array Value)} (h : RdR k w v zs) : Ro k w v zs := by
  obtain ⟨hw, a, c, rfl, hc, h⟩ := h
  refine ⟨hw, a, c, rfl, hc, fun h0 => ?_⟩
  obtain ⟨g, rfl, h2, h3, h4⟩ := h h0
  exact ⟨g, 0, rfl, h2, h3, fun j z hj => by rw [Nat.zero_add]; exact h4 j z hj⟩
theorem Ro.below {k m : Nat} {w w' : World} {v : Value} {zs : List (Array Value)} (h : Ro k w v zs) (hb : Below m w w') (hm : ∀ g, v.ownBlock = some g → g < m) : Ro k w' v zs := by
  obtain ⟨hw, a, c, rfl, hc, h⟩ := h
  refine ⟨hw, a, c, rfl, hc, fun h0 => ?_⟩
  obtain ⟨g, off, rfl, h2, h3, h4⟩ := h h0
  exact ⟨g, off, rfl, Nat.lt_of_lt_of_le h2 hb.size, h3, fun j z hj => rangeAt_block (h4 j z hj) (hb.block g (hm g rfl))⟩
theorem Ro.bel {k : Nat} {w w' : World} {v : Value} {zs : List (Array Value)} (h : Ro k w v zs) (hb : Below w.heap.size w w') : Ro k w' v zs := by
  obtain ⟨hw, a, c, rfl, hc, h⟩ := h
  refine ⟨hw, a, c, rfl, hc, fun h0 => ?_⟩
  obtain ⟨g, off, rfl, h2, h3, h4⟩ := h h0
  exact ⟨g, off, rfl, Nat.lt_of_lt_of_le h2 hb.size, h3, fun j z hj => rangeAt_block (h4 j z hj) (hb.block g h2)⟩
theorem Ro.len {k n : Nat} {w : World} {a : Option Addr} {c : Nat} {zs : List (Array Value)} (h : Ro k w (.slice a n c) zs) : n = zs.length ∧ n ≤ c := by
  obtain ⟨hw, a', c', hv, hc, h⟩ := h
  simp only [Value.slice.injEq] at hv
  obtain ⟨_, rfl, rfl⟩ := hv
  exact ⟨rfl, hc⟩
theorem Ro.at {k n : Nat} {w : World} {a : Option Addr} {c : Nat} {zs : List (Array Value)} (h : Ro k w (.slice a n c) zs) (h0 : 0 < n) : ∃ g off, a = some ⟨g, off, none⟩ ∧ g < w.heap.size ∧ c ≤ maxLen ∧ ∀ j z, zs[j]? = some z → w.rangeAt g (off + j * k) z.toList := by
  obtain ⟨hw, a', c', hv, hc, h⟩ := h
  simp only [Value.slice.injEq] at hv
  obtain ⟨rfl, rfl, rfl⟩ := hv
  exact h h0
/-- Serials as elements. -/
def sZ (S : ByteArray) : Array Value := #[.string S]
theorem uZ_s (l : List (List Int)) : l.map uZ = (l.map strOfNums).map sZ := by rw [List.map_map]; rfl
theorem sZ_wide (l : List ByteArray) : Wide 1 (l.map sZ) := fun z hz => by
  obtain ⟨S, _, rfl⟩ := List.mem_map.1 hz
  exact ⟨rfl, by simp [sZ, Value.oneCell']⟩
theorem g_wide (l : List Sg) : Wide 5 (l.map Sg.vals) := fun z hz => by
  obtain ⟨g, _, rfl⟩ := List.mem_map.1 hz
  exact ⟨rfl, Sg.vals_one g⟩
theorem resRL_run2 {w : World} {b : Nat} {u s : Value} (hB : Bx w b (lsV u s)) : (loadVar 36 ⟨b, 0, none⟩).run Tryd.prog w = .ok (.agg (lsV u s)) w := resRL_run hB
/-- A struct of five cells in a row. -/
theorem g_cells {w : World} {g o : Nat} {F T B S D : Int} (h : w.rangeAt g o (Sg.vals ⟨F, T, B, S, D⟩).toList) : w.cell? ⟨g, o, none⟩ = some (.int .i64 F) ∧ w.cell? ⟨g, o + 1, none⟩ = some (.int .i64 T) ∧ w.cell? ⟨g, o + 2, none⟩ = some (.int .i64 B) ∧ w.cell? ⟨g, o + 3, none⟩ = some (.int .u64 S) ∧ w.cell? ⟨g, o + 4, none⟩ = some (.int .u64 D) :=
  ⟨h 0 _ rfl, h 1 _ rfl, h 2 _ rfl, h 3 _ rfl, h 4 _ rfl⟩
set_option maxRecDepth 100000 in
set_option maxHeartbeats 4000000 in
theorem of_any (ua : Option Addr) (un uc : Nat) (sa : Option Addr) (sn sc : Nat) (ss : List Sg) (w : World) (hs : Ro 5 w (.slice sa sn sc) (ss.map Sg.vals)) (hl : sn ≤ 9000) :
    Calls Tryd.prog 12 #[.agg (lsV (.slice ua un uc) (.slice sa sn sc))] w fun e w' => ∃ v, e = .returned (.agg (lsV (.slice ua un uc) v)) ∧ OwnR 61 5 w' v (ss.map Sg.vals) ∧ (∀ g, v.ownBlock = some g → w.heap.size ≤ g) ∧ Below w.heap.size w w' := by
  obtain ⟨hsl, hsc⟩ := hs.len
  rw [List.length_map] at hsl
  have hsK := Kpt.mk hs
  have hslK := Kpt.mk hsl
  clear hs hsl
  go_enter Tryd.func12, Tryd.ntmps12
  have hb := Kpt.mk (Below.refl w.heap.size w)
  go_wp2_with (first
      | (have hm := m3; refine wpList_store_bx rfl 36 _ _ rfl bl _ (lsV (.slice ua un uc) (.slice none 0 0)) rfl rfl Ol.out rfl infoRL (lsV_one rfl rfl) rfl ?_; intro w4 hX_ hg_; replace Oa := Kpt.mk (Oa.out.grown hg_ (by simp; omega)); replace OL := Kpt.mk (OL.out.grown hg_ (by simp; omega)); replace hb := Kpt.mk (hb.out.trans (bel_own hg_ hb.out.size ll.out)); replace Ol := Kpt.mk hX_; replace ca0 := ls_c0 Oa.out; replace ca1 := ls_c1 Oa.out; clear hX_ hg_; clear hm m3; have m4 : Kpt True := ⟨trivial⟩)
      | (have hm := m2; refine wpList_var rfl 36 rfl zeroL zeroRLi ?_; intro bl w_l hl_ hX_ h_; have q_a_l : ba < bl := Nat.lt_of_lt_of_le Oa.out.lt hl_; have q_L_l : bL < bl := Nat.lt_of_lt_of_le OL.out.lt hl_; have ll := Kpt.mk (Nat.le_trans hb.out.size hl_); replace Oa := Kpt.mk (Oa.out.below h_ Oa.out.lt); replace OL := Kpt.mk (OL.out.below h_ OL.out.lt); replace hb := Kpt.mk (hb.out.trans (h_.mono hb.out.size)); replace ca0 := ls_c0 Oa.out; replace ca1 := ls_c1 Oa.out; have Ol := Kpt.mk hX_; clear hl_ hX_ h_; clear hm m2; have m3 : Kpt True := ⟨trivial⟩)
      | (have hm := m1; refine wpList_var rfl 36 rfl zeroL zeroRLi ?_; intro bL w_L hl_ hX_ h_; have q_a_L : ba < bL := Nat.lt_of_lt_of_le Oa.out.lt hl_; have lL := Kpt.mk (Nat.le_trans hb.out.size hl_); replace Oa := Kpt.mk (Oa.out.below h_ Oa.out.lt); replace hb := Kpt.mk (hb.out.trans (h_.mono hb.out.size)); replace ca0 := ls_c0 Oa.out; replace ca1 := ls_c1 Oa.out; have OL := Kpt.mk hX_; clear hl_ hX_ h_; clear hm m1; have m2 : Kpt True := ⟨trivial⟩)
      | (refine wpList_box rfl 27 _ rfl (lsV (.slice ua un uc) (.slice sa sn sc)) rfl ?_; intro ba w_a hl_ hX_ h_ _; have la := Kpt.mk (Nat.le_trans hb.out.size hl_); replace hb := Kpt.mk (hb.out.trans (h_.mono hb.out.size)); have Oa := Kpt.mk hX_; have ca0 := ls_c0 Oa.out; have ca1 := ls_c1 Oa.out; clear hl_ hX_ h_; have m1 : Kpt True := ⟨trivial⟩)
      | fail)
  have hP : Kpt (Pt 61 w w4 bl (.slice ua un uc) (.slice none 0 0) (.slice none 0 0) (.slice none 0 0) [] []) := ⟨⟨hb.out, ll.out, Ol.out, OwnR.nil _ _ _, OwnR.nil _ _ _, fun g e => (by cases e), fun g e => (by cases e), fun g e => (by cases e)⟩⟩
  clear hb Ol ca0 ca1
  go_loopw [4] (fun t4 wr => ∃ (k vn vc : Nat) (va : Option Addr) (gs : List (Array Value)), k ≤ sn ∧ t4 = .int .i64 k ∧ Kpt (gs = (ss.take k).map Sg.vals) ∧ gs.length = k ∧ Kpt (Pt 61 w wr bl (.slice ua un uc) (.slice va vn vc) (.slice none 0 0) (.slice va vn vc) [] gs) ∧ Kpt (Bx wr ba (lsV (.slice ua un uc) (.slice sa sn sc))) ∧ Kpt (Bx wr bL zeroL)) (fun t4 _ => sn - (intOf t4).toNat)
  case atStart => exact ⟨0, 0, 0, none, [], by omega, rfl, ⟨by simp⟩, rfl, hP, Oa, OL⟩
  case round =>
    clear hP Oa OL
    obtain ⟨k, vn, vc, va, gs, hk, rfl, hgs, hgl, hP, Oa, OL⟩ := hrel
    have cl0 := ls_c0 hP.out.bx
    have cl1 := ls_c1 hP.out.bx
    have ca1 := ls_c1 Oa.out
    by_cases hkn : k < sn
    · have hkI : (k : Int) < sn := by omega
      have hcI : (sn : Int) ≤ sc := by omega
      obtain ⟨g, off, rfl, hg, hcm, hr⟩ := hsK.out.at (by omega)
      have hkl : k < ss.length := by have := hslK.out; omega
      have hx := hr k (ss[k]).vals (by rw [List.getElem?_map, List.getElem?_eq_getElem hkl]; rfl)
      have hx2 : Kpt (wr.rangeAt g (off + k * 5) (ss[k]).vals.toList) := ⟨rangeAt_block hx (hP.out.bel.block g hg)⟩
      have hgs2 : Kpt (gs ++ [(ss[k]).vals] = (ss.take (k + 1)).map Sg.vals) := ⟨by rw [hgs.out, ← List.take_append_getElem hkl, List.map_append]; rfl⟩
      have hgl2 : Kpt ((gs ++ [(ss[k]).vals]).length = k + 1) := ⟨by rw [List.length_append, hgl]; rfl⟩
      generalize ss[k] = gk at hx2 hgs2 hgl2
      obtain ⟨gF, gT, gB, gS, gD⟩ := gk
      unfold maxLen at hcm
      clear hr hx hgs
      go_wp2_with (first
        | (have hm := m5; refine wpList_store_cell rfl rfl bl 1 (lsV (.slice ua un uc) (.slice va vn vc)) (.slice xa xn xc) rfl rfl rfl hP.out.bx (by simp [lsV]) oneRG rfl ?_; intro w6 hX_ hg_; replace OL := Kpt.mk (OL.out.grown hg_ (fun e => by injection e with e; omega)); replace Oa := Kpt.mk (Oa.out.grown hg_ (fun e => by injection e with e; omega)); replace hP := Kpt.mk (hP.out.st (d0 := (.slice ua un uc)) (d1 := (.slice xa xn xc)) hX_ hg_); replace cl0 := ls_c0 hP.out.bx; replace cl1 := ls_c1 hP.out.bx; clear hX_ hg_; clear hm m5; have m6 : Kpt True := ⟨trivial⟩)
        | (have hm := m4; refine wpList_append_row rfl 34 61 5 40 _ Tryd.underlying34 infoRGb rfl (by decide) (by decide) _ _ rfl (.slice va vn vc) (.slice (some ⟨bz, 0, none⟩) 1 1) gs [(Sg.vals ⟨gF, gT, gB, gS, gD⟩)] rfl rfl hP.out.sr (Oz.out.one ⟨rfl, Sg.vals_one _⟩) (by simp) (by simp only [List.length_singleton]; omega) ?_; intro v5 w5 ho_ hg_ hor_; obtain ⟨xa, xc, hv_, _⟩ := ho_.out.shape; obtain ⟨xn, hvn⟩ : ∃ n, n = (gs ++ [(Sg.vals ⟨gF, gT, gB, gS, gD⟩)]).length := ⟨_, rfl⟩; rw [← hvn] at hv_; subst hv_; clear hvn; replace OL := Kpt.mk (OL.out.grown hg_.out (fun e => by have := hP.out.ns _ e; omega)); replace Oa := Kpt.mk (Oa.out.grown hg_.out (fun e => by have := hP.out.ns _ e; omega)); replace ca1 := ls_c1 Oa.out; replace hP := Kpt.mk (hP.out.appS ho_.out hg_.out hor_.out); replace cl0 := ls_c0 hP.out.bx; replace cl1 := ls_c1 hP.out.bx; clear ho_ hg_ hor_ Oz; clear hm m4; have m5 : Kpt True := ⟨trivial⟩)
        | (have hm := m3; refine wpList_build1 rfl 34 61 5 40 _ Tryd.underlying34 infoRGb (by decide) (by decide) _ rfl (.agg (Sg.vals ⟨gF, gT, gB, gS, gD⟩)) (Sg.vals ⟨gF, gT, gB, gS, gD⟩) rfl rfl rfl ?_; intro bz w4 hz_ hX_ h_ _; replace hP := Kpt.mk (hP.out.below h_); replace cl0 := ls_c0 hP.out.bx; replace cl1 := ls_c1 hP.out.bx; replace OL := Kpt.mk (OL.out.below h_ OL.out.lt); replace Oa := Kpt.mk (Oa.out.below h_ Oa.out.lt); replace ca1 := ls_c1 Oa.out; have Oz := Kpt.mk hX_; clear hz_ hX_ h_; clear hm m3; have m4 : Kpt True := ⟨trivial⟩)
        | (have hm := m2; refine wpList_store_bx rfl 50 _ _ rfl bx zeroG (Sg.vals ⟨gF, gT, gB, gS, gD⟩) rfl rfl Ox.out rfl infoG (Sg.vals_one _) rfl ?_; intro w3 hX_ hg_; replace hB := Kpt.mk (hB.out.trans (bel_own hg_ hB.out.size lx.out)); replace Ox := Kpt.mk hX_; clear hX_ hg_; replace hP := Kpt.mk (hP.out.below hB.out); replace cl0 := ls_c0 hP.out.bx; replace cl1 := ls_c1 hP.out.bx; replace OL := Kpt.mk (OL.out.below hB.out OL.out.lt); replace Oa := Kpt.mk (Oa.out.below hB.out Oa.out.lt); replace ca1 := ls_c1 Oa.out; clear hB; clear hm m2; have m3 : Kpt True := ⟨trivial⟩; have cx0 := sg_c0 Ox.out; have cx1 := sg_c1 Ox.out; have cx2 := sg_c2 Ox.out; have cx3 := sg_c3 Ox.out; have cx4 := sg_c4 Ox.out)
        | (have hm := m1; refine wpList_var rfl 50 rfl zeroG zeroGi ?_; intro bx w2 hl_ hX_ h_; have lx := Kpt.mk hl_; have hB := Kpt.mk h_; have Ox := Kpt.mk hX_; clear hl_ hX_ h_; clear hm m1; have m2 : Kpt True := ⟨trivial⟩)
        | (refine (?_ : wpList _ _ _ (Oper.mk _ (Op.load 50 _) _ _ _ _ :: _) _ _); go_must (refine wpList_load_mid rfl 50 _ rfl g (off + k * 5) rfl (Sg.vals ⟨gF, gT, gB, gS, gD⟩).toList _ hx2.out Tryd.underlying50 rfl infoG ?_; have m1 : Kpt True := ⟨trivial⟩))
        | fail)
      go_roundw
      case rel => exact ⟨k + 1, xn, xc, xa, gs ++ [(Sg.vals ⟨gF, gT, gB, gS, gD⟩)], by omega, by go_num, hgs2, hgl2.out, hP, Oa, OL⟩
      case measure => simp [intOf]; omega
    · obtain rfl : k = sn := by omega
      have hkI : ¬ (k : Int) < k := by omega
      have hfin : Kpt (gs = ss.map Sg.vals) := ⟨by rw [hgs.out, List.take_of_length_le (by have := hslK.out; omega)]⟩
      clear hgs
      go_wp2_with (first
        | (refine wpList_store_bx rfl 36 _ _ rfl bL zeroL (lsV (.slice ua un uc) (.slice va vn vc)) rfl rfl OL.out rfl infoRL (lsV_one rfl rfl) rfl ?_; intro w1 hX_ hg_; replace hP := Kpt.mk (hP.out.oth hg_ lL.out (by omega)); replace OL := Kpt.mk hX_; clear hX_ hg_; have m1 : Kpt True := ⟨trivial⟩)
        | (refine wpList_load_bx rfl 36 _ rfl bl (lsV (.slice ua un uc) (.slice va vn vc)) rfl hP.out.bx _ Tryd.underlying36 rfl infoRL ?_)
        | fail)
      refine bodyPost_ret (v := .agg (lsV (.slice ua un uc) (.slice va vn vc))) (by simp [results, Tryd.results12, asAddr, Act.put, resRL_run OL.out]) rfl ⟨.slice va vn vc, rfl, hfin.out ▸ hP.out.sr, fun g e => Nat.le_trans hP.out.ll (Nat.le_of_lt (hP.out.ns g e)), hP.out.bel⟩
end Go.Proofs.YtnebcbfjlkhimaaDoor
