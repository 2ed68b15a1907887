/-
  Parse.
-/
import Derived.Test.YtnebcbfjlkhimaaDoorJPt
namespace Go.Proofs.YtnebcbfjlkhimaaDoor
open Go.RowKit
set_option linter.unusedVariables false
set_option linter.unusedSimpArgs false
theorem par_empty (a : Option Addr) (cap : Nat) (w : World) :
    Calls Tryd.prog 7 #[.slice a 0 cap] w fun e w' => e = .returned (.tuple #[.agg zeroL, .agg noS.vals, .bool true]) ∧ Below w.heap.size w w' := by
  have hb := Kpt.mk (Below.refl w.heap.size w)
  go_enter Tryd.func7, Tryd.ntmps7
  go_wp2_with (first
      | (have hm := m3; refine wpList_store_bx rfl 31 _ _ rfl bS _ noS.vals rfl rfl OS.out rfl infoS (Sn.vals_one noS) rfl ?_; intro w4 hX_ hg_; replace OL := Kpt.mk (OL.out.grown hg_ (by simp; omega)); replace hb := Kpt.mk (hb.out.trans (bel_own hg_ hb.out.size lS.out)); replace OS := Kpt.mk hX_; clear hX_ hg_; clear hm m3; have m4 : Kpt True := ⟨trivial⟩)
      | (have hm := m2; refine wpList_store_bx rfl 27 _ _ rfl bL _ zeroL rfl rfl OL.out rfl infoL zeroL_one rfl ?_; intro w3 hX_ hg_; replace OS := Kpt.mk (OS.out.grown hg_ (by simp; omega)); replace hb := Kpt.mk (hb.out.trans (bel_own hg_ hb.out.size lL.out)); replace OL := Kpt.mk hX_; clear hX_ hg_; clear hm m2; have m3 : Kpt True := ⟨trivial⟩)
      | (have hm := m1; refine wpList_var rfl 31 rfl zeroS zeroSi ?_; intro bS w_S hl_ hX_ h_; have q_L_S : bL < bS := Nat.lt_of_lt_of_le OL.out.lt hl_; have lS := Kpt.mk (Nat.le_trans hb.out.size hl_); replace OL := Kpt.mk (OL.out.below h_ OL.out.lt); replace hb := Kpt.mk (hb.out.trans (h_.mono hb.out.size)); have OS := Kpt.mk hX_; clear hl_ hX_ h_; clear hm m1; have m2 : Kpt True := ⟨trivial⟩)
      | (refine wpList_var rfl 27 rfl zeroL zeroLi ?_; intro bL w_L hl_ hX_ h_; have lL := Kpt.mk (Nat.le_trans hb.out.size hl_); replace hb := Kpt.mk (hb.out.trans (h_.mono hb.out.size)); have OL := Kpt.mk hX_; clear hl_ hX_ h_; have m1 : Kpt True := ⟨trivial⟩)
      | fail)
  refine bodyPost_ret (v := .tuple #[.agg zeroL, .agg noS.vals, .bool true]) (by simp [results, Tryd.results7, asAddr, Act.put, resS_run (s := noS) OS.out, resL_run (u := .slice none 0 0) (s := .slice none 0 0) OL.out, zL_eq]) rfl ⟨rfl, hb.out⟩
set_option maxRecDepth 100000 in
set_option maxHeartbeats 8000000 in
theorem par_bad (b off len cap : Nat) (zs : List Int) (w : World) (hl : len ≤ 140737488351232) (hcap : len ≤ cap) (hz : zs.length = len) (hb_ : Bytes zs) (hc : Cs w b off len zs) (h1 : len ≠ 0) (x : Sn) (h0 : headX zs = some x) :
    Calls Tryd.prog 7 #[.slice (some ⟨b, off, none⟩) len cap] w fun e w' => ∃ u s, e = .returned (.tuple #[.agg (lsV u s), .agg (parseX zs).s.vals, .bool (parseX zs).ok]) ∧ Prd 50 w w' u s (parseX zs) := by
  rw [parse_hd (by omega) h0]
  have hH := head_any b off len cap zs w hl hz hb_ hc
  rw [h0] at hH
  simp only [Option.getD_some, Option.isNone_some] at hH
  have hHb : Kpt (∀ W, Below w.heap.size w W → Calls Tryd.prog 13 #[.slice (some ⟨b, off, none⟩) len cap] W fun e w' => e = .returned (.tuple #[.agg x.vals, .bool false]) ∧ Below W.heap.size W w') := ⟨fun W hb => by
    have := head_any b off len cap zs W hl hz hb_ (hc.below hb hc.1)
    rw [h0] at this
    exact this⟩
  have hSV1 : Kpt (x.vals.all (·.oneCell') = true) := ⟨Sn.vals_one x⟩
  have hSVs : Kpt (x.vals.size = zeroS.size) := ⟨rfl⟩
  have hSV : Kpt ((Tryd.prog.info? 31).map (·.size) = some x.vals.size) := ⟨infoS⟩
  have hrs : Kpt (∀ W B, Bx W B x.vals → (loadVar 31 ⟨B, 0, none⟩).run Tryd.prog W = .ok (.agg x.vals) W) := ⟨fun W B hB => resS_run hB⟩
  show Calls _ _ _ _ fun e w' => ∃ u s, e = .returned (.tuple #[.agg (lsV u s), .agg x.vals, .bool false]) ∧ Prd 50 w w' u s ⟨[], [], x, false⟩
  obtain ⟨SV, hSVe⟩ : ∃ v, v = x.vals := ⟨_, rfl⟩
  rw [← hSVe] at hHb hSV1 hSVs hSV hrs ⊢
  clear hH hSVe hc hb_ hz h0
  have hlI : ((len : Int) == 0) = false := beq_eq_false_iff_ne.mpr (by omega)
  have hb := Kpt.mk (Below.refl w.heap.size w)
  go_enter Tryd.func7, Tryd.ntmps7
  go_upto_region 5 with (first
      | (have hm := m4; refine wpList_store_bx rfl 31 _ _ rfl bf _ SV rfl rfl Of.out hSVs.out hSV.out hSV1.out rfl ?_; intro w5 hX_ hg_; replace OL := Kpt.mk (OL.out.grown hg_ (by simp; omega)); replace OS := Kpt.mk (OS.out.grown hg_ (by simp; omega)); replace hb := Kpt.mk (hb.out.trans (bel_own hg_ hb.out.size lf.out)); replace Of := Kpt.mk hX_; clear hX_ hg_; clear hm m4; have m5 : Kpt True := ⟨trivial⟩)
      | (have hm := m3; refine wpList_var rfl 31 rfl zeroS zeroSi ?_; intro bf w_f hl_ hX_ h_; have q_L_f : bL < bf := Nat.lt_of_lt_of_le OL.out.lt hl_; have q_S_f : bS < bf := Nat.lt_of_lt_of_le OS.out.lt hl_; have lf := Kpt.mk (Nat.le_trans hb.out.size hl_); replace OL := Kpt.mk (OL.out.below h_ OL.out.lt); replace OS := Kpt.mk (OS.out.below h_ OS.out.lt); replace hb := Kpt.mk (hb.out.trans (h_.mono hb.out.size)); have Of := Kpt.mk hX_; clear hl_ hX_ h_; clear hm m3; have m4 : Kpt True := ⟨trivial⟩)
      | (go_at_call 13; have hm := m2; go_must (refine (hHb.out _ hb.out).mono ?_; rintro e w_ ⟨rfl, h_⟩; replace OL := Kpt.mk (OL.out.below h_ OL.out.lt); replace OS := Kpt.mk (OS.out.below h_ OS.out.lt); replace hb := Kpt.mk (hb.out.trans (h_.mono hb.out.size)); clear h_; clear hm m2; have m3 : Kpt True := ⟨trivial⟩))
      | (have hm := m1; refine wpList_var rfl 31 rfl zeroS zeroSi ?_; intro bS w_S hl_ hX_ h_; have q_L_S : bL < bS := Nat.lt_of_lt_of_le OL.out.lt hl_; have lS := Kpt.mk (Nat.le_trans hb.out.size hl_); replace OL := Kpt.mk (OL.out.below h_ OL.out.lt); replace hb := Kpt.mk (hb.out.trans (h_.mono hb.out.size)); have OS := Kpt.mk hX_; clear hl_ hX_ h_; clear hm m1; have m2 : Kpt True := ⟨trivial⟩)
      | (refine wpList_var rfl 27 rfl zeroL zeroLi ?_; intro bL w_L hl_ hX_ h_; have lL := Kpt.mk (Nat.le_trans hb.out.size hl_); replace hb := Kpt.mk (hb.out.trans (h_.mono hb.out.size)); have OL := Kpt.mk hX_; clear hl_ hX_ h_; have m1 : Kpt True := ⟨trivial⟩)
      | fail)
  refine wp_region_any (by kernel_rfl) ?_
  refine wpAny_of_C (C := fun W => Bx W bf SV) _ _ _ _ ?_
  replace Of := Kpt.mk Of.out.drew
  replace OL := Kpt.mk OL.out.drew
  replace OS := Kpt.mk OS.out.drew
  replace hb := Kpt.mk (bel_drw hb.out)
  obtain ⟨W0, hW0⟩ : ∃ W, W = w5.drew := ⟨_, rfl⟩
  rw [← hW0] at Of OL OS hb
  refine wpAnyC_world hW0 ?_
  clear hW0
  refine wpAnyC_take 0 (.agg zeroL) rfl (by kernel_rfl) (by kernel_rfl) (by kernel_rfl) (fun _ _ _ h => h) (wanted_free rfl _) (fun W hW => by kernel_rfl) ?_
  try simp only [Act.put, List.getElem_toArray, List.getElem_cons_succ, List.getElem_cons_zero, List.setIfInBounds_toArray, List.set_cons_succ, List.set_cons_zero]
  refine wpAnyC_take 1 (.agg SV) rfl (by kernel_rfl) (by kernel_rfl) (by kernel_rfl) (fun _ _ _ h => h) (wanted_free rfl _) (fun W hW => exec_load_bx 31 _ rfl bf SV rfl hW _ Tryd.underlying31 rfl hSV.out) ?_
  try simp only [Act.put, List.getElem_toArray, List.getElem_cons_succ, List.getElem_cons_zero, List.setIfInBounds_toArray, List.set_cons_succ, List.set_cons_zero]
  refine wpAnyC_one 2 Of.out rfl (by kernel_rfl) (wanted_free rfl _) (fun KA hKA => ?_)
  refine wp_store_bx 27 _ _ rfl bL zeroL zeroL rfl rfl OL.out rfl infoL zeroL_one ?_
  intro w7 hX_ hg_
  replace OS := Kpt.mk (OS.out.grown hg_ (by simp; omega))
  replace Of := Kpt.mk (Of.out.grown hg_ (by simp; omega))
  replace hb := Kpt.mk (hb.out.trans (bel_own hg_ hb.out.size lL.out))
  replace OL := Kpt.mk hX_
  clear hX_ hg_
  refine hKA _ _ ?_
  clear hKA KA
  try simp only [Act.put, List.getElem_toArray, List.getElem_cons_succ, List.getElem_cons_zero, List.setIfInBounds_toArray, List.set_cons_succ, List.set_cons_zero]
  refine wpAnyC_one 3 Of.out rfl (by kernel_rfl) (wanted_free rfl _) (fun KA hKA => ?_)
  refine wp_store_bx 31 _ _ rfl bS zeroS SV rfl rfl OS.out hSVs.out hSV.out hSV1.out ?_
  intro w8 hX_ hg_
  replace OL := Kpt.mk (OL.out.grown hg_ (by simp; omega))
  replace Of := Kpt.mk (Of.out.grown hg_ (by simp; omega))
  replace hb := Kpt.mk (hb.out.trans (bel_own hg_ hb.out.size lS.out))
  replace OS := Kpt.mk hX_
  clear hX_ hg_
  refine hKA _ _ ?_
  clear hKA KA
  try simp only [Act.put, List.getElem_toArray, List.getElem_cons_succ, List.getElem_cons_zero, List.setIfInBounds_toArray, List.set_cons_succ, List.set_cons_zero]
  refine wpAnyC_one 4 Of.out rfl (by kernel_rfl) (wanted_free rfl _) (fun KA hKA => ?_)
  go_simp
  refine hKA _ _ ?_
  clear hKA KA
  try simp only [Act.put, List.getElem_toArray, List.getElem_cons_succ, List.getElem_cons_zero, List.setIfInBounds_toArray, List.set_cons_succ, List.set_cons_zero]
  refine wpAnyC_done Of.out (by kernel_rfl) ?_
  go_wp2_with fail
  refine bodyPost_ret (v := .tuple #[.agg zeroL, .agg SV, .bool false]) (by simp [results, Tryd.results7, asAddr, Act.put, hrs.out _ _ OS.out, resL_run (u := .slice none 0 0) (s := .slice none 0 0) OL.out, zL_eq]) rfl ⟨.slice none 0 0, .slice none 0 0, rfl, Prd.none hb.out _ _⟩
end Go.Proofs.YtnebcbfjlkhimaaDoor
