/-
  A piece, read: a way.
-/
import Derived.Test.YtnebcbfjlkhimaaDoorJSg0
namespace Go.Proofs.YtnebcbfjlkhimaaDoor
open Go.RowKit
set_option linter.unusedVariables false
set_option linter.unusedSimpArgs false
set_option maxRecDepth 100000 in
set_option maxHeartbeats 4000000 in
theorem seg_bad10 (b off len cap at_ : Nat) (zs : List Int) (ua : Option Addr) (n uc : Nat) (s : Value) (w : World) (hl : len ≤ 140737488351232) (hcap : len ≤ cap) (hz : zs.length = len) (hb_ : Bytes zs) (hc : Cs w b off len zs) (hat : at_ + 28 ≤ len) (hn : n ≤ maxLen) (h0 : ¬ (num zs at_ 4 ≠ 33554456)) (h1 : ¬ (num zs (at_ + 8) 2 ≠ 0)) (h2 : ¬ (¬ num zs (at_ + 4) 2 < n)) (h3 : ¬ (¬ num zs (at_ + 6) 2 < n)) (h4 : 256 < num zs (at_ + 10) 2) :
    Calls Tryd.prog 16 #[.agg (lsV (.slice ua n uc) s), .slice (some ⟨b, off, none⟩) len cap, .int .i64 at_] w fun e w' => e = .returned (.tuple #[.agg zeroG, .agg (paS ((at_ + 10 : Nat) : Int)).vals, .bool false]) ∧ Below w.heap.size w w' := by
  have hlm : len ≤ maxLen := by unfold maxLen; omega
  have hSf := Kpt.mk (fun f W => fault_any f W)
  have hC := Kpt.mk (fun W (hb : Below w.heap.size w W) => hc.below hb hc.1)
  obtain ⟨k4, hk4⟩ : ∃ k : Nat, (at_ : Int) + 4 = k := ⟨at_ + 4, by omega⟩
  have e4 : k4 = at_ + 4 := by omega
  obtain ⟨k6, hk6⟩ : ∃ k : Nat, (at_ : Int) + 6 = k := ⟨at_ + 6, by omega⟩
  have e6 : k6 = at_ + 6 := by omega
  obtain ⟨k8, hk8⟩ : ∃ k : Nat, (at_ : Int) + 8 = k := ⟨at_ + 8, by omega⟩
  have e8 : k8 = at_ + 8 := by omega
  obtain ⟨k10, hk10⟩ : ∃ k : Nat, (at_ : Int) + 10 = k := ⟨at_ + 10, by omega⟩
  have e10 : k10 = at_ + 10 := by omega
  obtain ⟨k12, hk12⟩ : ∃ k : Nat, (at_ : Int) + 12 = k := ⟨at_ + 12, by omega⟩
  have e12 : k12 = at_ + 12 := by omega
  obtain ⟨k20, hk20⟩ : ∃ k : Nat, (at_ : Int) + 20 = k := ⟨at_ + 20, by omega⟩
  have e20 : k20 = at_ + 20 := by omega
  have N4 : Kpt (∀ W, Below w.heap.size w W → Calls Tryd.prog 14 #[.slice (some ⟨b, off, none⟩) len cap, .int .i64 k4, .int .i64 2] W fun e w' => e = .returned (.int .i64 (num zs k4 2)) ∧ w' = W) := ⟨fun W hb => count_any b off len cap k4 2 zs W hlm (by decide) (by decide) (by omega) hb_ (hC.out W hb)⟩
  have d4 := num2_bd zs hb_ k4
  have N6 : Kpt (∀ W, Below w.heap.size w W → Calls Tryd.prog 14 #[.slice (some ⟨b, off, none⟩) len cap, .int .i64 k6, .int .i64 2] W fun e w' => e = .returned (.int .i64 (num zs k6 2)) ∧ w' = W) := ⟨fun W hb => count_any b off len cap k6 2 zs W hlm (by decide) (by decide) (by omega) hb_ (hC.out W hb)⟩
  have d6 := num2_bd zs hb_ k6
  have N8 : Kpt (∀ W, Below w.heap.size w W → Calls Tryd.prog 14 #[.slice (some ⟨b, off, none⟩) len cap, .int .i64 k8, .int .i64 2] W fun e w' => e = .returned (.int .i64 (num zs k8 2)) ∧ w' = W) := ⟨fun W hb => count_any b off len cap k8 2 zs W hlm (by decide) (by decide) (by omega) hb_ (hC.out W hb)⟩
  have d8 := num2_bd zs hb_ k8
  have N10 : Kpt (∀ W, Below w.heap.size w W → Calls Tryd.prog 14 #[.slice (some ⟨b, off, none⟩) len cap, .int .i64 k10, .int .i64 2] W fun e w' => e = .returned (.int .i64 (num zs k10 2)) ∧ w' = W) := ⟨fun W hb => count_any b off len cap k10 2 zs W hlm (by decide) (by decide) (by omega) hb_ (hC.out W hb)⟩
  have d10 := num2_bd zs hb_ k10
  have N12 : Kpt (∀ W, Below w.heap.size w W → Calls Tryd.prog 29 #[.slice (some ⟨b, off, none⟩) len cap, .int .i64 k12, .int .i64 8] W fun e w' => e = .returned (.int .u64 (num zs k12 8)) ∧ w' = W) := ⟨fun W hb => number_any b off len cap k12 8 zs W hlm (by decide) (by decide) (by omega) hb_ (hC.out W hb)⟩
  have d12 := num8_bd zs hb_ k12
  have N20 : Kpt (∀ W, Below w.heap.size w W → Calls Tryd.prog 29 #[.slice (some ⟨b, off, none⟩) len cap, .int .i64 k20, .int .i64 8] W fun e w' => e = .returned (.int .u64 (num zs k20 8)) ∧ w' = W) := ⟨fun W hb => number_any b off len cap k20 8 zs W hlm (by decide) (by decide) (by omega) hb_ (hC.out W hb)⟩
  have d20 := num8_bd zs hb_ k20
  have hS : Kpt (∀ W, Below w.heap.size w W → RdAt W (.slice (some ⟨b, off + at_, none⟩) (k4 - at_) (cap - at_)) (l4 zs at_)) := ⟨fun W hb => by rw [show k4 - at_ = 4 by omega]; exact cs_rd (hC.out W hb) at_ 4 (by omega) hcap hz⟩
  have hq4 := l4_is (i := at_) hb_ (by omega)
  have hsg : sg zs at_ = ⟨num zs k4 2, num zs k6 2, num zs k10 2, num zs k12 8, num zs k20 8⟩ := by unfold sg; rw [e4, e6, e10, e12, e20]
  clear hsg
  rw [← e8] at h1
  rw [← e4] at h2
  rw [← e6] at h3
  rw [← e10] at h4
  rw [← e10]
  obtain ⟨u4, hu4⟩ : ∃ x, x = num zs k4 2 := ⟨_, rfl⟩
  rw [← hu4] at N4 d4 h2
  obtain ⟨u6, hu6⟩ : ∃ x, x = num zs k6 2 := ⟨_, rfl⟩
  rw [← hu6] at N6 d6 h3
  obtain ⟨u8, hu8⟩ : ∃ x, x = num zs k8 2 := ⟨_, rfl⟩
  rw [← hu8] at N8 d8 h1
  obtain ⟨u10, hu10⟩ : ∃ x, x = num zs k10 2 := ⟨_, rfl⟩
  rw [← hu10] at N10 d10 h4
  obtain ⟨u12, hu12⟩ : ∃ x, x = num zs k12 8 := ⟨_, rfl⟩
  rw [← hu12] at N12 d12
  obtain ⟨u20, hu20⟩ : ∃ x, x = num zs k20 8 := ⟨_, rfl⟩
  rw [← hu20] at N20 d20
  obtain ⟨S4, hS4⟩ : ∃ x, x = strOfNums (l4 zs at_) := ⟨_, rfl⟩
  rw [← hS4] at hq4
  have hqf : (S4.toList == [2, 0, 0, 24]) = true := beq_iff_eq.mpr (hq4.2 (Decidable.not_not.1 h0))
  clear hq4 h0
  replace h1 : u8 = 0 := Decidable.not_not.1 h1
  subst h1
  have q4 := Kpt.mk (fun W => has_yes ua n uc s u4 W hn (by omega) (by omega))
  have q6 := Kpt.mk (fun W => has_yes ua n uc s u6 W hn (by omega) (by omega))
  clear h2 h3
  clear hu4 hu6 hu8 hu10 hu12 hu20 e4 e6 e8 e10 e12 e20
  have hk4l : at_ ≤ k4 := by omega
  have hk4c : k4 ≤ cap := by omega
  have hk4n : k4 ≤ len := by omega
  have hne : ¬ cap = at_ := by omega
  replace hS4 := Kpt.mk hS4
  replace hz := Kpt.mk hz
  clear hc
  go_enter Tryd.func16, Tryd.ntmps16
  have hb := Kpt.mk (Below.refl w.heap.size w)
  go_wp2_with (first
      | (have hm := m15; refine wpList_store_bx rfl 31 _ _ rfl br _ (paS ((k10 : Int))).vals rfl rfl Or.out rfl infoS (Sn.vals_one _) rfl ?_; intro w16 hX_ hg_; replace Ol := Kpt.mk (Ol.out.grown hg_ (by simp; omega)); replace Og := Kpt.mk (Og.out.grown hg_ (by simp; omega)); replace Ox := Kpt.mk (Ox.out.grown hg_ (by simp; omega)); replace hb := Kpt.mk (hb.out.trans (bel_own hg_ hb.out.size lr.out)); replace Or := Kpt.mk hX_; replace cx0 := sg_c0 Ox.out; replace cx1 := sg_c1 Ox.out; replace cx2 := sg_c2 Ox.out; clear hX_ hg_; clear hm m15; have m16 : Kpt True := ⟨trivial⟩)
      | (have hm := m14; refine wpList_store_bx rfl 50 _ _ rfl bg _ zeroG rfl rfl Og.out rfl infoG (Sg.vals_one ⟨0, 0, 0, 0, 0⟩) rfl ?_; intro w15 hX_ hg_; replace Ol := Kpt.mk (Ol.out.grown hg_ (by simp; omega)); replace Or := Kpt.mk (Or.out.grown hg_ (by simp; omega)); replace Ox := Kpt.mk (Ox.out.grown hg_ (by simp; omega)); replace hb := Kpt.mk (hb.out.trans (bel_own hg_ hb.out.size lg.out)); replace Og := Kpt.mk hX_; replace cx0 := sg_c0 Ox.out; replace cx1 := sg_c1 Ox.out; replace cx2 := sg_c2 Ox.out; clear hX_ hg_; clear hm m14; have m15 : Kpt True := ⟨trivial⟩)
      | (go_at_call 27; have hm := m13; go_must (refine (hSf.out _ _).mono ?_; rintro e w_ ⟨rfl, h_⟩; replace Ol := Kpt.mk (Ol.out.below h_ Ol.out.lt); replace Og := Kpt.mk (Og.out.below h_ Og.out.lt); replace Or := Kpt.mk (Or.out.below h_ Or.out.lt); replace Ox := Kpt.mk (Ox.out.below h_ Ox.out.lt); replace hb := Kpt.mk (hb.out.trans (h_.mono hb.out.size)); replace cx0 := sg_c0 Ox.out; replace cx1 := sg_c1 Ox.out; replace cx2 := sg_c2 Ox.out; clear h_; clear hm m13; have m14 : Kpt True := ⟨trivial⟩))
      | (go_at_call 31; have hm := m12; go_must (refine (q6.out _).mono ?_; rintro e w_ ⟨rfl, h_⟩; replace Ol := Kpt.mk (Ol.out.below h_ Ol.out.lt); replace Og := Kpt.mk (Og.out.below h_ Og.out.lt); replace Or := Kpt.mk (Or.out.below h_ Or.out.lt); replace Ox := Kpt.mk (Ox.out.below h_ Ox.out.lt); replace hb := Kpt.mk (hb.out.trans (h_.mono hb.out.size)); replace cx0 := sg_c0 Ox.out; replace cx1 := sg_c1 Ox.out; replace cx2 := sg_c2 Ox.out; clear h_; clear hm m12; have m13 : Kpt True := ⟨trivial⟩))
      | (go_at_call 31; have hm := m11; go_must (refine (q4.out _).mono ?_; rintro e w_ ⟨rfl, h_⟩; replace Ol := Kpt.mk (Ol.out.below h_ Ol.out.lt); replace Og := Kpt.mk (Og.out.below h_ Og.out.lt); replace Or := Kpt.mk (Or.out.below h_ Or.out.lt); replace Ox := Kpt.mk (Ox.out.below h_ Ox.out.lt); replace hb := Kpt.mk (hb.out.trans (h_.mono hb.out.size)); replace cx0 := sg_c0 Ox.out; replace cx1 := sg_c1 Ox.out; replace cx2 := sg_c2 Ox.out; clear h_; clear hm m11; have m12 : Kpt True := ⟨trivial⟩))
      | (refine wpList_load_bx rfl 27 _ rfl bl (lsV (.slice ua n uc) s) rfl Ol.out _ Tryd.underlying27 rfl infoL ?_)
      | (go_at_call 14; have hm := m10; go_must (refine (N8.out _ hb.out).mono ?_; rintro e w_ ⟨rfl, rfl⟩; clear hm m10; have m11 : Kpt True := ⟨trivial⟩))
      | (have hm := m9; refine wpList_store_bx rfl 50 _ _ rfl bx _ (Sg.vals ⟨u4, u6, u10, u12, u20⟩) rfl rfl Ox.out rfl infoG (Sg.vals_one _) rfl ?_; intro w10 hX_ hg_; replace Ol := Kpt.mk (Ol.out.grown hg_ (by simp; omega)); replace Og := Kpt.mk (Og.out.grown hg_ (by simp; omega)); replace Or := Kpt.mk (Or.out.grown hg_ (by simp; omega)); replace hb := Kpt.mk (hb.out.trans (bel_own hg_ hb.out.size lx.out)); replace Ox := Kpt.mk hX_; have cx0 := sg_c0 Ox.out; have cx1 := sg_c1 Ox.out; have cx2 := sg_c2 Ox.out; have hcv := conv_rd (hS.out _ hb.out); rw [← hS4.out] at hcv; clear hX_ hg_; clear hm m9; have m10 : Kpt True := ⟨trivial⟩)
      | (have hm := m8; refine wpList_var rfl 50 rfl zeroG zeroGi ?_; intro bx w_x hl_ hX_ h_; have q_l_x : bl < bx := Nat.lt_of_lt_of_le Ol.out.lt hl_; have q_g_x : bg < bx := Nat.lt_of_lt_of_le Og.out.lt hl_; have q_r_x : br < bx := Nat.lt_of_lt_of_le Or.out.lt hl_; have lx := Kpt.mk (Nat.le_trans hb.out.size hl_); replace Ol := Kpt.mk (Ol.out.below h_ Ol.out.lt); replace Og := Kpt.mk (Og.out.below h_ Og.out.lt); replace Or := Kpt.mk (Or.out.below h_ Or.out.lt); replace hb := Kpt.mk (hb.out.trans (h_.mono hb.out.size)); have Ox := Kpt.mk hX_; clear hl_ hX_ h_; clear hm m8; have m9 : Kpt True := ⟨trivial⟩)
      | (go_at_call 29; have hm := m7; go_must (refine (N20.out _ hb.out).mono ?_; rintro e w_ ⟨rfl, rfl⟩; clear hm m7; have m8 : Kpt True := ⟨trivial⟩))
      | (go_at_call 29; have hm := m6; go_must (refine (N12.out _ hb.out).mono ?_; rintro e w_ ⟨rfl, rfl⟩; clear hm m6; have m7 : Kpt True := ⟨trivial⟩))
      | (go_at_call 14; have hm := m5; go_must (refine (N10.out _ hb.out).mono ?_; rintro e w_ ⟨rfl, rfl⟩; clear hm m5; have m6 : Kpt True := ⟨trivial⟩))
      | (go_at_call 14; have hm := m4; go_must (refine (N6.out _ hb.out).mono ?_; rintro e w_ ⟨rfl, rfl⟩; clear hm m4; have m5 : Kpt True := ⟨trivial⟩))
      | (go_at_call 14; have hm := m3; go_must (refine (N4.out _ hb.out).mono ?_; rintro e w_ ⟨rfl, rfl⟩; clear hm m3; have m4 : Kpt True := ⟨trivial⟩))
      | (have hm := m2; refine wpList_var rfl 31 rfl zeroS zeroSi ?_; intro br w_r hl_ hX_ h_; have q_l_r : bl < br := Nat.lt_of_lt_of_le Ol.out.lt hl_; have q_g_r : bg < br := Nat.lt_of_lt_of_le Og.out.lt hl_; have lr := Kpt.mk (Nat.le_trans hb.out.size hl_); replace Ol := Kpt.mk (Ol.out.below h_ Ol.out.lt); replace Og := Kpt.mk (Og.out.below h_ Og.out.lt); replace hb := Kpt.mk (hb.out.trans (h_.mono hb.out.size)); have Or := Kpt.mk hX_; clear hl_ hX_ h_; clear hm m2; have m3 : Kpt True := ⟨trivial⟩)
      | (have hm := m1; refine wpList_var rfl 50 rfl zeroG zeroGi ?_; intro bg w_g hl_ hX_ h_; have q_l_g : bl < bg := Nat.lt_of_lt_of_le Ol.out.lt hl_; have lg := Kpt.mk (Nat.le_trans hb.out.size hl_); replace Ol := Kpt.mk (Ol.out.below h_ Ol.out.lt); replace hb := Kpt.mk (hb.out.trans (h_.mono hb.out.size)); have Og := Kpt.mk hX_; clear hl_ hX_ h_; clear hm m1; have m2 : Kpt True := ⟨trivial⟩)
      | (refine wpList_box rfl 27 _ rfl (lsV (.slice ua n uc) s) rfl ?_; intro bl w_l hl_ hX_ h_ _; have ll := Kpt.mk (Nat.le_trans hb.out.size hl_); replace hb := Kpt.mk (hb.out.trans (h_.mono hb.out.size)); have Ol := Kpt.mk hX_; clear hl_ hX_ h_; have m1 : Kpt True := ⟨trivial⟩)
      | fail)
  refine bodyPost_ret (v := .tuple #[.agg zeroG, .agg (paS (k10 : Int)).vals, .bool false]) (by simp [results, Tryd.results16, asAddr, Act.put, resS_run Or.out, resG_run Og.out rfl]) rfl ⟨rfl, hb.out⟩
end Go.Proofs.YtnebcbfjlkhimaaDoor
