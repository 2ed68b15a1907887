/-
  The contract of compareWrite. SbcCompares: the walk. SbcCompares: the walk.
-/
import Derived.Test.YtklboieemljmiaaMX
namespace Go.Proofs.Ytklboieemljmiaa
open Go.RowKit
set_option linter.unusedVariables false
set_option linter.unusedSimpArgs false
theorem unBs_cut (Z : List Int) (n : Nat) : unBs false Z (2 * n) = unBs false Z n ++ unBs false (Z.drop (n * 16)) n := by
  refine List.ext_getElem? (fun j => ?_)
  by_cases h1 : j < n
  · rw [List.getElem?_append_left (by rw [unBs_len]; exact h1), unBs_at _ _ _ _ (by omega), unBs_at _ _ _ _ h1]
  · by_cases h2 : j < 2 * n
    · rw [List.getElem?_append_right (by rw [unBs_len]; omega), unBs_len, unBs_at _ _ _ _ h2, unBs_at _ _ _ _ (by omega)]
      simp only [unB, Bool.false_eq_true, if_false, List.drop_drop]
      rw [show n * 16 + (j - n) * 16 = j * 16 by omega]
    · rw [List.getElem?_eq_none (by rw [unBs_len]; omega), List.getElem?_eq_none (by rw [List.length_append, unBs_len, unBs_len]; omega)]

set_option maxRecDepth 100000 in
set_option maxHeartbeats 2000000 in
theorem cmpw_same (w : World) (B : Nat) (tag : Tags) (st : St) (f : ByteArray) (S D N : Nat) (k : Int) (ca : Bool) (l n m cp : Nat) (a : Option Addr) (zs : List Int) (c : Cm) (h : Dv w B tag st f S D N k ca) (hf1 : 1 ≤ f.size) (hf2 : f.size ≤ 32) (hN : N ≤ 4096) (hc : st.cnt < 400000000000) (hcw : st.waits.length < 1000000) (hf : ∀ i, st.fails i = false) (hw : Wrs st.waits) (hG : Good (st.seen f)) (h0 : 0 ≤ k) (h1 : k ≤ 255) (hpr : c.pr = 0) (hl : c.lba = (l : Nat)) (hbl : c.bl = (n : Nat)) (hn1 : 1 ≤ n) (hin : l + n ≤ N) (hlk : lookS k c.pr l (rdL (st.seen f) l n) = noS) (hr : RdAt w (.slice a m cp) zs) (hlz : zs.length = m) (hby : Bytes zs) (hm : m = 2 * n * 16) (hd : ∀ j x y, j < n → (rdL (st.seen f) l n)[j]? = some x → (unBs false zs n)[j]? = some y → x.d = y.d) :
    Calls Try.prog 48 #[.pointer (some ⟨D, 0, none⟩), .agg c.vals, .slice a m cp] w fun e w' => e = .returned (.agg (noS).vals) ∧ Aft w w' B tag (wrF (rdSt st n) f l (prL k l (unBs false (zs.drop (n * 16)) n)) ca c.fua) := by
  have hcm3 : ∀ (W : World) (b : Nat), Bx W b c.vals → W.cell? ⟨b, 3, none⟩ = some (.int .u64 c.bl) := fun W b h => (cm_at h).2.2.2.1
  have hcm5 : ∀ (W : World) (b : Nat), Bx W b c.vals → W.cell? ⟨b, 5, none⟩ = some (.bool c.fua) := fun W b h => (cm_at h).2.2.2.2.2.1
  rw [hbl] at hcm3
  have etb : (c.pr != 0) = false := by rw [hpr]; rfl
  have HU := fun W (h : Below w.heap.size w W) => dunpack_yes c a m cp (2 * n) zs W (rd_below hr h) hlz hby (by omega) (by omega) (by rw [etb]; exact hm)
  simp only [etb] at HU
  have ho1 : ∀ b ∈ unBs false zs n, b.ok := fun b hb => unBs_ok false zs (2 * n) hby (by rw [hlz, hm]; rfl) b (by rw [unBs_cut]; exact List.mem_append_left _ hb)
  have ho2 : ∀ b ∈ unBs false (zs.drop (n * 16)) n, b.ok := fun b hb => unBs_ok false zs (2 * n) hby (by rw [hlz, hm]; rfl) b (by rw [unBs_cut]; exact List.mem_append_right _ hb)
  rw [unBs_cut] at HU
  have hl1 : (unBs false zs n).length = n := unBs_len _ _ _
  have hl2 : (unBs false (zs.drop (n * 16)) n).length = n := unBs_len _ _ _
  obtain ⟨u1, hu1⟩ : ∃ u, u = unBs false zs n := ⟨_, rfl⟩
  obtain ⟨u2, hu2⟩ : ∃ u, u = unBs false (zs.drop (n * 16)) n := ⟨_, rfl⟩
  rw [← hu1] at HU ho1 hl1 hd
  rw [← hu2] at HU ho2 hl2 ⊢
  have hf1l : (flat u1).length = n * 19 := by rw [flat_len _ ho1, hl1]
  have HPr := fun W g (hD : Bx W D (devV S k)) (hg : W.heap[g]? = some (.cells (flat (u1 ++ u2)).toArray 76 (0, 0))) (hne : g ≠ D) => protect_0 D S l g (n * 19) k c n n (flat u1) u2 W hD h0 h1 hpr hl (by omega) (by rw [← flat_append]; exact hg) hf1l hl2 (Nat.le_refl _) ho2 hne
  have ho3 := prL_ok k l u2 ho2
  have hl3 : (prL k l u2).length = n := by rw [prL_len, hl2]
  obtain ⟨u3, hu3⟩ : ∃ u, u = prL k l u2 := ⟨_, rfl⟩
  rw [← hu3] at HPr ho3 hl3 ⊢
  have HC := fun W tag2 g (h : Dv W B tag2 st f S D N k ca) (hg : W.heap[g]? = some (.cells (flat u1 ++ flat u3).toArray 76 (0, 0))) (ht : tag2 g = none) => compare_same W B tag2 st f S D N k ca l n (2 * n) (some ⟨g, 0, none⟩) c u1 h hf1 hf2 hN (by omega) hf hG h0 h1 (by omega) (by omega) hl hbl hin hlk ⟨bks_flat (P := []) (C := flat u3) (by simpa using hg) rfl ho1 n (2 * n) hl1 (by unfold maxLen; omega), fun g' o' e => by cases e; exact ⟨heap_lt hg, ht⟩, Nat.le_refl _⟩ hl1 hd
  have HW := fun W tag2 g (h : Dv W B tag2 (rdSt st n) f S D N k ca) (hg : W.heap[g]? = some (.cells (flat u1 ++ flat u3).toArray 76 (0, 0))) (ht : tag2 g = none) => dwrite_ok W B tag2 (rdSt st n) f S D N k ca l n n (some ⟨g, n * 19, none⟩) c.fua c u3 h hf1 hf2 hN (by simp only [rdSt]; omega) hcw hf hw hl hin hl3 (bks_flat (P := flat u1) (C := []) (by simpa using hg) hf1l ho3 n n hl3 (by unfold maxLen; omega)) (fun g' hg' => by simp [Value.ownBlock] at hg'; rw [← hg']; exact ht)
  obtain ⟨st2, hst2⟩ : ∃ s, s = wrF (rdSt st n) f l u3 ca c.fua := ⟨_, rfl⟩
  rw [← hst2] at HW ⊢
  obtain ⟨fua, hfua⟩ : ∃ x, x = c.fua := ⟨_, rfl⟩
  rw [← hfua] at HW hcm5
  have HE0 := fun W => ended_any noS W
  simp only [show (noS.key != 0) = false from rfl] at HE0
  have en : IntKind.i64.wrap (n : Int) = n := by rw [IntKind.wrap_i64]; omega
  have e2n : wrap64 (2 * (n : Int)) = ((2 * n : Nat) : Int) := by unfold wrap64; omega
  have e2m : (2 : Int) * n = ((2 * n : Nat) : Int) := by omega
  obtain ⟨nn, hnn⟩ : ∃ x, x = 2 * n := ⟨_, rfl⟩
  rw [← hnn] at HU e2n e2m HC
  have hnn1 : n ≤ nn := by omega
  have hnn2 : nn - n = n := by omega
  have hnn3 : ¬ nn = n := by omega
  obtain ⟨XU, hXU⟩ : ∃ X, X = (flat (u1 ++ u2)).toArray := ⟨_, rfl⟩
  obtain ⟨XP, hXP⟩ : ∃ X, X = (flat u1 ++ flat u3).toArray := ⟨_, rfl⟩
  rw [← hXU] at HU HPr
  rw [← hXP] at HPr HC HW
  have hCs : c.vals.size = 15 := rfl
  obtain ⟨CV, hCV⟩ : ∃ CV, CV = c.vals := ⟨_, rfl⟩
  rw [← hCV] at hCs hcm3 hcm5 HU HPr HC HW ⊢
  replace hcm3 := Kpt.mk hcm3
  replace hcm5 := Kpt.mk hcm5
  replace hCs := Kpt.mk hCs
  clear hCV
  have hSl := h.sto.lt
  have hDl := h.bx.lt
  have F := Kpt.mk h.fx
  have hb := Kpt.mk (Below.refl w.heap.size w)
  replace HU := Kpt.mk HU
  replace HPr := Kpt.mk HPr
  replace HC := Kpt.mk HC
  replace HW := Kpt.mk HW
  replace HE0 := Kpt.mk HE0
  replace hm := Kpt.mk hm
  replace hnn := Kpt.mk hnn
  replace h := Kpt.mk h
  clear ho1 ho2 ho3 hl1 hl2 hl3 hr hlz hl hbl hf hw hG hlk hd hu1 hu2 hu3 hXU hXP etb hpr hf1l hst2 hfua
  go_enter Try.func48, Try.ntmps48
  go_wp2_with (first
      | (go_at_call 22; have hm := m5; go_must (refine (HE0.out _).mono ?_; rintro e w6 ⟨rfl, h_⟩; replace Oc := Kpt.mk (Oc.out.below h_); replace Or := Kpt.mk (Or.out.below h_); replace Ov := Kpt.mk (Ov.out.below h_); replace Rg := Kpt.mk (Rg.out.below h_); replace F := Kpt.mk (F.out.below h_); replace x3 := hcm3.out _ _ Oc.out.bx; replace x5 := hcm5.out _ _ Oc.out.bx; replace hb := Kpt.mk (hb.out.trans (h_.mono hb.out.size)); clear h_; clear hm m5; have m6 : Kpt True := ⟨trivial⟩))
      | (have hm := m4; refine wpList_store_bx rfl 32 _ _ rfl bv _ (noS).vals rfl rfl Ov.out.bx rfl infoS (Sn.vals_one _) rfl ?_; intro w5 hX_ hg_; replace hb := Kpt.mk (hb.out.trans (Below.ofGrown hg_ hb.out.size Ov.out.lo)); replace Oc := Kpt.mk (Oc.out.other hg_ (by omega)); replace Or := Kpt.mk (Or.out.other hg_ (by omega)); replace Rg := Kpt.mk (Rg.out.other hg_ (by omega)); replace F := Kpt.mk (F.out.own Ov.out hg_ hSl hDl); replace Ov := Kpt.mk (Ov.out.set hX_); replace x3 := hcm3.out _ _ Oc.out.bx; replace x5 := hcm5.out _ _ Oc.out.bx; clear hX_ hg_; clear hm m4; have m5 : Kpt True := ⟨trivial⟩)
      | (have hm := m3; refine wpList_var rfl 32 rfl zeroS zeroSi ?_; intro bv w_v hl_ hX_ h_; have q_c_v : bc < bv := Nat.lt_of_lt_of_le Oc.out.bx.lt hl_; have q_r_v : br < bv := Nat.lt_of_lt_of_le Or.out.bx.lt hl_; have q_g_v : gg < bv := Nat.lt_of_lt_of_le Rg.out.lt hl_; have Ov := Kpt.mk (F.out.new hl_ hX_); replace Oc := Kpt.mk (Oc.out.below h_); replace Or := Kpt.mk (Or.out.below h_); replace Rg := Kpt.mk (Rg.out.below h_); replace F := Kpt.mk (F.out.below h_); replace x3 := hcm3.out _ _ Oc.out.bx; replace x5 := hcm5.out _ _ Oc.out.bx; replace hb := Kpt.mk (hb.out.trans (h_.mono hb.out.size)); clear hl_ hX_ h_; clear hm m3; have m4 : Kpt True := ⟨trivial⟩)
      | (go_at_call 59; have hm := m2; go_must (refine (HU.out _ hb.out).mono ?_; rintro e w3 ⟨gg, rfl, hr_, hgl_, h_⟩; have q_c_g : bc < gg := Nat.lt_of_lt_of_le Oc.out.bx.lt hgl_; have q_r_g : br < gg := Nat.lt_of_lt_of_le Or.out.bx.lt hgl_; have Rg := Kpt.mk (F.out.row hgl_ hr_); replace Oc := Kpt.mk (Oc.out.below h_); replace Or := Kpt.mk (Or.out.below h_); replace F := Kpt.mk (F.out.below h_); replace x3 := hcm3.out _ _ Oc.out.bx; replace x5 := hcm5.out _ _ Oc.out.bx; replace hb := Kpt.mk (hb.out.trans (h_.mono hb.out.size)); clear h_; clear hgl_ hr_; clear hm m2; have m3 : Kpt True := ⟨trivial⟩))
      | (have hm := m1; refine wpList_var rfl 32 rfl zeroS zeroSi ?_; intro br w_r hl_ hX_ h_; have q_c_r : bc < br := Nat.lt_of_lt_of_le Oc.out.bx.lt hl_; have Or := Kpt.mk (F.out.new hl_ hX_); replace Oc := Kpt.mk (Oc.out.below h_); replace F := Kpt.mk (F.out.below h_); replace x3 := hcm3.out _ _ Oc.out.bx; replace x5 := hcm5.out _ _ Oc.out.bx; replace hb := Kpt.mk (hb.out.trans (h_.mono hb.out.size)); clear hl_ hX_ h_; clear hm m1; have m2 : Kpt True := ⟨trivial⟩)
      | (refine wpList_box rfl 38 _ rfl CV rfl ?_; intro bc w_c hl_ hX_ h_ _; have Oc := Kpt.mk (F.out.new hl_ hX_); replace F := Kpt.mk (F.out.below h_); replace hb := Kpt.mk (hb.out.trans (h_.mono hb.out.size)); have x3 := hcm3.out _ _ Oc.out.bx; have x5 := hcm5.out _ _ Oc.out.bx; clear hl_ hX_ h_; have m1 : Kpt True := ⟨trivial⟩)
      | (refine wpList_load_bx rfl 38 _ rfl bc CV rfl Oc.out.bx _ Try.underlying38 rfl (by rw [hCs.out]; exact infoC) ?_)
      | (refine wpList_load_bx rfl 32 _ rfl bv (noS).vals rfl Ov.out.bx _ Try.underlying32 rfl infoS ?_)
      | fail)
  refine wp_region_any (by kernel_rfl) ?_
  refine wpAny_of_C (C := fun W => True) _ _ _ _ ?_
  refine wpAnyC_take 0 (.slice (some ⟨gg, 0, none⟩) nn nn) rfl (by kernel_rfl) (by kernel_rfl) (by kernel_rfl) (fun _ _ _ h => h) (wanted_free rfl _) (fun W hW => by go_simp) ?_
  try simp only [Act.put, List.getElem_toArray, List.getElem_cons_succ, List.getElem_cons_zero, List.setIfInBounds_toArray, List.set_cons_succ, List.set_cons_zero]
  refine wpAnyC_take 1 (.int .i64 n) rfl (by kernel_rfl) (by kernel_rfl) (by kernel_rfl) (fun _ _ _ h => h) (wanted_free rfl _) (fun W hW => by go_simp) ?_
  try simp only [Act.put, List.getElem_toArray, List.getElem_cons_succ, List.getElem_cons_zero, List.setIfInBounds_toArray, List.set_cons_succ, List.set_cons_zero]
  refine wpAnyC_take 2 (.slice (some ⟨gg, 0, none⟩) n nn) rfl (by kernel_rfl) (by kernel_rfl) (by kernel_rfl) (fun _ _ _ h => h) (wanted_free rfl _) (fun W hW => by go_simp) ?_
  try simp only [Act.put, List.getElem_toArray, List.getElem_cons_succ, List.getElem_cons_zero, List.setIfInBounds_toArray, List.set_cons_succ, List.set_cons_zero]
  refine wpAnyC_take 3 (.slice (some ⟨gg, 0, none⟩) nn nn) rfl (by kernel_rfl) (by kernel_rfl) (by kernel_rfl) (fun _ _ _ h => h) (wanted_free rfl _) (fun W hW => by go_simp) ?_
  try simp only [Act.put, List.getElem_toArray, List.getElem_cons_succ, List.getElem_cons_zero, List.setIfInBounds_toArray, List.set_cons_succ, List.set_cons_zero]
  refine wpAnyC_take 4 (.int .i64 n) rfl (by kernel_rfl) (by kernel_rfl) (by kernel_rfl) (fun _ _ _ h => h) (wanted_free rfl _) (fun W hW => by go_simp) ?_
  try simp only [Act.put, List.getElem_toArray, List.getElem_cons_succ, List.getElem_cons_zero, List.setIfInBounds_toArray, List.set_cons_succ, List.set_cons_zero]
  refine wpAnyC_take 5 (.slice (some ⟨gg, n * 19, none⟩) n n) rfl (by kernel_rfl) (by kernel_rfl) (by kernel_rfl) (fun _ _ _ h => h) (wanted_free rfl _) (fun W hW => by go_simp) ?_
  try simp only [Act.put, List.getElem_toArray, List.getElem_cons_succ, List.getElem_cons_zero, List.setIfInBounds_toArray, List.set_cons_succ, List.set_cons_zero]
  refine wpAnyC_take 6 (.slice (some ⟨gg, 0, none⟩) n nn) rfl (by kernel_rfl) (by kernel_rfl) (by kernel_rfl) (fun _ _ _ h => h) (wanted_free rfl _) (fun W hW => by go_simp) ?_
  try simp only [Act.put, List.getElem_toArray, List.getElem_cons_succ, List.getElem_cons_zero, List.setIfInBounds_toArray, List.set_cons_succ, List.set_cons_zero]
  refine wpAnyC_take 7 (.slice (some ⟨gg, n * 19, none⟩) n n) rfl (by kernel_rfl) (by kernel_rfl) (by kernel_rfl) (fun _ _ _ h => h) (wanted_free rfl _) (fun W hW => by go_simp) ?_
  try simp only [Act.put, List.getElem_toArray, List.getElem_cons_succ, List.getElem_cons_zero, List.setIfInBounds_toArray, List.set_cons_succ, List.set_cons_zero]
  refine wpAnyC_done (trivial) (by kernel_rfl) ?_
  have h_ := below_drew w6
  replace Oc := Kpt.mk (Oc.out.below h_)
  replace Or := Kpt.mk (Or.out.below h_)
  replace Ov := Kpt.mk (Ov.out.below h_)
  replace Rg := Kpt.mk (Rg.out.below h_)
  replace F := Kpt.mk (F.out.below h_)
  replace x3 := hcm3.out _ _ Oc.out.bx
  replace x5 := hcm5.out _ _ Oc.out.bx
  replace hb := Kpt.mk (hb.out.trans (h_.mono hb.out.size))
  clear h_
  go_wp2_with (first
      | (have hm := m15; refine wpList_store_bx rfl 32 _ _ rfl br _ (noS).vals rfl rfl Or.out.bx rfl infoS (Sn.vals_one _) rfl ?_; intro w16 hX_ hg_; replace Oc := Kpt.mk (Oc.out.other hg_ (by omega)); replace Ov := Kpt.mk (Ov.out.other hg_ (by omega)); replace Oz := Kpt.mk (Oz.out.other hg_ (by omega)); replace Ou := Kpt.mk (Ou.out.other hg_ (by omega)); replace Rg := Kpt.mk (Rg.out.other hg_ (by omega)); replace F := Kpt.mk (F.out.own Or.out hg_ hSl hDl); replace Or := Kpt.mk (Or.out.set hX_); replace x3 := hcm3.out _ _ Oc.out.bx; replace x5 := hcm5.out _ _ Oc.out.bx; clear hX_ hg_; clear hm m15; have m16 : Kpt True := ⟨trivial⟩)
      | (go_at_call 58; have hm := m14; go_must (refine (HW.out _ _ _ F.out.dv Rg.out.row Rg.out.bare).mono ?_; rintro e w11 ⟨rfl, tag11, hW_, s_⟩; replace Oc := Kpt.mk (Oc.out.call s_); replace Or := Kpt.mk (Or.out.call s_); replace Ov := Kpt.mk (Ov.out.call s_); replace Oz := Kpt.mk (Oz.out.call s_); replace Ou := Kpt.mk (Ou.out.call s_); replace Rg := Kpt.mk (Rg.out.call s_); replace F := Kpt.mk (F.out.call hW_ s_); replace x3 := hcm3.out _ _ Oc.out.bx; replace x5 := hcm5.out _ _ Oc.out.bx; clear hW_ s_; clear hm m14; have m15 : Kpt True := ⟨trivial⟩))
      | (go_at_call 22; have hm := m13; go_must (refine (HE0.out _).mono ?_; rintro e w10 ⟨rfl, h_⟩; replace Oc := Kpt.mk (Oc.out.below h_); replace Or := Kpt.mk (Or.out.below h_); replace Ov := Kpt.mk (Ov.out.below h_); replace Oz := Kpt.mk (Oz.out.below h_); replace Ou := Kpt.mk (Ou.out.below h_); replace Rg := Kpt.mk (Rg.out.below h_); replace F := Kpt.mk (F.out.below h_); replace x3 := hcm3.out _ _ Oc.out.bx; replace x5 := hcm5.out _ _ Oc.out.bx; clear h_; clear hm m13; have m14 : Kpt True := ⟨trivial⟩))
      | (have hm := m12; refine wpList_store_bx rfl 32 _ _ rfl bu _ (noS).vals rfl rfl Ou.out.bx rfl infoS (Sn.vals_one _) rfl ?_; intro w13 hX_ hg_; replace Oc := Kpt.mk (Oc.out.other hg_ (by omega)); replace Or := Kpt.mk (Or.out.other hg_ (by omega)); replace Ov := Kpt.mk (Ov.out.other hg_ (by omega)); replace Oz := Kpt.mk (Oz.out.other hg_ (by omega)); replace Rg := Kpt.mk (Rg.out.other hg_ (by omega)); replace F := Kpt.mk (F.out.own Ou.out hg_ hSl hDl); replace Ou := Kpt.mk (Ou.out.set hX_); replace x3 := hcm3.out _ _ Oc.out.bx; replace x5 := hcm5.out _ _ Oc.out.bx; clear hX_ hg_; clear hm m12; have m13 : Kpt True := ⟨trivial⟩)
      | (have hm := m11; refine wpList_var rfl 32 rfl zeroS zeroSi ?_; intro bu w_u hl_ hX_ h_; have q_c_u : bc < bu := Nat.lt_of_lt_of_le Oc.out.bx.lt hl_; have q_r_u : br < bu := Nat.lt_of_lt_of_le Or.out.bx.lt hl_; have q_v_u : bv < bu := Nat.lt_of_lt_of_le Ov.out.bx.lt hl_; have q_z_u : bz < bu := Nat.lt_of_lt_of_le Oz.out.bx.lt hl_; have q_g_u : gg < bu := Nat.lt_of_lt_of_le Rg.out.lt hl_; have Ou := Kpt.mk (F.out.new hl_ hX_); replace Oc := Kpt.mk (Oc.out.below h_); replace Or := Kpt.mk (Or.out.below h_); replace Ov := Kpt.mk (Ov.out.below h_); replace Oz := Kpt.mk (Oz.out.below h_); replace Rg := Kpt.mk (Rg.out.below h_); replace F := Kpt.mk (F.out.below h_); replace x3 := hcm3.out _ _ Oc.out.bx; replace x5 := hcm5.out _ _ Oc.out.bx; clear hl_ hX_ h_; clear hm m11; have m12 : Kpt True := ⟨trivial⟩)
      | (go_at_call 60; have hm := m10; go_must (refine (HC.out _ _ _ F.out.dv Rg.out.row Rg.out.bare).mono ?_; rintro e w9 ⟨rfl, tag9, hW_, s_⟩; replace Oc := Kpt.mk (Oc.out.call s_); replace Or := Kpt.mk (Or.out.call s_); replace Ov := Kpt.mk (Ov.out.call s_); replace Oz := Kpt.mk (Oz.out.call s_); replace Rg := Kpt.mk (Rg.out.call s_); replace F := Kpt.mk (F.out.call hW_ s_); replace x3 := hcm3.out _ _ Oc.out.bx; replace x5 := hcm5.out _ _ Oc.out.bx; clear hW_ s_; clear hm m10; have m11 : Kpt True := ⟨trivial⟩))
      | (go_at_call 22; have hm := m9; go_must (refine (HE0.out _).mono ?_; rintro e w8 ⟨rfl, h_⟩; replace Oc := Kpt.mk (Oc.out.below h_); replace Or := Kpt.mk (Or.out.below h_); replace Ov := Kpt.mk (Ov.out.below h_); replace Oz := Kpt.mk (Oz.out.below h_); replace Rg := Kpt.mk (Rg.out.below h_); replace F := Kpt.mk (F.out.below h_); replace x3 := hcm3.out _ _ Oc.out.bx; replace x5 := hcm5.out _ _ Oc.out.bx; replace hb := Kpt.mk (hb.out.trans (h_.mono hb.out.size)); clear h_; clear hm m9; have m10 : Kpt True := ⟨trivial⟩))
      | (have hm := m8; refine wpList_store_bx rfl 32 _ _ rfl bz _ (noS).vals rfl rfl Oz.out.bx rfl infoS (Sn.vals_one _) rfl ?_; intro w9 hX_ hg_; replace hb := Kpt.mk (hb.out.trans (Below.ofGrown hg_ hb.out.size Oz.out.lo)); replace Oc := Kpt.mk (Oc.out.other hg_ (by omega)); replace Or := Kpt.mk (Or.out.other hg_ (by omega)); replace Ov := Kpt.mk (Ov.out.other hg_ (by omega)); replace Rg := Kpt.mk (Rg.out.other hg_ (by omega)); replace F := Kpt.mk (F.out.own Oz.out hg_ hSl hDl); replace Oz := Kpt.mk (Oz.out.set hX_); replace x3 := hcm3.out _ _ Oc.out.bx; replace x5 := hcm5.out _ _ Oc.out.bx; clear hX_ hg_; clear hm m8; have m9 : Kpt True := ⟨trivial⟩)
      | (have hm := m7; refine wpList_var rfl 32 rfl zeroS zeroSi ?_; intro bz w_z hl_ hX_ h_; have q_c_z : bc < bz := Nat.lt_of_lt_of_le Oc.out.bx.lt hl_; have q_r_z : br < bz := Nat.lt_of_lt_of_le Or.out.bx.lt hl_; have q_v_z : bv < bz := Nat.lt_of_lt_of_le Ov.out.bx.lt hl_; have q_g_z : gg < bz := Nat.lt_of_lt_of_le Rg.out.lt hl_; have Oz := Kpt.mk (F.out.new hl_ hX_); replace Oc := Kpt.mk (Oc.out.below h_); replace Or := Kpt.mk (Or.out.below h_); replace Ov := Kpt.mk (Ov.out.below h_); replace Rg := Kpt.mk (Rg.out.below h_); replace F := Kpt.mk (F.out.below h_); replace x3 := hcm3.out _ _ Oc.out.bx; replace x5 := hcm5.out _ _ Oc.out.bx; replace hb := Kpt.mk (hb.out.trans (h_.mono hb.out.size)); clear hl_ hX_ h_; clear hm m7; have m8 : Kpt True := ⟨trivial⟩)
      | (go_at_call 67; have hm := m6; go_must (refine (HPr.out _ _ F.out.dv.bx Rg.out.row (by have := Rg.out.lo; omega)).mono ?_; rintro e w7 ⟨rfl, hrow_, hg_⟩; replace Oc := Kpt.mk (Oc.out.other hg_ (by omega)); replace Or := Kpt.mk (Or.out.other hg_ (by omega)); replace Ov := Kpt.mk (Ov.out.other hg_ (by omega)); replace hb := Kpt.mk (hb.out.trans (Below.ofGrown hg_ hb.out.size Rg.out.lo)); replace F := Kpt.mk (F.out.turn Rg.out hg_ hSl hDl); replace Rg := Kpt.mk (Rb.mk (w := w) hrow_ Rg.out.lo Rg.out.bare); replace x3 := hcm3.out _ _ Oc.out.bx; replace x5 := hcm5.out _ _ Oc.out.bx; clear hrow_ hg_; clear hm m6; have m7 : Kpt True := ⟨trivial⟩))
      | (refine wpList_load_bx rfl 38 _ rfl bc CV rfl Oc.out.bx _ Try.underlying38 rfl (by rw [hCs.out]; exact infoC) ?_)
      | (refine wpList_load_bx rfl 32 _ rfl bv (noS).vals rfl Ov.out.bx _ Try.underlying32 rfl infoS ?_)
      | (refine wpList_load_bx rfl 32 _ rfl bz (noS).vals rfl Oz.out.bx _ Try.underlying32 rfl infoS ?_)
      | (refine wpList_load_bx rfl 32 _ rfl bu (noS).vals rfl Ou.out.bx _ Try.underlying32 rfl infoS ?_)
      | fail)
  refine bodyPost_ret (v := .agg (noS).vals) (by simp [results, Try.results48, asAddr, Act.put, res_run Or.out.bx]) rfl ⟨rfl, _, F.out.dv.wd, F.out.st⟩

set_option maxRecDepth 100000 in
set_option maxHeartbeats 2000000 in
theorem cmpw_dif (w : World) (B : Nat) (tag : Tags) (st : St) (f : ByteArray) (S D N : Nat) (k : Int) (ca : Bool) (l n m cp : Nat) (a : Option Addr) (zs : List Int) (c : Cm) (h : Dv w B tag st f S D N k ca) (hf1 : 1 ≤ f.size) (hf2 : f.size ≤ 32) (hN : N ≤ 4096) (hc : st.cnt < 400000000000) (hcw : st.waits.length < 1000000) (hf : ∀ i, st.fails i = false) (hw : Wrs st.waits) (hG : Good (st.seen f)) (h0 : 0 ≤ k) (h1 : k ≤ 255) (hpr : c.pr = 0) (hl : c.lba = (l : Nat)) (hbl : c.bl = (n : Nat)) (hn1 : 1 ≤ n) (hin : l + n ≤ N) (hlk : lookS k c.pr l (rdL (st.seen f) l n) = noS) (hr : RdAt w (.slice a m cp) zs) (hlz : zs.length = m) (hby : Bytes zs) (hm : m = 2 * n * 16) (pl : Nat) (hpl : pl < 1000000) (hd : Dif (rdL (st.seen f) l n) (unBs false zs n) pl) :
    Calls Try.prog 48 #[.pointer (some ⟨D, 0, none⟩), .agg c.vals, .slice a m cp] w fun e w' => e = .returned (.agg ((nuS 14 7424 pl)).vals) ∧ Aft w w' B tag (rdSt st n) := by
  have hcm3 : ∀ (W : World) (b : Nat), Bx W b c.vals → W.cell? ⟨b, 3, none⟩ = some (.int .u64 c.bl) := fun W b h => (cm_at h).2.2.2.1
  have hcm5 : ∀ (W : World) (b : Nat), Bx W b c.vals → W.cell? ⟨b, 5, none⟩ = some (.bool c.fua) := fun W b h => (cm_at h).2.2.2.2.2.1
  rw [hbl] at hcm3
  have etb : (c.pr != 0) = false := by rw [hpr]; rfl
  have HU := fun W (h : Below w.heap.size w W) => dunpack_yes c a m cp (2 * n) zs W (rd_below hr h) hlz hby (by omega) (by omega) (by rw [etb]; exact hm)
  simp only [etb] at HU
  have ho1 : ∀ b ∈ unBs false zs n, b.ok := fun b hb => unBs_ok false zs (2 * n) hby (by rw [hlz, hm]; rfl) b (by rw [unBs_cut]; exact List.mem_append_left _ hb)
  have ho2 : ∀ b ∈ unBs false (zs.drop (n * 16)) n, b.ok := fun b hb => unBs_ok false zs (2 * n) hby (by rw [hlz, hm]; rfl) b (by rw [unBs_cut]; exact List.mem_append_right _ hb)
  rw [unBs_cut] at HU
  have hl1 : (unBs false zs n).length = n := unBs_len _ _ _
  have hl2 : (unBs false (zs.drop (n * 16)) n).length = n := unBs_len _ _ _
  obtain ⟨u1, hu1⟩ : ∃ u, u = unBs false zs n := ⟨_, rfl⟩
  obtain ⟨u2, hu2⟩ : ∃ u, u = unBs false (zs.drop (n * 16)) n := ⟨_, rfl⟩
  rw [← hu1] at HU ho1 hl1 hd
  rw [← hu2] at HU ho2 hl2 
  have hf1l : (flat u1).length = n * 19 := by rw [flat_len _ ho1, hl1]
  have HPr := fun W g (hD : Bx W D (devV S k)) (hg : W.heap[g]? = some (.cells (flat (u1 ++ u2)).toArray 76 (0, 0))) (hne : g ≠ D) => protect_0 D S l g (n * 19) k c n n (flat u1) u2 W hD h0 h1 hpr hl (by omega) (by rw [← flat_append]; exact hg) hf1l hl2 (Nat.le_refl _) ho2 hne
  have ho3 := prL_ok k l u2 ho2
  have hl3 : (prL k l u2).length = n := by rw [prL_len, hl2]
  obtain ⟨u3, hu3⟩ : ∃ u, u = prL k l u2 := ⟨_, rfl⟩
  rw [← hu3] at HPr ho3 hl3 
  have HC := fun W tag2 g (h : Dv W B tag2 st f S D N k ca) (hg : W.heap[g]? = some (.cells (flat u1 ++ flat u3).toArray 76 (0, 0))) (ht : tag2 g = none) => compare_dif W B tag2 st f S D N k ca l n (2 * n) (some ⟨g, 0, none⟩) c u1 h hf1 hf2 hN (by omega) hf hG h0 h1 (by omega) (by omega) hl hbl hin hlk ⟨bks_flat (P := []) (C := flat u3) (by simpa using hg) rfl ho1 n (2 * n) hl1 (by unfold maxLen; omega), fun g' o' e => by cases e; exact ⟨heap_lt hg, ht⟩, Nat.le_refl _⟩ hl1 pl hpl hd
  have HE0 := fun W => ended_any noS W
  simp only [show (noS.key != 0) = false from rfl] at HE0
  have HE1 := fun W => ended_any (nuS 14 7424 pl) W
  simp only [show ((nuS 14 7424 pl).key != 0) = true from rfl] at HE1
  replace HE1 := Kpt.mk HE1
  have en : IntKind.i64.wrap (n : Int) = n := by rw [IntKind.wrap_i64]; omega
  have e2n : wrap64 (2 * (n : Int)) = ((2 * n : Nat) : Int) := by unfold wrap64; omega
  have e2m : (2 : Int) * n = ((2 * n : Nat) : Int) := by omega
  obtain ⟨nn, hnn⟩ : ∃ x, x = 2 * n := ⟨_, rfl⟩
  rw [← hnn] at HU e2n e2m HC
  have hnn1 : n ≤ nn := by omega
  have hnn2 : nn - n = n := by omega
  have hnn3 : ¬ nn = n := by omega
  obtain ⟨XU, hXU⟩ : ∃ X, X = (flat (u1 ++ u2)).toArray := ⟨_, rfl⟩
  obtain ⟨XP, hXP⟩ : ∃ X, X = (flat u1 ++ flat u3).toArray := ⟨_, rfl⟩
  rw [← hXU] at HU HPr
  rw [← hXP] at HPr HC 
  have hCs : c.vals.size = 15 := rfl
  obtain ⟨CV, hCV⟩ : ∃ CV, CV = c.vals := ⟨_, rfl⟩
  rw [← hCV] at hCs hcm3 hcm5 HU HPr HC ⊢
  replace hcm3 := Kpt.mk hcm3
  replace hcm5 := Kpt.mk hcm5
  replace hCs := Kpt.mk hCs
  clear hCV
  have hSl := h.sto.lt
  have hDl := h.bx.lt
  have F := Kpt.mk h.fx
  have hb := Kpt.mk (Below.refl w.heap.size w)
  replace HU := Kpt.mk HU
  replace HPr := Kpt.mk HPr
  replace HC := Kpt.mk HC
  replace HE0 := Kpt.mk HE0
  replace hm := Kpt.mk hm
  replace hnn := Kpt.mk hnn
  replace h := Kpt.mk h
  clear ho1 ho2 ho3 hl1 hl2 hl3 hr hlz hl hbl hf hw hG hlk hd hu1 hu2 hu3 hXU hXP etb hpr hf1l 
  go_enter Try.func48, Try.ntmps48
  go_wp2_with (first
      | (go_at_call 22; have hm := m5; go_must (refine (HE0.out _).mono ?_; rintro e w6 ⟨rfl, h_⟩; replace Oc := Kpt.mk (Oc.out.below h_); replace Or := Kpt.mk (Or.out.below h_); replace Ov := Kpt.mk (Ov.out.below h_); replace Rg := Kpt.mk (Rg.out.below h_); replace F := Kpt.mk (F.out.below h_); replace x3 := hcm3.out _ _ Oc.out.bx; replace x5 := hcm5.out _ _ Oc.out.bx; replace hb := Kpt.mk (hb.out.trans (h_.mono hb.out.size)); clear h_; clear hm m5; have m6 : Kpt True := ⟨trivial⟩))
      | (have hm := m4; refine wpList_store_bx rfl 32 _ _ rfl bv _ (noS).vals rfl rfl Ov.out.bx rfl infoS (Sn.vals_one _) rfl ?_; intro w5 hX_ hg_; replace hb := Kpt.mk (hb.out.trans (Below.ofGrown hg_ hb.out.size Ov.out.lo)); replace Oc := Kpt.mk (Oc.out.other hg_ (by omega)); replace Or := Kpt.mk (Or.out.other hg_ (by omega)); replace Rg := Kpt.mk (Rg.out.other hg_ (by omega)); replace F := Kpt.mk (F.out.own Ov.out hg_ hSl hDl); replace Ov := Kpt.mk (Ov.out.set hX_); replace x3 := hcm3.out _ _ Oc.out.bx; replace x5 := hcm5.out _ _ Oc.out.bx; clear hX_ hg_; clear hm m4; have m5 : Kpt True := ⟨trivial⟩)
      | (have hm := m3; refine wpList_var rfl 32 rfl zeroS zeroSi ?_; intro bv w_v hl_ hX_ h_; have q_c_v : bc < bv := Nat.lt_of_lt_of_le Oc.out.bx.lt hl_; have q_r_v : br < bv := Nat.lt_of_lt_of_le Or.out.bx.lt hl_; have q_g_v : gg < bv := Nat.lt_of_lt_of_le Rg.out.lt hl_; have Ov := Kpt.mk (F.out.new hl_ hX_); replace Oc := Kpt.mk (Oc.out.below h_); replace Or := Kpt.mk (Or.out.below h_); replace Rg := Kpt.mk (Rg.out.below h_); replace F := Kpt.mk (F.out.below h_); replace x3 := hcm3.out _ _ Oc.out.bx; replace x5 := hcm5.out _ _ Oc.out.bx; replace hb := Kpt.mk (hb.out.trans (h_.mono hb.out.size)); clear hl_ hX_ h_; clear hm m3; have m4 : Kpt True := ⟨trivial⟩)
      | (go_at_call 59; have hm := m2; go_must (refine (HU.out _ hb.out).mono ?_; rintro e w3 ⟨gg, rfl, hr_, hgl_, h_⟩; have q_c_g : bc < gg := Nat.lt_of_lt_of_le Oc.out.bx.lt hgl_; have q_r_g : br < gg := Nat.lt_of_lt_of_le Or.out.bx.lt hgl_; have Rg := Kpt.mk (F.out.row hgl_ hr_); replace Oc := Kpt.mk (Oc.out.below h_); replace Or := Kpt.mk (Or.out.below h_); replace F := Kpt.mk (F.out.below h_); replace x3 := hcm3.out _ _ Oc.out.bx; replace x5 := hcm5.out _ _ Oc.out.bx; replace hb := Kpt.mk (hb.out.trans (h_.mono hb.out.size)); clear h_; clear hgl_ hr_; clear hm m2; have m3 : Kpt True := ⟨trivial⟩))
      | (have hm := m1; refine wpList_var rfl 32 rfl zeroS zeroSi ?_; intro br w_r hl_ hX_ h_; have q_c_r : bc < br := Nat.lt_of_lt_of_le Oc.out.bx.lt hl_; have Or := Kpt.mk (F.out.new hl_ hX_); replace Oc := Kpt.mk (Oc.out.below h_); replace F := Kpt.mk (F.out.below h_); replace x3 := hcm3.out _ _ Oc.out.bx; replace x5 := hcm5.out _ _ Oc.out.bx; replace hb := Kpt.mk (hb.out.trans (h_.mono hb.out.size)); clear hl_ hX_ h_; clear hm m1; have m2 : Kpt True := ⟨trivial⟩)
      | (refine wpList_box rfl 38 _ rfl CV rfl ?_; intro bc w_c hl_ hX_ h_ _; have Oc := Kpt.mk (F.out.new hl_ hX_); replace F := Kpt.mk (F.out.below h_); replace hb := Kpt.mk (hb.out.trans (h_.mono hb.out.size)); have x3 := hcm3.out _ _ Oc.out.bx; have x5 := hcm5.out _ _ Oc.out.bx; clear hl_ hX_ h_; have m1 : Kpt True := ⟨trivial⟩)
      | (refine wpList_load_bx rfl 38 _ rfl bc CV rfl Oc.out.bx _ Try.underlying38 rfl (by rw [hCs.out]; exact infoC) ?_)
      | (refine wpList_load_bx rfl 32 _ rfl bv (noS).vals rfl Ov.out.bx _ Try.underlying32 rfl infoS ?_)
      | fail)
  refine wp_region_any (by kernel_rfl) ?_
  refine wpAny_of_C (C := fun W => True) _ _ _ _ ?_
  refine wpAnyC_take 0 (.slice (some ⟨gg, 0, none⟩) nn nn) rfl (by kernel_rfl) (by kernel_rfl) (by kernel_rfl) (fun _ _ _ h => h) (wanted_free rfl _) (fun W hW => by go_simp) ?_
  try simp only [Act.put, List.getElem_toArray, List.getElem_cons_succ, List.getElem_cons_zero, List.setIfInBounds_toArray, List.set_cons_succ, List.set_cons_zero]
  refine wpAnyC_take 1 (.int .i64 n) rfl (by kernel_rfl) (by kernel_rfl) (by kernel_rfl) (fun _ _ _ h => h) (wanted_free rfl _) (fun W hW => by go_simp) ?_
  try simp only [Act.put, List.getElem_toArray, List.getElem_cons_succ, List.getElem_cons_zero, List.setIfInBounds_toArray, List.set_cons_succ, List.set_cons_zero]
  refine wpAnyC_take 2 (.slice (some ⟨gg, 0, none⟩) n nn) rfl (by kernel_rfl) (by kernel_rfl) (by kernel_rfl) (fun _ _ _ h => h) (wanted_free rfl _) (fun W hW => by go_simp) ?_
  try simp only [Act.put, List.getElem_toArray, List.getElem_cons_succ, List.getElem_cons_zero, List.setIfInBounds_toArray, List.set_cons_succ, List.set_cons_zero]
  refine wpAnyC_take 3 (.slice (some ⟨gg, 0, none⟩) nn nn) rfl (by kernel_rfl) (by kernel_rfl) (by kernel_rfl) (fun _ _ _ h => h) (wanted_free rfl _) (fun W hW => by go_simp) ?_
  try simp only [Act.put, List.getElem_toArray, List.getElem_cons_succ, List.getElem_cons_zero, List.setIfInBounds_toArray, List.set_cons_succ, List.set_cons_zero]
  refine wpAnyC_take 4 (.int .i64 n) rfl (by kernel_rfl) (by kernel_rfl) (by kernel_rfl) (fun _ _ _ h => h) (wanted_free rfl _) (fun W hW => by go_simp) ?_
  try simp only [Act.put, List.getElem_toArray, List.getElem_cons_succ, List.getElem_cons_zero, List.setIfInBounds_toArray, List.set_cons_succ, List.set_cons_zero]
  refine wpAnyC_take 5 (.slice (some ⟨gg, n * 19, none⟩) n n) rfl (by kernel_rfl) (by kernel_rfl) (by kernel_rfl) (fun _ _ _ h => h) (wanted_free rfl _) (fun W hW => by go_simp) ?_
  try simp only [Act.put, List.getElem_toArray, List.getElem_cons_succ, List.getElem_cons_zero, List.setIfInBounds_toArray, List.set_cons_succ, List.set_cons_zero]
  refine wpAnyC_take 6 (.slice (some ⟨gg, 0, none⟩) n nn) rfl (by kernel_rfl) (by kernel_rfl) (by kernel_rfl) (fun _ _ _ h => h) (wanted_free rfl _) (fun W hW => by go_simp) ?_
  try simp only [Act.put, List.getElem_toArray, List.getElem_cons_succ, List.getElem_cons_zero, List.setIfInBounds_toArray, List.set_cons_succ, List.set_cons_zero]
  refine wpAnyC_take 7 (.slice (some ⟨gg, n * 19, none⟩) n n) rfl (by kernel_rfl) (by kernel_rfl) (by kernel_rfl) (fun _ _ _ h => h) (wanted_free rfl _) (fun W hW => by go_simp) ?_
  try simp only [Act.put, List.getElem_toArray, List.getElem_cons_succ, List.getElem_cons_zero, List.setIfInBounds_toArray, List.set_cons_succ, List.set_cons_zero]
  refine wpAnyC_done (trivial) (by kernel_rfl) ?_
  have h_ := below_drew w6
  replace Oc := Kpt.mk (Oc.out.below h_)
  replace Or := Kpt.mk (Or.out.below h_)
  replace Ov := Kpt.mk (Ov.out.below h_)
  replace Rg := Kpt.mk (Rg.out.below h_)
  replace F := Kpt.mk (F.out.below h_)
  replace x3 := hcm3.out _ _ Oc.out.bx
  replace x5 := hcm5.out _ _ Oc.out.bx
  replace hb := Kpt.mk (hb.out.trans (h_.mono hb.out.size))
  clear h_
  go_wp2_with (first
      | (have hm := m14; refine wpList_store_bx rfl 32 _ _ rfl br _ ((nuS 14 7424 pl)).vals rfl rfl Or.out.bx rfl infoS (Sn.vals_one _) rfl ?_; intro w15 hX_ hg_; replace Oc := Kpt.mk (Oc.out.other hg_ (by omega)); replace Ov := Kpt.mk (Ov.out.other hg_ (by omega)); replace Oz := Kpt.mk (Oz.out.other hg_ (by omega)); replace Ou := Kpt.mk (Ou.out.other hg_ (by omega)); replace Rg := Kpt.mk (Rg.out.other hg_ (by omega)); replace F := Kpt.mk (F.out.own Or.out hg_ hSl hDl); replace Or := Kpt.mk (Or.out.set hX_); replace x3 := hcm3.out _ _ Oc.out.bx; replace x5 := hcm5.out _ _ Oc.out.bx; clear hX_ hg_; clear hm m14; have m15 : Kpt True := ⟨trivial⟩)
      | (go_at_call 22; have hm := m13; go_must (refine (HE1.out _).mono ?_; rintro e w10 ⟨rfl, h_⟩; replace Oc := Kpt.mk (Oc.out.below h_); replace Or := Kpt.mk (Or.out.below h_); replace Ov := Kpt.mk (Ov.out.below h_); replace Oz := Kpt.mk (Oz.out.below h_); replace Ou := Kpt.mk (Ou.out.below h_); replace Rg := Kpt.mk (Rg.out.below h_); replace F := Kpt.mk (F.out.below h_); replace x3 := hcm3.out _ _ Oc.out.bx; replace x5 := hcm5.out _ _ Oc.out.bx; clear h_; clear hm m13; have m14 : Kpt True := ⟨trivial⟩))
      | (have hm := m12; refine wpList_store_bx rfl 32 _ _ rfl bu _ ((nuS 14 7424 pl)).vals rfl rfl Ou.out.bx rfl infoS (Sn.vals_one _) rfl ?_; intro w13 hX_ hg_; replace Oc := Kpt.mk (Oc.out.other hg_ (by omega)); replace Or := Kpt.mk (Or.out.other hg_ (by omega)); replace Ov := Kpt.mk (Ov.out.other hg_ (by omega)); replace Oz := Kpt.mk (Oz.out.other hg_ (by omega)); replace Rg := Kpt.mk (Rg.out.other hg_ (by omega)); replace F := Kpt.mk (F.out.own Ou.out hg_ hSl hDl); replace Ou := Kpt.mk (Ou.out.set hX_); replace x3 := hcm3.out _ _ Oc.out.bx; replace x5 := hcm5.out _ _ Oc.out.bx; clear hX_ hg_; clear hm m12; have m13 : Kpt True := ⟨trivial⟩)
      | (have hm := m11; refine wpList_var rfl 32 rfl zeroS zeroSi ?_; intro bu w_u hl_ hX_ h_; have q_c_u : bc < bu := Nat.lt_of_lt_of_le Oc.out.bx.lt hl_; have q_r_u : br < bu := Nat.lt_of_lt_of_le Or.out.bx.lt hl_; have q_v_u : bv < bu := Nat.lt_of_lt_of_le Ov.out.bx.lt hl_; have q_z_u : bz < bu := Nat.lt_of_lt_of_le Oz.out.bx.lt hl_; have q_g_u : gg < bu := Nat.lt_of_lt_of_le Rg.out.lt hl_; have Ou := Kpt.mk (F.out.new hl_ hX_); replace Oc := Kpt.mk (Oc.out.below h_); replace Or := Kpt.mk (Or.out.below h_); replace Ov := Kpt.mk (Ov.out.below h_); replace Oz := Kpt.mk (Oz.out.below h_); replace Rg := Kpt.mk (Rg.out.below h_); replace F := Kpt.mk (F.out.below h_); replace x3 := hcm3.out _ _ Oc.out.bx; replace x5 := hcm5.out _ _ Oc.out.bx; clear hl_ hX_ h_; clear hm m11; have m12 : Kpt True := ⟨trivial⟩)
      | (go_at_call 60; have hm := m10; go_must (refine (HC.out _ _ _ F.out.dv Rg.out.row Rg.out.bare).mono ?_; rintro e w9 ⟨rfl, tag9, hW_, s_⟩; replace Oc := Kpt.mk (Oc.out.call s_); replace Or := Kpt.mk (Or.out.call s_); replace Ov := Kpt.mk (Ov.out.call s_); replace Oz := Kpt.mk (Oz.out.call s_); replace Rg := Kpt.mk (Rg.out.call s_); replace F := Kpt.mk (F.out.call hW_ s_); replace x3 := hcm3.out _ _ Oc.out.bx; replace x5 := hcm5.out _ _ Oc.out.bx; clear hW_ s_; clear hm m10; have m11 : Kpt True := ⟨trivial⟩))
      | (go_at_call 22; have hm := m9; go_must (refine (HE0.out _).mono ?_; rintro e w8 ⟨rfl, h_⟩; replace Oc := Kpt.mk (Oc.out.below h_); replace Or := Kpt.mk (Or.out.below h_); replace Ov := Kpt.mk (Ov.out.below h_); replace Oz := Kpt.mk (Oz.out.below h_); replace Rg := Kpt.mk (Rg.out.below h_); replace F := Kpt.mk (F.out.below h_); replace x3 := hcm3.out _ _ Oc.out.bx; replace x5 := hcm5.out _ _ Oc.out.bx; replace hb := Kpt.mk (hb.out.trans (h_.mono hb.out.size)); clear h_; clear hm m9; have m10 : Kpt True := ⟨trivial⟩))
      | (have hm := m8; refine wpList_store_bx rfl 32 _ _ rfl bz _ (noS).vals rfl rfl Oz.out.bx rfl infoS (Sn.vals_one _) rfl ?_; intro w9 hX_ hg_; replace hb := Kpt.mk (hb.out.trans (Below.ofGrown hg_ hb.out.size Oz.out.lo)); replace Oc := Kpt.mk (Oc.out.other hg_ (by omega)); replace Or := Kpt.mk (Or.out.other hg_ (by omega)); replace Ov := Kpt.mk (Ov.out.other hg_ (by omega)); replace Rg := Kpt.mk (Rg.out.other hg_ (by omega)); replace F := Kpt.mk (F.out.own Oz.out hg_ hSl hDl); replace Oz := Kpt.mk (Oz.out.set hX_); replace x3 := hcm3.out _ _ Oc.out.bx; replace x5 := hcm5.out _ _ Oc.out.bx; clear hX_ hg_; clear hm m8; have m9 : Kpt True := ⟨trivial⟩)
      | (have hm := m7; refine wpList_var rfl 32 rfl zeroS zeroSi ?_; intro bz w_z hl_ hX_ h_; have q_c_z : bc < bz := Nat.lt_of_lt_of_le Oc.out.bx.lt hl_; have q_r_z : br < bz := Nat.lt_of_lt_of_le Or.out.bx.lt hl_; have q_v_z : bv < bz := Nat.lt_of_lt_of_le Ov.out.bx.lt hl_; have q_g_z : gg < bz := Nat.lt_of_lt_of_le Rg.out.lt hl_; have Oz := Kpt.mk (F.out.new hl_ hX_); replace Oc := Kpt.mk (Oc.out.below h_); replace Or := Kpt.mk (Or.out.below h_); replace Ov := Kpt.mk (Ov.out.below h_); replace Rg := Kpt.mk (Rg.out.below h_); replace F := Kpt.mk (F.out.below h_); replace x3 := hcm3.out _ _ Oc.out.bx; replace x5 := hcm5.out _ _ Oc.out.bx; replace hb := Kpt.mk (hb.out.trans (h_.mono hb.out.size)); clear hl_ hX_ h_; clear hm m7; have m8 : Kpt True := ⟨trivial⟩)
      | (go_at_call 67; have hm := m6; go_must (refine (HPr.out _ _ F.out.dv.bx Rg.out.row (by have := Rg.out.lo; omega)).mono ?_; rintro e w7 ⟨rfl, hrow_, hg_⟩; replace Oc := Kpt.mk (Oc.out.other hg_ (by omega)); replace Or := Kpt.mk (Or.out.other hg_ (by omega)); replace Ov := Kpt.mk (Ov.out.other hg_ (by omega)); replace hb := Kpt.mk (hb.out.trans (Below.ofGrown hg_ hb.out.size Rg.out.lo)); replace F := Kpt.mk (F.out.turn Rg.out hg_ hSl hDl); replace Rg := Kpt.mk (Rb.mk (w := w) hrow_ Rg.out.lo Rg.out.bare); replace x3 := hcm3.out _ _ Oc.out.bx; replace x5 := hcm5.out _ _ Oc.out.bx; clear hrow_ hg_; clear hm m6; have m7 : Kpt True := ⟨trivial⟩))
      | (refine wpList_load_bx rfl 38 _ rfl bc CV rfl Oc.out.bx _ Try.underlying38 rfl (by rw [hCs.out]; exact infoC) ?_)
      | (refine wpList_load_bx rfl 32 _ rfl bv (noS).vals rfl Ov.out.bx _ Try.underlying32 rfl infoS ?_)
      | (refine wpList_load_bx rfl 32 _ rfl bz (noS).vals rfl Oz.out.bx _ Try.underlying32 rfl infoS ?_)
      | (refine wpList_load_bx rfl 32 _ rfl bu ((nuS 14 7424 pl)).vals rfl Ou.out.bx _ Try.underlying32 rfl infoS ?_)
      | fail)
  refine bodyPost_ret (v := .agg ((nuS 14 7424 pl)).vals) (by simp [results, Try.results48, asAddr, Act.put, res_run Or.out.bx]) rfl ⟨rfl, _, F.out.dv.wd, F.out.st⟩

end Go.Proofs.Ytklboieemljmiaa

namespace Go.Proofs.Ytklboieemljmiaa
open Go.RowKit
set_option linter.unusedVariables false
set_option linter.unusedSimpArgs false
theorem doCmpw_same (w : World) (B : Nat) (tag : Tags) (st : St) (f : ByteArray) (S D N : Nat) (k : Int) (ca : Bool) (l n m cp : Nat) (a : Option Addr) (zs : List Int) (c : Cm) (h : Dv w B tag st f S D N k ca) (hf1 : 1 ≤ f.size) (hf2 : f.size ≤ 32) (hN : N ≤ 4096) (hc : st.cnt < 400000000000) (hcw : st.waits.length < 1000000) (hf : ∀ i, st.fails i = false) (hw : Wrs st.waits) (hG : Good (st.seen f)) (h0 : 0 ≤ k) (h1 : k ≤ 3) (hpr : c.pr = 0) (hkd : c.kd = 14) (hl : c.lba = (l : Nat)) (hbl : c.bl = (n : Nat)) (hn1 : 1 ≤ n) (hin : l + n ≤ N) (hlk : lookS k c.pr l (rdL (st.seen f) l n) = noS) (hr : RdAt w (.slice a m cp) zs) (hlz : zs.length = m) (hby : Bytes zs) (hm : m = 2 * n * 16) (hd : ∀ j x y, j < n → (rdL (st.seen f) l n)[j]? = some x → (unBs false zs n)[j]? = some y → x.d = y.d) :
    Calls Try.prog 11 #[.pointer (some ⟨D, 0, none⟩), .agg c.vals, .slice a m cp] w fun e w' => e = .returned (.agg (resV 0 noS (.slice none 0 0))) ∧ Aft w w' B tag (wrF (rdSt st n) f l (prL k l (unBs false (zs.drop (n * 16)) n)) ca c.fua) :=
  do_0 w B tag st f S D N k ca c _ _ h (fun W hb => answer_act W B tag st f S D N k ca c _ noS _ (h.below hb) (by omega) (by omega) (fun W2 hb2 => refuse_in W2 B tag st f S D N k ca l n c ((h.below hb).below hb2) hN h0 (by omega) (by rw [hpr]; unfold knownB; exact decide_eq_true (by omega)) (by omega) (by omega) hl hbl hin)
    (fun W2 hb2 => act_14 W2 B tag st f S D N k ca c _ noS _ ((h.below hb).below hb2) hkd (fun W3 hb3 =>
      cmpw_same W3 B tag st f S D N k ca l n m cp a zs c (((h.below hb).below hb2).below hb3) hf1 hf2 hN hc hcw hf hw hG h0 (by omega) hpr hl hbl hn1 hin hlk (rd_below (rd_below (rd_below hr hb) hb2) hb3) hlz hby hm hd)))
theorem doCmpw_dif (w : World) (B : Nat) (tag : Tags) (st : St) (f : ByteArray) (S D N : Nat) (k : Int) (ca : Bool) (l n m cp : Nat) (a : Option Addr) (zs : List Int) (c : Cm) (h : Dv w B tag st f S D N k ca) (hf1 : 1 ≤ f.size) (hf2 : f.size ≤ 32) (hN : N ≤ 4096) (hc : st.cnt < 400000000000) (hcw : st.waits.length < 1000000) (hf : ∀ i, st.fails i = false) (hw : Wrs st.waits) (hG : Good (st.seen f)) (h0 : 0 ≤ k) (h1 : k ≤ 3) (hpr : c.pr = 0) (hkd : c.kd = 14) (hl : c.lba = (l : Nat)) (hbl : c.bl = (n : Nat)) (hn1 : 1 ≤ n) (hin : l + n ≤ N) (hlk : lookS k c.pr l (rdL (st.seen f) l n) = noS) (hr : RdAt w (.slice a m cp) zs) (hlz : zs.length = m) (hby : Bytes zs) (hm : m = 2 * n * 16) (pl : Nat) (hpl : pl < 1000000) (hd : Dif (rdL (st.seen f) l n) (unBs false zs n) pl) :
    Calls Try.prog 11 #[.pointer (some ⟨D, 0, none⟩), .agg c.vals, .slice a m cp] w fun e w' => e = .returned (.agg (resV 2 (nuS 14 7424 pl) (.slice none 0 0))) ∧ Aft w w' B tag (rdSt st n) :=
  do_s w B tag st f S D N k ca c _ (nuS 14 7424 pl) (show (14 : Int) ≠ 0 by decide) _ h (fun W hb => answer_act W B tag st f S D N k ca c _ (nuS 14 7424 pl) _ (h.below hb) (by omega) (by omega) (fun W2 hb2 => refuse_in W2 B tag st f S D N k ca l n c ((h.below hb).below hb2) hN h0 (by omega) (by rw [hpr]; unfold knownB; exact decide_eq_true (by omega)) (by omega) (by omega) hl hbl hin)
    (fun W2 hb2 => act_14 W2 B tag st f S D N k ca c _ (nuS 14 7424 pl) _ ((h.below hb).below hb2) hkd (fun W3 hb3 =>
      cmpw_dif W3 B tag st f S D N k ca l n m cp a zs c (((h.below hb).below hb2).below hb3) hf1 hf2 hN hc hcw hf hw hG h0 (by omega) hpr hl hbl hn1 hin hlk (rd_below (rd_below (rd_below hr hb) hb2) hb3) hlz hby hm pl hpl hd)))
/-- The first place of difference, from the end. -/
def fdR (T U : List Int) (L : Nat) : Nat → Int
  | 0 => -1
  | d + 1 => if T.getD (L - (d + 1)) 0 ≠ U.getD (L - (d + 1)) 0 then ((L - (d + 1) : Nat) : Int) else fdR T U L d
theorem fdR_none {T U : List Int} {L : Nat} (h : ∀ j, j < L → T.getD j 0 = U.getD j 0) : ∀ d, d ≤ L → fdR T U L d = -1
  | 0, _ => rfl
  | d + 1, hd => by rw [fdR, if_neg (by rw [h _ (by omega)]; simp), fdR_none h d (by omega)]
theorem fdR_at {T U : List Int} {L pl : Nat} (hp : pl < L) (hne : T.getD pl 0 ≠ U.getD pl 0) (h : ∀ j, j < pl → T.getD j 0 = U.getD j 0) : ∀ d, L - pl ≤ d → d ≤ L → fdR T U L d = pl
  | 0, h1, _ => by omega
  | d + 1, h1, h2 => by
    rw [fdR]
    by_cases e : L - (d + 1) = pl
    · rw [e, if_pos hne]
    · rw [if_neg (by rw [h _ (by omega)]; simp), fdR_at hp hne h d (by omega) (by omega)]
theorem rd_byte {w : World} {g o n cp : Nat} {zs : List Int} (h : RdAt w (.slice (some ⟨g, o, none⟩) n cp) zs) (hl : zs.length = n) (j : Nat) (hj : j < n) : w.cell? ⟨g, o + j, none⟩ = some (.int .u8 (zs.getD j 0)) := by
  obtain ⟨sa, sc, e, _, _, h3⟩ := h
  simp only [Value.slice.injEq] at e
  rcases h3 with h3 | ⟨b, off, ha, hc⟩
  · omega
  · rw [ha] at e
    obtain ⟨e1, _, _⟩ := e
    cases e1
    refine hc j _ ?_
    unfold cels
    rw [List.getElem?_map, List.getElem?_eq_getElem (by omega), List.getD_eq_getElem?_getD, List.getElem?_eq_getElem (by omega)]
    rfl
def s1C (T : List Int) (l n : Nat) : St := wrF st0 nmF l (prL 1 l (unBs false T n)) true false
theorem fine1 (T : List Int) (l n : Nat) (hb : Bytes T) (hT : T.length = n * 16) (hn : n ≤ 4) : Fine 50 (s1C T l n) nmF := by
  have := (fine0 nmF).write l (prL 1 l (unBs false T n)) (prL_ok 1 l _ (unBs_ok false T n hb hT)) true false
  rw [prL_len, unBs_len] at this
  exact ⟨by have := this.cnt; show (s1C T l n).cnt ≤ 50; unfold s1C; omega, by have := this.wl; show (s1C T l n).waits.length ≤ 50; unfold s1C; omega, this.fails, this.wrs, this.good⟩
theorem rd1 (T : List Int) (l n : Nat) (hb : Bytes T) (hT : T.length = n * 16) : rdL ((s1C T l n).seen nmF) l n = prL 1 l (unBs false T n) := by
  have := rd_wr (st := st0) (f := nmF) good_none l (prL 1 l (unBs false T n)) (prL_ok 1 l _ (unBs_ok false T n hb hT)) true false
  rw [prL_len, unBs_len] at this
  exact this
/-- Where two rows of bytes differ first. -/
theorem dif_at (T U : List Int) (n pl : Nat) (k : Int) (l : Nat) (hT : T.length = n * 16) (hpl : pl < n * 16) (hne : T.getD pl 0 ≠ U.getD pl 0) (hbe : ∀ j, j < pl → T.getD j 0 = U.getD j 0) (hU : n * 16 ≤ U.length) : Dif (prL k l (unBs false T n)) (unBs false U n) pl := by
  have ha : pl / 16 < n := by omega
  have hm : pl / 16 * 16 + pl % 16 = pl := by omega
  refine ⟨pl / 16, pl % 16, prB k (l + pl / 16) (unB false T (pl / 16)), unB false U (pl / 16), by omega, ?_, unBs_at _ _ _ _ ha, by omega, ?_, ?_, ?_⟩
  · rw [prL_at, unBs_at _ _ _ _ ha]; rfl
  · show ((T.drop (pl / 16 * 16)).take 16).getD (pl % 16) 0 ≠ ((U.drop (pl / 16 * 16)).take 16).getD (pl % 16) 0
    rw [cut_getD _ _ _ (by omega), cut_getD _ _ _ (by omega), hm]
    exact hne
  · intro q hq
    show ((T.drop (pl / 16 * 16)).take 16).getD q 0 = ((U.drop (pl / 16 * 16)).take 16).getD q 0
    rw [cut_getD _ _ _ (by omega), cut_getD _ _ _ (by omega), hbe _ (by omega)]
  · intro q x y hq hx hy
    rw [prL_at, unBs_at _ _ _ _ (by omega)] at hx
    rw [unBs_at _ _ _ _ (by omega)] at hy
    simp only [Option.map_some, Option.some.injEq] at hx hy
    subst hx hy
    show (T.drop (q * 16)).take 16 = (U.drop (q * 16)).take 16
    refine List.ext_getElem (by simp; omega) (fun j h1 h2 => ?_)
    have hj : j < 16 := by simp at h1; omega
    have e := cut_getD T q j hj
    have e' := cut_getD U q j hj
    rw [List.getD_eq_getElem?_getD, List.getElem?_eq_getElem h1, Option.getD_some] at e
    rw [List.getD_eq_getElem?_getD, List.getElem?_eq_getElem h2, Option.getD_some] at e'
    rw [e, e', hbe _ (by omega)]

end Go.Proofs.Ytklboieemljmiaa

namespace Go.Proofs.Ytklboieemljmiaa
open Go.RowKit
set_option linter.unusedVariables false
set_option linter.unusedSimpArgs false
set_option maxRecDepth 100000 in
set_option maxHeartbeats 1000000 in
theorem compares_short (a0 a1 a2 : Option Addr) (l0 c0 l1 c1 l2 c2 n L q l : Nat) (at_ ct : Int) (w : World) (hct : (1 : Int) + ct % 4 = n) (hn4 : n ≤ 4) (hn1 : 1 ≤ n) (e17 : (17 : Int) - n = q) (hq : 13 ≤ q) (hl : at_ % (q : Int) = l) (eL : (16 : Int) * n = L) (hc : 0 ≤ ct ∧ ct ≤ 255) (ha : 0 ≤ at_ ∧ at_ ≤ 255) (hs : l0 < L ∨ l1 < L ∨ l2 < L) :
    Calls Try.prog 3 #[.slice a0 l0 c0, .slice a1 l1 c1, .slice a2 l2 c2, .int .u8 at_, .int .u8 ct] w fun e w' => e = .returned (.bool true) ∧ Below w.heap.size w w' := by
  have HA := Kpt.mk (awake_any w)
  have hL : L ≤ 64 := by omega
  by_cases g0 : l0 < L
  · have b0 : (l0 : Int) < L := by omega
    go_enter Try.func3, Try.ntmps3
    go_wp2_with (first | (go_at_call 9; go_must (refine HA.out.mono ?_; rintro e w1 ⟨rfl, hb1⟩; replace hb1 := Kpt.mk hb1)) | fail)
    go_ret
    exact ⟨rfl, hb1.out⟩
  · have b0 : ¬ (l0 : Int) < L := by omega
    have b0' : decide ((l0 : Int) < L) = false := decide_eq_false b0
    by_cases g1 : l1 < L
    · have b1 : (l1 : Int) < L := by omega
      go_enter Try.func3, Try.ntmps3
      go_wp2_with (first | (go_at_call 9; go_must (refine HA.out.mono ?_; rintro e w1 ⟨rfl, hb1⟩; replace hb1 := Kpt.mk hb1)) | fail)
      go_ret
      exact ⟨rfl, hb1.out⟩
    · have b1 : ¬ (l1 : Int) < L := by omega
      have b1' : decide ((l1 : Int) < L) = false := decide_eq_false b1
      have b2 : (l2 : Int) < L := by omega
      go_enter Try.func3, Try.ntmps3
      go_wp2_with (first | (go_at_call 9; go_must (refine HA.out.mono ?_; rintro e w1 ⟨rfl, hb1⟩; replace hb1 := Kpt.mk hb1)) | fail)
      go_ret
      exact ⟨rfl, hb1.out⟩

set_option maxRecDepth 100000 in
set_option maxHeartbeats 2000000 in
theorem compares_same (g0 o0 g1 o1 g2 o2 l0 c0 l1 c1 l2 c2 n L q l : Nat) (at_ ct : Int) (T U V : List Int) (w : World) (hct : (1 : Int) + ct % 4 = n) (hn4 : n ≤ 4) (hn1 : 1 ≤ n) (e17 : (17 : Int) - n = q) (hq : 13 ≤ q) (hl : at_ % (q : Int) = l) (hln : l + n ≤ 16) (hLn : L = n * 16) (hc : 0 ≤ ct ∧ ct ≤ 255) (ha : 0 ≤ at_ ∧ at_ ≤ 255)
    (hL0 : L ≤ l0) (hL1 : L ≤ l1) (hL2 : L ≤ l2) (hc0 : l0 ≤ c0) (hc1 : l1 ≤ c1) (hc2 : l2 ≤ c2) (hm0 : l0 ≤ maxLen) (hm1 : l1 ≤ maxLen) (hm2 : l2 ≤ maxLen) (hg0 : g0 < w.heap.size) (hg1 : g1 < w.heap.size) (hg2 : g2 < w.heap.size)
    (hT : RdAt w (.slice (some ⟨g0, o0, none⟩) L c0) T) (hU : RdAt w (.slice (some ⟨g1, o1, none⟩) L c1) U) (hV : RdAt w (.slice (some ⟨g2, o2, none⟩) L c2) V) (hTl : T.length = L) (hUl : U.length = L) (hVl : V.length = L) (hTb : Bytes T) (hUb : Bytes U) (hVb : Bytes V) (heq : ∀ j, j < L → T.getD j 0 = U.getD j 0) :
    Calls Try.prog 3 #[.slice (some ⟨g0, o0, none⟩) l0 c0, .slice (some ⟨g1, o1, none⟩) l1 c1, .slice (some ⟨g2, o2, none⟩) l2 c2, .int .u8 at_, .int .u8 ct] w fun e w' => e = .returned (.bool true) ∧ Below w.heap.size w w' := by
  have HA := Kpt.mk (awake_any w)
  have HD := Kpt.mk (fun W => device_any 16 1 true W (by decide) (by decide))
  have hF := fine1 T l n hTb (by rw [hTl, hLn]) hn4
  have hr1 := rd1 T l n hTb (by rw [hTl, hLn])
  have HW : Kpt (∀ W B tag S D, Dv W B tag st0 nmF S D 16 1 true → RdAt W (.slice (some ⟨g0, o0, none⟩) L c0) T → Calls Try.prog 11 #[.pointer (some ⟨D, 0, none⟩), .agg (Cm.vals ⟨8, false, ((l : Nat) : Int), ((n : Nat) : Int), 0, false, 0, false, false, 0, 0, false, 0, 0, false⟩), .slice (some ⟨g0, o0, none⟩) L c0] W fun e w' => e = .returned (.agg (resV 0 noS (.slice none 0 0))) ∧ Aft W w' B tag (s1C T l n)) :=
    ⟨fun W B tag S D h hr => doWrite_8 W B tag st0 nmF S D 16 1 true l n L c0 _ T ⟨8, false, ((l : Nat) : Int), ((n : Nat) : Int), 0, false, 0, false, false, 0, 0, false, 0, 0, false⟩ h (by decide) (by decide) (by decide) (by decide) (by decide) (fun _ => rfl) (fun c hc => by cases hc) (by decide) (by decide) rfl rfl rfl (by omega) hr hTl hTb hLn rfl⟩
  obtain ⟨s1, hs1⟩ : ∃ s, s = s1C T l n := ⟨_, rfl⟩
  rw [← hs1] at HW hF hr1
  have hlk1 : lookS 1 0 l (rdL (s1.seen nmF) l n) = noS := by rw [hr1]; exact look_pr 1 0 l _
  obtain ⟨BB, hBB⟩ : ∃ BB, BB = U ++ V := ⟨_, rfl⟩
  have hBl : BB.length = 2 * n * 16 := by rw [hBB, List.length_append]; omega
  have hBb : Bytes BB := bytes_of BB (fun x hx => by
    rw [hBB, List.mem_append] at hx
    rcases hx with hx | hx
    · exact Bytes.mem hUb x hx
    · exact Bytes.mem hVb x hx)
  have hgB : ∀ j, j < L → BB.getD j 0 = U.getD j 0 := fun j hj => by
    rw [hBB]; simp only [List.getD_eq_getElem?_getD]; rw [List.getElem?_append_left (by omega)]
  have hdr : BB.drop (n * 16) = V := by rw [hBB, ← hLn, ← hUl, List.drop_left]
  have hd1 : ∀ j x y, j < n → (rdL (s1.seen nmF) l n)[j]? = some x → (unBs false BB n)[j]? = some y → x.d = y.d := fun j x y hj hx hy => by
    rw [hr1, prL_at, unBs_at _ _ _ _ hj] at hx
    rw [unBs_at _ _ _ _ hj] at hy
    simp only [Option.map_some, Option.some.injEq] at hx hy
    subst hx hy
    show (T.drop (j * 16)).take 16 = (BB.drop (j * 16)).take 16
    refine List.ext_getElem (by simp; omega) (fun i k1 k2 => ?_)
    have hi : i < 16 := by simp at k1; omega
    have e := cut_getD T j i hi
    have e' := cut_getD BB j i hi
    rw [List.getD_eq_getElem?_getD, List.getElem?_eq_getElem k1, Option.getD_some] at e
    rw [List.getD_eq_getElem?_getD, List.getElem?_eq_getElem k2, Option.getD_some] at e'
    rw [e, e', hgB _ (by omega), heq _ (by omega)]
  have hok2 := prL_ok 1 l _ (unBs_ok false V n hVb (by rw [hVl, hLn]; rfl))
  have hF2 := (hF.read n).write l (prL 1 l (unBs false V n)) hok2 true false
  rw [prL_len, unBs_len] at hF2
  have hr2 : rdL ((wrF (rdSt s1 n) nmF l (prL 1 l (unBs false V n)) true false).seen nmF) l n = prL 1 l (unBs false V n) := by
    have := rd_wr (st := rdSt s1 n) (f := nmF) hF.good l (prL 1 l (unBs false V n)) hok2 true false
    rw [prL_len, unBs_len] at this
    exact this
  have hst := hdr
  have HC : Kpt (∀ W B tag S D g cp, Dv W B tag s1 nmF S D 16 1 true → RdAt W (.slice (some ⟨g, 0, none⟩) (L + L) cp) BB → Calls Try.prog 11 #[.pointer (some ⟨D, 0, none⟩), .agg (Cm.vals ⟨14, false, ((l : Nat) : Int), ((n : Nat) : Int), 0, false, 0, false, false, 0, 0, false, 0, 0, false⟩), .slice (some ⟨g, 0, none⟩) (L + L) cp] W fun e w' => e = .returned (.agg (resV 0 noS (.slice none 0 0))) ∧ Aft W w' B tag (wrF (rdSt s1 n) nmF l (prL 1 l (unBs false V n)) true false)) :=
    ⟨fun W B tag S D g cp h hr => by
      have := doCmpw_same W B tag s1 nmF S D 16 1 true l n (L + L) cp _ BB ⟨14, false, ((l : Nat) : Int), ((n : Nat) : Int), 0, false, 0, false, false, 0, 0, false, 0, 0, false⟩ h (by decide) (by decide) (by decide) (by have := hF.cnt; omega) (by have := hF.wl; omega) hF.fails hF.wrs hF.good (by decide) (by decide) rfl rfl rfl rfl hn1 (by omega) hlk1 hr (by omega) hBb (by omega) hd1
      rw [hdr] at this
      exact this⟩
  have HR : Kpt (∀ W B tag S D, Dv W B tag (wrF (rdSt s1 n) nmF l (prL 1 l (unBs false V n)) true false) nmF S D 16 1 true → Calls Try.prog 11 #[.pointer (some ⟨D, 0, none⟩), .agg (Cm.vals ⟨7, false, ((l : Nat) : Int), ((n : Nat) : Int), 0, false, 0, false, false, 0, 0, false, 0, 0, false⟩), .slice none 0 0] W fun e w' => ∃ g cap, e = .returned (.agg (resV 0 noS (.slice (some ⟨g, 0, none⟩) L cap))) ∧ Got W w' B tag (rdSt (wrF (rdSt s1 n) nmF l (prL 1 l (unBs false V n)) true false) n) g L cap V) :=
    ⟨fun W B tag S D h => by
      have := doRead W B tag (wrF (rdSt s1 n) nmF l (prL 1 l (unBs false V n)) true false) nmF S D 16 1 true l n ⟨7, false, ((l : Nat) : Int), ((n : Nat) : Int), 0, false, 0, false, false, 0, 0, false, 0, 0, false⟩ (.slice none 0 0) h (by decide) (by decide) (by decide) (by have := hF2.cnt; omega) hF2.fails hF2.good (by decide) (by decide) (show (0 : Int) ≤ 0 by decide) (show (0 : Int) ≤ 4 by decide) (show knownB 1 0 = true by decide) rfl rfl rfl (by omega) (by rw [hr2]; exact look_pr 1 0 l _)
      rw [hr2] at this
      rw [show packL ((0 : Int) != 0) (prL 1 l (unBs false V n)) = V from pack_pr 1 l V n (by omega), show n * sz ((0 : Int) != 0) = L from by rw [hLn]; rfl] at this
      exact this⟩
  obtain ⟨s2, hs2⟩ : ∃ s, s = wrF (rdSt s1 n) nmF l (prL 1 l (unBs false V n)) true false := ⟨_, rfl⟩
  rw [← hs2] at HC HR
  simp only [Cm.vals] at HW HC HR
  obtain ⟨LL, hLL⟩ : ∃ x, x = L + L := ⟨_, rfl⟩
  rw [← hLL] at HC
  have eL : (16 : Int) * n = L := by omega
  have en : IntKind.u64.wrap (n : Int) = n := by rw [IntKind.wrap_u64]; omega
  have el : IntKind.u64.wrap (l : Int) = l := by rw [IntKind.wrap_u64]; omega
  have bl0 : ¬ (l0 : Int) < L := by omega
  have bl1 : ¬ (l1 : Int) < L := by omega
  have bl2 : ¬ (l2 : Int) < L := by omega
  have bd0 : decide ((l0 : Int) < L) = false := decide_eq_false bl0
  have bd1 : decide ((l1 : Int) < L) = false := decide_eq_false bl1
  have hLp : 1 ≤ L ∧ L ≤ 64 := by omega
  have hfd := Kpt.mk (fdR_none heq L (Nat.le_refl _))
  have hTK := Kpt.mk hT
  have hUK := Kpt.mk hU
  have hVK := Kpt.mk hV
  replace hTl := Kpt.mk hTl
  replace hUl := Kpt.mk hUl
  replace hVl := Kpt.mk hVl
  replace hBB := Kpt.mk hBB
  replace hLL := Kpt.mk hLL
  replace hLn := Kpt.mk hLn
  clear hs1 hs2 hr1 hr2 hd1 hF hF2 hlk1 hBl hBb hgB hT hU hV hTb hUb hVb hdr hst hok2 heq
  go_enter Try.func3, Try.ntmps3
  go_wp2_with (first
      | (have hm := m10; refine wpList_store_bx rfl 34 _ _ rfl be _ (resV 0 noS (.slice (some ⟨gy, 0, none⟩) L cy)) rfl rfl Oe.out.bx rfl infoR (resV_one _ _ _ _ _) rfl ?_; intro w11 hX_ hg_; replace Oa := Kpt.mk (Oa.out.other hg_ (by omega)); replace Od := Kpt.mk (Od.out.other hg_ (by omega)); replace Rz := Kpt.mk (Rz.out.other hg_ (by omega)); replace Ry := Kpt.mk (Ry.out.other hg_ (by omega)); replace IT := Kpt.mk (IT.out.other hg_ Oe.out.lo); replace IU := Kpt.mk (IU.out.other hg_ Oe.out.lo); replace IV := Kpt.mk (IV.out.other hg_ Oe.out.lo); replace F := Kpt.mk (F.out.own Oe.out hg_ hSl hDl); replace Oe := Kpt.mk (Oe.out.set hX_); clear hX_ hg_; clear hm m10; have m11 : Kpt True := ⟨trivial⟩)
      | (have hm := m9; refine wpList_var rfl 34 rfl zeroR zeroRi ?_; intro be w_e hl_ hX_ h_; have q_a_e : ba < be := Nat.lt_of_lt_of_le Oa.out.bx.lt hl_; have q_d_e : bd < be := Nat.lt_of_lt_of_le Od.out.bx.lt hl_; have q_z_e : gz < be := Nat.lt_of_lt_of_le Rz.out.lt hl_; have q_y_e : gy < be := Nat.lt_of_lt_of_le Ry.out.lt hl_; have Oe := Kpt.mk (F.out.new hl_ hX_); replace Oa := Kpt.mk (Oa.out.below h_); replace Od := Kpt.mk (Od.out.below h_); replace Rz := Kpt.mk (Rz.out.below h_); replace Ry := Kpt.mk (Ry.out.below h_); replace IT := Kpt.mk (IT.out.below h_); replace IU := Kpt.mk (IU.out.below h_); replace IV := Kpt.mk (IV.out.below h_); replace F := Kpt.mk (F.out.below h_); clear hl_ hX_ h_; clear hm m9; have m10 : Kpt True := ⟨trivial⟩)
      | (go_at_call 11; have hm := m8; go_must (refine (HR.out _ _ _ _ _ F.out.dv).mono ?_; rintro e w9 ⟨gy, cy, rfl, tagC, hW_, s_, hrow_, hgn_⟩; have q_a_y : ba < gy := Nat.lt_of_lt_of_le Oa.out.bx.lt (own_lo hrow_).1; have q_d_y : bd < gy := Nat.lt_of_lt_of_le Od.out.bx.lt (own_lo hrow_).1; have q_z_y : gz < gy := Nat.lt_of_lt_of_le Rz.out.lt (own_lo hrow_).1; have Ry_ := Kpt.mk (Ob.mk (w := w2) (tag' := tagC) (own_base hrow_ F.out.st.size) hgn_); replace Oa := Kpt.mk (Oa.out.call s_); replace Od := Kpt.mk (Od.out.call s_); replace Rz := Kpt.mk (Rz.out.call s_); replace IT := Kpt.mk (IT.out.call s_); replace IU := Kpt.mk (IU.out.call s_); replace IV := Kpt.mk (IV.out.call s_); replace F := Kpt.mk (F.out.call hW_ s_); have Ry := Ry_; clear Ry_; clear hW_ s_ hrow_ hgn_; clear hm m8; have m9 : Kpt True := ⟨trivial⟩))
      | (have hm := m7; refine wpList_store_bx rfl 34 _ _ rfl bd _ (resV 0 noS (.slice none 0 0)) rfl rfl Od.out.bx rfl infoR (resV_one _ _ _ _ _) rfl ?_; intro w8 hX_ hg_; replace Oa := Kpt.mk (Oa.out.other hg_ (by omega)); replace Rz := Kpt.mk (Rz.out.other hg_ (by omega)); replace IT := Kpt.mk (IT.out.other hg_ Od.out.lo); replace IU := Kpt.mk (IU.out.other hg_ Od.out.lo); replace IV := Kpt.mk (IV.out.other hg_ Od.out.lo); replace F := Kpt.mk (F.out.own Od.out hg_ hSl hDl); replace Od := Kpt.mk (Od.out.set hX_); clear hX_ hg_; clear hm m7; have m8 : Kpt True := ⟨trivial⟩)
      | (have hm := m6; refine wpList_var rfl 34 rfl zeroR zeroRi ?_; intro bd w_d hl_ hX_ h_; have q_a_d : ba < bd := Nat.lt_of_lt_of_le Oa.out.bx.lt hl_; have q_z_d : gz < bd := Nat.lt_of_lt_of_le Rz.out.lt hl_; have Od := Kpt.mk (F.out.new hl_ hX_); replace Oa := Kpt.mk (Oa.out.below h_); replace Rz := Kpt.mk (Rz.out.below h_); replace IT := Kpt.mk (IT.out.below h_); replace IU := Kpt.mk (IU.out.below h_); replace IV := Kpt.mk (IV.out.below h_); replace F := Kpt.mk (F.out.below h_); clear hl_ hX_ h_; clear hm m6; have m7 : Kpt True := ⟨trivial⟩)
      | (go_at_call 11; have hm := m5; go_must (refine (HC.out _ _ _ _ _ _ _ F.out.dv (own_rd Rz.out.own)).mono ?_; rintro e wB ⟨rfl, tagB, hW_, s_⟩; replace Oa := Kpt.mk (Oa.out.call s_); replace Rz := Kpt.mk (Rz.out.call s_); replace IT := Kpt.mk (IT.out.call s_); replace IU := Kpt.mk (IU.out.call s_); replace IV := Kpt.mk (IV.out.call s_); replace F := Kpt.mk (F.out.call hW_ s_); clear hW_ s_; clear hm m5; have m6 : Kpt True := ⟨trivial⟩))
      | (at_builtin; have hm := m4; refine wpList_append_new rfl (.tmp 74) (.tmp 78) rfl gq _ _ U V L LL rfl rfl (own_re Rq.out.own (Nat.le_refl _)) IV.out.rd (by rw [hVl.out]; omega) hUl.out (by rw [hVl.out, hLL.out]) (by rw [hLL.out]; omega) (Nat.le_of_lt Rq.out.lt) ?_; intro gz cz w21 ho21 hl21 hg21; have hg_ : w20.grownBy w21 (some gq) := hg21.out; replace Oa := Kpt.mk (Oa.out.other hg_ (by omega)); replace IT := Kpt.mk (IT.out.other hg_ Rq.out.lo); replace IU := Kpt.mk (IU.out.other hg_ Rq.out.lo); replace IV := Kpt.mk (IV.out.other hg_ Rq.out.lo); replace F := Kpt.mk (F.out.turnB Rq.out hg_ hSl hDl); have q_a_z : ba < gz := Nat.lt_of_lt_of_le q_a_q hl21.out.1; have Rz : Kpt (Ob w2 w21 tagA gz LL cz BB) := ⟨⟨own_base (hBB.out ▸ ho21.out) Rq.out.lo, htN.out _ (Nat.le_trans hgo hl21.out.1)⟩⟩; clear hg_ ho21 hl21 hg21 Rq; clear hm m4; have m5 : Kpt True := ⟨trivial⟩)
      | (at_builtin; have hm := m3; refine wpList_append_new rfl (.tmp 68) (.tmp 72) rfl w3.heap.size _ _ [] U 0 L rfl rfl (nil_own _ _) IU.out.rd (by rw [hUl.out]; omega) rfl (by rw [hUl.out]; omega) (by omega) (Nat.le_refl _) ?_; intro gq cq w20 ho20 hl20 hg20; have h_ := belowN hg20.out; have hgo : w3.heap.size ≤ gq := hl20.out.1; have htN := Kpt.mk (fun i (hi : w3.heap.size ≤ i) => wd_none F.out.dv.wd hi); have q_a_q : ba < gq := Nat.lt_of_lt_of_le Oa.out.bx.lt hgo; have Rq : Kpt (Ob w2 w20 tagA gq L cq U) := ⟨⟨own_base ho20.out F.out.st.size, wd_none F.out.dv.wd hgo⟩⟩; replace Oa := Kpt.mk (Oa.out.below h_); replace IT := Kpt.mk (IT.out.below h_); replace IU := Kpt.mk (IU.out.below h_); replace IV := Kpt.mk (IV.out.below h_); replace F := Kpt.mk (F.out.below h_); clear h_ ho20 hl20 hg20; clear hm m3; have m4 : Kpt True := ⟨trivial⟩)
      | (have hm := m2; refine wpList_store_bx rfl 34 _ _ rfl ba _ (resV 0 noS (.slice none 0 0)) rfl rfl Oa.out.bx rfl infoR (resV_one _ _ _ _ _) rfl ?_; intro w3 hX_ hg_; replace IT := Kpt.mk (IT.out.other hg_ Oa.out.lo); replace IU := Kpt.mk (IU.out.other hg_ Oa.out.lo); replace IV := Kpt.mk (IV.out.other hg_ Oa.out.lo); replace F := Kpt.mk (F.out.own Oa.out hg_ hSl hDl); replace Oa := Kpt.mk (Oa.out.set hX_); clear hX_ hg_; clear hm m2; have m3 : Kpt True := ⟨trivial⟩)
      | (have hm := m1; refine wpList_var rfl 34 rfl zeroR zeroRi ?_; intro ba w_a hl_ hX_ h_; have Oa := Kpt.mk (F.out.new hl_ hX_); replace IT := Kpt.mk (IT.out.below h_); replace IU := Kpt.mk (IU.out.below h_); replace IV := Kpt.mk (IV.out.below h_); replace F := Kpt.mk (F.out.below h_); clear hl_ hX_ h_; clear hm m1; have m2 : Kpt True := ⟨trivial⟩)
      | (go_at_call 11; go_must (refine (HW.out _ _ _ _ _ F.out.dv IT.out.rd).mono ?_; rintro e wA ⟨rfl, tagA, hW_, s_⟩; replace IT := Kpt.mk (IT.out.call s_); replace IU := Kpt.mk (IU.out.call s_); replace IV := Kpt.mk (IV.out.call s_); replace F := Kpt.mk (F.out.call hW_ s_); clear hW_ s_; have m1 : Kpt True := ⟨trivial⟩))
      | (go_at_call 10; go_must (go_must (refine (HD.out _).mono ?_; rintro e w2 ⟨D, B, S, tag, rfl, hdv, hb2, ht2⟩; have F := Kpt.mk hdv.fx; have hSl := hdv.sto.lt; have hDl := hdv.bx.lt; have hbT := Kpt.mk (And.intro (hb1.out.trans (hb2.mono hb1.out.size)) (fun i (hi : i < w.heap.size) => ht2 i (Nat.lt_of_lt_of_le hi hb1.out.size))); have IT : Kpt (Yi w2 w2 tag (some ⟨g0, o0, none⟩) L c0 T) := ⟨rd_below hTK.out hbT.out.1, fun g o e => by cases e; exact ⟨Nat.lt_of_lt_of_le hg0 hbT.out.1.size, hbT.out.2 _ hg0⟩, Nat.le_refl _⟩; have IU : Kpt (Yi w2 w2 tag (some ⟨g1, o1, none⟩) L c1 U) := ⟨rd_below hUK.out hbT.out.1, fun g o e => by cases e; exact ⟨Nat.lt_of_lt_of_le hg1 hbT.out.1.size, hbT.out.2 _ hg1⟩, Nat.le_refl _⟩; have IV : Kpt (Yi w2 w2 tag (some ⟨g2, o2, none⟩) L c2 V) := ⟨rd_below hVK.out hbT.out.1, fun g o e => by cases e; exact ⟨Nat.lt_of_lt_of_le hg2 hbT.out.1.size, hbT.out.2 _ hg2⟩, Nat.le_refl _⟩; clear hdv hb2 ht2)))
      | (go_at_call 9; go_must (go_must (refine HA.out.mono ?_; rintro e w1 ⟨rfl, hb1⟩; replace hb1 := Kpt.mk hb1)))
      | fail)
  have hTd := Kpt.mk (fun (W : World) (hb : Below w11.heap.size w11 W) j hj => rd_byte (rd_below IT.out.rd hb) hTl.out j hj)
  have hUd := Kpt.mk (fun (W : World) (hb : Below w11.heap.size w11 W) j hj => rd_byte (rd_below IU.out.rd hb) hUl.out j hj)
  have eL1 : (L : Int) - 1 - ((0 : Nat) : Int) = (L : Int) - 1 := by omega
  try rw [← eL1]
  go_loopw [19, 20] (fun u t wr => ∃ d : Nat, d ≤ L ∧ u = .int .i64 (fdR T U L d) ∧ t = .int .i64 ((L : Int) - 1 - d) ∧ Kpt (Below w11.heap.size w11 wr)) (fun _ t _ => (intOf t + 1).toNat)
  case atStart => exact ⟨0, Nat.zero_le _, rfl, by simp, ⟨Below.refl _ _⟩⟩
  case round =>
    obtain ⟨d, hd, rfl, rfl, hbr⟩ := hrel
    obtain ⟨fd, hfd0⟩ : ∃ x, x = fdR T U L d := ⟨_, rfl⟩
    rw [← hfd0]
    by_cases hlt : d < L
    · obtain ⟨j, hj⟩ : ∃ j : Nat, (L : Int) - 1 - d = j := ⟨L - 1 - d, by omega⟩
      have hjL : j < L := by omega
      have hjd : L - (d + 1) = j := by omega
      have hnx : fdR T U L (d + 1) = if T.getD j 0 ≠ U.getD j 0 then (j : Int) else fd := by rw [fdR, hjd, hfd0]
      have cT := Kpt.mk (fun W hb => hTd.out W hb j hjL)
      have cU := Kpt.mk (fun W hb => hUd.out W hb j hjL)
      obtain ⟨x, hx⟩ : ∃ x, x = T.getD j 0 := ⟨_, rfl⟩
      obtain ⟨y, hy⟩ : ∃ y, y = U.getD j 0 := ⟨_, rfl⟩
      rw [← hx, ← hy] at hnx
      rw [← hx] at cT
      rw [← hy] at cU
      have ge : (0 : Int) ≤ j := by omega
      have hj0 : ¬ l0 ≤ j := by omega
      have hj1 : ¬ l1 ≤ j := by omega
      rw [hj]
      replace hnx := Kpt.mk hnx
      replace hfd0 := Kpt.mk hfd0
      replace hj := Kpt.mk hj
      clear hx hy hjd
      go_wp2_with fail
      refine wp_region_any (by kernel_rfl) ?_
      refine wpAny_of_C (C := fun W => Below w11.heap.size w11 W) _ _ _ _ ?_
      refine wpAnyC_take 0 (.slice (some ⟨g0, o0, none⟩) l0 c0) rfl (by kernel_rfl) (by kernel_rfl) (by kernel_rfl) (fun _ _ _ h => h) (wanted_free rfl _) (fun W hW => by go_simp) ?_
      try simp only [Act.put, List.getElem_toArray, List.getElem_cons_succ, List.getElem_cons_zero, List.setIfInBounds_toArray, List.set_cons_succ, List.set_cons_zero]
      refine wpAnyC_take 1 (.int .i64 j) rfl (by kernel_rfl) (by kernel_rfl) (by kernel_rfl) (fun _ _ _ h => h) (wanted_free rfl _) (fun W hW => by go_simp) ?_
      try simp only [Act.put, List.getElem_toArray, List.getElem_cons_succ, List.getElem_cons_zero, List.setIfInBounds_toArray, List.set_cons_succ, List.set_cons_zero]
      refine wpAnyC_take 2 (.pointer (some ⟨g0, o0 + j, none⟩)) rfl (by kernel_rfl) (by kernel_rfl) (by kernel_rfl) (fun _ _ _ h => h) (wanted_free rfl _) (fun W hW => by go_simp) ?_
      try simp only [Act.put, List.getElem_toArray, List.getElem_cons_succ, List.getElem_cons_zero, List.setIfInBounds_toArray, List.set_cons_succ, List.set_cons_zero]
      refine wpAnyC_take 3 (.int .u8 x) rfl (by kernel_rfl) (by kernel_rfl) (by kernel_rfl) (fun _ _ _ h => h) (wanted_free rfl _) (fun W hW => by have hh := cT.out W hW; go_simp) ?_
      try simp only [Act.put, List.getElem_toArray, List.getElem_cons_succ, List.getElem_cons_zero, List.setIfInBounds_toArray, List.set_cons_succ, List.set_cons_zero]
      refine wpAnyC_take 4 (.slice (some ⟨g1, o1, none⟩) l1 c1) rfl (by kernel_rfl) (by kernel_rfl) (by kernel_rfl) (fun _ _ _ h => h) (wanted_free rfl _) (fun W hW => by go_simp) ?_
      try simp only [Act.put, List.getElem_toArray, List.getElem_cons_succ, List.getElem_cons_zero, List.setIfInBounds_toArray, List.set_cons_succ, List.set_cons_zero]
      refine wpAnyC_take 5 (.int .i64 j) rfl (by kernel_rfl) (by kernel_rfl) (by kernel_rfl) (fun _ _ _ h => h) (wanted_free rfl _) (fun W hW => by go_simp) ?_
      try simp only [Act.put, List.getElem_toArray, List.getElem_cons_succ, List.getElem_cons_zero, List.setIfInBounds_toArray, List.set_cons_succ, List.set_cons_zero]
      refine wpAnyC_take 6 (.pointer (some ⟨g1, o1 + j, none⟩)) rfl (by kernel_rfl) (by kernel_rfl) (by kernel_rfl) (fun _ _ _ h => h) (wanted_free rfl _) (fun W hW => by go_simp) ?_
      try simp only [Act.put, List.getElem_toArray, List.getElem_cons_succ, List.getElem_cons_zero, List.setIfInBounds_toArray, List.set_cons_succ, List.set_cons_zero]
      refine wpAnyC_take 7 (.int .u8 y) rfl (by kernel_rfl) (by kernel_rfl) (by kernel_rfl) (fun _ _ _ h => h) (wanted_free rfl _) (fun W hW => by have hh := cU.out W hW; go_simp) ?_
      try simp only [Act.put, List.getElem_toArray, List.getElem_cons_succ, List.getElem_cons_zero, List.setIfInBounds_toArray, List.set_cons_succ, List.set_cons_zero]
      refine wpAnyC_take 8 (.bool (x != y)) rfl (by kernel_rfl) (by kernel_rfl) (by kernel_rfl) (fun _ _ _ h => h) (wanted_free rfl _) (fun W hW => by go_simp) ?_
      try simp only [Act.put, List.getElem_toArray, List.getElem_cons_succ, List.getElem_cons_zero, List.setIfInBounds_toArray, List.set_cons_succ, List.set_cons_zero]
      refine wpAnyC_done (below_drewN hbr.out 1) (by kernel_rfl) ?_
      have hbr2 : Kpt (Below w11.heap.size w11 wr) := hbr
      by_cases hxy : x = y
      · subst hxy
        have bxy : (x != x) = false := by simp
        go_wp2
        go_roundw
        case rel => exact ⟨d + 1, by omega, by rw [hnx.out, if_neg (by simp)], by have := hj.out; go_num, ⟨below_drewN hbr.out 1⟩⟩
        case measure => have := hj.out; simp [intOf] <;> omega
      · have bxy : (x != y) = true := by simpa using hxy
        go_wp2
        go_roundw
        case rel => exact ⟨d + 1, by omega, by rw [hnx.out, if_pos hxy], by have := hj.out; go_num, ⟨below_drewN hbr.out 1⟩⟩
        case measure => have := hj.out; simp [intOf] <;> omega
    · have ed : d = L := by omega
      subst ed
      rw [hfd.out] at hfd0
      subst hfd0
      have en1 : (d : Int) - 1 - d = -1 := by omega
      rw [en1]
      have h_ := hbr.out
      replace Oa := Kpt.mk (Oa.out.below h_)
      replace Od := Kpt.mk (Od.out.below h_)
      replace Oe := Kpt.mk (Oe.out.below h_)
      replace Rz := Kpt.mk (Rz.out.below h_)
      replace Ry := Kpt.mk (Ry.out.below h_)
      replace IT := Kpt.mk (IT.out.below h_)
      replace IU := Kpt.mk (IU.out.below h_)
      replace IV := Kpt.mk (IV.out.below h_)
      replace F := Kpt.mk (F.out.below h_)
      clear h_
      have ra := (resV_at Oa.out.bx).1
      have re := (resV_at Oe.out.bx).1
      have rd_ := (resV_at Od.out.bx).1
      have re9 := (resV_at Oe.out.bx).2.1
      have la := Oa.out.bx.lt
      have ld := Od.out.bx.lt
      have le := Oe.out.bx.lt
      have ry := own_rd Ry.out.own
      have ewd : IntKind.i64.wrap (d : Int) = d := by rw [IntKind.wrap_i64]; omega
      have hcd2 : ¬ c2 < d := by omega
      have hcd0 : ¬ c0 < d := by omega
      go_wp2_with fail
      refine wp_region_any (by kernel_rfl) ?_
      refine wpAny_of_C (C := fun W => W.cell? ⟨bd, 0, none⟩ = some (.int .u8 0) ∧ W.cell? ⟨be, 9, none⟩ = some (.slice (some ⟨gy, 0, none⟩) d cy) ∧ RdAt W (.slice (some ⟨gy, 0, none⟩) d cy) V ∧ RdAt W (.slice (some ⟨g2, o2, none⟩) d c2) V) _ _ _ _ ?_
      refine wpAnyC_take 0 (.pointer (some ⟨bd, 0, none⟩)) rfl (by kernel_rfl) (by kernel_rfl) (by kernel_rfl) (fun _ _ _ h => h) (wanted_free rfl _) (fun W hW => by obtain ⟨q1, q2, q3, q4⟩ := hW; go_simp) ?_
      try simp only [Act.put, List.getElem_toArray, List.getElem_cons_succ, List.getElem_cons_zero, List.setIfInBounds_toArray, List.set_cons_succ, List.set_cons_zero]
      refine wpAnyC_take 1 (.int .u8 0) rfl (by kernel_rfl) (by kernel_rfl) (by kernel_rfl) (fun _ _ _ h => h) (wanted_free rfl _) (fun W hW => by obtain ⟨q1, q2, q3, q4⟩ := hW; go_simp) ?_
      try simp only [Act.put, List.getElem_toArray, List.getElem_cons_succ, List.getElem_cons_zero, List.setIfInBounds_toArray, List.set_cons_succ, List.set_cons_zero]
      refine wpAnyC_take 2 (.bool true) rfl (by kernel_rfl) (by kernel_rfl) (by kernel_rfl) (fun _ _ _ h => h) (wanted_free rfl _) (fun W hW => by obtain ⟨q1, q2, q3, q4⟩ := hW; go_simp) ?_
      try simp only [Act.put, List.getElem_toArray, List.getElem_cons_succ, List.getElem_cons_zero, List.setIfInBounds_toArray, List.set_cons_succ, List.set_cons_zero]
      refine wpAnyC_take 3 (.bool true) rfl (by kernel_rfl) (by kernel_rfl) (by kernel_rfl) (fun _ _ _ h => h) (wanted_free rfl _) (fun W hW => by obtain ⟨q1, q2, q3, q4⟩ := hW; go_simp) ?_
      try simp only [Act.put, List.getElem_toArray, List.getElem_cons_succ, List.getElem_cons_zero, List.setIfInBounds_toArray, List.set_cons_succ, List.set_cons_zero]
      refine wpAnyC_take 4 (.pointer (some ⟨be, 9, none⟩)) rfl (by kernel_rfl) (by kernel_rfl) (by kernel_rfl) (fun _ _ _ h => h) (wanted_at true rfl rfl rfl rfl) (fun W hW => by obtain ⟨q1, q2, q3, q4⟩ := hW; go_simp) ?_
      try simp only [Act.put, List.getElem_toArray, List.getElem_cons_succ, List.getElem_cons_zero, List.setIfInBounds_toArray, List.set_cons_succ, List.set_cons_zero]
      refine wpAnyC_take 5 (.slice (some ⟨gy, 0, none⟩) d cy) rfl (by kernel_rfl) (by kernel_rfl) (by kernel_rfl) (fun _ _ _ h => h) (wanted_at true rfl rfl rfl rfl) (fun W hW => by obtain ⟨q1, q2, q3, q4⟩ := hW; go_simp) ?_
      try simp only [Act.put, List.getElem_toArray, List.getElem_cons_succ, List.getElem_cons_zero, List.setIfInBounds_toArray, List.set_cons_succ, List.set_cons_zero]
      refine wpAnyC_take 6 (.string (strOfNums V)) rfl (by kernel_rfl) (by kernel_rfl) (by kernel_rfl) (fun _ _ _ h => h) (wanted_at true rfl rfl rfl rfl) (fun W hW => exec_conv (.tmp 127) rfl (.slice (some ⟨gy, 0, none⟩) d cy) V rfl hW.2.2.1) ?_
      try simp only [Act.put, List.getElem_toArray, List.getElem_cons_succ, List.getElem_cons_zero, List.setIfInBounds_toArray, List.set_cons_succ, List.set_cons_zero]
      refine wpAnyC_take 7 (.slice (some ⟨g2, o2, none⟩) l2 c2) rfl (by kernel_rfl) (by kernel_rfl) (by kernel_rfl) (fun _ _ _ h => h) (wanted_at true rfl rfl rfl rfl) (fun W hW => by obtain ⟨q1, q2, q3, q4⟩ := hW; go_simp) ?_
      try simp only [Act.put, List.getElem_toArray, List.getElem_cons_succ, List.getElem_cons_zero, List.setIfInBounds_toArray, List.set_cons_succ, List.set_cons_zero]
      refine wpAnyC_take 8 (.int .i64 n) rfl (by kernel_rfl) (by kernel_rfl) (by kernel_rfl) (fun _ _ _ h => h) (wanted_at true rfl rfl rfl rfl) (fun W hW => by obtain ⟨q1, q2, q3, q4⟩ := hW; go_simp) ?_
      try simp only [Act.put, List.getElem_toArray, List.getElem_cons_succ, List.getElem_cons_zero, List.setIfInBounds_toArray, List.set_cons_succ, List.set_cons_zero]
      refine wpAnyC_take 9 (.int .i64 d) rfl (by kernel_rfl) (by kernel_rfl) (by kernel_rfl) (fun _ _ _ h => h) (wanted_at true rfl rfl rfl rfl) (fun W hW => by obtain ⟨q1, q2, q3, q4⟩ := hW; go_simp) ?_
      try simp only [Act.put, List.getElem_toArray, List.getElem_cons_succ, List.getElem_cons_zero, List.setIfInBounds_toArray, List.set_cons_succ, List.set_cons_zero]
      refine wpAnyC_take 10 (.slice (some ⟨g2, o2, none⟩) d c2) rfl (by kernel_rfl) (by kernel_rfl) (by kernel_rfl) (fun _ _ _ h => h) (wanted_at true rfl rfl rfl rfl) (fun W hW => by obtain ⟨q1, q2, q3, q4⟩ := hW; go_simp) ?_
      try simp only [Act.put, List.getElem_toArray, List.getElem_cons_succ, List.getElem_cons_zero, List.setIfInBounds_toArray, List.set_cons_succ, List.set_cons_zero]
      refine wpAnyC_take 11 (.string (strOfNums V)) rfl (by kernel_rfl) (by kernel_rfl) (by kernel_rfl) (fun _ _ _ h => h) (wanted_at true rfl rfl rfl rfl) (fun W hW => exec_conv (.tmp 132) rfl (.slice (some ⟨g2, o2, none⟩) d c2) V rfl hW.2.2.2) ?_
      try simp only [Act.put, List.getElem_toArray, List.getElem_cons_succ, List.getElem_cons_zero, List.setIfInBounds_toArray, List.set_cons_succ, List.set_cons_zero]
      refine wpAnyC_take 12 (.bool true) rfl (by kernel_rfl) (by kernel_rfl) (by kernel_rfl) (fun _ _ _ h => h) (wanted_at true rfl rfl rfl rfl) (fun W hW => by go_simp) ?_
      try simp only [Act.put, List.getElem_toArray, List.getElem_cons_succ, List.getElem_cons_zero, List.setIfInBounds_toArray, List.set_cons_succ, List.set_cons_zero]
      refine wpAnyC_take 13 (.bool true) rfl (by kernel_rfl) (by kernel_rfl) (by kernel_rfl) (fun _ _ _ h => h) (wanted_free rfl _) (fun W hW => by go_simp) ?_
      try simp only [Act.put, List.getElem_toArray, List.getElem_cons_succ, List.getElem_cons_zero, List.setIfInBounds_toArray, List.set_cons_succ, List.set_cons_zero]
      refine wpAnyC_take 14 (.bool true) rfl (by kernel_rfl) (by kernel_rfl) (by kernel_rfl) (fun _ _ _ h => h) (wanted_free rfl _) (fun W hW => by go_simp) ?_
      try simp only [Act.put, List.getElem_toArray, List.getElem_cons_succ, List.getElem_cons_zero, List.setIfInBounds_toArray, List.set_cons_succ, List.set_cons_zero]
      refine wpAnyC_done (⟨rd_, re9, ry, IV.out.rd⟩) (by kernel_rfl) ?_
      clear ra rd_ re re9 ry
      go_wp2
      go_ret
      first
        | exact ⟨rfl, hbT.out.1.trans (F.out.st.belowT hbT.out.1.size hbT.out.2).1⟩
        | exact ⟨rfl, below_drewN (hbT.out.1.trans (F.out.st.belowT hbT.out.1.size hbT.out.2).1) 1⟩

set_option maxRecDepth 100000 in
set_option maxHeartbeats 2000000 in
theorem compares_dif (g0 o0 g1 o1 g2 o2 l0 c0 l1 c1 l2 c2 n L q l : Nat) (at_ ct : Int) (T U V : List Int) (w : World) (hct : (1 : Int) + ct % 4 = n) (hn4 : n ≤ 4) (hn1 : 1 ≤ n) (e17 : (17 : Int) - n = q) (hq : 13 ≤ q) (hl : at_ % (q : Int) = l) (hln : l + n ≤ 16) (hLn : L = n * 16) (hc : 0 ≤ ct ∧ ct ≤ 255) (ha : 0 ≤ at_ ∧ at_ ≤ 255)
    (hL0 : L ≤ l0) (hL1 : L ≤ l1) (hL2 : L ≤ l2) (hc0 : l0 ≤ c0) (hc1 : l1 ≤ c1) (hc2 : l2 ≤ c2) (hm0 : l0 ≤ maxLen) (hm1 : l1 ≤ maxLen) (hm2 : l2 ≤ maxLen) (hg0 : g0 < w.heap.size) (hg1 : g1 < w.heap.size) (hg2 : g2 < w.heap.size)
    (hT : RdAt w (.slice (some ⟨g0, o0, none⟩) L c0) T) (hU : RdAt w (.slice (some ⟨g1, o1, none⟩) L c1) U) (hV : RdAt w (.slice (some ⟨g2, o2, none⟩) L c2) V) (hTl : T.length = L) (hUl : U.length = L) (hVl : V.length = L) (hTb : Bytes T) (hUb : Bytes U) (hVb : Bytes V) (pl : Nat) (hpl : pl < L) (hne : T.getD pl 0 ≠ U.getD pl 0) (hbe : ∀ j, j < pl → T.getD j 0 = U.getD j 0) :
    Calls Try.prog 3 #[.slice (some ⟨g0, o0, none⟩) l0 c0, .slice (some ⟨g1, o1, none⟩) l1 c1, .slice (some ⟨g2, o2, none⟩) l2 c2, .int .u8 at_, .int .u8 ct] w fun e w' => e = .returned (.bool true) ∧ Below w.heap.size w w' := by
  have HA := Kpt.mk (awake_any w)
  have HD := Kpt.mk (fun W => device_any 16 1 true W (by decide) (by decide))
  have hF := fine1 T l n hTb (by rw [hTl, hLn]) hn4
  have hr1 := rd1 T l n hTb (by rw [hTl, hLn])
  have HW : Kpt (∀ W B tag S D, Dv W B tag st0 nmF S D 16 1 true → RdAt W (.slice (some ⟨g0, o0, none⟩) L c0) T → Calls Try.prog 11 #[.pointer (some ⟨D, 0, none⟩), .agg (Cm.vals ⟨8, false, ((l : Nat) : Int), ((n : Nat) : Int), 0, false, 0, false, false, 0, 0, false, 0, 0, false⟩), .slice (some ⟨g0, o0, none⟩) L c0] W fun e w' => e = .returned (.agg (resV 0 noS (.slice none 0 0))) ∧ Aft W w' B tag (s1C T l n)) :=
    ⟨fun W B tag S D h hr => doWrite_8 W B tag st0 nmF S D 16 1 true l n L c0 _ T ⟨8, false, ((l : Nat) : Int), ((n : Nat) : Int), 0, false, 0, false, false, 0, 0, false, 0, 0, false⟩ h (by decide) (by decide) (by decide) (by decide) (by decide) (fun _ => rfl) (fun c hc => by cases hc) (by decide) (by decide) rfl rfl rfl (by omega) hr hTl hTb hLn rfl⟩
  obtain ⟨s1, hs1⟩ : ∃ s, s = s1C T l n := ⟨_, rfl⟩
  rw [← hs1] at HW hF hr1
  have hlk1 : lookS 1 0 l (rdL (s1.seen nmF) l n) = noS := by rw [hr1]; exact look_pr 1 0 l _
  obtain ⟨BB, hBB⟩ : ∃ BB, BB = U ++ V := ⟨_, rfl⟩
  have hBl : BB.length = 2 * n * 16 := by rw [hBB, List.length_append]; omega
  have hBb : Bytes BB := bytes_of BB (fun x hx => by
    rw [hBB, List.mem_append] at hx
    rcases hx with hx | hx
    · exact Bytes.mem hUb x hx
    · exact Bytes.mem hVb x hx)
  have hgB : ∀ j, j < L → BB.getD j 0 = U.getD j 0 := fun j hj => by
    rw [hBB]; simp only [List.getD_eq_getElem?_getD]; rw [List.getElem?_append_left (by omega)]
  have hd1 : Dif (rdL (s1.seen nmF) l n) (unBs false BB n) pl := by
    rw [hr1]
    exact dif_at T BB n pl 1 l (by rw [hTl, hLn]) (by omega) (by rw [hgB _ hpl]; exact hne) (fun j hj => by rw [hgB _ (by omega)]; exact hbe j hj) (by omega)
  have hF2 := hF.read n
  have hr2 : rdL ((rdSt s1 n).seen nmF) l n = prL 1 l (unBs false T n) := hr1
  have HC : Kpt (∀ W B tag S D g cp, Dv W B tag s1 nmF S D 16 1 true → RdAt W (.slice (some ⟨g, 0, none⟩) (L + L) cp) BB → Calls Try.prog 11 #[.pointer (some ⟨D, 0, none⟩), .agg (Cm.vals ⟨14, false, ((l : Nat) : Int), ((n : Nat) : Int), 0, false, 0, false, false, 0, 0, false, 0, 0, false⟩), .slice (some ⟨g, 0, none⟩) (L + L) cp] W fun e w' => e = .returned (.agg (resV 2 (nuS 14 7424 pl) (.slice none 0 0))) ∧ Aft W w' B tag (rdSt s1 n)) :=
    ⟨fun W B tag S D g cp h hr => by
      have := doCmpw_dif W B tag s1 nmF S D 16 1 true l n (L + L) cp _ BB ⟨14, false, ((l : Nat) : Int), ((n : Nat) : Int), 0, false, 0, false, false, 0, 0, false, 0, 0, false⟩ h (by decide) (by decide) (by decide) (by have := hF.cnt; omega) (by have := hF.wl; omega) hF.fails hF.wrs hF.good (by decide) (by decide) rfl rfl rfl rfl hn1 (by omega) hlk1 hr (by omega) hBb (by omega) pl (by omega) hd1
      skip
      exact this⟩
  have HR : Kpt (∀ W B tag S D, Dv W B tag (rdSt s1 n) nmF S D 16 1 true → Calls Try.prog 11 #[.pointer (some ⟨D, 0, none⟩), .agg (Cm.vals ⟨7, false, ((l : Nat) : Int), ((n : Nat) : Int), 0, false, 0, false, false, 0, 0, false, 0, 0, false⟩), .slice none 0 0] W fun e w' => ∃ g cap, e = .returned (.agg (resV 0 noS (.slice (some ⟨g, 0, none⟩) L cap))) ∧ Got W w' B tag (rdSt (rdSt s1 n) n) g L cap T) :=
    ⟨fun W B tag S D h => by
      have := doRead W B tag (rdSt s1 n) nmF S D 16 1 true l n ⟨7, false, ((l : Nat) : Int), ((n : Nat) : Int), 0, false, 0, false, false, 0, 0, false, 0, 0, false⟩ (.slice none 0 0) h (by decide) (by decide) (by decide) (by have := hF2.cnt; omega) hF2.fails hF2.good (by decide) (by decide) (show (0 : Int) ≤ 0 by decide) (show (0 : Int) ≤ 4 by decide) (show knownB 1 0 = true by decide) rfl rfl rfl (by omega) (by rw [hr2]; exact look_pr 1 0 l _)
      rw [hr2] at this
      rw [show packL ((0 : Int) != 0) (prL 1 l (unBs false T n)) = T from pack_pr 1 l T n (by omega), show n * sz ((0 : Int) != 0) = L from by rw [hLn]; rfl] at this
      exact this⟩
  obtain ⟨s2, hs2⟩ : ∃ s, s = rdSt s1 n := ⟨_, rfl⟩
  rw [← hs2] at HC HR
  simp only [Cm.vals] at HW HC HR
  obtain ⟨LL, hLL⟩ : ∃ x, x = L + L := ⟨_, rfl⟩
  rw [← hLL] at HC
  have eL : (16 : Int) * n = L := by omega
  have en : IntKind.u64.wrap (n : Int) = n := by rw [IntKind.wrap_u64]; omega
  have el : IntKind.u64.wrap (l : Int) = l := by rw [IntKind.wrap_u64]; omega
  have bl0 : ¬ (l0 : Int) < L := by omega
  have bl1 : ¬ (l1 : Int) < L := by omega
  have bl2 : ¬ (l2 : Int) < L := by omega
  have bd0 : decide ((l0 : Int) < L) = false := decide_eq_false bl0
  have bd1 : decide ((l1 : Int) < L) = false := decide_eq_false bl1
  have hLp : 1 ≤ L ∧ L ≤ 64 := by omega
  have hfd := Kpt.mk (fdR_at hpl hne hbe L (by omega) (Nat.le_refl _))
  have HAt := Kpt.mk (fun W n => at_any 14 7424 n W)
  have HSm := Kpt.mk (fun W s => same_nil 2 s W)
  have epl : IntKind.u64.wrap (pl : Int) = pl := by rw [IntKind.wrap_u64]; omega
  have hTK := Kpt.mk hT
  have hUK := Kpt.mk hU
  have hVK := Kpt.mk hV
  replace hTl := Kpt.mk hTl
  replace hUl := Kpt.mk hUl
  replace hVl := Kpt.mk hVl
  replace hBB := Kpt.mk hBB
  replace hLL := Kpt.mk hLL
  replace hLn := Kpt.mk hLn
  clear hs1 hs2 hr1 hr2 hd1 hF hF2 hlk1 hBl hBb hgB hT hU hV hTb hUb hVb hne hbe
  go_enter Try.func3, Try.ntmps3
  go_wp2_with (first
      | (have hm := m10; refine wpList_store_bx rfl 34 _ _ rfl be _ (resV 0 noS (.slice (some ⟨gy, 0, none⟩) L cy)) rfl rfl Oe.out.bx rfl infoR (resV_one _ _ _ _ _) rfl ?_; intro w11 hX_ hg_; replace Oa := Kpt.mk (Oa.out.other hg_ (by omega)); replace Od := Kpt.mk (Od.out.other hg_ (by omega)); replace Rz := Kpt.mk (Rz.out.other hg_ (by omega)); replace Ry := Kpt.mk (Ry.out.other hg_ (by omega)); replace IT := Kpt.mk (IT.out.other hg_ Oe.out.lo); replace IU := Kpt.mk (IU.out.other hg_ Oe.out.lo); replace IV := Kpt.mk (IV.out.other hg_ Oe.out.lo); replace F := Kpt.mk (F.out.own Oe.out hg_ hSl hDl); replace Oe := Kpt.mk (Oe.out.set hX_); clear hX_ hg_; clear hm m10; have m11 : Kpt True := ⟨trivial⟩)
      | (have hm := m9; refine wpList_var rfl 34 rfl zeroR zeroRi ?_; intro be w_e hl_ hX_ h_; have q_a_e : ba < be := Nat.lt_of_lt_of_le Oa.out.bx.lt hl_; have q_d_e : bd < be := Nat.lt_of_lt_of_le Od.out.bx.lt hl_; have q_z_e : gz < be := Nat.lt_of_lt_of_le Rz.out.lt hl_; have q_y_e : gy < be := Nat.lt_of_lt_of_le Ry.out.lt hl_; have Oe := Kpt.mk (F.out.new hl_ hX_); replace Oa := Kpt.mk (Oa.out.below h_); replace Od := Kpt.mk (Od.out.below h_); replace Rz := Kpt.mk (Rz.out.below h_); replace Ry := Kpt.mk (Ry.out.below h_); replace IT := Kpt.mk (IT.out.below h_); replace IU := Kpt.mk (IU.out.below h_); replace IV := Kpt.mk (IV.out.below h_); replace F := Kpt.mk (F.out.below h_); clear hl_ hX_ h_; clear hm m9; have m10 : Kpt True := ⟨trivial⟩)
      | (go_at_call 11; have hm := m8; go_must (refine (HR.out _ _ _ _ _ F.out.dv).mono ?_; rintro e w9 ⟨gy, cy, rfl, tagC, hW_, s_, hrow_, hgn_⟩; have q_a_y : ba < gy := Nat.lt_of_lt_of_le Oa.out.bx.lt (own_lo hrow_).1; have q_d_y : bd < gy := Nat.lt_of_lt_of_le Od.out.bx.lt (own_lo hrow_).1; have q_z_y : gz < gy := Nat.lt_of_lt_of_le Rz.out.lt (own_lo hrow_).1; have Ry_ := Kpt.mk (Ob.mk (w := w2) (tag' := tagC) (own_base hrow_ F.out.st.size) hgn_); replace Oa := Kpt.mk (Oa.out.call s_); replace Od := Kpt.mk (Od.out.call s_); replace Rz := Kpt.mk (Rz.out.call s_); replace IT := Kpt.mk (IT.out.call s_); replace IU := Kpt.mk (IU.out.call s_); replace IV := Kpt.mk (IV.out.call s_); replace F := Kpt.mk (F.out.call hW_ s_); have Ry := Ry_; clear Ry_; clear hW_ s_ hrow_ hgn_; clear hm m8; have m9 : Kpt True := ⟨trivial⟩))
      | (have hm := m7; refine wpList_store_bx rfl 34 _ _ rfl bd _ (resV 2 (nuS 14 7424 pl) (.slice none 0 0)) rfl rfl Od.out.bx rfl infoR (resV_one _ _ _ _ _) rfl ?_; intro w8 hX_ hg_; replace Oa := Kpt.mk (Oa.out.other hg_ (by omega)); replace Rz := Kpt.mk (Rz.out.other hg_ (by omega)); replace IT := Kpt.mk (IT.out.other hg_ Od.out.lo); replace IU := Kpt.mk (IU.out.other hg_ Od.out.lo); replace IV := Kpt.mk (IV.out.other hg_ Od.out.lo); replace F := Kpt.mk (F.out.own Od.out hg_ hSl hDl); replace Od := Kpt.mk (Od.out.set hX_); clear hX_ hg_; clear hm m7; have m8 : Kpt True := ⟨trivial⟩)
      | (have hm := m6; refine wpList_var rfl 34 rfl zeroR zeroRi ?_; intro bd w_d hl_ hX_ h_; have q_a_d : ba < bd := Nat.lt_of_lt_of_le Oa.out.bx.lt hl_; have q_z_d : gz < bd := Nat.lt_of_lt_of_le Rz.out.lt hl_; have Od := Kpt.mk (F.out.new hl_ hX_); replace Oa := Kpt.mk (Oa.out.below h_); replace Rz := Kpt.mk (Rz.out.below h_); replace IT := Kpt.mk (IT.out.below h_); replace IU := Kpt.mk (IU.out.below h_); replace IV := Kpt.mk (IV.out.below h_); replace F := Kpt.mk (F.out.below h_); clear hl_ hX_ h_; clear hm m6; have m7 : Kpt True := ⟨trivial⟩)
      | (go_at_call 11; have hm := m5; go_must (refine (HC.out _ _ _ _ _ _ _ F.out.dv (own_rd Rz.out.own)).mono ?_; rintro e wB ⟨rfl, tagB, hW_, s_⟩; replace Oa := Kpt.mk (Oa.out.call s_); replace Rz := Kpt.mk (Rz.out.call s_); replace IT := Kpt.mk (IT.out.call s_); replace IU := Kpt.mk (IU.out.call s_); replace IV := Kpt.mk (IV.out.call s_); replace F := Kpt.mk (F.out.call hW_ s_); clear hW_ s_; clear hm m5; have m6 : Kpt True := ⟨trivial⟩))
      | (at_builtin; have hm := m4; refine wpList_append_new rfl (.tmp 74) (.tmp 78) rfl gq _ _ U V L LL rfl rfl (own_re Rq.out.own (Nat.le_refl _)) IV.out.rd (by rw [hVl.out]; omega) hUl.out (by rw [hVl.out, hLL.out]) (by rw [hLL.out]; omega) (Nat.le_of_lt Rq.out.lt) ?_; intro gz cz w21 ho21 hl21 hg21; have hg_ : w20.grownBy w21 (some gq) := hg21.out; replace Oa := Kpt.mk (Oa.out.other hg_ (by omega)); replace IT := Kpt.mk (IT.out.other hg_ Rq.out.lo); replace IU := Kpt.mk (IU.out.other hg_ Rq.out.lo); replace IV := Kpt.mk (IV.out.other hg_ Rq.out.lo); replace F := Kpt.mk (F.out.turnB Rq.out hg_ hSl hDl); have q_a_z : ba < gz := Nat.lt_of_lt_of_le q_a_q hl21.out.1; have Rz : Kpt (Ob w2 w21 tagA gz LL cz BB) := ⟨⟨own_base (hBB.out ▸ ho21.out) Rq.out.lo, htN.out _ (Nat.le_trans hgo hl21.out.1)⟩⟩; clear hg_ ho21 hl21 hg21 Rq; clear hm m4; have m5 : Kpt True := ⟨trivial⟩)
      | (at_builtin; have hm := m3; refine wpList_append_new rfl (.tmp 68) (.tmp 72) rfl w3.heap.size _ _ [] U 0 L rfl rfl (nil_own _ _) IU.out.rd (by rw [hUl.out]; omega) rfl (by rw [hUl.out]; omega) (by omega) (Nat.le_refl _) ?_; intro gq cq w20 ho20 hl20 hg20; have h_ := belowN hg20.out; have hgo : w3.heap.size ≤ gq := hl20.out.1; have htN := Kpt.mk (fun i (hi : w3.heap.size ≤ i) => wd_none F.out.dv.wd hi); have q_a_q : ba < gq := Nat.lt_of_lt_of_le Oa.out.bx.lt hgo; have Rq : Kpt (Ob w2 w20 tagA gq L cq U) := ⟨⟨own_base ho20.out F.out.st.size, wd_none F.out.dv.wd hgo⟩⟩; replace Oa := Kpt.mk (Oa.out.below h_); replace IT := Kpt.mk (IT.out.below h_); replace IU := Kpt.mk (IU.out.below h_); replace IV := Kpt.mk (IV.out.below h_); replace F := Kpt.mk (F.out.below h_); clear h_ ho20 hl20 hg20; clear hm m3; have m4 : Kpt True := ⟨trivial⟩)
      | (have hm := m2; refine wpList_store_bx rfl 34 _ _ rfl ba _ (resV 0 noS (.slice none 0 0)) rfl rfl Oa.out.bx rfl infoR (resV_one _ _ _ _ _) rfl ?_; intro w3 hX_ hg_; replace IT := Kpt.mk (IT.out.other hg_ Oa.out.lo); replace IU := Kpt.mk (IU.out.other hg_ Oa.out.lo); replace IV := Kpt.mk (IV.out.other hg_ Oa.out.lo); replace F := Kpt.mk (F.out.own Oa.out hg_ hSl hDl); replace Oa := Kpt.mk (Oa.out.set hX_); clear hX_ hg_; clear hm m2; have m3 : Kpt True := ⟨trivial⟩)
      | (have hm := m1; refine wpList_var rfl 34 rfl zeroR zeroRi ?_; intro ba w_a hl_ hX_ h_; have Oa := Kpt.mk (F.out.new hl_ hX_); replace IT := Kpt.mk (IT.out.below h_); replace IU := Kpt.mk (IU.out.below h_); replace IV := Kpt.mk (IV.out.below h_); replace F := Kpt.mk (F.out.below h_); clear hl_ hX_ h_; clear hm m1; have m2 : Kpt True := ⟨trivial⟩)
      | (go_at_call 11; go_must (refine (HW.out _ _ _ _ _ F.out.dv IT.out.rd).mono ?_; rintro e wA ⟨rfl, tagA, hW_, s_⟩; replace IT := Kpt.mk (IT.out.call s_); replace IU := Kpt.mk (IU.out.call s_); replace IV := Kpt.mk (IV.out.call s_); replace F := Kpt.mk (F.out.call hW_ s_); clear hW_ s_; have m1 : Kpt True := ⟨trivial⟩))
      | (go_at_call 10; go_must (go_must (refine (HD.out _).mono ?_; rintro e w2 ⟨D, B, S, tag, rfl, hdv, hb2, ht2⟩; have F := Kpt.mk hdv.fx; have hSl := hdv.sto.lt; have hDl := hdv.bx.lt; have hbT := Kpt.mk (And.intro (hb1.out.trans (hb2.mono hb1.out.size)) (fun i (hi : i < w.heap.size) => ht2 i (Nat.lt_of_lt_of_le hi hb1.out.size))); have IT : Kpt (Yi w2 w2 tag (some ⟨g0, o0, none⟩) L c0 T) := ⟨rd_below hTK.out hbT.out.1, fun g o e => by cases e; exact ⟨Nat.lt_of_lt_of_le hg0 hbT.out.1.size, hbT.out.2 _ hg0⟩, Nat.le_refl _⟩; have IU : Kpt (Yi w2 w2 tag (some ⟨g1, o1, none⟩) L c1 U) := ⟨rd_below hUK.out hbT.out.1, fun g o e => by cases e; exact ⟨Nat.lt_of_lt_of_le hg1 hbT.out.1.size, hbT.out.2 _ hg1⟩, Nat.le_refl _⟩; have IV : Kpt (Yi w2 w2 tag (some ⟨g2, o2, none⟩) L c2 V) := ⟨rd_below hVK.out hbT.out.1, fun g o e => by cases e; exact ⟨Nat.lt_of_lt_of_le hg2 hbT.out.1.size, hbT.out.2 _ hg2⟩, Nat.le_refl _⟩; clear hdv hb2 ht2)))
      | (go_at_call 9; go_must (go_must (refine HA.out.mono ?_; rintro e w1 ⟨rfl, hb1⟩; replace hb1 := Kpt.mk hb1)))
      | fail)
  have hTd := Kpt.mk (fun (W : World) (hb : Below w11.heap.size w11 W) j hj => rd_byte (rd_below IT.out.rd hb) hTl.out j hj)
  have hUd := Kpt.mk (fun (W : World) (hb : Below w11.heap.size w11 W) j hj => rd_byte (rd_below IU.out.rd hb) hUl.out j hj)
  have eL1 : (L : Int) - 1 - ((0 : Nat) : Int) = (L : Int) - 1 := by omega
  try rw [← eL1]
  go_loopw [19, 20] (fun u t wr => ∃ d : Nat, d ≤ L ∧ u = .int .i64 (fdR T U L d) ∧ t = .int .i64 ((L : Int) - 1 - d) ∧ Kpt (Below w11.heap.size w11 wr)) (fun _ t _ => (intOf t + 1).toNat)
  case atStart => exact ⟨0, Nat.zero_le _, rfl, by simp, ⟨Below.refl _ _⟩⟩
  case round =>
    obtain ⟨d, hd, rfl, rfl, hbr⟩ := hrel
    obtain ⟨fd, hfd0⟩ : ∃ x, x = fdR T U L d := ⟨_, rfl⟩
    rw [← hfd0]
    by_cases hlt : d < L
    · obtain ⟨j, hj⟩ : ∃ j : Nat, (L : Int) - 1 - d = j := ⟨L - 1 - d, by omega⟩
      have hjL : j < L := by omega
      have hjd : L - (d + 1) = j := by omega
      have hnx : fdR T U L (d + 1) = if T.getD j 0 ≠ U.getD j 0 then (j : Int) else fd := by rw [fdR, hjd, hfd0]
      have cT := Kpt.mk (fun W hb => hTd.out W hb j hjL)
      have cU := Kpt.mk (fun W hb => hUd.out W hb j hjL)
      obtain ⟨x, hx⟩ : ∃ x, x = T.getD j 0 := ⟨_, rfl⟩
      obtain ⟨y, hy⟩ : ∃ y, y = U.getD j 0 := ⟨_, rfl⟩
      rw [← hx, ← hy] at hnx
      rw [← hx] at cT
      rw [← hy] at cU
      have ge : (0 : Int) ≤ j := by omega
      have hj0 : ¬ l0 ≤ j := by omega
      have hj1 : ¬ l1 ≤ j := by omega
      rw [hj]
      replace hnx := Kpt.mk hnx
      replace hfd0 := Kpt.mk hfd0
      replace hj := Kpt.mk hj
      clear hx hy hjd
      go_wp2_with fail
      refine wp_region_any (by kernel_rfl) ?_
      refine wpAny_of_C (C := fun W => Below w11.heap.size w11 W) _ _ _ _ ?_
      refine wpAnyC_take 0 (.slice (some ⟨g0, o0, none⟩) l0 c0) rfl (by kernel_rfl) (by kernel_rfl) (by kernel_rfl) (fun _ _ _ h => h) (wanted_free rfl _) (fun W hW => by go_simp) ?_
      try simp only [Act.put, List.getElem_toArray, List.getElem_cons_succ, List.getElem_cons_zero, List.setIfInBounds_toArray, List.set_cons_succ, List.set_cons_zero]
      refine wpAnyC_take 1 (.int .i64 j) rfl (by kernel_rfl) (by kernel_rfl) (by kernel_rfl) (fun _ _ _ h => h) (wanted_free rfl _) (fun W hW => by go_simp) ?_
      try simp only [Act.put, List.getElem_toArray, List.getElem_cons_succ, List.getElem_cons_zero, List.setIfInBounds_toArray, List.set_cons_succ, List.set_cons_zero]
      refine wpAnyC_take 2 (.pointer (some ⟨g0, o0 + j, none⟩)) rfl (by kernel_rfl) (by kernel_rfl) (by kernel_rfl) (fun _ _ _ h => h) (wanted_free rfl _) (fun W hW => by go_simp) ?_
      try simp only [Act.put, List.getElem_toArray, List.getElem_cons_succ, List.getElem_cons_zero, List.setIfInBounds_toArray, List.set_cons_succ, List.set_cons_zero]
      refine wpAnyC_take 3 (.int .u8 x) rfl (by kernel_rfl) (by kernel_rfl) (by kernel_rfl) (fun _ _ _ h => h) (wanted_free rfl _) (fun W hW => by have hh := cT.out W hW; go_simp) ?_
      try simp only [Act.put, List.getElem_toArray, List.getElem_cons_succ, List.getElem_cons_zero, List.setIfInBounds_toArray, List.set_cons_succ, List.set_cons_zero]
      refine wpAnyC_take 4 (.slice (some ⟨g1, o1, none⟩) l1 c1) rfl (by kernel_rfl) (by kernel_rfl) (by kernel_rfl) (fun _ _ _ h => h) (wanted_free rfl _) (fun W hW => by go_simp) ?_
      try simp only [Act.put, List.getElem_toArray, List.getElem_cons_succ, List.getElem_cons_zero, List.setIfInBounds_toArray, List.set_cons_succ, List.set_cons_zero]
      refine wpAnyC_take 5 (.int .i64 j) rfl (by kernel_rfl) (by kernel_rfl) (by kernel_rfl) (fun _ _ _ h => h) (wanted_free rfl _) (fun W hW => by go_simp) ?_
      try simp only [Act.put, List.getElem_toArray, List.getElem_cons_succ, List.getElem_cons_zero, List.setIfInBounds_toArray, List.set_cons_succ, List.set_cons_zero]
      refine wpAnyC_take 6 (.pointer (some ⟨g1, o1 + j, none⟩)) rfl (by kernel_rfl) (by kernel_rfl) (by kernel_rfl) (fun _ _ _ h => h) (wanted_free rfl _) (fun W hW => by go_simp) ?_
      try simp only [Act.put, List.getElem_toArray, List.getElem_cons_succ, List.getElem_cons_zero, List.setIfInBounds_toArray, List.set_cons_succ, List.set_cons_zero]
      refine wpAnyC_take 7 (.int .u8 y) rfl (by kernel_rfl) (by kernel_rfl) (by kernel_rfl) (fun _ _ _ h => h) (wanted_free rfl _) (fun W hW => by have hh := cU.out W hW; go_simp) ?_
      try simp only [Act.put, List.getElem_toArray, List.getElem_cons_succ, List.getElem_cons_zero, List.setIfInBounds_toArray, List.set_cons_succ, List.set_cons_zero]
      refine wpAnyC_take 8 (.bool (x != y)) rfl (by kernel_rfl) (by kernel_rfl) (by kernel_rfl) (fun _ _ _ h => h) (wanted_free rfl _) (fun W hW => by go_simp) ?_
      try simp only [Act.put, List.getElem_toArray, List.getElem_cons_succ, List.getElem_cons_zero, List.setIfInBounds_toArray, List.set_cons_succ, List.set_cons_zero]
      refine wpAnyC_done (below_drewN hbr.out 1) (by kernel_rfl) ?_
      have hbr2 : Kpt (Below w11.heap.size w11 wr) := hbr
      by_cases hxy : x = y
      · subst hxy
        have bxy : (x != x) = false := by simp
        go_wp2
        go_roundw
        case rel => exact ⟨d + 1, by omega, by rw [hnx.out, if_neg (by simp)], by have := hj.out; go_num, ⟨below_drewN hbr.out 1⟩⟩
        case measure => have := hj.out; simp [intOf] <;> omega
      · have bxy : (x != y) = true := by simpa using hxy
        go_wp2
        go_roundw
        case rel => exact ⟨d + 1, by omega, by rw [hnx.out, if_pos hxy], by have := hj.out; go_num, ⟨below_drewN hbr.out 1⟩⟩
        case measure => have := hj.out; simp [intOf] <;> omega
    · have ed : d = L := by omega
      subst ed
      rw [hfd.out] at hfd0
      subst hfd0
      have en1 : (d : Int) - 1 - d = -1 := by omega
      rw [en1]
      have h_ := hbr.out
      replace Oa := Kpt.mk (Oa.out.below h_)
      replace Od := Kpt.mk (Od.out.below h_)
      replace Oe := Kpt.mk (Oe.out.below h_)
      replace Rz := Kpt.mk (Rz.out.below h_)
      replace Ry := Kpt.mk (Ry.out.below h_)
      replace IT := Kpt.mk (IT.out.below h_)
      replace IU := Kpt.mk (IU.out.below h_)
      replace IV := Kpt.mk (IV.out.below h_)
      replace F := Kpt.mk (F.out.below h_)
      clear h_
      have ra := (resV_at Oa.out.bx).1
      have re := (resV_at Oe.out.bx).1
      have rd_ := (resV_at Od.out.bx).1
      have re9 := (resV_at Oe.out.bx).2.1
      have la := Oa.out.bx.lt
      have ld := Od.out.bx.lt
      have le := Oe.out.bx.lt
      have ry := own_rd Ry.out.own
      have ewd : IntKind.i64.wrap (d : Int) = d := by rw [IntKind.wrap_i64]; omega
      have hcd2 : ¬ c2 < d := by omega
      have hcd0 : ¬ c0 < d := by omega
      go_wp2_with fail
      refine wp_region_any (by kernel_rfl) ?_
      refine wpAny_of_C (C := fun W => Bx W bd (resV 2 (nuS 14 7424 pl) (.slice none 0 0)) ∧ W.cell? ⟨be, 9, none⟩ = some (.slice (some ⟨gy, 0, none⟩) d cy) ∧ RdAt W (.slice (some ⟨gy, 0, none⟩) d cy) T ∧ RdAt W (.slice (some ⟨g0, o0, none⟩) d c0) T) _ _ _ _ ?_
      refine wpAnyC_take 0 (.agg (resV 2 (nuS 14 7424 pl) (.slice none 0 0))) rfl (by kernel_rfl) (by kernel_rfl) (by kernel_rfl) (fun _ _ _ h => h) (wanted_free rfl _) (fun W hW => exec_load_bxG 34 (.tmp 17) rfl bd _ rfl hW.1 _ Try.underlying34 rfl infoR) ?_
      try simp only [Act.put, List.getElem_toArray, List.getElem_cons_succ, List.getElem_cons_zero, List.setIfInBounds_toArray, List.set_cons_succ, List.set_cons_zero]
      refine wpAnyC_take 1 (.int .i64 pl) rfl (by kernel_rfl) (by kernel_rfl) (by kernel_rfl) (fun _ _ _ h => h) (wanted_free rfl _) (fun W hW => by go_simp) ?_
      try simp only [Act.put, List.getElem_toArray, List.getElem_cons_succ, List.getElem_cons_zero, List.setIfInBounds_toArray, List.set_cons_succ, List.set_cons_zero]
      refine wpAnyC_take 2 (.int .u64 pl) rfl (by kernel_rfl) (by kernel_rfl) (by kernel_rfl) (fun _ _ _ h => h) (wanted_free rfl _) (fun W hW => by go_simp) ?_
      try simp only [Act.put, List.getElem_toArray, List.getElem_cons_succ, List.getElem_cons_zero, List.setIfInBounds_toArray, List.set_cons_succ, List.set_cons_zero]
      refine wpAnyC_one 3 (⟨Od.out.bx.drew, re9, rd_below ry (below_drew _), rd_below IT.out.rd (below_drew _)⟩) rfl (by kernel_rfl) (wanted_free rfl _) (fun KA hKA => ?_)
      go_simp
      refine (HAt.out _ _).mono ?_
      rintro e wE ⟨rfl, hE⟩
      have h_ := below_undrew hE
      replace Oa := Kpt.mk (Oa.out.below h_)
      replace Od := Kpt.mk (Od.out.below h_)
      replace Oe := Kpt.mk (Oe.out.below h_)
      replace Rz := Kpt.mk (Rz.out.below h_)
      replace Ry := Kpt.mk (Ry.out.below h_)
      replace IT := Kpt.mk (IT.out.below h_)
      replace IU := Kpt.mk (IU.out.below h_)
      replace IV := Kpt.mk (IV.out.below h_)
      replace F := Kpt.mk (F.out.below h_)
      refine hKA _ _ ?_
      clear hKA KA
      try simp only [Act.put, List.getElem_toArray, List.getElem_cons_succ, List.getElem_cons_zero, List.setIfInBounds_toArray, List.set_cons_succ, List.set_cons_zero]
      refine wpAnyC_one 4 (⟨Od.out.bx, (resV_at Oe.out.bx).2.1, own_rd Ry.out.own, IT.out.rd⟩) rfl (by kernel_rfl) (wanted_free rfl _) (fun KA hKA => ?_)
      go_simp
      refine (HSm.out _ _).mono ?_
      rintro e wG ⟨rfl, h2_⟩
      replace Oa := Kpt.mk (Oa.out.below h2_)
      replace Od := Kpt.mk (Od.out.below h2_)
      replace Oe := Kpt.mk (Oe.out.below h2_)
      replace Rz := Kpt.mk (Rz.out.below h2_)
      replace Ry := Kpt.mk (Ry.out.below h2_)
      replace IT := Kpt.mk (IT.out.below h2_)
      replace IU := Kpt.mk (IU.out.below h2_)
      replace IV := Kpt.mk (IV.out.below h2_)
      replace F := Kpt.mk (F.out.below h2_)
      refine hKA _ _ ?_
      clear hKA KA
      try simp only [Act.put, List.getElem_toArray, List.getElem_cons_succ, List.getElem_cons_zero, List.setIfInBounds_toArray, List.set_cons_succ, List.set_cons_zero]
      refine wpAnyC_take 5 (.bool true) rfl (by kernel_rfl) (by kernel_rfl) (by kernel_rfl) (fun _ _ _ h => h) (wanted_free rfl _) (fun W hW => by go_simp) ?_
      try simp only [Act.put, List.getElem_toArray, List.getElem_cons_succ, List.getElem_cons_zero, List.setIfInBounds_toArray, List.set_cons_succ, List.set_cons_zero]
      refine wpAnyC_take 6 (.pointer (some ⟨be, 9, none⟩)) rfl (by kernel_rfl) (by kernel_rfl) (by kernel_rfl) (fun _ _ _ h => h) (wanted_at true rfl rfl rfl rfl) (fun W hW => by obtain ⟨q1, q2, q3, q4⟩ := hW; go_simp) ?_
      try simp only [Act.put, List.getElem_toArray, List.getElem_cons_succ, List.getElem_cons_zero, List.setIfInBounds_toArray, List.set_cons_succ, List.set_cons_zero]
      refine wpAnyC_take 7 (.slice (some ⟨gy, 0, none⟩) d cy) rfl (by kernel_rfl) (by kernel_rfl) (by kernel_rfl) (fun _ _ _ h => h) (wanted_at true rfl rfl rfl rfl) (fun W hW => by obtain ⟨q1, q2, q3, q4⟩ := hW; go_simp) ?_
      try simp only [Act.put, List.getElem_toArray, List.getElem_cons_succ, List.getElem_cons_zero, List.setIfInBounds_toArray, List.set_cons_succ, List.set_cons_zero]
      refine wpAnyC_take 8 (.string (strOfNums T)) rfl (by kernel_rfl) (by kernel_rfl) (by kernel_rfl) (fun _ _ _ h => h) (wanted_at true rfl rfl rfl rfl) (fun W hW => exec_conv (.tmp 143) rfl (.slice (some ⟨gy, 0, none⟩) d cy) T rfl hW.2.2.1) ?_
      try simp only [Act.put, List.getElem_toArray, List.getElem_cons_succ, List.getElem_cons_zero, List.setIfInBounds_toArray, List.set_cons_succ, List.set_cons_zero]
      refine wpAnyC_take 9 (.slice (some ⟨g0, o0, none⟩) l0 c0) rfl (by kernel_rfl) (by kernel_rfl) (by kernel_rfl) (fun _ _ _ h => h) (wanted_at true rfl rfl rfl rfl) (fun W hW => by obtain ⟨q1, q2, q3, q4⟩ := hW; go_simp) ?_
      try simp only [Act.put, List.getElem_toArray, List.getElem_cons_succ, List.getElem_cons_zero, List.setIfInBounds_toArray, List.set_cons_succ, List.set_cons_zero]
      refine wpAnyC_take 10 (.int .i64 n) rfl (by kernel_rfl) (by kernel_rfl) (by kernel_rfl) (fun _ _ _ h => h) (wanted_at true rfl rfl rfl rfl) (fun W hW => by obtain ⟨q1, q2, q3, q4⟩ := hW; go_simp) ?_
      try simp only [Act.put, List.getElem_toArray, List.getElem_cons_succ, List.getElem_cons_zero, List.setIfInBounds_toArray, List.set_cons_succ, List.set_cons_zero]
      refine wpAnyC_take 11 (.int .i64 d) rfl (by kernel_rfl) (by kernel_rfl) (by kernel_rfl) (fun _ _ _ h => h) (wanted_at true rfl rfl rfl rfl) (fun W hW => by obtain ⟨q1, q2, q3, q4⟩ := hW; go_simp) ?_
      try simp only [Act.put, List.getElem_toArray, List.getElem_cons_succ, List.getElem_cons_zero, List.setIfInBounds_toArray, List.set_cons_succ, List.set_cons_zero]
      refine wpAnyC_take 12 (.slice (some ⟨g0, o0, none⟩) d c0) rfl (by kernel_rfl) (by kernel_rfl) (by kernel_rfl) (fun _ _ _ h => h) (wanted_at true rfl rfl rfl rfl) (fun W hW => by obtain ⟨q1, q2, q3, q4⟩ := hW; go_simp) ?_
      try simp only [Act.put, List.getElem_toArray, List.getElem_cons_succ, List.getElem_cons_zero, List.setIfInBounds_toArray, List.set_cons_succ, List.set_cons_zero]
      refine wpAnyC_take 13 (.string (strOfNums T)) rfl (by kernel_rfl) (by kernel_rfl) (by kernel_rfl) (fun _ _ _ h => h) (wanted_at true rfl rfl rfl rfl) (fun W hW => exec_conv (.tmp 148) rfl (.slice (some ⟨g0, o0, none⟩) d c0) T rfl hW.2.2.2) ?_
      try simp only [Act.put, List.getElem_toArray, List.getElem_cons_succ, List.getElem_cons_zero, List.setIfInBounds_toArray, List.set_cons_succ, List.set_cons_zero]
      refine wpAnyC_take 14 (.bool true) rfl (by kernel_rfl) (by kernel_rfl) (by kernel_rfl) (fun _ _ _ h => h) (wanted_at true rfl rfl rfl rfl) (fun W hW => by go_simp) ?_
      try simp only [Act.put, List.getElem_toArray, List.getElem_cons_succ, List.getElem_cons_zero, List.setIfInBounds_toArray, List.set_cons_succ, List.set_cons_zero]
      refine wpAnyC_take 15 (.bool true) rfl (by kernel_rfl) (by kernel_rfl) (by kernel_rfl) (fun _ _ _ h => h) (wanted_free rfl _) (fun W hW => by go_simp) ?_
      try simp only [Act.put, List.getElem_toArray, List.getElem_cons_succ, List.getElem_cons_zero, List.setIfInBounds_toArray, List.set_cons_succ, List.set_cons_zero]
      refine wpAnyC_take 16 (.bool true) rfl (by kernel_rfl) (by kernel_rfl) (by kernel_rfl) (fun _ _ _ h => h) (wanted_free rfl _) (fun W hW => by go_simp) ?_
      try simp only [Act.put, List.getElem_toArray, List.getElem_cons_succ, List.getElem_cons_zero, List.setIfInBounds_toArray, List.set_cons_succ, List.set_cons_zero]
      refine wpAnyC_done (⟨Od.out.bx, (resV_at Oe.out.bx).2.1, own_rd Ry.out.own, IT.out.rd⟩) (by kernel_rfl) ?_
      clear ra rd_ re re9 ry
      go_wp2
      go_ret
      first
        | exact ⟨rfl, hbT.out.1.trans (F.out.st.belowT hbT.out.1.size hbT.out.2).1⟩
        | exact ⟨rfl, below_drewN (hbT.out.1.trans (F.out.st.belowT hbT.out.1.size hbT.out.2).1) 1⟩

end Go.Proofs.Ytklboieemljmiaa
