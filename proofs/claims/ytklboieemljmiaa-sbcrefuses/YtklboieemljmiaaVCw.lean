/-
  The contract of compareWrite.
-/
import Derived.Test.YtklboieemljmiaaMX
namespace Go.Proofs.Ytklboieemljmiaa
open Go.RowKit
set_option linter.unusedVariables false
set_option linter.unusedSimpArgs false
theorem unBs_cut (Z : List Int) (n : Nat) : unBs false Z (2 * n) = unBs false Z n ++ unBs false (Z.drop (n * 16)) n := by
  refine List.ext_getElem? (fun j => ?_)
  by_cases h1 : j < n
  · rw [List.getElem?_append_left (by rw [unBs_len]; exact h1), unBs_at _ _ _ _ (by omega), unBs_at _ _ _ _ h1]
  · by_cases h2 : j < 2 * n
    · rw [List.getElem?_append_right (by rw [unBs_len]; omega), unBs_len, unBs_at _ _ _ _ h2, unBs_at _ _ _ _ (by omega)]
      simp only [unB, Bool.false_eq_true, if_false, List.drop_drop]
      rw [show n * 16 + (j - n) * 16 = j * 16 by omega]
    · rw [List.getElem?_eq_none (by rw [unBs_len]; omega), List.getElem?_eq_none (by rw [List.length_append, unBs_len, unBs_len]; omega)]

set_option maxRecDepth 100000 in
set_option maxHeartbeats 2000000 in
theorem cmpw_same (w : World) (B : Nat) (tag : Tags) (st : St) (f : ByteArray) (S D N : Nat) (k : Int) (ca : Bool) (l n m cp : Nat) (a : Option Addr) (zs : List Int) (c : Cm) (h : Dv w B tag st f S D N k ca) (hf1 : 1 ≤ f.size) (hf2 : f.size ≤ 32) (hN : N ≤ 4096) (hc : st.cnt < 400000000000) (hcw : st.waits.length < 1000000) (hf : ∀ i, st.fails i = false) (hw : Wrs st.waits) (hG : Good (st.seen f)) (h0 : 0 ≤ k) (h1 : k ≤ 255) (hpr : c.pr = 0) (hl : c.lba = (l : Nat)) (hbl : c.bl = (n : Nat)) (hn1 : 1 ≤ n) (hin : l + n ≤ N) (hlk : lookS k c.pr l (rdL (st.seen f) l n) = noS) (hr : RdAt w (.slice a m cp) zs) (hlz : zs.length = m) (hby : Bytes zs) (hm : m = 2 * n * 16) (hd : ∀ j x y, j < n → (rdL (st.seen f) l n)[j]? = some x → (unBs false zs n)[j]? = some y → x.d = y.d) :
    Calls Try.prog 48 #[.pointer (some ⟨D, 0, none⟩), .agg c.vals, .slice a m cp] w fun e w' => e = .returned (.agg (noS).vals) ∧ Aft w w' B tag (wrF (rdSt st n) f l (prL k l (unBs false (zs.drop (n * 16)) n)) ca c.fua) := by
  have hcm3 : ∀ (W : World) (b : Nat), Bx W b c.vals → W.cell? ⟨b, 3, none⟩ = some (.int .u64 c.bl) := fun W b h => (cm_at h).2.2.2.1
  have hcm5 : ∀ (W : World) (b : Nat), Bx W b c.vals → W.cell? ⟨b, 5, none⟩ = some (.bool c.fua) := fun W b h => (cm_at h).2.2.2.2.2.1
  rw [hbl] at hcm3
  have etb : (c.pr != 0) = false := by rw [hpr]; rfl
  have HU := fun W (h : Below w.heap.size w W) => dunpack_yes c a m cp (2 * n) zs W (rd_below hr h) hlz hby (by omega) (by omega) (by rw [etb]; exact hm)
  simp only [etb] at HU
  have ho1 : ∀ b ∈ unBs false zs n, b.ok := fun b hb => unBs_ok false zs (2 * n) hby (by rw [hlz, hm]; rfl) b (by rw [unBs_cut]; exact List.mem_append_left _ hb)
  have ho2 : ∀ b ∈ unBs false (zs.drop (n * 16)) n, b.ok := fun b hb => unBs_ok false zs (2 * n) hby (by rw [hlz, hm]; rfl) b (by rw [unBs_cut]; exact List.mem_append_right _ hb)
  rw [unBs_cut] at HU
  have hl1 : (unBs false zs n).length = n := unBs_len _ _ _
  have hl2 : (unBs false (zs.drop (n * 16)) n).length = n := unBs_len _ _ _
  obtain ⟨u1, hu1⟩ : ∃ u, u = unBs false zs n := ⟨_, rfl⟩
  obtain ⟨u2, hu2⟩ : ∃ u, u = unBs false (zs.drop (n * 16)) n := ⟨_, rfl⟩
  rw [← hu1] at HU ho1 hl1 hd
  rw [← hu2] at HU ho2 hl2 ⊢
  have hf1l : (flat u1).length = n * 19 := by rw [flat_len _ ho1, hl1]
  have HPr := fun W g (hD : Bx W D (devV S k)) (hg : W.heap[g]? = some (.cells (flat (u1 ++ u2)).toArray 76 (0, 0))) (hne : g ≠ D) => protect_0 D S l g (n * 19) k c n n (flat u1) u2 W hD h0 h1 hpr hl (by omega) (by rw [← flat_append]; exact hg) hf1l hl2 (Nat.le_refl _) ho2 hne
  have ho3 := prL_ok k l u2 ho2
  have hl3 : (prL k l u2).length = n := by rw [prL_len, hl2]
  obtain ⟨u3, hu3⟩ : ∃ u, u = prL k l u2 := ⟨_, rfl⟩
  rw [← hu3] at HPr ho3 hl3 ⊢
  have HC := fun W tag2 g (h : Dv W B tag2 st f S D N k ca) (hg : W.heap[g]? = some (.cells (flat u1 ++ flat u3).toArray 76 (0, 0))) (ht : tag2 g = none) => compare_same W B tag2 st f S D N k ca l n (2 * n) (some ⟨g, 0, none⟩) c u1 h hf1 hf2 hN (by omega) hf hG h0 h1 (by omega) (by omega) hl hbl hin hlk ⟨bks_flat (P := []) (C := flat u3) (by simpa using hg) rfl ho1 n (2 * n) hl1 (by unfold maxLen; omega), fun g' o' e => by cases e; exact ⟨heap_lt hg, ht⟩, Nat.le_refl _⟩ hl1 hd
  have HW := fun W tag2 g (h : Dv W B tag2 (rdSt st n) f S D N k ca) (hg : W.heap[g]? = some (.cells (flat u1 ++ flat u3).toArray 76 (0, 0))) (ht : tag2 g = none) => dwrite_ok W B tag2 (rdSt st n) f S D N k ca l n n (some ⟨g, n * 19, none⟩) c.fua c u3 h hf1 hf2 hN (by simp only [rdSt]; omega) hcw hf hw hl hin hl3 (bks_flat (P := flat u1) (C := []) (by simpa using hg) hf1l ho3 n n hl3 (by unfold maxLen; omega)) (fun g' hg' => by simp [Value.ownBlock] at hg'; rw [← hg']; exact ht)
  obtain ⟨st2, hst2⟩ : ∃ s, s = wrF (rdSt st n) f l u3 ca c.fua := ⟨_, rfl⟩
  rw [← hst2] at HW ⊢
  obtain ⟨fua, hfua⟩ : ∃ x, x = c.fua := ⟨_, rfl⟩
  rw [← hfua] at HW hcm5
  have HE0 := fun W => ended_any noS W
  simp only [show (noS.key != 0) = false from rfl] at HE0
  have en : IntKind.i64.wrap (n : Int) = n := by rw [IntKind.wrap_i64]; omega
  have e2n : wrap64 (2 * (n : Int)) = ((2 * n : Nat) : Int) := by unfold wrap64; omega
  have e2m : (2 : Int) * n = ((2 * n : Nat) : Int) := by omega
  obtain ⟨nn, hnn⟩ : ∃ x, x = 2 * n := ⟨_, rfl⟩
  rw [← hnn] at HU e2n e2m HC
  have hnn1 : n ≤ nn := by omega
  have hnn2 : nn - n = n := by omega
  have hnn3 : ¬ nn = n := by omega
  obtain ⟨XU, hXU⟩ : ∃ X, X = (flat (u1 ++ u2)).toArray := ⟨_, rfl⟩
  obtain ⟨XP, hXP⟩ : ∃ X, X = (flat u1 ++ flat u3).toArray := ⟨_, rfl⟩
  rw [← hXU] at HU HPr
  rw [← hXP] at HPr HC HW
  have hCs : c.vals.size = 15 := rfl
  obtain ⟨CV, hCV⟩ : ∃ CV, CV = c.vals := ⟨_, rfl⟩
  rw [← hCV] at hCs hcm3 hcm5 HU HPr HC HW ⊢
  replace hcm3 := Kpt.mk hcm3
  replace hcm5 := Kpt.mk hcm5
  replace hCs := Kpt.mk hCs
  clear hCV
  have hSl := h.sto.lt
  have hDl := h.bx.lt
  have F := Kpt.mk h.fx
  have hb := Kpt.mk (Below.refl w.heap.size w)
  replace HU := Kpt.mk HU
  replace HPr := Kpt.mk HPr
  replace HC := Kpt.mk HC
  replace HW := Kpt.mk HW
  replace HE0 := Kpt.mk HE0
  replace hm := Kpt.mk hm
  replace hnn := Kpt.mk hnn
  replace h := Kpt.mk h
  clear ho1 ho2 ho3 hl1 hl2 hl3 hr hlz hl hbl hf hw hG hlk hd hu1 hu2 hu3 hXU hXP etb hpr hf1l hst2 hfua
  go_enter Try.func48, Try.ntmps48
  go_wp2_with (first
      | (go_at_call 22; have hm := m5; go_must (refine (HE0.out _).mono ?_; rintro e w6 ⟨rfl, h_⟩; replace Oc := Kpt.mk (Oc.out.below h_); replace Or := Kpt.mk (Or.out.below h_); replace Ov := Kpt.mk (Ov.out.below h_); replace Rg := Kpt.mk (Rg.out.below h_); replace F := Kpt.mk (F.out.below h_); replace x3 := hcm3.out _ _ Oc.out.bx; replace x5 := hcm5.out _ _ Oc.out.bx; replace hb := Kpt.mk (hb.out.trans (h_.mono hb.out.size)); clear h_; clear hm m5; have m6 : Kpt True := ⟨trivial⟩))
      | (have hm := m4; refine wpList_store_bx rfl 32 _ _ rfl bv _ (noS).vals rfl rfl Ov.out.bx rfl infoS (Sn.vals_one _) rfl ?_; intro w5 hX_ hg_; replace hb := Kpt.mk (hb.out.trans (Below.ofGrown hg_ hb.out.size Ov.out.lo)); replace Oc := Kpt.mk (Oc.out.other hg_ (by omega)); replace Or := Kpt.mk (Or.out.other hg_ (by omega)); replace Rg := Kpt.mk (Rg.out.other hg_ (by omega)); replace F := Kpt.mk (F.out.own Ov.out hg_ hSl hDl); replace Ov := Kpt.mk (Ov.out.set hX_); replace x3 := hcm3.out _ _ Oc.out.bx; replace x5 := hcm5.out _ _ Oc.out.bx; clear hX_ hg_; clear hm m4; have m5 : Kpt True := ⟨trivial⟩)
      | (have hm := m3; refine wpList_var rfl 32 rfl zeroS zeroSi ?_; intro bv w_v hl_ hX_ h_; have q_c_v : bc < bv := Nat.lt_of_lt_of_le Oc.out.bx.lt hl_; have q_r_v : br < bv := Nat.lt_of_lt_of_le Or.out.bx.lt hl_; have q_g_v : gg < bv := Nat.lt_of_lt_of_le Rg.out.lt hl_; have Ov := Kpt.mk (F.out.new hl_ hX_); replace Oc := Kpt.mk (Oc.out.below h_); replace Or := Kpt.mk (Or.out.below h_); replace Rg := Kpt.mk (Rg.out.below h_); replace F := Kpt.mk (F.out.below h_); replace x3 := hcm3.out _ _ Oc.out.bx; replace x5 := hcm5.out _ _ Oc.out.bx; replace hb := Kpt.mk (hb.out.trans (h_.mono hb.out.size)); clear hl_ hX_ h_; clear hm m3; have m4 : Kpt True := ⟨trivial⟩)
      | (go_at_call 59; have hm := m2; go_must (refine (HU.out _ hb.out).mono ?_; rintro e w3 ⟨gg, rfl, hr_, hgl_, h_⟩; have q_c_g : bc < gg := Nat.lt_of_lt_of_le Oc.out.bx.lt hgl_; have q_r_g : br < gg := Nat.lt_of_lt_of_le Or.out.bx.lt hgl_; have Rg := Kpt.mk (F.out.row hgl_ hr_); replace Oc := Kpt.mk (Oc.out.below h_); replace Or := Kpt.mk (Or.out.below h_); replace F := Kpt.mk (F.out.below h_); replace x3 := hcm3.out _ _ Oc.out.bx; replace x5 := hcm5.out _ _ Oc.out.bx; replace hb := Kpt.mk (hb.out.trans (h_.mono hb.out.size)); clear h_; clear hgl_ hr_; clear hm m2; have m3 : Kpt True := ⟨trivial⟩))
      | (have hm := m1; refine wpList_var rfl 32 rfl zeroS zeroSi ?_; intro br w_r hl_ hX_ h_; have q_c_r : bc < br := Nat.lt_of_lt_of_le Oc.out.bx.lt hl_; have Or := Kpt.mk (F.out.new hl_ hX_); replace Oc := Kpt.mk (Oc.out.below h_); replace F := Kpt.mk (F.out.below h_); replace x3 := hcm3.out _ _ Oc.out.bx; replace x5 := hcm5.out _ _ Oc.out.bx; replace hb := Kpt.mk (hb.out.trans (h_.mono hb.out.size)); clear hl_ hX_ h_; clear hm m1; have m2 : Kpt True := ⟨trivial⟩)
      | (refine wpList_box rfl 38 _ rfl CV rfl ?_; intro bc w_c hl_ hX_ h_ _; have Oc := Kpt.mk (F.out.new hl_ hX_); replace F := Kpt.mk (F.out.below h_); replace hb := Kpt.mk (hb.out.trans (h_.mono hb.out.size)); have x3 := hcm3.out _ _ Oc.out.bx; have x5 := hcm5.out _ _ Oc.out.bx; clear hl_ hX_ h_; have m1 : Kpt True := ⟨trivial⟩)
      | (refine wpList_load_bx rfl 38 _ rfl bc CV rfl Oc.out.bx _ Try.underlying38 rfl (by rw [hCs.out]; exact infoC) ?_)
      | (refine wpList_load_bx rfl 32 _ rfl bv (noS).vals rfl Ov.out.bx _ Try.underlying32 rfl infoS ?_)
      | fail)
  refine wp_region_any (by kernel_rfl) ?_
  refine wpAny_of_C (C := fun W => True) _ _ _ _ ?_
  refine wpAnyC_take 0 (.slice (some ⟨gg, 0, none⟩) nn nn) rfl (by kernel_rfl) (by kernel_rfl) (by kernel_rfl) (fun _ _ _ h => h) (wanted_free rfl _) (fun W hW => by go_simp) ?_
  try simp only [Act.put, List.getElem_toArray, List.getElem_cons_succ, List.getElem_cons_zero, List.setIfInBounds_toArray, List.set_cons_succ, List.set_cons_zero]
  refine wpAnyC_take 1 (.int .i64 n) rfl (by kernel_rfl) (by kernel_rfl) (by kernel_rfl) (fun _ _ _ h => h) (wanted_free rfl _) (fun W hW => by go_simp) ?_
  try simp only [Act.put, List.getElem_toArray, List.getElem_cons_succ, List.getElem_cons_zero, List.setIfInBounds_toArray, List.set_cons_succ, List.set_cons_zero]
  refine wpAnyC_take 2 (.slice (some ⟨gg, 0, none⟩) n nn) rfl (by kernel_rfl) (by kernel_rfl) (by kernel_rfl) (fun _ _ _ h => h) (wanted_free rfl _) (fun W hW => by go_simp) ?_
  try simp only [Act.put, List.getElem_toArray, List.getElem_cons_succ, List.getElem_cons_zero, List.setIfInBounds_toArray, List.set_cons_succ, List.set_cons_zero]
  refine wpAnyC_take 3 (.slice (some ⟨gg, 0, none⟩) nn nn) rfl (by kernel_rfl) (by kernel_rfl) (by kernel_rfl) (fun _ _ _ h => h) (wanted_free rfl _) (fun W hW => by go_simp) ?_
  try simp only [Act.put, List.getElem_toArray, List.getElem_cons_succ, List.getElem_cons_zero, List.setIfInBounds_toArray, List.set_cons_succ, List.set_cons_zero]
  refine wpAnyC_take 4 (.int .i64 n) rfl (by kernel_rfl) (by kernel_rfl) (by kernel_rfl) (fun _ _ _ h => h) (wanted_free rfl _) (fun W hW => by go_simp) ?_
  try simp only [Act.put, List.getElem_toArray, List.getElem_cons_succ, List.getElem_cons_zero, List.setIfInBounds_toArray, List.set_cons_succ, List.set_cons_zero]
  refine wpAnyC_take 5 (.slice (some ⟨gg, n * 19, none⟩) n n) rfl (by kernel_rfl) (by kernel_rfl) (by kernel_rfl) (fun _ _ _ h => h) (wanted_free rfl _) (fun W hW => by go_simp) ?_
  try simp only [Act.put, List.getElem_toArray, List.getElem_cons_succ, List.getElem_cons_zero, List.setIfInBounds_toArray, List.set_cons_succ, List.set_cons_zero]
  refine wpAnyC_take 6 (.slice (some ⟨gg, 0, none⟩) n nn) rfl (by kernel_rfl) (by kernel_rfl) (by kernel_rfl) (fun _ _ _ h => h) (wanted_free rfl _) (fun W hW => by go_simp) ?_
  try simp only [Act.put, List.getElem_toArray, List.getElem_cons_succ, List.getElem_cons_zero, List.setIfInBounds_toArray, List.set_cons_succ, List.set_cons_zero]
  refine wpAnyC_take 7 (.slice (some ⟨gg, n * 19, none⟩) n n) rfl (by kernel_rfl) (by kernel_rfl) (by kernel_rfl) (fun _ _ _ h => h) (wanted_free rfl _) (fun W hW => by go_simp) ?_
  try simp only [Act.put, List.getElem_toArray, List.getElem_cons_succ, List.getElem_cons_zero, List.setIfInBounds_toArray, List.set_cons_succ, List.set_cons_zero]
  refine wpAnyC_done (trivial) (by kernel_rfl) ?_
  have h_ := below_drew w6
  replace Oc := Kpt.mk (Oc.out.below h_)
  replace Or := Kpt.mk (Or.out.below h_)
  replace Ov := Kpt.mk (Ov.out.below h_)
  replace Rg := Kpt.mk (Rg.out.below h_)
  replace F := Kpt.mk (F.out.below h_)
  replace x3 := hcm3.out _ _ Oc.out.bx
  replace x5 := hcm5.out _ _ Oc.out.bx
  replace hb := Kpt.mk (hb.out.trans (h_.mono hb.out.size))
  clear h_
  go_wp2_with (first
      | (have hm := m15; refine wpList_store_bx rfl 32 _ _ rfl br _ (noS).vals rfl rfl Or.out.bx rfl infoS (Sn.vals_one _) rfl ?_; intro w16 hX_ hg_; replace Oc := Kpt.mk (Oc.out.other hg_ (by omega)); replace Ov := Kpt.mk (Ov.out.other hg_ (by omega)); replace Oz := Kpt.mk (Oz.out.other hg_ (by omega)); replace Ou := Kpt.mk (Ou.out.other hg_ (by omega)); replace Rg := Kpt.mk (Rg.out.other hg_ (by omega)); replace F := Kpt.mk (F.out.own Or.out hg_ hSl hDl); replace Or := Kpt.mk (Or.out.set hX_); replace x3 := hcm3.out _ _ Oc.out.bx; replace x5 := hcm5.out _ _ Oc.out.bx; clear hX_ hg_; clear hm m15; have m16 : Kpt True := ⟨trivial⟩)
      | (go_at_call 58; have hm := m14; go_must (refine (HW.out _ _ _ F.out.dv Rg.out.row Rg.out.bare).mono ?_; rintro e w11 ⟨rfl, tag11, hW_, s_⟩; replace Oc := Kpt.mk (Oc.out.call s_); replace Or := Kpt.mk (Or.out.call s_); replace Ov := Kpt.mk (Ov.out.call s_); replace Oz := Kpt.mk (Oz.out.call s_); replace Ou := Kpt.mk (Ou.out.call s_); replace Rg := Kpt.mk (Rg.out.call s_); replace F := Kpt.mk (F.out.call hW_ s_); replace x3 := hcm3.out _ _ Oc.out.bx; replace x5 := hcm5.out _ _ Oc.out.bx; clear hW_ s_; clear hm m14; have m15 : Kpt True := ⟨trivial⟩))
      | (go_at_call 22; have hm := m13; go_must (refine (HE0.out _).mono ?_; rintro e w10 ⟨rfl, h_⟩; replace Oc := Kpt.mk (Oc.out.below h_); replace Or := Kpt.mk (Or.out.below h_); replace Ov := Kpt.mk (Ov.out.below h_); replace Oz := Kpt.mk (Oz.out.below h_); replace Ou := Kpt.mk (Ou.out.below h_); replace Rg := Kpt.mk (Rg.out.below h_); replace F := Kpt.mk (F.out.below h_); replace x3 := hcm3.out _ _ Oc.out.bx; replace x5 := hcm5.out _ _ Oc.out.bx; clear h_; clear hm m13; have m14 : Kpt True := ⟨trivial⟩))
      | (have hm := m12; refine wpList_store_bx rfl 32 _ _ rfl bu _ (noS).vals rfl rfl Ou.out.bx rfl infoS (Sn.vals_one _) rfl ?_; intro w13 hX_ hg_; replace Oc := Kpt.mk (Oc.out.other hg_ (by omega)); replace Or := Kpt.mk (Or.out.other hg_ (by omega)); replace Ov := Kpt.mk (Ov.out.other hg_ (by omega)); replace Oz := Kpt.mk (Oz.out.other hg_ (by omega)); replace Rg := Kpt.mk (Rg.out.other hg_ (by omega)); replace F := Kpt.mk (F.out.own Ou.out hg_ hSl hDl); replace Ou := Kpt.mk (Ou.out.set hX_); replace x3 := hcm3.out _ _ Oc.out.bx; replace x5 := hcm5.out _ _ Oc.out.bx; clear hX_ hg_; clear hm m12; have m13 : Kpt True := ⟨trivial⟩)
      | (have hm := m11; refine wpList_var rfl 32 rfl zeroS zeroSi ?_; intro bu w_u hl_ hX_ h_; have q_c_u : bc < bu := Nat.lt_of_lt_of_le Oc.out.bx.lt hl_; have q_r_u : br < bu := Nat.lt_of_lt_of_le Or.out.bx.lt hl_; have q_v_u : bv < bu := Nat.lt_of_lt_of_le Ov.out.bx.lt hl_; have q_z_u : bz < bu := Nat.lt_of_lt_of_le Oz.out.bx.lt hl_; have q_g_u : gg < bu := Nat.lt_of_lt_of_le Rg.out.lt hl_; have Ou := Kpt.mk (F.out.new hl_ hX_); replace Oc := Kpt.mk (Oc.out.below h_); replace Or := Kpt.mk (Or.out.below h_); replace Ov := Kpt.mk (Ov.out.below h_); replace Oz := Kpt.mk (Oz.out.below h_); replace Rg := Kpt.mk (Rg.out.below h_); replace F := Kpt.mk (F.out.below h_); replace x3 := hcm3.out _ _ Oc.out.bx; replace x5 := hcm5.out _ _ Oc.out.bx; clear hl_ hX_ h_; clear hm m11; have m12 : Kpt True := ⟨trivial⟩)
      | (go_at_call 60; have hm := m10; go_must (refine (HC.out _ _ _ F.out.dv Rg.out.row Rg.out.bare).mono ?_; rintro e w9 ⟨rfl, tag9, hW_, s_⟩; replace Oc := Kpt.mk (Oc.out.call s_); replace Or := Kpt.mk (Or.out.call s_); replace Ov := Kpt.mk (Ov.out.call s_); replace Oz := Kpt.mk (Oz.out.call s_); replace Rg := Kpt.mk (Rg.out.call s_); replace F := Kpt.mk (F.out.call hW_ s_); replace x3 := hcm3.out _ _ Oc.out.bx; replace x5 := hcm5.out _ _ Oc.out.bx; clear hW_ s_; clear hm m10; have m11 : Kpt True := ⟨trivial⟩))
      | (go_at_call 22; have hm := m9; go_must (refine (HE0.out _).mono ?_; rintro e w8 ⟨rfl, h_⟩; replace Oc := Kpt.mk (Oc.out.below h_); replace Or := Kpt.mk (Or.out.below h_); replace Ov := Kpt.mk (Ov.out.below h_); replace Oz := Kpt.mk (Oz.out.below h_); replace Rg := Kpt.mk (Rg.out.below h_); replace F := Kpt.mk (F.out.below h_); replace x3 := hcm3.out _ _ Oc.out.bx; replace x5 := hcm5.out _ _ Oc.out.bx; replace hb := Kpt.mk (hb.out.trans (h_.mono hb.out.size)); clear h_; clear hm m9; have m10 : Kpt True := ⟨trivial⟩))
      | (have hm := m8; refine wpList_store_bx rfl 32 _ _ rfl bz _ (noS).vals rfl rfl Oz.out.bx rfl infoS (Sn.vals_one _) rfl ?_; intro w9 hX_ hg_; replace hb := Kpt.mk (hb.out.trans (Below.ofGrown hg_ hb.out.size Oz.out.lo)); replace Oc := Kpt.mk (Oc.out.other hg_ (by omega)); replace Or := Kpt.mk (Or.out.other hg_ (by omega)); replace Ov := Kpt.mk (Ov.out.other hg_ (by omega)); replace Rg := Kpt.mk (Rg.out.other hg_ (by omega)); replace F := Kpt.mk (F.out.own Oz.out hg_ hSl hDl); replace Oz := Kpt.mk (Oz.out.set hX_); replace x3 := hcm3.out _ _ Oc.out.bx; replace x5 := hcm5.out _ _ Oc.out.bx; clear hX_ hg_; clear hm m8; have m9 : Kpt True := ⟨trivial⟩)
      | (have hm := m7; refine wpList_var rfl 32 rfl zeroS zeroSi ?_; intro bz w_z hl_ hX_ h_; have q_c_z : bc < bz := Nat.lt_of_lt_of_le Oc.out.bx.lt hl_; have q_r_z : br < bz := Nat.lt_of_lt_of_le Or.out.bx.lt hl_; have q_v_z : bv < bz := Nat.lt_of_lt_of_le Ov.out.bx.lt hl_; have q_g_z : gg < bz := Nat.lt_of_lt_of_le Rg.out.lt hl_; have Oz := Kpt.mk (F.out.new hl_ hX_); replace Oc := Kpt.mk (Oc.out.below h_); replace Or := Kpt.mk (Or.out.below h_); replace Ov := Kpt.mk (Ov.out.below h_); replace Rg := Kpt.mk (Rg.out.below h_); replace F := Kpt.mk (F.out.below h_); replace x3 := hcm3.out _ _ Oc.out.bx; replace x5 := hcm5.out _ _ Oc.out.bx; replace hb := Kpt.mk (hb.out.trans (h_.mono hb.out.size)); clear hl_ hX_ h_; clear hm m7; have m8 : Kpt True := ⟨trivial⟩)
      | (go_at_call 67; have hm := m6; go_must (refine (HPr.out _ _ F.out.dv.bx Rg.out.row (by have := Rg.out.lo; omega)).mono ?_; rintro e w7 ⟨rfl, hrow_, hg_⟩; replace Oc := Kpt.mk (Oc.out.other hg_ (by omega)); replace Or := Kpt.mk (Or.out.other hg_ (by omega)); replace Ov := Kpt.mk (Ov.out.other hg_ (by omega)); replace hb := Kpt.mk (hb.out.trans (Below.ofGrown hg_ hb.out.size Rg.out.lo)); replace F := Kpt.mk (F.out.turn Rg.out hg_ hSl hDl); replace Rg := Kpt.mk (Rb.mk (w := w) hrow_ Rg.out.lo Rg.out.bare); replace x3 := hcm3.out _ _ Oc.out.bx; replace x5 := hcm5.out _ _ Oc.out.bx; clear hrow_ hg_; clear hm m6; have m7 : Kpt True := ⟨trivial⟩))
      | (refine wpList_load_bx rfl 38 _ rfl bc CV rfl Oc.out.bx _ Try.underlying38 rfl (by rw [hCs.out]; exact infoC) ?_)
      | (refine wpList_load_bx rfl 32 _ rfl bv (noS).vals rfl Ov.out.bx _ Try.underlying32 rfl infoS ?_)
      | (refine wpList_load_bx rfl 32 _ rfl bz (noS).vals rfl Oz.out.bx _ Try.underlying32 rfl infoS ?_)
      | (refine wpList_load_bx rfl 32 _ rfl bu (noS).vals rfl Ou.out.bx _ Try.underlying32 rfl infoS ?_)
      | fail)
  refine bodyPost_ret (v := .agg (noS).vals) (by simp [results, Try.results48, asAddr, Act.put, res_run Or.out.bx]) rfl ⟨rfl, _, F.out.dv.wd, F.out.st⟩

set_option maxRecDepth 100000 in
set_option maxHeartbeats 2000000 in
theorem cmpw_dif (w : World) (B : Nat) (tag : Tags) (st : St) (f : ByteArray) (S D N : Nat) (k : Int) (ca : Bool) (l n m cp : Nat) (a : Option Addr) (zs : List Int) (c : Cm) (h : Dv w B tag st f S D N k ca) (hf1 : 1 ≤ f.size) (hf2 : f.size ≤ 32) (hN : N ≤ 4096) (hc : st.cnt < 400000000000) (hcw : st.waits.length < 1000000) (hf : ∀ i, st.fails i = false) (hw : Wrs st.waits) (hG : Good (st.seen f)) (h0 : 0 ≤ k) (h1 : k ≤ 255) (hpr : c.pr = 0) (hl : c.lba = (l : Nat)) (hbl : c.bl = (n : Nat)) (hn1 : 1 ≤ n) (hin : l + n ≤ N) (hlk : lookS k c.pr l (rdL (st.seen f) l n) = noS) (hr : RdAt w (.slice a m cp) zs) (hlz : zs.length = m) (hby : Bytes zs) (hm : m = 2 * n * 16) (pl : Nat) (hpl : pl < 1000000) (hd : Dif (rdL (st.seen f) l n) (unBs false zs n) pl) :
    Calls Try.prog 48 #[.pointer (some ⟨D, 0, none⟩), .agg c.vals, .slice a m cp] w fun e w' => e = .returned (.agg ((nuS 14 7424 pl)).vals) ∧ Aft w w' B tag (rdSt st n) := by
  have hcm3 : ∀ (W : World) (b : Nat), Bx W b c.vals → W.cell? ⟨b, 3, none⟩ = some (.int .u64 c.bl) := fun W b h => (cm_at h).2.2.2.1
  have hcm5 : ∀ (W : World) (b : Nat), Bx W b c.vals → W.cell? ⟨b, 5, none⟩ = some (.bool c.fua) := fun W b h => (cm_at h).2.2.2.2.2.1
  rw [hbl] at hcm3
  have etb : (c.pr != 0) = false := by rw [hpr]; rfl
  have HU := fun W (h : Below w.heap.size w W) => dunpack_yes c a m cp (2 * n) zs W (rd_below hr h) hlz hby (by omega) (by omega) (by rw [etb]; exact hm)
  simp only [etb] at HU
  have ho1 : ∀ b ∈ unBs false zs n, b.ok := fun b hb => unBs_ok false zs (2 * n) hby (by rw [hlz, hm]; rfl) b (by rw [unBs_cut]; exact List.mem_append_left _ hb)
  have ho2 : ∀ b ∈ unBs false (zs.drop (n * 16)) n, b.ok := fun b hb => unBs_ok false zs (2 * n) hby (by rw [hlz, hm]; rfl) b (by rw [unBs_cut]; exact List.mem_append_right _ hb)
  rw [unBs_cut] at HU
  have hl1 : (unBs false zs n).length = n := unBs_len _ _ _
  have hl2 : (unBs false (zs.drop (n * 16)) n).length = n := unBs_len _ _ _
  obtain ⟨u1, hu1⟩ : ∃ u, u = unBs false zs n := ⟨_, rfl⟩
  obtain ⟨u2, hu2⟩ : ∃ u, u = unBs false (zs.drop (n * 16)) n := ⟨_, rfl⟩
  rw [← hu1] at HU ho1 hl1 hd
  rw [← hu2] at HU ho2 hl2 
  have hf1l : (flat u1).length = n * 19 := by rw [flat_len _ ho1, hl1]
  have HPr := fun W g (hD : Bx W D (devV S k)) (hg : W.heap[g]? = some (.cells (flat (u1 ++ u2)).toArray 76 (0, 0))) (hne : g ≠ D) => protect_0 D S l g (n * 19) k c n n (flat u1) u2 W hD h0 h1 hpr hl (by omega) (by rw [← flat_append]; exact hg) hf1l hl2 (Nat.le_refl _) ho2 hne
  have ho3 := prL_ok k l u2 ho2
  have hl3 : (prL k l u2).length = n := by rw [prL_len, hl2]
  obtain ⟨u3, hu3⟩ : ∃ u, u = prL k l u2 := ⟨_, rfl⟩
  rw [← hu3] at HPr ho3 hl3 
  have HC := fun W tag2 g (h : Dv W B tag2 st f S D N k ca) (hg : W.heap[g]? = some (.cells (flat u1 ++ flat u3).toArray 76 (0, 0))) (ht : tag2 g = none) => compare_dif W B tag2 st f S D N k ca l n (2 * n) (some ⟨g, 0, none⟩) c u1 h hf1 hf2 hN (by omega) hf hG h0 h1 (by omega) (by omega) hl hbl hin hlk ⟨bks_flat (P := []) (C := flat u3) (by simpa using hg) rfl ho1 n (2 * n) hl1 (by unfold maxLen; omega), fun g' o' e => by cases e; exact ⟨heap_lt hg, ht⟩, Nat.le_refl _⟩ hl1 pl hpl hd
  have HE0 := fun W => ended_any noS W
  simp only [show (noS.key != 0) = false from rfl] at HE0
  have HE1 := fun W => ended_any (nuS 14 7424 pl) W
  simp only [show ((nuS 14 7424 pl).key != 0) = true from rfl] at HE1
  replace HE1 := Kpt.mk HE1
  have en : IntKind.i64.wrap (n : Int) = n := by rw [IntKind.wrap_i64]; omega
  have e2n : wrap64 (2 * (n : Int)) = ((2 * n : Nat) : Int) := by unfold wrap64; omega
  have e2m : (2 : Int) * n = ((2 * n : Nat) : Int) := by omega
  obtain ⟨nn, hnn⟩ : ∃ x, x = 2 * n := ⟨_, rfl⟩
  rw [← hnn] at HU e2n e2m HC
  have hnn1 : n ≤ nn := by omega
  have hnn2 : nn - n = n := by omega
  have hnn3 : ¬ nn = n := by omega
  obtain ⟨XU, hXU⟩ : ∃ X, X = (flat (u1 ++ u2)).toArray := ⟨_, rfl⟩
  obtain ⟨XP, hXP⟩ : ∃ X, X = (flat u1 ++ flat u3).toArray := ⟨_, rfl⟩
  rw [← hXU] at HU HPr
  rw [← hXP] at HPr HC 
  have hCs : c.vals.size = 15 := rfl
  obtain ⟨CV, hCV⟩ : ∃ CV, CV = c.vals := ⟨_, rfl⟩
  rw [← hCV] at hCs hcm3 hcm5 HU HPr HC ⊢
  replace hcm3 := Kpt.mk hcm3
  replace hcm5 := Kpt.mk hcm5
  replace hCs := Kpt.mk hCs
  clear hCV
  have hSl := h.sto.lt
  have hDl := h.bx.lt
  have F := Kpt.mk h.fx
  have hb := Kpt.mk (Below.refl w.heap.size w)
  replace HU := Kpt.mk HU
  replace HPr := Kpt.mk HPr
  replace HC := Kpt.mk HC
  replace HE0 := Kpt.mk HE0
  replace hm := Kpt.mk hm
  replace hnn := Kpt.mk hnn
  replace h := Kpt.mk h
  clear ho1 ho2 ho3 hl1 hl2 hl3 hr hlz hl hbl hf hw hG hlk hd hu1 hu2 hu3 hXU hXP etb hpr hf1l 
  go_enter Try.func48, Try.ntmps48
  go_wp2_with (first
      | (go_at_call 22; have hm := m5; go_must (refine (HE0.out _).mono ?_; rintro e w6 ⟨rfl, h_⟩; replace Oc := Kpt.mk (Oc.out.below h_); replace Or := Kpt.mk (Or.out.below h_); replace Ov := Kpt.mk (Ov.out.below h_); replace Rg := Kpt.mk (Rg.out.below h_); replace F := Kpt.mk (F.out.below h_); replace x3 := hcm3.out _ _ Oc.out.bx; replace x5 := hcm5.out _ _ Oc.out.bx; replace hb := Kpt.mk (hb.out.trans (h_.mono hb.out.size)); clear h_; clear hm m5; have m6 : Kpt True := ⟨trivial⟩))
      | (have hm := m4; refine wpList_store_bx rfl 32 _ _ rfl bv _ (noS).vals rfl rfl Ov.out.bx rfl infoS (Sn.vals_one _) rfl ?_; intro w5 hX_ hg_; replace hb := Kpt.mk (hb.out.trans (Below.ofGrown hg_ hb.out.size Ov.out.lo)); replace Oc := Kpt.mk (Oc.out.other hg_ (by omega)); replace Or := Kpt.mk (Or.out.other hg_ (by omega)); replace Rg := Kpt.mk (Rg.out.other hg_ (by omega)); replace F := Kpt.mk (F.out.own Ov.out hg_ hSl hDl); replace Ov := Kpt.mk (Ov.out.set hX_); replace x3 := hcm3.out _ _ Oc.out.bx; replace x5 := hcm5.out _ _ Oc.out.bx; clear hX_ hg_; clear hm m4; have m5 : Kpt True := ⟨trivial⟩)
      | (have hm := m3; refine wpList_var rfl 32 rfl zeroS zeroSi ?_; intro bv w_v hl_ hX_ h_; have q_c_v : bc < bv := Nat.lt_of_lt_of_le Oc.out.bx.lt hl_; have q_r_v : br < bv := Nat.lt_of_lt_of_le Or.out.bx.lt hl_; have q_g_v : gg < bv := Nat.lt_of_lt_of_le Rg.out.lt hl_; have Ov := Kpt.mk (F.out.new hl_ hX_); replace Oc := Kpt.mk (Oc.out.below h_); replace Or := Kpt.mk (Or.out.below h_); replace Rg := Kpt.mk (Rg.out.below h_); replace F := Kpt.mk (F.out.below h_); replace x3 := hcm3.out _ _ Oc.out.bx; replace x5 := hcm5.out _ _ Oc.out.bx; replace hb := Kpt.mk (hb.out.trans (h_.mono hb.out.size)); clear hl_ hX_ h_; clear hm m3; have m4 : Kpt True := ⟨trivial⟩)
      | (go_at_call 59; have hm := m2; go_must (refine (HU.out _ hb.out).mono ?_; rintro e w3 ⟨gg, rfl, hr_, hgl_, h_⟩; have q_c_g : bc < gg := Nat.lt_of_lt_of_le Oc.out.bx.lt hgl_; have q_r_g : br < gg := Nat.lt_of_lt_of_le Or.out.bx.lt hgl_; have Rg := Kpt.mk (F.out.row hgl_ hr_); replace Oc := Kpt.mk (Oc.out.below h_); replace Or := Kpt.mk (Or.out.below h_); replace F := Kpt.mk (F.out.below h_); replace x3 := hcm3.out _ _ Oc.out.bx; replace x5 := hcm5.out _ _ Oc.out.bx; replace hb := Kpt.mk (hb.out.trans (h_.mono hb.out.size)); clear h_; clear hgl_ hr_; clear hm m2; have m3 : Kpt True := ⟨trivial⟩))
      | (have hm := m1; refine wpList_var rfl 32 rfl zeroS zeroSi ?_; intro br w_r hl_ hX_ h_; have q_c_r : bc < br := Nat.lt_of_lt_of_le Oc.out.bx.lt hl_; have Or := Kpt.mk (F.out.new hl_ hX_); replace Oc := Kpt.mk (Oc.out.below h_); replace F := Kpt.mk (F.out.below h_); replace x3 := hcm3.out _ _ Oc.out.bx; replace x5 := hcm5.out _ _ Oc.out.bx; replace hb := Kpt.mk (hb.out.trans (h_.mono hb.out.size)); clear hl_ hX_ h_; clear hm m1; have m2 : Kpt True := ⟨trivial⟩)
      | (refine wpList_box rfl 38 _ rfl CV rfl ?_; intro bc w_c hl_ hX_ h_ _; have Oc := Kpt.mk (F.out.new hl_ hX_); replace F := Kpt.mk (F.out.below h_); replace hb := Kpt.mk (hb.out.trans (h_.mono hb.out.size)); have x3 := hcm3.out _ _ Oc.out.bx; have x5 := hcm5.out _ _ Oc.out.bx; clear hl_ hX_ h_; have m1 : Kpt True := ⟨trivial⟩)
      | (refine wpList_load_bx rfl 38 _ rfl bc CV rfl Oc.out.bx _ Try.underlying38 rfl (by rw [hCs.out]; exact infoC) ?_)
      | (refine wpList_load_bx rfl 32 _ rfl bv (noS).vals rfl Ov.out.bx _ Try.underlying32 rfl infoS ?_)
      | fail)
  refine wp_region_any (by kernel_rfl) ?_
  refine wpAny_of_C (C := fun W => True) _ _ _ _ ?_
  refine wpAnyC_take 0 (.slice (some ⟨gg, 0, none⟩) nn nn) rfl (by kernel_rfl) (by kernel_rfl) (by kernel_rfl) (fun _ _ _ h => h) (wanted_free rfl _) (fun W hW => by go_simp) ?_
  try simp only [Act.put, List.getElem_toArray, List.getElem_cons_succ, List.getElem_cons_zero, List.setIfInBounds_toArray, List.set_cons_succ, List.set_cons_zero]
  refine wpAnyC_take 1 (.int .i64 n) rfl (by kernel_rfl) (by kernel_rfl) (by kernel_rfl) (fun _ _ _ h => h) (wanted_free rfl _) (fun W hW => by go_simp) ?_
  try simp only [Act.put, List.getElem_toArray, List.getElem_cons_succ, List.getElem_cons_zero, List.setIfInBounds_toArray, List.set_cons_succ, List.set_cons_zero]
  refine wpAnyC_take 2 (.slice (some ⟨gg, 0, none⟩) n nn) rfl (by kernel_rfl) (by kernel_rfl) (by kernel_rfl) (fun _ _ _ h => h) (wanted_free rfl _) (fun W hW => by go_simp) ?_
  try simp only [Act.put, List.getElem_toArray, List.getElem_cons_succ, List.getElem_cons_zero, List.setIfInBounds_toArray, List.set_cons_succ, List.set_cons_zero]
  refine wpAnyC_take 3 (.slice (some ⟨gg, 0, none⟩) nn nn) rfl (by kernel_rfl) (by kernel_rfl) (by kernel_rfl) (fun _ _ _ h => h) (wanted_free rfl _) (fun W hW => by go_simp) ?_
  try simp only [Act.put, List.getElem_toArray, List.getElem_cons_succ, List.getElem_cons_zero, List.setIfInBounds_toArray, List.set_cons_succ, List.set_cons_zero]
  refine wpAnyC_take 4 (.int .i64 n) rfl (by kernel_rfl) (by kernel_rfl) (by kernel_rfl) (fun _ _ _ h => h) (wanted_free rfl _) (fun W hW => by go_simp) ?_
  try simp only [Act.put, List.getElem_toArray, List.getElem_cons_succ, List.getElem_cons_zero, List.setIfInBounds_toArray, List.set_cons_succ, List.set_cons_zero]
  refine wpAnyC_take 5 (.slice (some ⟨gg, n * 19, none⟩) n n) rfl (by kernel_rfl) (by kernel_rfl) (by kernel_rfl) (fun _ _ _ h => h) (wanted_free rfl _) (fun W hW => by go_simp) ?_
  try simp only [Act.put, List.getElem_toArray, List.getElem_cons_succ, List.getElem_cons_zero, List.setIfInBounds_toArray, List.set_cons_succ, List.set_cons_zero]
  refine wpAnyC_take 6 (.slice (some ⟨gg, 0, none⟩) n nn) rfl (by kernel_rfl) (by kernel_rfl) (by kernel_rfl) (fun _ _ _ h => h) (wanted_free rfl _) (fun W hW => by go_simp) ?_
  try simp only [Act.put, List.getElem_toArray, List.getElem_cons_succ, List.getElem_cons_zero, List.setIfInBounds_toArray, List.set_cons_succ, List.set_cons_zero]
  refine wpAnyC_take 7 (.slice (some ⟨gg, n * 19, none⟩) n n) rfl (by kernel_rfl) (by kernel_rfl) (by kernel_rfl) (fun _ _ _ h => h) (wanted_free rfl _) (fun W hW => by go_simp) ?_
  try simp only [Act.put, List.getElem_toArray, List.getElem_cons_succ, List.getElem_cons_zero, List.setIfInBounds_toArray, List.set_cons_succ, List.set_cons_zero]
  refine wpAnyC_done (trivial) (by kernel_rfl) ?_
  have h_ := below_drew w6
  replace Oc := Kpt.mk (Oc.out.below h_)
  replace Or := Kpt.mk (Or.out.below h_)
  replace Ov := Kpt.mk (Ov.out.below h_)
  replace Rg := Kpt.mk (Rg.out.below h_)
  replace F := Kpt.mk (F.out.below h_)
  replace x3 := hcm3.out _ _ Oc.out.bx
  replace x5 := hcm5.out _ _ Oc.out.bx
  replace hb := Kpt.mk (hb.out.trans (h_.mono hb.out.size))
  clear h_
  go_wp2_with (first
      | (have hm := m14; refine wpList_store_bx rfl 32 _ _ rfl br _ ((nuS 14 7424 pl)).vals rfl rfl Or.out.bx rfl infoS (Sn.vals_one _) rfl ?_; intro w15 hX_ hg_; replace Oc := Kpt.mk (Oc.out.other hg_ (by omega)); replace Ov := Kpt.mk (Ov.out.other hg_ (by omega)); replace Oz := Kpt.mk (Oz.out.other hg_ (by omega)); replace Ou := Kpt.mk (Ou.out.other hg_ (by omega)); replace Rg := Kpt.mk (Rg.out.other hg_ (by omega)); replace F := Kpt.mk (F.out.own Or.out hg_ hSl hDl); replace Or := Kpt.mk (Or.out.set hX_); replace x3 := hcm3.out _ _ Oc.out.bx; replace x5 := hcm5.out _ _ Oc.out.bx; clear hX_ hg_; clear hm m14; have m15 : Kpt True := ⟨trivial⟩)
      | (go_at_call 22; have hm := m13; go_must (refine (HE1.out _).mono ?_; rintro e w10 ⟨rfl, h_⟩; replace Oc := Kpt.mk (Oc.out.below h_); replace Or := Kpt.mk (Or.out.below h_); replace Ov := Kpt.mk (Ov.out.below h_); replace Oz := Kpt.mk (Oz.out.below h_); replace Ou := Kpt.mk (Ou.out.below h_); replace Rg := Kpt.mk (Rg.out.below h_); replace F := Kpt.mk (F.out.below h_); replace x3 := hcm3.out _ _ Oc.out.bx; replace x5 := hcm5.out _ _ Oc.out.bx; clear h_; clear hm m13; have m14 : Kpt True := ⟨trivial⟩))
      | (have hm := m12; refine wpList_store_bx rfl 32 _ _ rfl bu _ ((nuS 14 7424 pl)).vals rfl rfl Ou.out.bx rfl infoS (Sn.vals_one _) rfl ?_; intro w13 hX_ hg_; replace Oc := Kpt.mk (Oc.out.other hg_ (by omega)); replace Or := Kpt.mk (Or.out.other hg_ (by omega)); replace Ov := Kpt.mk (Ov.out.other hg_ (by omega)); replace Oz := Kpt.mk (Oz.out.other hg_ (by omega)); replace Rg := Kpt.mk (Rg.out.other hg_ (by omega)); replace F := Kpt.mk (F.out.own Ou.out hg_ hSl hDl); replace Ou := Kpt.mk (Ou.out.set hX_); replace x3 := hcm3.out _ _ Oc.out.bx; replace x5 := hcm5.out _ _ Oc.out.bx; clear hX_ hg_; clear hm m12; have m13 : Kpt True := ⟨trivial⟩)
      | (have hm := m11; refine wpList_var rfl 32 rfl zeroS zeroSi ?_; intro bu w_u hl_ hX_ h_; have q_c_u : bc < bu := Nat.lt_of_lt_of_le Oc.out.bx.lt hl_; have q_r_u : br < bu := Nat.lt_of_lt_of_le Or.out.bx.lt hl_; have q_v_u : bv < bu := Nat.lt_of_lt_of_le Ov.out.bx.lt hl_; have q_z_u : bz < bu := Nat.lt_of_lt_of_le Oz.out.bx.lt hl_; have q_g_u : gg < bu := Nat.lt_of_lt_of_le Rg.out.lt hl_; have Ou := Kpt.mk (F.out.new hl_ hX_); replace Oc := Kpt.mk (Oc.out.below h_); replace Or := Kpt.mk (Or.out.below h_); replace Ov := Kpt.mk (Ov.out.below h_); replace Oz := Kpt.mk (Oz.out.below h_); replace Rg := Kpt.mk (Rg.out.below h_); replace F := Kpt.mk (F.out.below h_); replace x3 := hcm3.out _ _ Oc.out.bx; replace x5 := hcm5.out _ _ Oc.out.bx; clear hl_ hX_ h_; clear hm m11; have m12 : Kpt True := ⟨trivial⟩)
      | (go_at_call 60; have hm := m10; go_must (refine (HC.out _ _ _ F.out.dv Rg.out.row Rg.out.bare).mono ?_; rintro e w9 ⟨rfl, tag9, hW_, s_⟩; replace Oc := Kpt.mk (Oc.out.call s_); replace Or := Kpt.mk (Or.out.call s_); replace Ov := Kpt.mk (Ov.out.call s_); replace Oz := Kpt.mk (Oz.out.call s_); replace Rg := Kpt.mk (Rg.out.call s_); replace F := Kpt.mk (F.out.call hW_ s_); replace x3 := hcm3.out _ _ Oc.out.bx; replace x5 := hcm5.out _ _ Oc.out.bx; clear hW_ s_; clear hm m10; have m11 : Kpt True := ⟨trivial⟩))
      | (go_at_call 22; have hm := m9; go_must (refine (HE0.out _).mono ?_; rintro e w8 ⟨rfl, h_⟩; replace Oc := Kpt.mk (Oc.out.below h_); replace Or := Kpt.mk (Or.out.below h_); replace Ov := Kpt.mk (Ov.out.below h_); replace Oz := Kpt.mk (Oz.out.below h_); replace Rg := Kpt.mk (Rg.out.below h_); replace F := Kpt.mk (F.out.below h_); replace x3 := hcm3.out _ _ Oc.out.bx; replace x5 := hcm5.out _ _ Oc.out.bx; replace hb := Kpt.mk (hb.out.trans (h_.mono hb.out.size)); clear h_; clear hm m9; have m10 : Kpt True := ⟨trivial⟩))
      | (have hm := m8; refine wpList_store_bx rfl 32 _ _ rfl bz _ (noS).vals rfl rfl Oz.out.bx rfl infoS (Sn.vals_one _) rfl ?_; intro w9 hX_ hg_; replace hb := Kpt.mk (hb.out.trans (Below.ofGrown hg_ hb.out.size Oz.out.lo)); replace Oc := Kpt.mk (Oc.out.other hg_ (by omega)); replace Or := Kpt.mk (Or.out.other hg_ (by omega)); replace Ov := Kpt.mk (Ov.out.other hg_ (by omega)); replace Rg := Kpt.mk (Rg.out.other hg_ (by omega)); replace F := Kpt.mk (F.out.own Oz.out hg_ hSl hDl); replace Oz := Kpt.mk (Oz.out.set hX_); replace x3 := hcm3.out _ _ Oc.out.bx; replace x5 := hcm5.out _ _ Oc.out.bx; clear hX_ hg_; clear hm m8; have m9 : Kpt True := ⟨trivial⟩)
      | (have hm := m7; refine wpList_var rfl 32 rfl zeroS zeroSi ?_; intro bz w_z hl_ hX_ h_; have q_c_z : bc < bz := Nat.lt_of_lt_of_le Oc.out.bx.lt hl_; have q_r_z : br < bz := Nat.lt_of_lt_of_le Or.out.bx.lt hl_; have q_v_z : bv < bz := Nat.lt_of_lt_of_le Ov.out.bx.lt hl_; have q_g_z : gg < bz := Nat.lt_of_lt_of_le Rg.out.lt hl_; have Oz := Kpt.mk (F.out.new hl_ hX_); replace Oc := Kpt.mk (Oc.out.below h_); replace Or := Kpt.mk (Or.out.below h_); replace Ov := Kpt.mk (Ov.out.below h_); replace Rg := Kpt.mk (Rg.out.below h_); replace F := Kpt.mk (F.out.below h_); replace x3 := hcm3.out _ _ Oc.out.bx; replace x5 := hcm5.out _ _ Oc.out.bx; replace hb := Kpt.mk (hb.out.trans (h_.mono hb.out.size)); clear hl_ hX_ h_; clear hm m7; have m8 : Kpt True := ⟨trivial⟩)
      | (go_at_call 67; have hm := m6; go_must (refine (HPr.out _ _ F.out.dv.bx Rg.out.row (by have := Rg.out.lo; omega)).mono ?_; rintro e w7 ⟨rfl, hrow_, hg_⟩; replace Oc := Kpt.mk (Oc.out.other hg_ (by omega)); replace Or := Kpt.mk (Or.out.other hg_ (by omega)); replace Ov := Kpt.mk (Ov.out.other hg_ (by omega)); replace hb := Kpt.mk (hb.out.trans (Below.ofGrown hg_ hb.out.size Rg.out.lo)); replace F := Kpt.mk (F.out.turn Rg.out hg_ hSl hDl); replace Rg := Kpt.mk (Rb.mk (w := w) hrow_ Rg.out.lo Rg.out.bare); replace x3 := hcm3.out _ _ Oc.out.bx; replace x5 := hcm5.out _ _ Oc.out.bx; clear hrow_ hg_; clear hm m6; have m7 : Kpt True := ⟨trivial⟩))
      | (refine wpList_load_bx rfl 38 _ rfl bc CV rfl Oc.out.bx _ Try.underlying38 rfl (by rw [hCs.out]; exact infoC) ?_)
      | (refine wpList_load_bx rfl 32 _ rfl bv (noS).vals rfl Ov.out.bx _ Try.underlying32 rfl infoS ?_)
      | (refine wpList_load_bx rfl 32 _ rfl bz (noS).vals rfl Oz.out.bx _ Try.underlying32 rfl infoS ?_)
      | (refine wpList_load_bx rfl 32 _ rfl bu ((nuS 14 7424 pl)).vals rfl Ou.out.bx _ Try.underlying32 rfl infoS ?_)
      | fail)
  refine bodyPost_ret (v := .agg ((nuS 14 7424 pl)).vals) (by simp [results, Try.results48, asAddr, Act.put, res_run Or.out.bx]) rfl ⟨rfl, _, F.out.dv.wd, F.out.st⟩

end Go.Proofs.Ytklboieemljmiaa
