/-
  The contract of writeSame, of a block that is not unmapped.
-/
import Derived.Test.YtklboieemljmiaaVWf
namespace Go.Proofs.Ytklboieemljmiaa
open Go.RowKit
set_option linter.unusedVariables false
set_option linter.unusedSimpArgs false
/-- One block that came is as many as are wanted. -/
theorem rp_pr (k : Int) (l : Nat) (u : Bk) (n : Nat) : rpL k l (prB k l u) n = prL k l (List.replicate n u) := by
  refine List.ext_getElem? (fun j => ?_)
  rw [prL_at, List.getElem?_replicate]
  unfold rpL
  rw [List.getElem?_map]
  by_cases hj : j < n
  · rw [List.getElem?_range hj, if_pos hj]
    simp only [Option.map_some, rpB, prB, refV]
    by_cases hk : hasB k = true
    · simp [hk]
    · simp [hk]
  · rw [List.getElem?_eq_none (by simp; omega), if_neg hj]
    rfl
set_option maxRecDepth 100000 in
set_option maxHeartbeats 2000000 in
theorem wsame_part (w : World) (B : Nat) (tag : Tags) (st : St) (f : ByteArray) (S D N : Nat) (k : Int) (l m cp : Nat) (a : Option Addr) (zs : List Int) (c : Cm) (h : Dv w B tag st f S D N k true) (hf1 : 1 ≤ f.size) (hf2 : f.size ≤ 32) (hN : N ≤ 4096) (hc : st.cnt < 500000000000) (hcw : st.waits.length < 1000000) (hw : Wrs st.waits) (h0 : 0 ≤ k) (h1 : k ≤ 255) (hl : c.lba = (l : Nat)) (hbl : c.bl = (m : Nat)) (hm1 : 1 ≤ m) (hin : l + m ≤ N) (hr : RdAt w (.slice a 16 cp) zs) (hlz : zs.length = 16) (hby : Bytes zs) (hpr : c.pr = 0) (hum : c.um = false) (hf : ∀ i : Nat, i < m → st.fails (st.ops + i) = false) :
    Calls Try.prog 46 #[.pointer (some ⟨D, 0, none⟩), .agg c.vals, .slice a 16 cp] w fun e w' => e = .returned (.agg (noS).vals) ∧ Aft w w' B tag (wrSt st f l (prL k l (List.replicate m (unB false zs 0))) m) := by
  have hcm2 : ∀ (W : World) (b : Nat), Bx W b c.vals → W.cell? ⟨b, 2, none⟩ = some (.int .u64 c.lba) := fun W b h => (cm_at h).2.2.1
  have hcm3 : ∀ (W : World) (b : Nat), Bx W b c.vals → W.cell? ⟨b, 3, none⟩ = some (.int .u64 c.bl) := fun W b h => (cm_at h).2.2.2.1
  have hcm7 : ∀ (W : World) (b : Nat), Bx W b c.vals → W.cell? ⟨b, 7, none⟩ = some (.bool c.um) := fun W b h => (cm_at h).2.2.2.2.2.2.2.1
  rw [hl] at hcm2
  rw [hbl] at hcm3
  rw [hum] at hcm7
  have HC := fun W (hb : Below w.heap.size w W) (hD : Bx W D (devV S k)) => come_0 D S l k c a 16 cp 1 zs W hD h0 h1 hl (by omega) (rd_below hr hb) hlz hby hpr rfl
  have huo := unBs_ok false zs 1 hby (by rw [hlz]; rfl)
  have hu1 : unBs false zs 1 = [unB false zs 0] := rfl
  have hu : (unB false zs 0).ok := huo _ (by rw [hu1]; exact List.mem_singleton.2 rfl)
  obtain ⟨b0, hb0⟩ : ∃ b, b = prB k l (unB false zs 0) := ⟨_, rfl⟩
  have hb0k : b0.ok := by rw [hb0]; exact prB_ok k l _ hu
  have hfl : flat (prL k l (unBs false zs 1)) = b0.cs := by rw [hu1, hb0]; simp [prL, flat]
  simp only [hfl] at HC
  have HRp := fun W (hD : Bx W D (devV S k)) => repeat_any D S l m k b0 W hD hb0k hm1 (by omega)
  have hrp : rpL k l b0 m = prL k l (List.replicate m (unB false zs 0)) := by rw [hb0]; exact rp_pr k l _ m
  have hbo : ∀ b ∈ rpL k l b0 m, b.ok := rpL_ok k l b0 m hb0k
  have hbn : (rpL k l b0 m).length = m := rpL_len k l b0 m
  rw [← hrp]
  have em : IntKind.i64.wrap (m : Int) = m := by rw [IntKind.wrap_i64]; omega
  have nm0 : ¬ (m : Int) = 0 := by omega
  have bm0 : ((m : Int) == 0) = false := beq_eq_false_iff_ne.mpr nm0
  have HE := fun W => ended_any noS W
  simp only [show (noS.key != 0) = false from rfl] at HE
  obtain ⟨bs, hbs⟩ : ∃ bs, bs = rpL k l b0 m := ⟨_, rfl⟩
  rw [← hbs] at HRp hbo hbn ⊢
  have HW := fun W g (h : Dv W B tag st f S D N k true) (hg : W.heap[g]? = some (.cells (flat bs).toArray 76 (0, 0))) (ht : tag g = none) => dwrite_part W B tag st f S D N k l m m (some ⟨g, 0, none⟩) c bs h hf1 hf2 hN hc hcw hw hl hin hbn (bks_row hg hbo m m hbn (by unfold maxLen; omega)) (fun g' hg' => by simp [Value.ownBlock] at hg'; rw [← hg']; exact ht) hf
  obtain ⟨st2, hst2⟩ : ∃ s, s = wrSt st f l (bs) m := ⟨_, rfl⟩
  rw [← hst2] at HW ⊢
  have hcl : b0.cs.length = 19 := cs_len b0 hb0k
  obtain ⟨V, hV⟩ : ∃ V, V = b0.vals := ⟨_, rfl⟩
  have hVc : b0.cs.toArray = V := by rw [hV]; rfl
  rw [← hV] at HRp
  have hCs : c.vals.size = 15 := rfl
  obtain ⟨CV, hCV⟩ : ∃ CV, CV = c.vals := ⟨_, rfl⟩
  rw [← hCV] at hCs hcm2 hcm3 hcm7 HC HW ⊢
  replace hcm2 := Kpt.mk hcm2
  replace hcm3 := Kpt.mk hcm3
  replace hcm7 := Kpt.mk hcm7
  replace hCs := Kpt.mk hCs
  clear hCV
  have hSl := h.sto.lt
  have hDl := h.bx.lt
  have F := Kpt.mk h.fx
  have hb := Kpt.mk (Below.refl w.heap.size w)
  replace HC := Kpt.mk HC
  replace HE := Kpt.mk HE
  replace HW := Kpt.mk HW
  replace HRp := Kpt.mk HRp
  replace h := Kpt.mk h
  replace hcl := Kpt.mk hcl
  replace hVc := Kpt.mk hVc
  obtain ⟨LV, hLV⟩ : ∃ L, L = b0.cs := ⟨_, rfl⟩
  rw [← hLV] at HC hcl hVc
  clear hbo hbn hr hlz hl hbl hw hpr hbs hst2 hV hb0 hb0k hfl hrp huo hu hu1 hum hLV hf 
  go_enter Try.func46, Try.ntmps46
  go_wp2_with (first
      | (go_at_call 22; have hm := m5; go_must (refine (HE.out _).mono ?_; rintro e w4 ⟨rfl, h_⟩; replace Oc := Kpt.mk (Oc.out.below h_); replace Or := Kpt.mk (Or.out.below h_); replace Ov := Kpt.mk (Ov.out.below h_); replace Rg := Kpt.mk (Rg.out.below h_); replace F := Kpt.mk (F.out.below h_); replace x2 := hcm2.out _ _ Oc.out.bx; replace x3 := hcm3.out _ _ Oc.out.bx; replace x7 := hcm7.out _ _ Oc.out.bx; replace hb := Kpt.mk (hb.out.trans (h_.mono hb.out.size)); clear h_; clear hm m5; have m6 : Kpt True := ⟨trivial⟩))
      | (have hm := m4; refine wpList_store_bx rfl 32 _ _ rfl bv _ (noS).vals rfl rfl Ov.out.bx rfl infoS (Sn.vals_one _) rfl ?_; intro w5 hX_ hg_; replace hb := Kpt.mk (hb.out.trans (Below.ofGrown hg_ hb.out.size Ov.out.lo)); replace Oc := Kpt.mk (Oc.out.other hg_ (by omega)); replace Or := Kpt.mk (Or.out.other hg_ (by omega)); replace Rg := Kpt.mk (Rg.out.other hg_ (by omega)); replace F := Kpt.mk (F.out.own Ov.out hg_ hSl hDl); replace Ov := Kpt.mk (Ov.out.set hX_); replace x2 := hcm2.out _ _ Oc.out.bx; replace x3 := hcm3.out _ _ Oc.out.bx; replace x7 := hcm7.out _ _ Oc.out.bx; clear hX_ hg_; clear hm m4; have m5 : Kpt True := ⟨trivial⟩)
      | (have hm := m3; refine wpList_var rfl 32 rfl zeroS zeroSi ?_; intro bv w_v hl_ hX_ h_; have q_c_v : bc < bv := Nat.lt_of_lt_of_le Oc.out.bx.lt hl_; have q_r_v : br < bv := Nat.lt_of_lt_of_le Or.out.bx.lt hl_; have q_g_v : gg < bv := Nat.lt_of_lt_of_le Rg.out.lt hl_; have Ov := Kpt.mk (F.out.new hl_ hX_); replace Oc := Kpt.mk (Oc.out.below h_); replace Or := Kpt.mk (Or.out.below h_); replace Rg := Kpt.mk (Rg.out.below h_); replace F := Kpt.mk (F.out.below h_); replace x2 := hcm2.out _ _ Oc.out.bx; replace x3 := hcm3.out _ _ Oc.out.bx; replace x7 := hcm7.out _ _ Oc.out.bx; replace hb := Kpt.mk (hb.out.trans (h_.mono hb.out.size)); clear hl_ hX_ h_; clear hm m3; have m4 : Kpt True := ⟨trivial⟩)
      | (go_at_call 57; have hm := m2; go_must (refine (HC.out _ hb.out F.out.dv.bx).mono ?_; rintro e w3 ⟨gg, rfl, hr_, hgl_, h_⟩; have q_c_g : bc < gg := Nat.lt_of_lt_of_le Oc.out.bx.lt hgl_; have q_r_g : br < gg := Nat.lt_of_lt_of_le Or.out.bx.lt hgl_; have Rg := Kpt.mk (F.out.row hgl_ hr_); replace Oc := Kpt.mk (Oc.out.below h_); replace Or := Kpt.mk (Or.out.below h_); replace F := Kpt.mk (F.out.below h_); replace x2 := hcm2.out _ _ Oc.out.bx; replace x3 := hcm3.out _ _ Oc.out.bx; replace x7 := hcm7.out _ _ Oc.out.bx; replace hb := Kpt.mk (hb.out.trans (h_.mono hb.out.size)); clear h_; clear hgl_ hr_; clear hm m2; have m3 : Kpt True := ⟨trivial⟩))
      | (have hm := m1; refine wpList_var rfl 32 rfl zeroS zeroSi ?_; intro br w_r hl_ hX_ h_; have q_c_r : bc < br := Nat.lt_of_lt_of_le Oc.out.bx.lt hl_; have Or := Kpt.mk (F.out.new hl_ hX_); replace Oc := Kpt.mk (Oc.out.below h_); replace F := Kpt.mk (F.out.below h_); replace x2 := hcm2.out _ _ Oc.out.bx; replace x3 := hcm3.out _ _ Oc.out.bx; replace x7 := hcm7.out _ _ Oc.out.bx; replace hb := Kpt.mk (hb.out.trans (h_.mono hb.out.size)); clear hl_ hX_ h_; clear hm m1; have m2 : Kpt True := ⟨trivial⟩)
      | (refine wpList_box rfl 38 _ rfl CV rfl ?_; intro bc w_c hl_ hX_ h_ _; have Oc := Kpt.mk (F.out.new hl_ hX_); replace F := Kpt.mk (F.out.below h_); replace hb := Kpt.mk (hb.out.trans (h_.mono hb.out.size)); have x2 := hcm2.out _ _ Oc.out.bx; have x3 := hcm3.out _ _ Oc.out.bx; have x7 := hcm7.out _ _ Oc.out.bx; clear hl_ hX_ h_; have m1 : Kpt True := ⟨trivial⟩)
      | (refine wpList_load_bx rfl 38 _ rfl bc CV rfl Oc.out.bx _ Try.underlying38 rfl (by rw [hCs.out]; exact infoC) ?_)
      | (refine wpList_load_bx rfl 32 _ rfl bv (noS).vals rfl Ov.out.bx _ Try.underlying32 rfl infoS ?_)
      | fail)
  have hgg4 : gg < w4.heap.size := Rg.out.lt
  have hgg4 : gg < w4.heap.size := Rg.out.lt
  have hrg : w4.rangeAt gg 0 LV := range_of (A := []) (C := []) (M := LV) (t := 76) (by simpa using Rg.out.row) rfl
  refine wp_region_any (by kernel_rfl) ?_
  refine wpAny_of_C (C := fun W => Bx W bc CV ∧ W.rangeAt gg 0 LV ∧ W.cell? ⟨bc, 2, none⟩ = some (.int .u64 l)) _ _ _ _ ?_
  refine wpAnyC_take 0 (.pointer (some ⟨D, 0, none⟩)) rfl (by kernel_rfl) (by kernel_rfl) (by kernel_rfl) (fun _ _ _ h => h) (wanted_free rfl _) (fun W hW => by obtain ⟨q1, q2, q3⟩ := hW; go_simp) ?_
  try simp only [Act.put, List.getElem_toArray, List.getElem_cons_succ, List.getElem_cons_zero, List.setIfInBounds_toArray, List.set_cons_succ, List.set_cons_zero]
  refine wpAnyC_take 1 (.agg CV) rfl (by kernel_rfl) (by kernel_rfl) (by kernel_rfl) (fun _ _ _ h => h) (wanted_free rfl _) (fun W hW => exec_load_bxG 38 (.tmp 4) rfl bc CV rfl hW.1 _ Try.underlying38 rfl (by rw [hCs.out]; exact infoC)) ?_
  try simp only [Act.put, List.getElem_toArray, List.getElem_cons_succ, List.getElem_cons_zero, List.setIfInBounds_toArray, List.set_cons_succ, List.set_cons_zero]
  refine wpAnyC_take 2 (.pointer (some ⟨D, 0, none⟩)) rfl (by kernel_rfl) (by kernel_rfl) (by kernel_rfl) (fun _ _ _ h => h) (wanted_free rfl _) (fun W hW => by obtain ⟨q1, q2, q3⟩ := hW; go_simp) ?_
  try simp only [Act.put, List.getElem_toArray, List.getElem_cons_succ, List.getElem_cons_zero, List.setIfInBounds_toArray, List.set_cons_succ, List.set_cons_zero]
  refine wpAnyC_take 3 (.slice (some ⟨gg, 0, none⟩) 1 1) rfl (by kernel_rfl) (by kernel_rfl) (by kernel_rfl) (fun _ _ _ h => h) (wanted_free rfl _) (fun W hW => by obtain ⟨q1, q2, q3⟩ := hW; go_simp) ?_
  try simp only [Act.put, List.getElem_toArray, List.getElem_cons_succ, List.getElem_cons_zero, List.setIfInBounds_toArray, List.set_cons_succ, List.set_cons_zero]
  refine wpAnyC_take 4 (.pointer (some ⟨gg, 0, none⟩)) rfl (by kernel_rfl) (by kernel_rfl) (by kernel_rfl) (fun _ _ _ h => h) (wanted_free rfl _) (fun W hW => by obtain ⟨q1, q2, q3⟩ := hW; go_simp) ?_
  try simp only [Act.put, List.getElem_toArray, List.getElem_cons_succ, List.getElem_cons_zero, List.setIfInBounds_toArray, List.set_cons_succ, List.set_cons_zero]
  refine wpAnyC_take 5 (.agg V) rfl (by kernel_rfl) (by kernel_rfl) (by kernel_rfl) (fun _ _ _ h => h) (wanted_free rfl _) (fun W hW => by rw [← hVc.out]; exact exec_load_rg 76 (.tmp 53) rfl gg 0 LV rfl hW.2.1 _ Try.underlying76 rfl (by rw [hcl.out]; exact infoB)) ?_
  try simp only [Act.put, List.getElem_toArray, List.getElem_cons_succ, List.getElem_cons_zero, List.setIfInBounds_toArray, List.set_cons_succ, List.set_cons_zero]
  refine wpAnyC_take 6 (.pointer (some ⟨bc, 2, none⟩)) rfl (by kernel_rfl) (by kernel_rfl) (by kernel_rfl) (fun _ _ _ h => h) (wanted_free rfl _) (fun W hW => by obtain ⟨q1, q2, q3⟩ := hW; go_simp) ?_
  try simp only [Act.put, List.getElem_toArray, List.getElem_cons_succ, List.getElem_cons_zero, List.setIfInBounds_toArray, List.set_cons_succ, List.set_cons_zero]
  refine wpAnyC_take 7 (.int .u64 l) rfl (by kernel_rfl) (by kernel_rfl) (by kernel_rfl) (fun _ _ _ h => h) (wanted_free rfl _) (fun W hW => by obtain ⟨q1, q2, q3⟩ := hW; go_simp) ?_
  try simp only [Act.put, List.getElem_toArray, List.getElem_cons_succ, List.getElem_cons_zero, List.setIfInBounds_toArray, List.set_cons_succ, List.set_cons_zero]
  refine wpAnyC_take 8 (.int .i64 m) rfl (by kernel_rfl) (by kernel_rfl) (by kernel_rfl) (fun _ _ _ h => h) (wanted_free rfl _) (fun W hW => by obtain ⟨q1, q2, q3⟩ := hW; go_simp) ?_
  try simp only [Act.put, List.getElem_toArray, List.getElem_cons_succ, List.getElem_cons_zero, List.setIfInBounds_toArray, List.set_cons_succ, List.set_cons_zero]
  refine wpAnyC_one 9 (⟨Oc.out.bx.drew, hrg, x2⟩) rfl (by kernel_rfl) (wanted_free rfl _) (fun KA hKA => ?_)
  go_simp
  refine (HRp.out _ F.out.dv.bx.drew).mono ?_
  rintro e w6 ⟨gr, rfl, hrow, hgl6, h6⟩
  have h_ := below_undrew h6
  have hgl_ : w4.heap.size ≤ gr := hgl6
  have q_r_r2 : br < gr := Nat.lt_of_lt_of_le Or.out.bx.lt hgl_
  have Rr := Kpt.mk (F.out.row hgl_ hrow)
  replace Oc := Kpt.mk (Oc.out.below h_)
  replace Or := Kpt.mk (Or.out.below h_)
  replace Ov := Kpt.mk (Ov.out.below h_)
  replace Rg := Kpt.mk (Rg.out.below h_)
  replace F := Kpt.mk (F.out.below h_)
  replace x2 := hcm2.out _ _ Oc.out.bx
  replace x3 := hcm3.out _ _ Oc.out.bx
  replace x7 := hcm7.out _ _ Oc.out.bx
  replace hb := Kpt.mk (hb.out.trans (h_.mono hb.out.size))
  replace hrg := rangeAt_keep hrg (h_.block gg hgg4)
  refine hKA _ _ ?_
  clear hKA KA
  try simp only [Act.put, List.getElem_toArray, List.getElem_cons_succ, List.getElem_cons_zero, List.setIfInBounds_toArray, List.set_cons_succ, List.set_cons_zero]
  refine wpAnyC_one 10 (⟨Oc.out.bx, hrg, x2⟩) rfl (by kernel_rfl) (wanted_free rfl _) (fun KA hKA => ?_)
  go_simp
  refine (HW.out _ _ F.out.dv Rr.out.row Rr.out.bare).mono ?_
  rintro e w7 ⟨rfl, tag7, hW_, s_⟩
  have hgb : tag gg = none := Rg.out.bare
  replace Oc := Kpt.mk (Oc.out.call s_)
  replace Or := Kpt.mk (Or.out.call s_)
  replace F := Kpt.mk (F.out.call hW_ s_)
  replace hrg := rangeAt_keep hrg (s_.block gg (Nat.lt_of_lt_of_le hgg4 h6.size) (fun t _ e => by rw [hgb] at e; cases e))
  replace x2 := hcm2.out _ _ Oc.out.bx
  refine hKA _ _ ?_
  clear hKA KA
  try simp only [Act.put, List.getElem_toArray, List.getElem_cons_succ, List.getElem_cons_zero, List.setIfInBounds_toArray, List.set_cons_succ, List.set_cons_zero]
  refine wpAnyC_one 11 ⟨Oc.out.bx, hrg, x2⟩ rfl (by kernel_rfl) (wanted_free rfl _) (fun KA hKA => ?_)
  refine wp_store_bx 32 _ _ rfl br zeroS (noS).vals rfl rfl Or.out.bx rfl infoS (Sn.vals_one _) ?_
  intro w9 hX_ hg_
  refine hKA _ _ ?_
  clear hKA KA
  try simp only [Act.put, List.getElem_toArray, List.getElem_cons_succ, List.getElem_cons_zero, List.setIfInBounds_toArray, List.set_cons_succ, List.set_cons_zero]
  have hcr : bc < br := q_c_r
  have hrgr : br < gg := q_r_g
  replace Oc := Kpt.mk (Oc.out.other hg_ (by omega))
  replace F := Kpt.mk (F.out.own Or.out hg_ hSl hDl)
  replace Or := Kpt.mk (Or.out.set hX_)
  replace hrg := rangeAt_keep hrg (hg_.block gg (Nat.lt_of_lt_of_le (Nat.lt_of_lt_of_le hgg4 h6.size) s_.size) (by simp; omega))
  refine wpAnyC_done (⟨Oc.out.bx, hrg, hcm2.out _ _ Oc.out.bx⟩) (by kernel_rfl) ?_
  clear hg_ hX_ hrg x2 s_ hW_ h6 h_
  go_wp2
  refine bodyPost_ret (v := .agg (noS).vals) (by simp [results, Try.results46, asAddr, Act.put, res_run Or.out.bx]) rfl ⟨rfl, _, F.out.dv.wd, F.out.st⟩

set_option maxRecDepth 100000 in
set_option maxHeartbeats 2000000 in
theorem wsame_fail (w : World) (B : Nat) (tag : Tags) (st : St) (f : ByteArray) (S D N : Nat) (k : Int) (l m cp : Nat) (a : Option Addr) (zs : List Int) (c : Cm) (h : Dv w B tag st f S D N k true) (hf1 : 1 ≤ f.size) (hf2 : f.size ≤ 32) (hN : N ≤ 4096) (hc : st.cnt < 500000000000) (hcw : st.waits.length < 1000000) (hw : Wrs st.waits) (h0 : 0 ≤ k) (h1 : k ≤ 255) (hl : c.lba = (l : Nat)) (hbl : c.bl = (m : Nat)) (hm1 : 1 ≤ m) (hin : l + m ≤ N) (hr : RdAt w (.slice a 16 cp) zs) (hlz : zs.length = 16) (hby : Bytes zs) (hpr : c.pr = 0) (hum : c.um = false) (j0 : Nat) (hj0 : j0 < m) (hf : ∀ i : Nat, i < j0 → st.fails (st.ops + i) = false) (hfj : st.fails (st.ops + j0) = true) :
    Calls Try.prog 46 #[.pointer (some ⟨D, 0, none⟩), .agg c.vals, .slice a 16 cp] w fun e w' => e = .returned (.agg (nuS 3 3072 ((l + j0 : Nat) : Int)).vals) ∧ Aft w w' B tag (flSt (wrSt st f l (prL k l (List.replicate m (unB false zs 0))) j0)) := by
  have hcm2 : ∀ (W : World) (b : Nat), Bx W b c.vals → W.cell? ⟨b, 2, none⟩ = some (.int .u64 c.lba) := fun W b h => (cm_at h).2.2.1
  have hcm3 : ∀ (W : World) (b : Nat), Bx W b c.vals → W.cell? ⟨b, 3, none⟩ = some (.int .u64 c.bl) := fun W b h => (cm_at h).2.2.2.1
  have hcm7 : ∀ (W : World) (b : Nat), Bx W b c.vals → W.cell? ⟨b, 7, none⟩ = some (.bool c.um) := fun W b h => (cm_at h).2.2.2.2.2.2.2.1
  rw [hl] at hcm2
  rw [hbl] at hcm3
  rw [hum] at hcm7
  have HC := fun W (hb : Below w.heap.size w W) (hD : Bx W D (devV S k)) => come_0 D S l k c a 16 cp 1 zs W hD h0 h1 hl (by omega) (rd_below hr hb) hlz hby hpr rfl
  have huo := unBs_ok false zs 1 hby (by rw [hlz]; rfl)
  have hu1 : unBs false zs 1 = [unB false zs 0] := rfl
  have hu : (unB false zs 0).ok := huo _ (by rw [hu1]; exact List.mem_singleton.2 rfl)
  obtain ⟨b0, hb0⟩ : ∃ b, b = prB k l (unB false zs 0) := ⟨_, rfl⟩
  have hb0k : b0.ok := by rw [hb0]; exact prB_ok k l _ hu
  have hfl : flat (prL k l (unBs false zs 1)) = b0.cs := by rw [hu1, hb0]; simp [prL, flat]
  simp only [hfl] at HC
  have HRp := fun W (hD : Bx W D (devV S k)) => repeat_any D S l m k b0 W hD hb0k hm1 (by omega)
  have hrp : rpL k l b0 m = prL k l (List.replicate m (unB false zs 0)) := by rw [hb0]; exact rp_pr k l _ m
  have hbo : ∀ b ∈ rpL k l b0 m, b.ok := rpL_ok k l b0 m hb0k
  have hbn : (rpL k l b0 m).length = m := rpL_len k l b0 m
  rw [← hrp]
  have em : IntKind.i64.wrap (m : Int) = m := by rw [IntKind.wrap_i64]; omega
  have nm0 : ¬ (m : Int) = 0 := by omega
  have bm0 : ((m : Int) == 0) = false := beq_eq_false_iff_ne.mpr nm0
  have HE := fun W => ended_any noS W
  simp only [show (noS.key != 0) = false from rfl] at HE
  obtain ⟨bs, hbs⟩ : ∃ bs, bs = rpL k l b0 m := ⟨_, rfl⟩
  rw [← hbs] at HRp hbo hbn ⊢
  have HW := fun W g (h : Dv W B tag st f S D N k true) (hg : W.heap[g]? = some (.cells (flat bs).toArray 76 (0, 0))) (ht : tag g = none) => dwrite_fail W B tag st f S D N k l m m (some ⟨g, 0, none⟩) c bs h hf1 hf2 hN hc hcw hw hl hin hbn (bks_row hg hbo m m hbn (by unfold maxLen; omega)) (fun g' hg' => by simp [Value.ownBlock] at hg'; rw [← hg']; exact ht) j0 hj0 hf hfj
  obtain ⟨st2, hst2⟩ : ∃ s, s = flSt (wrSt st f l (bs) j0) := ⟨_, rfl⟩
  rw [← hst2] at HW ⊢
  have hcl : b0.cs.length = 19 := cs_len b0 hb0k
  obtain ⟨V, hV⟩ : ∃ V, V = b0.vals := ⟨_, rfl⟩
  have hVc : b0.cs.toArray = V := by rw [hV]; rfl
  rw [← hV] at HRp
  obtain ⟨s, hs⟩ : ∃ s, s = nuS 3 3072 ((l + j0 : Nat) : Int) := ⟨_, rfl⟩
  rw [← hs] at HW ⊢
  have hCs : c.vals.size = 15 := rfl
  obtain ⟨CV, hCV⟩ : ∃ CV, CV = c.vals := ⟨_, rfl⟩
  rw [← hCV] at hCs hcm2 hcm3 hcm7 HC HW ⊢
  replace hcm2 := Kpt.mk hcm2
  replace hcm3 := Kpt.mk hcm3
  replace hcm7 := Kpt.mk hcm7
  replace hCs := Kpt.mk hCs
  clear hCV
  have hSl := h.sto.lt
  have hDl := h.bx.lt
  have F := Kpt.mk h.fx
  have hb := Kpt.mk (Below.refl w.heap.size w)
  replace HC := Kpt.mk HC
  replace HE := Kpt.mk HE
  replace HW := Kpt.mk HW
  replace HRp := Kpt.mk HRp
  replace h := Kpt.mk h
  replace hcl := Kpt.mk hcl
  replace hVc := Kpt.mk hVc
  obtain ⟨LV, hLV⟩ : ∃ L, L = b0.cs := ⟨_, rfl⟩
  rw [← hLV] at HC hcl hVc
  clear hbo hbn hr hlz hl hbl hw hpr hbs hst2 hV hb0 hb0k hfl hrp huo hu hu1 hum hLV hf hfj hs
  go_enter Try.func46, Try.ntmps46
  go_wp2_with (first
      | (go_at_call 22; have hm := m5; go_must (refine (HE.out _).mono ?_; rintro e w4 ⟨rfl, h_⟩; replace Oc := Kpt.mk (Oc.out.below h_); replace Or := Kpt.mk (Or.out.below h_); replace Ov := Kpt.mk (Ov.out.below h_); replace Rg := Kpt.mk (Rg.out.below h_); replace F := Kpt.mk (F.out.below h_); replace x2 := hcm2.out _ _ Oc.out.bx; replace x3 := hcm3.out _ _ Oc.out.bx; replace x7 := hcm7.out _ _ Oc.out.bx; replace hb := Kpt.mk (hb.out.trans (h_.mono hb.out.size)); clear h_; clear hm m5; have m6 : Kpt True := ⟨trivial⟩))
      | (have hm := m4; refine wpList_store_bx rfl 32 _ _ rfl bv _ (noS).vals rfl rfl Ov.out.bx rfl infoS (Sn.vals_one _) rfl ?_; intro w5 hX_ hg_; replace hb := Kpt.mk (hb.out.trans (Below.ofGrown hg_ hb.out.size Ov.out.lo)); replace Oc := Kpt.mk (Oc.out.other hg_ (by omega)); replace Or := Kpt.mk (Or.out.other hg_ (by omega)); replace Rg := Kpt.mk (Rg.out.other hg_ (by omega)); replace F := Kpt.mk (F.out.own Ov.out hg_ hSl hDl); replace Ov := Kpt.mk (Ov.out.set hX_); replace x2 := hcm2.out _ _ Oc.out.bx; replace x3 := hcm3.out _ _ Oc.out.bx; replace x7 := hcm7.out _ _ Oc.out.bx; clear hX_ hg_; clear hm m4; have m5 : Kpt True := ⟨trivial⟩)
      | (have hm := m3; refine wpList_var rfl 32 rfl zeroS zeroSi ?_; intro bv w_v hl_ hX_ h_; have q_c_v : bc < bv := Nat.lt_of_lt_of_le Oc.out.bx.lt hl_; have q_r_v : br < bv := Nat.lt_of_lt_of_le Or.out.bx.lt hl_; have q_g_v : gg < bv := Nat.lt_of_lt_of_le Rg.out.lt hl_; have Ov := Kpt.mk (F.out.new hl_ hX_); replace Oc := Kpt.mk (Oc.out.below h_); replace Or := Kpt.mk (Or.out.below h_); replace Rg := Kpt.mk (Rg.out.below h_); replace F := Kpt.mk (F.out.below h_); replace x2 := hcm2.out _ _ Oc.out.bx; replace x3 := hcm3.out _ _ Oc.out.bx; replace x7 := hcm7.out _ _ Oc.out.bx; replace hb := Kpt.mk (hb.out.trans (h_.mono hb.out.size)); clear hl_ hX_ h_; clear hm m3; have m4 : Kpt True := ⟨trivial⟩)
      | (go_at_call 57; have hm := m2; go_must (refine (HC.out _ hb.out F.out.dv.bx).mono ?_; rintro e w3 ⟨gg, rfl, hr_, hgl_, h_⟩; have q_c_g : bc < gg := Nat.lt_of_lt_of_le Oc.out.bx.lt hgl_; have q_r_g : br < gg := Nat.lt_of_lt_of_le Or.out.bx.lt hgl_; have Rg := Kpt.mk (F.out.row hgl_ hr_); replace Oc := Kpt.mk (Oc.out.below h_); replace Or := Kpt.mk (Or.out.below h_); replace F := Kpt.mk (F.out.below h_); replace x2 := hcm2.out _ _ Oc.out.bx; replace x3 := hcm3.out _ _ Oc.out.bx; replace x7 := hcm7.out _ _ Oc.out.bx; replace hb := Kpt.mk (hb.out.trans (h_.mono hb.out.size)); clear h_; clear hgl_ hr_; clear hm m2; have m3 : Kpt True := ⟨trivial⟩))
      | (have hm := m1; refine wpList_var rfl 32 rfl zeroS zeroSi ?_; intro br w_r hl_ hX_ h_; have q_c_r : bc < br := Nat.lt_of_lt_of_le Oc.out.bx.lt hl_; have Or := Kpt.mk (F.out.new hl_ hX_); replace Oc := Kpt.mk (Oc.out.below h_); replace F := Kpt.mk (F.out.below h_); replace x2 := hcm2.out _ _ Oc.out.bx; replace x3 := hcm3.out _ _ Oc.out.bx; replace x7 := hcm7.out _ _ Oc.out.bx; replace hb := Kpt.mk (hb.out.trans (h_.mono hb.out.size)); clear hl_ hX_ h_; clear hm m1; have m2 : Kpt True := ⟨trivial⟩)
      | (refine wpList_box rfl 38 _ rfl CV rfl ?_; intro bc w_c hl_ hX_ h_ _; have Oc := Kpt.mk (F.out.new hl_ hX_); replace F := Kpt.mk (F.out.below h_); replace hb := Kpt.mk (hb.out.trans (h_.mono hb.out.size)); have x2 := hcm2.out _ _ Oc.out.bx; have x3 := hcm3.out _ _ Oc.out.bx; have x7 := hcm7.out _ _ Oc.out.bx; clear hl_ hX_ h_; have m1 : Kpt True := ⟨trivial⟩)
      | (refine wpList_load_bx rfl 38 _ rfl bc CV rfl Oc.out.bx _ Try.underlying38 rfl (by rw [hCs.out]; exact infoC) ?_)
      | (refine wpList_load_bx rfl 32 _ rfl bv (noS).vals rfl Ov.out.bx _ Try.underlying32 rfl infoS ?_)
      | fail)
  have hgg4 : gg < w4.heap.size := Rg.out.lt
  have hrg : w4.rangeAt gg 0 LV := range_of (A := []) (C := []) (M := LV) (t := 76) (by simpa using Rg.out.row) rfl
  refine wp_region_any (by kernel_rfl) ?_
  refine wpAny_of_C (C := fun W => Bx W bc CV ∧ W.rangeAt gg 0 LV ∧ W.cell? ⟨bc, 2, none⟩ = some (.int .u64 l)) _ _ _ _ ?_
  refine wpAnyC_take 0 (.pointer (some ⟨D, 0, none⟩)) rfl (by kernel_rfl) (by kernel_rfl) (by kernel_rfl) (fun _ _ _ h => h) (wanted_free rfl _) (fun W hW => by obtain ⟨q1, q2, q3⟩ := hW; go_simp) ?_
  try simp only [Act.put, List.getElem_toArray, List.getElem_cons_succ, List.getElem_cons_zero, List.setIfInBounds_toArray, List.set_cons_succ, List.set_cons_zero]
  refine wpAnyC_take 1 (.agg CV) rfl (by kernel_rfl) (by kernel_rfl) (by kernel_rfl) (fun _ _ _ h => h) (wanted_free rfl _) (fun W hW => exec_load_bxG 38 (.tmp 4) rfl bc CV rfl hW.1 _ Try.underlying38 rfl (by rw [hCs.out]; exact infoC)) ?_
  try simp only [Act.put, List.getElem_toArray, List.getElem_cons_succ, List.getElem_cons_zero, List.setIfInBounds_toArray, List.set_cons_succ, List.set_cons_zero]
  refine wpAnyC_take 2 (.pointer (some ⟨D, 0, none⟩)) rfl (by kernel_rfl) (by kernel_rfl) (by kernel_rfl) (fun _ _ _ h => h) (wanted_free rfl _) (fun W hW => by obtain ⟨q1, q2, q3⟩ := hW; go_simp) ?_
  try simp only [Act.put, List.getElem_toArray, List.getElem_cons_succ, List.getElem_cons_zero, List.setIfInBounds_toArray, List.set_cons_succ, List.set_cons_zero]
  refine wpAnyC_take 3 (.slice (some ⟨gg, 0, none⟩) 1 1) rfl (by kernel_rfl) (by kernel_rfl) (by kernel_rfl) (fun _ _ _ h => h) (wanted_free rfl _) (fun W hW => by obtain ⟨q1, q2, q3⟩ := hW; go_simp) ?_
  try simp only [Act.put, List.getElem_toArray, List.getElem_cons_succ, List.getElem_cons_zero, List.setIfInBounds_toArray, List.set_cons_succ, List.set_cons_zero]
  refine wpAnyC_take 4 (.pointer (some ⟨gg, 0, none⟩)) rfl (by kernel_rfl) (by kernel_rfl) (by kernel_rfl) (fun _ _ _ h => h) (wanted_free rfl _) (fun W hW => by obtain ⟨q1, q2, q3⟩ := hW; go_simp) ?_
  try simp only [Act.put, List.getElem_toArray, List.getElem_cons_succ, List.getElem_cons_zero, List.setIfInBounds_toArray, List.set_cons_succ, List.set_cons_zero]
  refine wpAnyC_take 5 (.agg V) rfl (by kernel_rfl) (by kernel_rfl) (by kernel_rfl) (fun _ _ _ h => h) (wanted_free rfl _) (fun W hW => by rw [← hVc.out]; exact exec_load_rg 76 (.tmp 53) rfl gg 0 LV rfl hW.2.1 _ Try.underlying76 rfl (by rw [hcl.out]; exact infoB)) ?_
  try simp only [Act.put, List.getElem_toArray, List.getElem_cons_succ, List.getElem_cons_zero, List.setIfInBounds_toArray, List.set_cons_succ, List.set_cons_zero]
  refine wpAnyC_take 6 (.pointer (some ⟨bc, 2, none⟩)) rfl (by kernel_rfl) (by kernel_rfl) (by kernel_rfl) (fun _ _ _ h => h) (wanted_free rfl _) (fun W hW => by obtain ⟨q1, q2, q3⟩ := hW; go_simp) ?_
  try simp only [Act.put, List.getElem_toArray, List.getElem_cons_succ, List.getElem_cons_zero, List.setIfInBounds_toArray, List.set_cons_succ, List.set_cons_zero]
  refine wpAnyC_take 7 (.int .u64 l) rfl (by kernel_rfl) (by kernel_rfl) (by kernel_rfl) (fun _ _ _ h => h) (wanted_free rfl _) (fun W hW => by obtain ⟨q1, q2, q3⟩ := hW; go_simp) ?_
  try simp only [Act.put, List.getElem_toArray, List.getElem_cons_succ, List.getElem_cons_zero, List.setIfInBounds_toArray, List.set_cons_succ, List.set_cons_zero]
  refine wpAnyC_take 8 (.int .i64 m) rfl (by kernel_rfl) (by kernel_rfl) (by kernel_rfl) (fun _ _ _ h => h) (wanted_free rfl _) (fun W hW => by obtain ⟨q1, q2, q3⟩ := hW; go_simp) ?_
  try simp only [Act.put, List.getElem_toArray, List.getElem_cons_succ, List.getElem_cons_zero, List.setIfInBounds_toArray, List.set_cons_succ, List.set_cons_zero]
  refine wpAnyC_one 9 (⟨Oc.out.bx.drew, hrg, x2⟩) rfl (by kernel_rfl) (wanted_free rfl _) (fun KA hKA => ?_)
  go_simp
  refine (HRp.out _ F.out.dv.bx.drew).mono ?_
  rintro e w6 ⟨gr, rfl, hrow, hgl6, h6⟩
  have h_ := below_undrew h6
  have hgl_ : w4.heap.size ≤ gr := hgl6
  have q_r_r2 : br < gr := Nat.lt_of_lt_of_le Or.out.bx.lt hgl_
  have Rr := Kpt.mk (F.out.row hgl_ hrow)
  replace Oc := Kpt.mk (Oc.out.below h_)
  replace Or := Kpt.mk (Or.out.below h_)
  replace Ov := Kpt.mk (Ov.out.below h_)
  replace Rg := Kpt.mk (Rg.out.below h_)
  replace F := Kpt.mk (F.out.below h_)
  replace x2 := hcm2.out _ _ Oc.out.bx
  replace x3 := hcm3.out _ _ Oc.out.bx
  replace x7 := hcm7.out _ _ Oc.out.bx
  replace hb := Kpt.mk (hb.out.trans (h_.mono hb.out.size))
  replace hrg := rangeAt_keep hrg (h_.block gg hgg4)
  refine hKA _ _ ?_
  clear hKA KA
  try simp only [Act.put, List.getElem_toArray, List.getElem_cons_succ, List.getElem_cons_zero, List.setIfInBounds_toArray, List.set_cons_succ, List.set_cons_zero]
  refine wpAnyC_one 10 (⟨Oc.out.bx, hrg, x2⟩) rfl (by kernel_rfl) (wanted_free rfl _) (fun KA hKA => ?_)
  go_simp
  refine (HW.out _ _ F.out.dv Rr.out.row Rr.out.bare).mono ?_
  rintro e w7 ⟨rfl, tag7, hW_, s_⟩
  have hgb : tag gg = none := Rg.out.bare
  replace Oc := Kpt.mk (Oc.out.call s_)
  replace Or := Kpt.mk (Or.out.call s_)
  replace F := Kpt.mk (F.out.call hW_ s_)
  replace hrg := rangeAt_keep hrg (s_.block gg (Nat.lt_of_lt_of_le hgg4 h6.size) (fun t _ e => by rw [hgb] at e; cases e))
  replace x2 := hcm2.out _ _ Oc.out.bx
  refine hKA _ _ ?_
  clear hKA KA
  try simp only [Act.put, List.getElem_toArray, List.getElem_cons_succ, List.getElem_cons_zero, List.setIfInBounds_toArray, List.set_cons_succ, List.set_cons_zero]
  refine wpAnyC_one 11 ⟨Oc.out.bx, hrg, x2⟩ rfl (by kernel_rfl) (wanted_free rfl _) (fun KA hKA => ?_)
  refine wp_store_bx 32 _ _ rfl br zeroS (s).vals rfl rfl Or.out.bx rfl infoS (Sn.vals_one _) ?_
  intro w9 hX_ hg_
  refine hKA _ _ ?_
  clear hKA KA
  try simp only [Act.put, List.getElem_toArray, List.getElem_cons_succ, List.getElem_cons_zero, List.setIfInBounds_toArray, List.set_cons_succ, List.set_cons_zero]
  have hcr : bc < br := q_c_r
  have hrgr : br < gg := q_r_g
  replace Oc := Kpt.mk (Oc.out.other hg_ (by omega))
  replace F := Kpt.mk (F.out.own Or.out hg_ hSl hDl)
  replace Or := Kpt.mk (Or.out.set hX_)
  replace hrg := rangeAt_keep hrg (hg_.block gg (Nat.lt_of_lt_of_le (Nat.lt_of_lt_of_le hgg4 h6.size) s_.size) (by simp; omega))
  refine wpAnyC_done (⟨Oc.out.bx, hrg, hcm2.out _ _ Oc.out.bx⟩) (by kernel_rfl) ?_
  clear hg_ hX_ hrg x2 s_ hW_ h6 h_
  go_wp2
  refine bodyPost_ret (v := .agg (s).vals) (by simp [results, Try.results46, asAddr, Act.put, res_run Or.out.bx]) rfl ⟨rfl, _, F.out.dv.wd, F.out.st⟩

end Go.Proofs.Ytklboieemljmiaa
