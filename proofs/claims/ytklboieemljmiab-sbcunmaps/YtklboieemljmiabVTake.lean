/-
  The contract of take.
-/
import Derived.Test.YtklboieemljmiabVWr
namespace Go.Proofs.Ytklboieemljmiab
open Go.RowKit
set_option linter.unusedVariables false
set_option linter.unusedSimpArgs false
set_option maxRecDepth 100000 in
set_option maxHeartbeats 1000000 in
theorem take_0 (w : World) (B : Nat) (tag : Tags) (st : St) (f : ByteArray) (S D N : Nat) (k : Int) (ca : Bool) (l m n cp : Nat) (a : Option Addr) (zs : List Int) (fua : Bool) (c : Cm) (h : Dv w B tag st f S D N k ca) (hf1 : 1 ≤ f.size) (hf2 : f.size ≤ 32) (hN : N ≤ 4096) (hc : st.cnt < 500000000000) (hcw : st.waits.length < 1000000) (hf : ∀ i, st.fails i = false) (hw : Wrs st.waits) (h0 : 0 ≤ k) (h1 : k ≤ 255) (hl : c.lba = (l : Nat)) (hbl : c.bl = (m : Nat)) (hin : l + m ≤ N) (hr : RdAt w (.slice a n cp) zs) (hlz : zs.length = n) (hby : Bytes zs) (hm : n = m * 16) (hpr : c.pr = 0) :
    Calls Try.prog 30 #[.pointer (some ⟨D, 0, none⟩), .agg c.vals, .slice a n cp, .bool fua] w fun e w' => e = .returned (.agg (noS).vals) ∧ ∃ tag', Wd w' B tag' (wrF st f l (prL k l (unBs false zs m)) ca fua) ∧ Step w w' tag tag' (fun _ => True) := by
  have hcm3 : ∀ (W : World) (b : Nat), Bx W b c.vals → W.cell? ⟨b, 3, none⟩ = some (.int .u64 c.bl) := fun W b h => (cm_at h).2.2.2.1
  rw [hbl] at hcm3
  have HC := fun W (hb : Below w.heap.size w W) (hD : Bx W D (devV S k)) => come_0 D S l k c a n cp m zs W hD h0 h1 hl (by omega) (rd_below hr hb) hlz hby hpr hm
  have hbo : ∀ b ∈ prL k l (unBs false zs m), b.ok := prL_ok k l _ (unBs_ok false zs m hby (by rw [hlz, hm]; rfl))
  have hbn : (prL k l (unBs false zs m)).length = m := by rw [prL_len]; exact unBs_len _ _ _
  have em : IntKind.i64.wrap (m : Int) = m := by rw [IntKind.wrap_i64]; omega
  have HE := fun W => ended_any noS W
  simp only [show (noS.key != 0) = false from rfl] at HE
  obtain ⟨bs, hbs⟩ : ∃ bs, bs = prL k l (unBs false zs m) := ⟨_, rfl⟩
  rw [← hbs] at HC hbo hbn ⊢
  have HW := fun W g (h : Dv W B tag st f S D N k ca) (hg : W.heap[g]? = some (.cells (flat bs).toArray 81 (0, 0))) (ht : tag g = none) => dwrite_ok W B tag st f S D N k ca l m m (some ⟨g, 0, none⟩) fua c bs h hf1 hf2 hN hc hcw hf hw hl hin hbn (bks_row hg hbo m m hbn (by unfold maxLen; omega)) (fun g' hg' => by simp [Value.ownBlock] at hg'; rw [← hg']; exact ht)
  obtain ⟨st2, hst2⟩ : ∃ s, s = wrF st f l bs ca fua := ⟨_, rfl⟩
  rw [← hst2] at HW ⊢
  have hCs : c.vals.size = 15 := rfl
  obtain ⟨CV, hCV⟩ : ∃ CV, CV = c.vals := ⟨_, rfl⟩
  rw [← hCV] at hCs hcm3 HC HW ⊢
  replace hcm3 := Kpt.mk hcm3
  replace hCs := Kpt.mk hCs
  clear hCV
  have hSl := h.sto.lt
  have hDl := h.bx.lt
  have F := Kpt.mk h.fx
  have hb := Kpt.mk (Below.refl w.heap.size w)
  replace HC := Kpt.mk HC
  replace HE := Kpt.mk HE
  replace HW := Kpt.mk HW
  replace h := Kpt.mk h
  replace hm := Kpt.mk hm
  clear hbo hbn hr hlz hl hbl hf hw hpr hbs hst2
  go_enter Try.func30, Try.ntmps30
  go_wp2_with (first
      | (have hm := m7; refine wpList_store_bx rfl 32 _ _ rfl br _ (noS).vals rfl rfl Or.out.bx rfl infoS (Sn.vals_one _) rfl ?_; intro w8 hX_ hg_; replace Oc := Kpt.mk (Oc.out.other hg_ (by omega)); replace Ov := Kpt.mk (Ov.out.other hg_ (by omega)); replace Rg := Kpt.mk (Rg.out.other hg_ (by omega)); replace F := Kpt.mk (F.out.own Or.out hg_ hSl hDl); replace Or := Kpt.mk (Or.out.set hX_); replace x3 := hcm3.out _ _ Oc.out.bx; clear hX_ hg_; clear hm m7; have m8 : Kpt True := ⟨trivial⟩)
      | (go_at_call 44; have hm := m6; go_must (refine (HW.out _ _ F.out.dv Rg.out.row Rg.out.bare).mono ?_; rintro e w5 ⟨rfl, tag5, hW_, s_⟩; replace Oc := Kpt.mk (Oc.out.call s_); replace Or := Kpt.mk (Or.out.call s_); replace Ov := Kpt.mk (Ov.out.call s_); replace Rg := Kpt.mk (Rg.out.call s_); replace F := Kpt.mk (F.out.call hW_ s_); replace x3 := hcm3.out _ _ Oc.out.bx; clear hW_ s_; clear hm m6; have m7 : Kpt True := ⟨trivial⟩))
      | (go_at_call 11; have hm := m5; go_must (refine (HE.out _).mono ?_; rintro e w4 ⟨rfl, h_⟩; replace Oc := Kpt.mk (Oc.out.below h_); replace Or := Kpt.mk (Or.out.below h_); replace Ov := Kpt.mk (Ov.out.below h_); replace Rg := Kpt.mk (Rg.out.below h_); replace F := Kpt.mk (F.out.below h_); replace x3 := hcm3.out _ _ Oc.out.bx; replace hb := Kpt.mk (hb.out.trans (h_.mono hb.out.size)); clear h_; clear hm m5; have m6 : Kpt True := ⟨trivial⟩))
      | (have hm := m4; refine wpList_store_bx rfl 32 _ _ rfl bv _ (noS).vals rfl rfl Ov.out.bx rfl infoS (Sn.vals_one _) rfl ?_; intro w5 hX_ hg_; replace hb := Kpt.mk (hb.out.trans (Below.ofGrown hg_ hb.out.size Ov.out.lo)); replace Oc := Kpt.mk (Oc.out.other hg_ (by omega)); replace Or := Kpt.mk (Or.out.other hg_ (by omega)); replace Rg := Kpt.mk (Rg.out.other hg_ (by omega)); replace F := Kpt.mk (F.out.own Ov.out hg_ hSl hDl); replace Ov := Kpt.mk (Ov.out.set hX_); replace x3 := hcm3.out _ _ Oc.out.bx; clear hX_ hg_; clear hm m4; have m5 : Kpt True := ⟨trivial⟩)
      | (have hm := m3; refine wpList_var rfl 32 rfl zeroS zeroSi ?_; intro bv w_v hl_ hX_ h_; have q_c_v : bc < bv := Nat.lt_of_lt_of_le Oc.out.bx.lt hl_; have q_r_v : br < bv := Nat.lt_of_lt_of_le Or.out.bx.lt hl_; have q_g_v : gg < bv := Nat.lt_of_lt_of_le Rg.out.lt hl_; have Ov := Kpt.mk (F.out.new hl_ hX_); replace Oc := Kpt.mk (Oc.out.below h_); replace Or := Kpt.mk (Or.out.below h_); replace Rg := Kpt.mk (Rg.out.below h_); replace F := Kpt.mk (F.out.below h_); replace x3 := hcm3.out _ _ Oc.out.bx; replace hb := Kpt.mk (hb.out.trans (h_.mono hb.out.size)); clear hl_ hX_ h_; clear hm m3; have m4 : Kpt True := ⟨trivial⟩)
      | (go_at_call 43; have hm := m2; go_must (refine (HC.out _ hb.out F.out.dv.bx).mono ?_; rintro e w3 ⟨gg, rfl, hr_, hgl_, h_⟩; have q_c_g : bc < gg := Nat.lt_of_lt_of_le Oc.out.bx.lt hgl_; have q_r_g : br < gg := Nat.lt_of_lt_of_le Or.out.bx.lt hgl_; have Rg := Kpt.mk (F.out.row hgl_ hr_); replace Oc := Kpt.mk (Oc.out.below h_); replace Or := Kpt.mk (Or.out.below h_); replace F := Kpt.mk (F.out.below h_); replace x3 := hcm3.out _ _ Oc.out.bx; replace hb := Kpt.mk (hb.out.trans (h_.mono hb.out.size)); clear h_; clear hgl_ hr_; clear hm m2; have m3 : Kpt True := ⟨trivial⟩))
      | (have hm := m1; refine wpList_var rfl 32 rfl zeroS zeroSi ?_; intro br w_r hl_ hX_ h_; have q_c_r : bc < br := Nat.lt_of_lt_of_le Oc.out.bx.lt hl_; have Or := Kpt.mk (F.out.new hl_ hX_); replace Oc := Kpt.mk (Oc.out.below h_); replace F := Kpt.mk (F.out.below h_); replace x3 := hcm3.out _ _ Oc.out.bx; replace hb := Kpt.mk (hb.out.trans (h_.mono hb.out.size)); clear hl_ hX_ h_; clear hm m1; have m2 : Kpt True := ⟨trivial⟩)
      | (refine wpList_box rfl 38 _ rfl CV rfl ?_; intro bc w_c hl_ hX_ h_ _; have Oc := Kpt.mk (F.out.new hl_ hX_); replace F := Kpt.mk (F.out.below h_); replace hb := Kpt.mk (hb.out.trans (h_.mono hb.out.size)); have x3 := hcm3.out _ _ Oc.out.bx; clear hl_ hX_ h_; have m1 : Kpt True := ⟨trivial⟩)
      | (refine wpList_load_bx rfl 38 _ rfl bc CV rfl Oc.out.bx _ Try.underlying38 rfl (by rw [hCs.out]; exact infoC) ?_)
      | (refine wpList_load_bx rfl 32 _ rfl bv (noS).vals rfl Ov.out.bx _ Try.underlying32 rfl infoS ?_)
      | fail)
  refine bodyPost_ret (v := .agg (noS).vals) (by simp [results, Try.results30, asAddr, Act.put, res_run Or.out.bx]) rfl ⟨rfl, _, F.out.dv.wd, F.out.st⟩

set_option maxRecDepth 100000 in
set_option maxHeartbeats 1000000 in
theorem take_t (w : World) (B : Nat) (tag : Tags) (st : St) (f : ByteArray) (S D N : Nat) (k : Int) (ca : Bool) (l m n cp : Nat) (a : Option Addr) (zs : List Int) (fua : Bool) (c : Cm) (h : Dv w B tag st f S D N k ca) (hf1 : 1 ≤ f.size) (hf2 : f.size ≤ 32) (hN : N ≤ 4096) (hc : st.cnt < 500000000000) (hcw : st.waits.length < 1000000) (hf : ∀ i, st.fails i = false) (hw : Wrs st.waits) (h0 : 0 ≤ k) (h1 : k ≤ 255) (hl : c.lba = (l : Nat)) (hbl : c.bl = (m : Nat)) (hin : l + m ≤ N) (hr : RdAt w (.slice a n cp) zs) (hlz : zs.length = n) (hby : Bytes zs) (hm : n = m * 24) (p0 : 0 ≤ c.pr) (p1 : c.pr ≤ 255) (hpr : c.pr ≠ 0) (hlk : lookS k c.pr l (unBs true zs m) = noS) :
    Calls Try.prog 30 #[.pointer (some ⟨D, 0, none⟩), .agg c.vals, .slice a n cp, .bool fua] w fun e w' => e = .returned (.agg (noS).vals) ∧ ∃ tag', Wd w' B tag' (wrF st f l (unBs true zs m) ca fua) ∧ Step w w' tag tag' (fun _ => True) := by
  have hcm3 : ∀ (W : World) (b : Nat), Bx W b c.vals → W.cell? ⟨b, 3, none⟩ = some (.int .u64 c.bl) := fun W b h => (cm_at h).2.2.2.1
  rw [hbl] at hcm3
  have HC := fun W (hb : Below w.heap.size w W) (hD : Bx W D (devV S k)) => come_t D S l k c a n cp m zs W hD h0 h1 hl (by omega) (rd_below hr hb) hlz hby p0 p1 hpr hm
  have hbo : ∀ b ∈ unBs true zs m, b.ok := unBs_ok true zs m hby (by rw [hlz, hm]; rfl)
  have hbn : (unBs true zs m).length = m := by exact unBs_len _ _ _
  have em : IntKind.i64.wrap (m : Int) = m := by rw [IntKind.wrap_i64]; omega
  simp only [hlk] at HC
  have HE := fun W => ended_any noS W
  simp only [show (noS.key != 0) = false from rfl] at HE
  obtain ⟨bs, hbs⟩ : ∃ bs, bs = unBs true zs m := ⟨_, rfl⟩
  rw [← hbs] at HC hbo hbn ⊢
  have HW := fun W g (h : Dv W B tag st f S D N k ca) (hg : W.heap[g]? = some (.cells (flat bs).toArray 81 (0, 0))) (ht : tag g = none) => dwrite_ok W B tag st f S D N k ca l m m (some ⟨g, 0, none⟩) fua c bs h hf1 hf2 hN hc hcw hf hw hl hin hbn (bks_row hg hbo m m hbn (by unfold maxLen; omega)) (fun g' hg' => by simp [Value.ownBlock] at hg'; rw [← hg']; exact ht)
  obtain ⟨st2, hst2⟩ : ∃ s, s = wrF st f l bs ca fua := ⟨_, rfl⟩
  rw [← hst2] at HW ⊢
  have hCs : c.vals.size = 15 := rfl
  obtain ⟨CV, hCV⟩ : ∃ CV, CV = c.vals := ⟨_, rfl⟩
  rw [← hCV] at hCs hcm3 HC HW ⊢
  replace hcm3 := Kpt.mk hcm3
  replace hCs := Kpt.mk hCs
  clear hCV
  have hSl := h.sto.lt
  have hDl := h.bx.lt
  have F := Kpt.mk h.fx
  have hb := Kpt.mk (Below.refl w.heap.size w)
  replace HC := Kpt.mk HC
  replace HE := Kpt.mk HE
  replace HW := Kpt.mk HW
  replace h := Kpt.mk h
  replace hm := Kpt.mk hm
  clear hbo hbn hr hlz hl hbl hf hw hpr hbs hst2 hlk
  go_enter Try.func30, Try.ntmps30
  go_wp2_with (first
      | (have hm := m7; refine wpList_store_bx rfl 32 _ _ rfl br _ (noS).vals rfl rfl Or.out.bx rfl infoS (Sn.vals_one _) rfl ?_; intro w8 hX_ hg_; replace Oc := Kpt.mk (Oc.out.other hg_ (by omega)); replace Ov := Kpt.mk (Ov.out.other hg_ (by omega)); replace Rg := Kpt.mk (Rg.out.other hg_ (by omega)); replace F := Kpt.mk (F.out.own Or.out hg_ hSl hDl); replace Or := Kpt.mk (Or.out.set hX_); replace x3 := hcm3.out _ _ Oc.out.bx; clear hX_ hg_; clear hm m7; have m8 : Kpt True := ⟨trivial⟩)
      | (go_at_call 44; have hm := m6; go_must (refine (HW.out _ _ F.out.dv Rg.out.row Rg.out.bare).mono ?_; rintro e w5 ⟨rfl, tag5, hW_, s_⟩; replace Oc := Kpt.mk (Oc.out.call s_); replace Or := Kpt.mk (Or.out.call s_); replace Ov := Kpt.mk (Ov.out.call s_); replace Rg := Kpt.mk (Rg.out.call s_); replace F := Kpt.mk (F.out.call hW_ s_); replace x3 := hcm3.out _ _ Oc.out.bx; clear hW_ s_; clear hm m6; have m7 : Kpt True := ⟨trivial⟩))
      | (go_at_call 11; have hm := m5; go_must (refine (HE.out _).mono ?_; rintro e w4 ⟨rfl, h_⟩; replace Oc := Kpt.mk (Oc.out.below h_); replace Or := Kpt.mk (Or.out.below h_); replace Ov := Kpt.mk (Ov.out.below h_); replace Rg := Kpt.mk (Rg.out.below h_); replace F := Kpt.mk (F.out.below h_); replace x3 := hcm3.out _ _ Oc.out.bx; replace hb := Kpt.mk (hb.out.trans (h_.mono hb.out.size)); clear h_; clear hm m5; have m6 : Kpt True := ⟨trivial⟩))
      | (have hm := m4; refine wpList_store_bx rfl 32 _ _ rfl bv _ (noS).vals rfl rfl Ov.out.bx rfl infoS (Sn.vals_one _) rfl ?_; intro w5 hX_ hg_; replace hb := Kpt.mk (hb.out.trans (Below.ofGrown hg_ hb.out.size Ov.out.lo)); replace Oc := Kpt.mk (Oc.out.other hg_ (by omega)); replace Or := Kpt.mk (Or.out.other hg_ (by omega)); replace Rg := Kpt.mk (Rg.out.other hg_ (by omega)); replace F := Kpt.mk (F.out.own Ov.out hg_ hSl hDl); replace Ov := Kpt.mk (Ov.out.set hX_); replace x3 := hcm3.out _ _ Oc.out.bx; clear hX_ hg_; clear hm m4; have m5 : Kpt True := ⟨trivial⟩)
      | (have hm := m3; refine wpList_var rfl 32 rfl zeroS zeroSi ?_; intro bv w_v hl_ hX_ h_; have q_c_v : bc < bv := Nat.lt_of_lt_of_le Oc.out.bx.lt hl_; have q_r_v : br < bv := Nat.lt_of_lt_of_le Or.out.bx.lt hl_; have q_g_v : gg < bv := Nat.lt_of_lt_of_le Rg.out.lt hl_; have Ov := Kpt.mk (F.out.new hl_ hX_); replace Oc := Kpt.mk (Oc.out.below h_); replace Or := Kpt.mk (Or.out.below h_); replace Rg := Kpt.mk (Rg.out.below h_); replace F := Kpt.mk (F.out.below h_); replace x3 := hcm3.out _ _ Oc.out.bx; replace hb := Kpt.mk (hb.out.trans (h_.mono hb.out.size)); clear hl_ hX_ h_; clear hm m3; have m4 : Kpt True := ⟨trivial⟩)
      | (go_at_call 43; have hm := m2; go_must (refine (HC.out _ hb.out F.out.dv.bx).mono ?_; rintro e w3 ⟨gg, rfl, hr_, hgl_, h_⟩; have q_c_g : bc < gg := Nat.lt_of_lt_of_le Oc.out.bx.lt hgl_; have q_r_g : br < gg := Nat.lt_of_lt_of_le Or.out.bx.lt hgl_; have Rg := Kpt.mk (F.out.row hgl_ hr_); replace Oc := Kpt.mk (Oc.out.below h_); replace Or := Kpt.mk (Or.out.below h_); replace F := Kpt.mk (F.out.below h_); replace x3 := hcm3.out _ _ Oc.out.bx; replace hb := Kpt.mk (hb.out.trans (h_.mono hb.out.size)); clear h_; clear hgl_ hr_; clear hm m2; have m3 : Kpt True := ⟨trivial⟩))
      | (have hm := m1; refine wpList_var rfl 32 rfl zeroS zeroSi ?_; intro br w_r hl_ hX_ h_; have q_c_r : bc < br := Nat.lt_of_lt_of_le Oc.out.bx.lt hl_; have Or := Kpt.mk (F.out.new hl_ hX_); replace Oc := Kpt.mk (Oc.out.below h_); replace F := Kpt.mk (F.out.below h_); replace x3 := hcm3.out _ _ Oc.out.bx; replace hb := Kpt.mk (hb.out.trans (h_.mono hb.out.size)); clear hl_ hX_ h_; clear hm m1; have m2 : Kpt True := ⟨trivial⟩)
      | (refine wpList_box rfl 38 _ rfl CV rfl ?_; intro bc w_c hl_ hX_ h_ _; have Oc := Kpt.mk (F.out.new hl_ hX_); replace F := Kpt.mk (F.out.below h_); replace hb := Kpt.mk (hb.out.trans (h_.mono hb.out.size)); have x3 := hcm3.out _ _ Oc.out.bx; clear hl_ hX_ h_; have m1 : Kpt True := ⟨trivial⟩)
      | (refine wpList_load_bx rfl 38 _ rfl bc CV rfl Oc.out.bx _ Try.underlying38 rfl (by rw [hCs.out]; exact infoC) ?_)
      | (refine wpList_load_bx rfl 32 _ rfl bv (noS).vals rfl Ov.out.bx _ Try.underlying32 rfl infoS ?_)
      | fail)
  refine bodyPost_ret (v := .agg (noS).vals) (by simp [results, Try.results30, asAddr, Act.put, res_run Or.out.bx]) rfl ⟨rfl, _, F.out.dv.wd, F.out.st⟩

set_option maxRecDepth 100000 in
set_option maxHeartbeats 1000000 in
theorem take_bad (w : World) (B : Nat) (tag : Tags) (st : St) (f : ByteArray) (S D N : Nat) (k : Int) (ca : Bool) (l m n cp : Nat) (a : Option Addr) (zs : List Int) (fua : Bool) (c : Cm) (h : Dv w B tag st f S D N k ca) (hf1 : 1 ≤ f.size) (hf2 : f.size ≤ 32) (hN : N ≤ 4096) (hc : st.cnt < 500000000000) (hcw : st.waits.length < 1000000) (hf : ∀ i, st.fails i = false) (hw : Wrs st.waits) (h0 : 0 ≤ k) (h1 : k ≤ 255) (hl : c.lba = (l : Nat)) (hbl : c.bl = (m : Nat)) (hin : l + m ≤ N) (hr : RdAt w (.slice a n cp) zs) (hlz : zs.length = n) (hby : Bytes zs) (hm : n = m * 24) (p0 : 0 ≤ c.pr) (p1 : c.pr ≤ 255) (hpr : c.pr ≠ 0) (hlk : (lookS k c.pr l (unBs true zs m)).key ≠ 0) :
    Calls Try.prog 30 #[.pointer (some ⟨D, 0, none⟩), .agg c.vals, .slice a n cp, .bool fua] w fun e w' => e = .returned (.agg (lookS k c.pr l (unBs true zs m)).vals) ∧ ∃ tag', Wd w' B tag' (st) ∧ Step w w' tag tag' (fun _ => True) := by
  have hcm3 : ∀ (W : World) (b : Nat), Bx W b c.vals → W.cell? ⟨b, 3, none⟩ = some (.int .u64 c.bl) := fun W b h => (cm_at h).2.2.2.1
  rw [hbl] at hcm3
  have HC := fun W (hb : Below w.heap.size w W) (hD : Bx W D (devV S k)) => come_t D S l k c a n cp m zs W hD h0 h1 hl (by omega) (rd_below hr hb) hlz hby p0 p1 hpr hm
  have hbo : ∀ b ∈ unBs true zs m, b.ok := unBs_ok true zs m hby (by rw [hlz, hm]; rfl)
  have hbn : (unBs true zs m).length = m := by exact unBs_len _ _ _
  have em : IntKind.i64.wrap (m : Int) = m := by rw [IntKind.wrap_i64]; omega
  obtain ⟨s, hs⟩ : ∃ s, s = lookS k c.pr l (unBs true zs m) := ⟨_, rfl⟩
  rw [← hs] at HC hlk ⊢
  have HE := fun W => ended_any s W
  simp only [show (s.key != 0) = true from by simpa using hlk] at HE
  have hCs : c.vals.size = 15 := rfl
  obtain ⟨CV, hCV⟩ : ∃ CV, CV = c.vals := ⟨_, rfl⟩
  rw [← hCV] at hCs hcm3 HC ⊢
  replace hcm3 := Kpt.mk hcm3
  replace hCs := Kpt.mk hCs
  clear hCV
  have hSl := h.sto.lt
  have hDl := h.bx.lt
  have F := Kpt.mk h.fx
  have hb := Kpt.mk (Below.refl w.heap.size w)
  replace HC := Kpt.mk HC
  replace HE := Kpt.mk HE
  replace h := Kpt.mk h
  replace hm := Kpt.mk hm
  clear hbo hbn hr hlz hl hbl hf hw hpr hlk hs
  go_enter Try.func30, Try.ntmps30
  go_wp2_with (first
      | (have hm := m6; refine wpList_store_bx rfl 32 _ _ rfl br _ (s).vals rfl rfl Or.out.bx rfl infoS (Sn.vals_one _) rfl ?_; intro w7 hX_ hg_; replace hb := Kpt.mk (hb.out.trans (Below.ofGrown hg_ hb.out.size Or.out.lo)); replace Oc := Kpt.mk (Oc.out.other hg_ (by omega)); replace Ov := Kpt.mk (Ov.out.other hg_ (by omega)); replace Rg := Kpt.mk (Rg.out.other hg_ (by omega)); replace F := Kpt.mk (F.out.own Or.out hg_ hSl hDl); replace Or := Kpt.mk (Or.out.set hX_); replace x3 := hcm3.out _ _ Oc.out.bx; clear hX_ hg_; clear hm m6; have m7 : Kpt True := ⟨trivial⟩)
      | (go_at_call 11; have hm := m5; go_must (refine (HE.out _).mono ?_; rintro e w4 ⟨rfl, h_⟩; replace Oc := Kpt.mk (Oc.out.below h_); replace Or := Kpt.mk (Or.out.below h_); replace Ov := Kpt.mk (Ov.out.below h_); replace Rg := Kpt.mk (Rg.out.below h_); replace F := Kpt.mk (F.out.below h_); replace x3 := hcm3.out _ _ Oc.out.bx; replace hb := Kpt.mk (hb.out.trans (h_.mono hb.out.size)); clear h_; clear hm m5; have m6 : Kpt True := ⟨trivial⟩))
      | (have hm := m4; refine wpList_store_bx rfl 32 _ _ rfl bv _ (s).vals rfl rfl Ov.out.bx rfl infoS (Sn.vals_one _) rfl ?_; intro w5 hX_ hg_; replace hb := Kpt.mk (hb.out.trans (Below.ofGrown hg_ hb.out.size Ov.out.lo)); replace Oc := Kpt.mk (Oc.out.other hg_ (by omega)); replace Or := Kpt.mk (Or.out.other hg_ (by omega)); replace Rg := Kpt.mk (Rg.out.other hg_ (by omega)); replace F := Kpt.mk (F.out.own Ov.out hg_ hSl hDl); replace Ov := Kpt.mk (Ov.out.set hX_); replace x3 := hcm3.out _ _ Oc.out.bx; clear hX_ hg_; clear hm m4; have m5 : Kpt True := ⟨trivial⟩)
      | (have hm := m3; refine wpList_var rfl 32 rfl zeroS zeroSi ?_; intro bv w_v hl_ hX_ h_; have q_c_v : bc < bv := Nat.lt_of_lt_of_le Oc.out.bx.lt hl_; have q_r_v : br < bv := Nat.lt_of_lt_of_le Or.out.bx.lt hl_; have q_g_v : gg < bv := Nat.lt_of_lt_of_le Rg.out.lt hl_; have Ov := Kpt.mk (F.out.new hl_ hX_); replace Oc := Kpt.mk (Oc.out.below h_); replace Or := Kpt.mk (Or.out.below h_); replace Rg := Kpt.mk (Rg.out.below h_); replace F := Kpt.mk (F.out.below h_); replace x3 := hcm3.out _ _ Oc.out.bx; replace hb := Kpt.mk (hb.out.trans (h_.mono hb.out.size)); clear hl_ hX_ h_; clear hm m3; have m4 : Kpt True := ⟨trivial⟩)
      | (go_at_call 43; have hm := m2; go_must (refine (HC.out _ hb.out F.out.dv.bx).mono ?_; rintro e w3 ⟨gg, rfl, hr_, hgl_, h_⟩; have q_c_g : bc < gg := Nat.lt_of_lt_of_le Oc.out.bx.lt hgl_; have q_r_g : br < gg := Nat.lt_of_lt_of_le Or.out.bx.lt hgl_; have Rg := Kpt.mk (F.out.row hgl_ hr_); replace Oc := Kpt.mk (Oc.out.below h_); replace Or := Kpt.mk (Or.out.below h_); replace F := Kpt.mk (F.out.below h_); replace x3 := hcm3.out _ _ Oc.out.bx; replace hb := Kpt.mk (hb.out.trans (h_.mono hb.out.size)); clear h_; clear hgl_ hr_; clear hm m2; have m3 : Kpt True := ⟨trivial⟩))
      | (have hm := m1; refine wpList_var rfl 32 rfl zeroS zeroSi ?_; intro br w_r hl_ hX_ h_; have q_c_r : bc < br := Nat.lt_of_lt_of_le Oc.out.bx.lt hl_; have Or := Kpt.mk (F.out.new hl_ hX_); replace Oc := Kpt.mk (Oc.out.below h_); replace F := Kpt.mk (F.out.below h_); replace x3 := hcm3.out _ _ Oc.out.bx; replace hb := Kpt.mk (hb.out.trans (h_.mono hb.out.size)); clear hl_ hX_ h_; clear hm m1; have m2 : Kpt True := ⟨trivial⟩)
      | (refine wpList_box rfl 38 _ rfl CV rfl ?_; intro bc w_c hl_ hX_ h_ _; have Oc := Kpt.mk (F.out.new hl_ hX_); replace F := Kpt.mk (F.out.below h_); replace hb := Kpt.mk (hb.out.trans (h_.mono hb.out.size)); have x3 := hcm3.out _ _ Oc.out.bx; clear hl_ hX_ h_; have m1 : Kpt True := ⟨trivial⟩)
      | (refine wpList_load_bx rfl 38 _ rfl bc CV rfl Oc.out.bx _ Try.underlying38 rfl (by rw [hCs.out]; exact infoC) ?_)
      | (refine wpList_load_bx rfl 32 _ rfl bv (s).vals rfl Ov.out.bx _ Try.underlying32 rfl infoS ?_)
      | fail)
  refine bodyPost_ret (v := .agg (s).vals) (by simp [results, Try.results30, asAddr, Act.put, res_run Or.out.bx]) rfl ⟨rfl, _, F.out.dv.wd, F.out.st⟩

end Go.Proofs.Ytklboieemljmiab
