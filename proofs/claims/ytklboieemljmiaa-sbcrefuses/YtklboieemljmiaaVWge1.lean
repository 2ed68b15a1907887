/-
  The contract of writeSame, of a block that came, in one way.
-/
import Derived.Test.YtklboieemljmiaaVWg0
namespace Go.Proofs.Ytklboieemljmiaa
open Go.RowKit
set_option linter.unusedVariables false
set_option linter.unusedSimpArgs false

set_option maxRecDepth 100000 in
set_option maxHeartbeats 3000000 in
theorem wsame_e1 (w : World) (B : Nat) (tag : Tags) (st : St) (f : ByteArray) (S D N : Nat) (k : Int) (M l m mm n cp : Nat) (a : Option Addr) (b0 : Bk) (c : Cm) (h : Dv w B tag st f S D N k true) (hf1 : 1 ≤ f.size) (hf2 : f.size ≤ 32) (hN : N ≤ 4096) (hF : Fine M st f) (hM : M ≤ 1000) (hb0k : b0.ok) (hl : c.lba = (l : Nat)) (hbl : c.bl = (m : Nat)) (hmm : 1 ≤ m ∧ mm = m) (hin : l + mm ≤ N) (hum : c.um = true) (hd0 : b0.d = z16)
    (HC : ∀ W, Below w.heap.size w W → Bx W D (devV S k) → Calls Try.prog 57 #[.pointer (some ⟨D, 0, none⟩), .agg c.vals, .slice a n cp, .int .i64 1] W fun e w' => ∃ g, e = .returned (.tuple #[.slice (some ⟨g, 0, none⟩) 1 1, .agg noS.vals]) ∧ w'.heap[g]? = some (.cells b0.cs.toArray 76 (0, 0)) ∧ W.heap.size ≤ g ∧ Below W.heap.size W w') :
    Calls Try.prog 46 #[.pointer (some ⟨D, 0, none⟩), .agg c.vals, .slice a n cp] w (Pw w B tag st) := by
  have hcm2 : ∀ (W : World) (b : Nat), Bx W b c.vals → W.cell? ⟨b, 2, none⟩ = some (.int .u64 c.lba) := fun W b h => (cm_at h).2.2.1
  have hcm3 : ∀ (W : World) (b : Nat), Bx W b c.vals → W.cell? ⟨b, 3, none⟩ = some (.int .u64 c.bl) := fun W b h => (cm_at h).2.2.2.1
  have hcm7 : ∀ (W : World) (b : Nat), Bx W b c.vals → W.cell? ⟨b, 7, none⟩ = some (.bool c.um) := fun W b h => (cm_at h).2.2.2.2.2.2.2.1
  rw [hl] at hcm2
  rw [hbl] at hcm3
  rw [hum] at hcm7
  have hc := hF.cnt
  have hcw := hF.wl
  have emm : IntKind.i64.wrap (mm : Int) = mm := by rw [IntKind.wrap_i64]; omega
  have em : IntKind.i64.wrap (m : Int) = m := by rw [IntKind.wrap_i64]; omega
  have el : IntKind.i64.wrap (l : Int) = l := by rw [IntKind.wrap_i64]; omega
  have HE := fun W => ended_any noS W
  simp only [show (noS.key != 0) = false from rfl] at HE
  obtain ⟨hm1, rfl⟩ := hmm
  have nm0 : ¬ (mm : Int) = 0 := by omega
  have bm0 : ((mm : Int) == 0) = false := beq_eq_false_iff_ne.mpr nm0
  obtain ⟨st2, hst2⟩ : ∃ s, s = emF st f l mm true := ⟨_, rfl⟩
  have HK := Kpt.mk (fun W (h : Dv W B tag st f S D N k true) => dempty_ok W B tag st f S D N k true l mm h hf1 hf2 hN (by omega) (by omega) hF.fails hF.wrs hin)
  rw [← hst2] at HK
  obtain ⟨AV, hAV⟩ : ∃ A, A = zA16 := ⟨_, rfl⟩
  have hAs : AV.size = 16 := by rw [hAV]; rfl
  have hdat : Kpt (∀ (W : World) g, W.rangeAt g 0 b0.cs → W.rangeAt g 0 AV.toList) := ⟨fun W g hg j v hv => hg j v (by
    rw [Bk.cs, List.getElem?_append_left (by rw [cels_length, hb0k.len]; have := (List.getElem?_eq_some_iff.1 hv).1; rw [Array.length_toList, hAs] at this; exact this)]
    rw [hAV, ← z16_cs, ← hd0] at hv
    exact hv)⟩
  have hCs : c.vals.size = 15 := rfl
  obtain ⟨CV, hCV⟩ : ∃ CV, CV = c.vals := ⟨_, rfl⟩
  rw [← hCV] at hCs hcm2 hcm3 hcm7 HC ⊢
  replace hcm2 := Kpt.mk hcm2
  replace hcm3 := Kpt.mk hcm3
  replace hcm7 := Kpt.mk hcm7
  replace hCs := Kpt.mk hCs
  clear hCV
  have hSl := h.sto.lt
  have hDl := h.bx.lt
  have F := Kpt.mk h.fx
  have hb := Kpt.mk (Below.refl w.heap.size w)
  replace HC := Kpt.mk HC
  replace HE := Kpt.mk HE
  replace h := Kpt.mk h
  obtain ⟨LV, hLV⟩ : ∃ L, L = b0.cs := ⟨_, rfl⟩
  rw [← hLV] at HC  hdat
  clear hbl hum hst2 hl hLV  hm1
  go_enter Try.func46, Try.ntmps46
  go_upto_region 7 with (first
      | (go_at_call 22; have hm := m5; refine (HE.out _).mono ?_; rintro e w4 ⟨rfl, h_⟩; replace Oc := Kpt.mk (Oc.out.below h_); replace Or := Kpt.mk (Or.out.below h_); replace Ov := Kpt.mk (Ov.out.below h_); replace Rg := Kpt.mk (Rg.out.below h_); replace F := Kpt.mk (F.out.below h_); replace x2 := hcm2.out _ _ Oc.out.bx; replace x3 := hcm3.out _ _ Oc.out.bx; replace x7 := hcm7.out _ _ Oc.out.bx; replace dd := dev_at F.out.dv.bx; replace hb := Kpt.mk (hb.out.trans (h_.mono hb.out.size)); clear h_; clear hm m5; have m6 : Kpt True := ⟨trivial⟩)
      | (have hm := m4; refine wpList_store_bx rfl 32 _ _ rfl bv _ (noS).vals rfl rfl Ov.out.bx rfl infoS (Sn.vals_one _) rfl ?_; intro w5 hX_ hg_; replace hb := Kpt.mk (hb.out.trans (Below.ofGrown hg_ hb.out.size Ov.out.lo)); replace Oc := Kpt.mk (Oc.out.other hg_ (by omega)); replace Or := Kpt.mk (Or.out.other hg_ (by omega)); replace Rg := Kpt.mk (Rg.out.other hg_ (by omega)); replace F := Kpt.mk (F.out.own Ov.out hg_ hSl hDl); replace Ov := Kpt.mk (Ov.out.set hX_); replace x2 := hcm2.out _ _ Oc.out.bx; replace x3 := hcm3.out _ _ Oc.out.bx; replace x7 := hcm7.out _ _ Oc.out.bx; replace dd := dev_at F.out.dv.bx; clear hX_ hg_; clear hm m4; have m5 : Kpt True := ⟨trivial⟩)
      | (have hm := m3; refine wpList_var rfl 32 rfl zeroS zeroSi ?_; intro bv w_v hl_ hX_ h_; have q_c_v : bc < bv := Nat.lt_of_lt_of_le Oc.out.bx.lt hl_; have q_r_v : br < bv := Nat.lt_of_lt_of_le Or.out.bx.lt hl_; have q_g_v : gg < bv := Nat.lt_of_lt_of_le Rg.out.lt hl_; have Ov := Kpt.mk (F.out.new hl_ hX_); replace Oc := Kpt.mk (Oc.out.below h_); replace Or := Kpt.mk (Or.out.below h_); replace Rg := Kpt.mk (Rg.out.below h_); replace F := Kpt.mk (F.out.below h_); replace x2 := hcm2.out _ _ Oc.out.bx; replace x3 := hcm3.out _ _ Oc.out.bx; replace x7 := hcm7.out _ _ Oc.out.bx; replace dd := dev_at F.out.dv.bx; replace hb := Kpt.mk (hb.out.trans (h_.mono hb.out.size)); clear hl_ hX_ h_; clear hm m3; have m4 : Kpt True := ⟨trivial⟩)
      | (go_at_call 57; have hm := m2; refine (HC.out _ hb.out F.out.dv.bx).mono ?_; rintro e w3 ⟨gg, rfl, hr_, hgl_, h_⟩; have q_c_g : bc < gg := Nat.lt_of_lt_of_le Oc.out.bx.lt hgl_; have q_r_g : br < gg := Nat.lt_of_lt_of_le Or.out.bx.lt hgl_; have Rg := Kpt.mk (F.out.row hgl_ hr_); replace Oc := Kpt.mk (Oc.out.below h_); replace Or := Kpt.mk (Or.out.below h_); replace F := Kpt.mk (F.out.below h_); replace x2 := hcm2.out _ _ Oc.out.bx; replace x3 := hcm3.out _ _ Oc.out.bx; replace x7 := hcm7.out _ _ Oc.out.bx; replace dd := dev_at F.out.dv.bx; replace hb := Kpt.mk (hb.out.trans (h_.mono hb.out.size)); clear h_; clear hgl_ hr_; clear hm m2; have m3 : Kpt True := ⟨trivial⟩)
      | (have hm := m1; refine wpList_var rfl 32 rfl zeroS zeroSi ?_; intro br w_r hl_ hX_ h_; have q_c_r : bc < br := Nat.lt_of_lt_of_le Oc.out.bx.lt hl_; have Or := Kpt.mk (F.out.new hl_ hX_); replace Oc := Kpt.mk (Oc.out.below h_); replace F := Kpt.mk (F.out.below h_); replace x2 := hcm2.out _ _ Oc.out.bx; replace x3 := hcm3.out _ _ Oc.out.bx; replace x7 := hcm7.out _ _ Oc.out.bx; replace dd := dev_at F.out.dv.bx; replace hb := Kpt.mk (hb.out.trans (h_.mono hb.out.size)); clear hl_ hX_ h_; clear hm m1; have m2 : Kpt True := ⟨trivial⟩)
      | (refine wpList_box rfl 38 _ rfl CV rfl ?_; intro bc w_c hl_ hX_ h_ _; have Oc := Kpt.mk (F.out.new hl_ hX_); replace F := Kpt.mk (F.out.below h_); replace dd := dev_at F.out.dv.bx; replace hb := Kpt.mk (hb.out.trans (h_.mono hb.out.size)); have x2 := hcm2.out _ _ Oc.out.bx; have x3 := hcm3.out _ _ Oc.out.bx; have x7 := hcm7.out _ _ Oc.out.bx; clear hl_ hX_ h_; have m1 : Kpt True := ⟨trivial⟩)
      | (refine wpList_load_bx rfl 38 _ rfl bc CV rfl Oc.out.bx _ Try.underlying38 rfl (by rw [hCs.out]; exact infoC) ?_)
      | (refine wpList_load_bx rfl 32 _ rfl bv (noS).vals rfl Ov.out.bx _ Try.underlying32 rfl infoS ?_)
      | fail)
  have hgg4 : gg < w4.heap.size := Rg.out.lt
  have hrg : w4.rangeAt gg 0 LV := range_of (A := []) (C := []) (M := LV) (t := 76) (by simpa using Rg.out.row) rfl
  have hrd := hdat.out _ _ hrg
  have m30 : Kpt True := ⟨trivial⟩
  go_wp2_with (first
      | (have hm := m31; refine wpList_store_bx rfl 32 _ _ rfl br _ (noS).vals rfl rfl Or.out.bx rfl infoS (Sn.vals_one _) rfl ?_; intro w32 hX_ hg_; replace Oc := Kpt.mk (Oc.out.other hg_ (by omega)); replace Ov := Kpt.mk (Ov.out.other hg_ (by omega)); replace Rg := Kpt.mk (Rg.out.other hg_ (by omega)); replace F := Kpt.mk (F.out.own Or.out hg_ hSl hDl); replace Or := Kpt.mk (Or.out.set hX_); replace x2 := hcm2.out _ _ Oc.out.bx; replace x3 := hcm3.out _ _ Oc.out.bx; replace x7 := hcm7.out _ _ Oc.out.bx; replace dd := dev_at F.out.dv.bx; clear hX_ hg_; clear hm m31; have m32 : Kpt True := ⟨trivial⟩)
      | (go_at_call 62; have hm := m30; clear hrd hrg; refine (HK.out _ F.out.dv).mono ?_; rintro e w8 ⟨rfl, tag2, hW_, s_⟩; replace Oc := Kpt.mk (Oc.out.call s_); replace Or := Kpt.mk (Or.out.call s_); replace Ov := Kpt.mk (Ov.out.call s_); replace Rg := Kpt.mk (Rg.out.call s_); replace F := Kpt.mk (F.out.call hW_ s_); replace x2 := hcm2.out _ _ Oc.out.bx; replace x3 := hcm3.out _ _ Oc.out.bx; replace x7 := hcm7.out _ _ Oc.out.bx; replace dd := dev_at F.out.dv.bx; clear hW_ s_; clear hm m30; have m31 : Kpt True := ⟨trivial⟩)
      | (refine (?_ : wpList _ _ _ (Oper.mk (some 42) _ _ _ _ _ :: _) _ _); go_must (subst hAV; refine wpList_eql_arrU (wanted_at true rfl rfl rfl rfl) (.tmp 40) (.tmp 41) rfl rfl rfl ?_))
      | (refine (?_ : wpList _ _ _ (Oper.mk (some 40) _ _ _ _ _ :: _) _ _); go_must (refine wpList_load_rgg (wanted_at true rfl rfl rfl rfl) 71 (.tmp 39) rfl gg 0 AV rfl hrd _ Try.underlying71 rfl (by rw [hAs]; exact infoA) ?_))
      | (refine wpList_load_bx rfl 38 _ rfl bc CV rfl Oc.out.bx _ Try.underlying38 rfl (by rw [hCs.out]; exact infoC) ?_)
      | (refine wpList_load_bx rfl 32 _ rfl bv (noS).vals rfl Ov.out.bx _ Try.underlying32 rfl infoS ?_)
      | (refine wpList_load_bx rfl 32 _ rfl br (noS).vals rfl Or.out.bx _ Try.underlying32 rfl infoS ?_)
      | fail)
  refine bodyPost_ret (v := .agg noS.vals) (by simp [results, Try.results46, asAddr, Act.put, res_run Or.out.bx]) rfl ⟨noS, st2, rfl, ⟨_, F.out.dv.wd, F.out.st⟩, fun e => absurd e (by decide)⟩
end Go.Proofs.Ytklboieemljmiaa
