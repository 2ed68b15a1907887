/-
  The contract of refuse: what it refuses, and what it lets through without a look at the blocks.
-/
import Derived.Test.YtklboieemljmiaaVNo
namespace Go.Proofs.Ytklboieemljmiaa
open Go.RowKit
set_option linter.unusedVariables false
set_option linter.unusedSimpArgs false
set_option maxRecDepth 100000 in
set_option maxHeartbeats 1000000 in
theorem refuse_unk (w : World) (B : Nat) (tag : Tags) (st : St) (f : ByteArray) (S D N : Nat) (k : Int) (ca : Bool) (c : Cm) (h : Dv w B tag st f S D N k ca) (hN : N ≤ 4096) (h0 : 0 ≤ k) (p0 : 0 ≤ c.pr) (hk : knownB k c.pr = false) :
    Calls Try.prog 24 #[.pointer (some ⟨D, 0, none⟩), .agg c.vals] w fun e w' => e = .returned (.agg (cmS 9216 1).vals) ∧ Below w.heap.size w w' := by
  have hcm6 : ∀ (W : World) (b : Nat), Bx W b c.vals → W.cell? ⟨b, 6, none⟩ = some (.int .u8 c.pr) := fun W b h => (cm_at h).2.2.2.2.2.2.1
  have HKn := fun W => known_any k c.pr W h0 p0
  simp only [hk] at HKn
  obtain ⟨pr, hpr⟩ : ∃ pr, pr = c.pr := ⟨_, rfl⟩
  rw [← hpr] at hcm6 HKn p0
  have HR := Kpt.mk (fun W => inCmd_any 9216 1 W)
  have hCs : c.vals.size = 15 := rfl
  obtain ⟨CV, hCV⟩ : ∃ CV, CV = c.vals := ⟨_, rfl⟩
  rw [← hCV] at hCs hcm6  ⊢
  replace hcm6 := Kpt.mk hcm6
  replace hCs := Kpt.mk hCs
  clear hCV
  have hSl := h.sto.lt
  have hDl := h.bx.lt
  have F := Kpt.mk h.fx
  have hb := Kpt.mk (Below.refl w.heap.size w)
  replace HKn := Kpt.mk HKn
  replace h := Kpt.mk h
  have dd := dev_at F.out.dv.bx
  clear hk hpr
  go_enter Try.func24, Try.ntmps24
  go_wp2_with (first
      | (have hm := m1; refine wpList_var rfl 32 rfl zeroS zeroSi ?_; intro br w_r hl_ hX_ h_; have q_c_r : bc < br := Nat.lt_of_lt_of_le Oc.out.bx.lt hl_; have Or := Kpt.mk (F.out.new hl_ hX_); replace Oc := Kpt.mk (Oc.out.below h_); replace F := Kpt.mk (F.out.below h_); replace x6 := hcm6.out _ _ Oc.out.bx; replace dd := dev_at F.out.dv.bx; obtain ⟨d0, d1, dlt⟩ := dd; have dd := dev_at F.out.dv.bx; replace hb := Kpt.mk (hb.out.trans (h_.mono hb.out.size)); clear hl_ hX_ h_; clear hm m1; have m2 : Kpt True := ⟨trivial⟩)
      | (refine wpList_box rfl 38 _ rfl CV rfl ?_; intro bc w_c hl_ hX_ h_ _; have Oc := Kpt.mk (F.out.new hl_ hX_); replace F := Kpt.mk (F.out.below h_); replace dd := dev_at F.out.dv.bx; obtain ⟨d0, d1, dlt⟩ := dd; have dd := dev_at F.out.dv.bx; replace hb := Kpt.mk (hb.out.trans (h_.mono hb.out.size)); have x6 := hcm6.out _ _ Oc.out.bx; clear hl_ hX_ h_; have m1 : Kpt True := ⟨trivial⟩)
      | (refine wpList_load_bx rfl 38 _ rfl bc CV rfl Oc.out.bx _ Try.underlying38 rfl (by rw [hCs.out]; exact infoC) ?_)
      | fail)
  clear dd
  refine wp_region_any (by kernel_rfl) ?_
  refine wpAny_of_C (C := fun W => W.cell? ⟨D, 1, none⟩ = some (.int .u8 k) ∧ W.cell? ⟨bc, 6, none⟩ = some (.int .u8 pr) ∧ D < W.heap.size) _ _ _ _ ?_
  refine wpAnyC_take 0 (.pointer (some ⟨D, 0, none⟩)) rfl (by kernel_rfl) (by kernel_rfl) (by kernel_rfl) (fun _ _ _ h => h) (wanted_free rfl _) (fun W hW => by obtain ⟨q1, q2, q4⟩ := hW; go_simp) ?_
  try simp only [Act.put, List.getElem_toArray, List.getElem_cons_succ, List.getElem_cons_zero, List.setIfInBounds_toArray, List.set_cons_succ, List.set_cons_zero]
  refine wpAnyC_take 1 (.pointer (some ⟨D, 0, none⟩)) rfl (by kernel_rfl) (by kernel_rfl) (by kernel_rfl) (fun _ _ _ h => h) (wanted_free rfl _) (fun W hW => by obtain ⟨q1, q2, q4⟩ := hW; go_simp) ?_
  try simp only [Act.put, List.getElem_toArray, List.getElem_cons_succ, List.getElem_cons_zero, List.setIfInBounds_toArray, List.set_cons_succ, List.set_cons_zero]
  refine wpAnyC_take 2 (.pointer (some ⟨D, 1, none⟩)) rfl (by kernel_rfl) (by kernel_rfl) (by kernel_rfl) (fun _ _ _ h => h) (wanted_free rfl _) (fun W hW => by obtain ⟨q1, q2, q4⟩ := hW; go_simp) ?_
  try simp only [Act.put, List.getElem_toArray, List.getElem_cons_succ, List.getElem_cons_zero, List.setIfInBounds_toArray, List.set_cons_succ, List.set_cons_zero]
  refine wpAnyC_take 3 (.int .u8 k) rfl (by kernel_rfl) (by kernel_rfl) (by kernel_rfl) (fun _ _ _ h => h) (wanted_free rfl _) (fun W hW => by obtain ⟨q1, q2, q4⟩ := hW; go_simp) ?_
  try simp only [Act.put, List.getElem_toArray, List.getElem_cons_succ, List.getElem_cons_zero, List.setIfInBounds_toArray, List.set_cons_succ, List.set_cons_zero]
  refine wpAnyC_take 4 (.pointer (some ⟨bc, 6, none⟩)) rfl (by kernel_rfl) (by kernel_rfl) (by kernel_rfl) (fun _ _ _ h => h) (wanted_free rfl _) (fun W hW => by obtain ⟨q1, q2, q4⟩ := hW; go_simp) ?_
  try simp only [Act.put, List.getElem_toArray, List.getElem_cons_succ, List.getElem_cons_zero, List.setIfInBounds_toArray, List.set_cons_succ, List.set_cons_zero]
  refine wpAnyC_take 5 (.int .u8 pr) rfl (by kernel_rfl) (by kernel_rfl) (by kernel_rfl) (fun _ _ _ h => h) (wanted_free rfl _) (fun W hW => by obtain ⟨q1, q2, q4⟩ := hW; go_simp) ?_
  try simp only [Act.put, List.getElem_toArray, List.getElem_cons_succ, List.getElem_cons_zero, List.setIfInBounds_toArray, List.set_cons_succ, List.set_cons_zero]
  refine wpAnyC_one 6 (⟨d1, x6, dlt⟩) rfl (by kernel_rfl) (wanted_free rfl _) (fun KA hKA => ?_)
  go_simp
  refine (HKn.out _).mono ?_
  rintro e w3 ⟨rfl, h3⟩
  have h_ : Below w_r.heap.size w_r w3 := by rw [h3]; exact below_drew _
  clear h3
  refine hKA _ _ ?_
  clear hKA KA
  try simp only [Act.put, List.getElem_toArray, List.getElem_cons_succ, List.getElem_cons_zero, List.setIfInBounds_toArray, List.set_cons_succ, List.set_cons_zero]
  refine wpAnyC_take 7 (.bool true) rfl (by kernel_rfl) (by kernel_rfl) (by kernel_rfl) (fun _ _ _ h => h) (wanted_free rfl _) (fun W hW => by go_simp) ?_
  try simp only [Act.put, List.getElem_toArray, List.getElem_cons_succ, List.getElem_cons_zero, List.setIfInBounds_toArray, List.set_cons_succ, List.set_cons_zero]
  refine wpAnyC_take 8 (.bool true) rfl (by kernel_rfl) (by kernel_rfl) (by kernel_rfl) (fun _ _ _ h => h) (wanted_free rfl _) (fun W hW => by go_simp) ?_
  try simp only [Act.put, List.getElem_toArray, List.getElem_cons_succ, List.getElem_cons_zero, List.setIfInBounds_toArray, List.set_cons_succ, List.set_cons_zero]
  replace Oc := Kpt.mk (Oc.out.below h_)
  replace Or := Kpt.mk (Or.out.below h_)
  replace F := Kpt.mk (F.out.below h_)
  replace hb := Kpt.mk (hb.out.trans (h_.mono hb.out.size))
  refine wpAnyC_done (⟨(dev_at F.out.dv.bx).2.1, hcm6.out _ _ Oc.out.bx, (dev_at F.out.dv.bx).2.2⟩) (by kernel_rfl) ?_
  obtain ⟨d0', d1', dlt'⟩ := dev_at F.out.dv.bx
  clear h_ d0 d1 dlt x6
  go_wp2_with (first
      | (have hm := m3; refine wpList_store_bx rfl 32 _ _ rfl br _ (cmS 9216 1).vals rfl rfl Or.out.bx rfl infoS (Sn.vals_one _) rfl ?_; intro w4 hX_ hg_; replace hb := Kpt.mk (hb.out.trans (Below.ofGrown hg_ hb.out.size Or.out.lo)); replace Oc := Kpt.mk (Oc.out.other hg_ (by omega)); replace F := Kpt.mk (F.out.own Or.out hg_ hSl hDl); replace Or := Kpt.mk (Or.out.set hX_); clear hX_ hg_; clear hm m3; have m4 : Kpt True := ⟨trivial⟩)
      | (go_at_call 33; have hm := m2; go_must (refine (HR.out _).mono ?_; rintro e w7 ⟨rfl, h_⟩; replace Oc := Kpt.mk (Oc.out.below h_); replace Or := Kpt.mk (Or.out.below h_); replace F := Kpt.mk (F.out.below h_); replace hb := Kpt.mk (hb.out.trans (h_.mono hb.out.size)); clear h_; clear hm m2; have m3 : Kpt True := ⟨trivial⟩))
      | (refine wpList_load_bx rfl 38 _ rfl bc CV rfl Oc.out.bx _ Try.underlying38 rfl (by rw [hCs.out]; exact infoC) ?_)
      | fail)
  refine bodyPost_ret (v := .agg (cmS 9216 1).vals) (by simp [results, Try.results24, asAddr, Act.put, res_run Or.out.bx]) rfl ⟨rfl, hb.out⟩

set_option maxRecDepth 100000 in
set_option maxHeartbeats 1000000 in
theorem refuse_out (w : World) (B : Nat) (tag : Tags) (st : St) (f : ByteArray) (S D N : Nat) (k : Int) (ca : Bool) (c : Cm) (h : Dv w B tag st f S D N k ca) (hN : N ≤ 4096) (h0 : 0 ≤ k) (p0 : 0 ≤ c.pr) (hk : knownB k c.pr = true) (n13 : ¬ c.kd = 13) (n6 : ¬ c.kd = 6) (hl : 0 ≤ c.lba ∧ c.lba < 18446744073709551616) (hbl : 0 ≤ c.bl ∧ c.bl < 18446744073709551616) (hout : ¬ c.lba + c.bl ≤ N) :
    Calls Try.prog 24 #[.pointer (some ⟨D, 0, none⟩), .agg c.vals] w fun e w' => e = .returned (.agg (nuS 5 8448 c.lba).vals) ∧ Below w.heap.size w w' := by
  have hcm0 : ∀ (W : World) (b : Nat), Bx W b c.vals → W.cell? ⟨b, 0, none⟩ = some (.int .u8 c.kd) := fun W b h => (cm_at h).1
  have hcm2 : ∀ (W : World) (b : Nat), Bx W b c.vals → W.cell? ⟨b, 2, none⟩ = some (.int .u64 c.lba) := fun W b h => (cm_at h).2.2.1
  have hcm3 : ∀ (W : World) (b : Nat), Bx W b c.vals → W.cell? ⟨b, 3, none⟩ = some (.int .u64 c.bl) := fun W b h => (cm_at h).2.2.2.1
  have hcm6 : ∀ (W : World) (b : Nat), Bx W b c.vals → W.cell? ⟨b, 6, none⟩ = some (.int .u8 c.pr) := fun W b h => (cm_at h).2.2.2.2.2.2.1
  have HKn := fun W => known_any k c.pr W h0 p0
  simp only [hk] at HKn
  obtain ⟨pr, hpr⟩ : ∃ pr, pr = c.pr := ⟨_, rfl⟩
  rw [← hpr] at hcm6 HKn p0
  obtain ⟨kd, hkd⟩ : ∃ kd, kd = c.kd := ⟨_, rfl⟩
  rw [← hkd] at hcm0 n13 n6
  have HH := fun W (h : Dv W B tag st f S D N k ca) => dhas_all W B tag st f S D N k ca c.lba c.bl h hN hl hbl
  simp only [decide_eq_false hout] at HH
  obtain ⟨l, hlq⟩ : ∃ l, l = c.lba := ⟨_, rfl⟩
  obtain ⟨bl, hblq⟩ : ∃ bl, bl = c.bl := ⟨_, rfl⟩
  rw [← hlq] at HH hcm2 ⊢
  rw [← hblq] at HH hcm3
  have b13 : (kd == 13) = false := by simpa using n13
  have b6 : (kd == 6) = false := by simpa using n6
  have HR := Kpt.mk (fun W => numbered_any 5 8448 l W)
  replace HH := Kpt.mk HH
  clear hlq hblq hl hbl hout
  have hCs : c.vals.size = 15 := rfl
  obtain ⟨CV, hCV⟩ : ∃ CV, CV = c.vals := ⟨_, rfl⟩
  rw [← hCV] at hCs hcm0 hcm2 hcm3 hcm6  ⊢
  replace hcm0 := Kpt.mk hcm0
  replace hcm2 := Kpt.mk hcm2
  replace hcm3 := Kpt.mk hcm3
  replace hcm6 := Kpt.mk hcm6
  replace hCs := Kpt.mk hCs
  clear hCV
  have hSl := h.sto.lt
  have hDl := h.bx.lt
  have F := Kpt.mk h.fx
  have hb := Kpt.mk (Below.refl w.heap.size w)
  replace HKn := Kpt.mk HKn
  replace h := Kpt.mk h
  have dd := dev_at F.out.dv.bx
  clear hk hpr hkd
  go_enter Try.func24, Try.ntmps24
  go_wp2_with (first
      | (have hm := m1; refine wpList_var rfl 32 rfl zeroS zeroSi ?_; intro br w_r hl_ hX_ h_; have q_c_r : bc < br := Nat.lt_of_lt_of_le Oc.out.bx.lt hl_; have Or := Kpt.mk (F.out.new hl_ hX_); replace Oc := Kpt.mk (Oc.out.below h_); replace F := Kpt.mk (F.out.below h_); replace x0 := hcm0.out _ _ Oc.out.bx; replace x2 := hcm2.out _ _ Oc.out.bx; replace x3 := hcm3.out _ _ Oc.out.bx; replace x6 := hcm6.out _ _ Oc.out.bx; replace dd := dev_at F.out.dv.bx; obtain ⟨d0, d1, dlt⟩ := dd; have dd := dev_at F.out.dv.bx; replace hb := Kpt.mk (hb.out.trans (h_.mono hb.out.size)); clear hl_ hX_ h_; clear hm m1; have m2 : Kpt True := ⟨trivial⟩)
      | (refine wpList_box rfl 38 _ rfl CV rfl ?_; intro bc w_c hl_ hX_ h_ _; have Oc := Kpt.mk (F.out.new hl_ hX_); replace F := Kpt.mk (F.out.below h_); replace dd := dev_at F.out.dv.bx; obtain ⟨d0, d1, dlt⟩ := dd; have dd := dev_at F.out.dv.bx; replace hb := Kpt.mk (hb.out.trans (h_.mono hb.out.size)); have x0 := hcm0.out _ _ Oc.out.bx; have x2 := hcm2.out _ _ Oc.out.bx; have x3 := hcm3.out _ _ Oc.out.bx; have x6 := hcm6.out _ _ Oc.out.bx; clear hl_ hX_ h_; have m1 : Kpt True := ⟨trivial⟩)
      | (refine wpList_load_bx rfl 38 _ rfl bc CV rfl Oc.out.bx _ Try.underlying38 rfl (by rw [hCs.out]; exact infoC) ?_)
      | fail)
  clear dd
  refine wp_region_any (by kernel_rfl) ?_
  refine wpAny_of_C (C := fun W => W.cell? ⟨D, 1, none⟩ = some (.int .u8 k) ∧ W.cell? ⟨bc, 6, none⟩ = some (.int .u8 pr) ∧ D < W.heap.size) _ _ _ _ ?_
  refine wpAnyC_take 0 (.pointer (some ⟨D, 0, none⟩)) rfl (by kernel_rfl) (by kernel_rfl) (by kernel_rfl) (fun _ _ _ h => h) (wanted_free rfl _) (fun W hW => by obtain ⟨q1, q2, q4⟩ := hW; go_simp) ?_
  try simp only [Act.put, List.getElem_toArray, List.getElem_cons_succ, List.getElem_cons_zero, List.setIfInBounds_toArray, List.set_cons_succ, List.set_cons_zero]
  refine wpAnyC_take 1 (.pointer (some ⟨D, 0, none⟩)) rfl (by kernel_rfl) (by kernel_rfl) (by kernel_rfl) (fun _ _ _ h => h) (wanted_free rfl _) (fun W hW => by obtain ⟨q1, q2, q4⟩ := hW; go_simp) ?_
  try simp only [Act.put, List.getElem_toArray, List.getElem_cons_succ, List.getElem_cons_zero, List.setIfInBounds_toArray, List.set_cons_succ, List.set_cons_zero]
  refine wpAnyC_take 2 (.pointer (some ⟨D, 1, none⟩)) rfl (by kernel_rfl) (by kernel_rfl) (by kernel_rfl) (fun _ _ _ h => h) (wanted_free rfl _) (fun W hW => by obtain ⟨q1, q2, q4⟩ := hW; go_simp) ?_
  try simp only [Act.put, List.getElem_toArray, List.getElem_cons_succ, List.getElem_cons_zero, List.setIfInBounds_toArray, List.set_cons_succ, List.set_cons_zero]
  refine wpAnyC_take 3 (.int .u8 k) rfl (by kernel_rfl) (by kernel_rfl) (by kernel_rfl) (fun _ _ _ h => h) (wanted_free rfl _) (fun W hW => by obtain ⟨q1, q2, q4⟩ := hW; go_simp) ?_
  try simp only [Act.put, List.getElem_toArray, List.getElem_cons_succ, List.getElem_cons_zero, List.setIfInBounds_toArray, List.set_cons_succ, List.set_cons_zero]
  refine wpAnyC_take 4 (.pointer (some ⟨bc, 6, none⟩)) rfl (by kernel_rfl) (by kernel_rfl) (by kernel_rfl) (fun _ _ _ h => h) (wanted_free rfl _) (fun W hW => by obtain ⟨q1, q2, q4⟩ := hW; go_simp) ?_
  try simp only [Act.put, List.getElem_toArray, List.getElem_cons_succ, List.getElem_cons_zero, List.setIfInBounds_toArray, List.set_cons_succ, List.set_cons_zero]
  refine wpAnyC_take 5 (.int .u8 pr) rfl (by kernel_rfl) (by kernel_rfl) (by kernel_rfl) (fun _ _ _ h => h) (wanted_free rfl _) (fun W hW => by obtain ⟨q1, q2, q4⟩ := hW; go_simp) ?_
  try simp only [Act.put, List.getElem_toArray, List.getElem_cons_succ, List.getElem_cons_zero, List.setIfInBounds_toArray, List.set_cons_succ, List.set_cons_zero]
  refine wpAnyC_one 6 (⟨d1, x6, dlt⟩) rfl (by kernel_rfl) (wanted_free rfl _) (fun KA hKA => ?_)
  go_simp
  refine (HKn.out _).mono ?_
  rintro e w3 ⟨rfl, h3⟩
  have h_ : Below w_r.heap.size w_r w3 := by rw [h3]; exact below_drew _
  clear h3
  refine hKA _ _ ?_
  clear hKA KA
  try simp only [Act.put, List.getElem_toArray, List.getElem_cons_succ, List.getElem_cons_zero, List.setIfInBounds_toArray, List.set_cons_succ, List.set_cons_zero]
  refine wpAnyC_take 7 (.bool false) rfl (by kernel_rfl) (by kernel_rfl) (by kernel_rfl) (fun _ _ _ h => h) (wanted_free rfl _) (fun W hW => by go_simp) ?_
  try simp only [Act.put, List.getElem_toArray, List.getElem_cons_succ, List.getElem_cons_zero, List.setIfInBounds_toArray, List.set_cons_succ, List.set_cons_zero]
  refine wpAnyC_take 8 (.bool false) rfl (by kernel_rfl) (by kernel_rfl) (by kernel_rfl) (fun _ _ _ h => h) (wanted_free rfl _) (fun W hW => by go_simp) ?_
  try simp only [Act.put, List.getElem_toArray, List.getElem_cons_succ, List.getElem_cons_zero, List.setIfInBounds_toArray, List.set_cons_succ, List.set_cons_zero]
  replace Oc := Kpt.mk (Oc.out.below h_)
  replace Or := Kpt.mk (Or.out.below h_)
  replace F := Kpt.mk (F.out.below h_)
  replace hb := Kpt.mk (hb.out.trans (h_.mono hb.out.size))
  refine wpAnyC_done (⟨(dev_at F.out.dv.bx).2.1, hcm6.out _ _ Oc.out.bx, (dev_at F.out.dv.bx).2.2⟩) (by kernel_rfl) ?_
  obtain ⟨d0', d1', dlt'⟩ := dev_at F.out.dv.bx
  replace x0 := hcm0.out _ _ Oc.out.bx
  replace x2 := hcm2.out _ _ Oc.out.bx
  replace x3 := hcm3.out _ _ Oc.out.bx
  clear h_ d0 d1 dlt x6
  go_wp2_with (first
      | (have hm := m4; refine wpList_store_bx rfl 32 _ _ rfl br _ (nuS 5 8448 l).vals rfl rfl Or.out.bx rfl infoS (Sn.vals_one _) rfl ?_; intro w5 hX_ hg_; replace hb := Kpt.mk (hb.out.trans (Below.ofGrown hg_ hb.out.size Or.out.lo)); replace Oc := Kpt.mk (Oc.out.other hg_ (by omega)); replace F := Kpt.mk (F.out.own Or.out hg_ hSl hDl); replace Or := Kpt.mk (Or.out.set hX_); clear hX_ hg_; clear hm m4; have m5 : Kpt True := ⟨trivial⟩)
      | (go_at_call 35; have hm := m3; go_must (refine (HR.out _).mono ?_; rintro e w7 ⟨rfl, h_⟩; replace Oc := Kpt.mk (Oc.out.below h_); replace Or := Kpt.mk (Or.out.below h_); replace F := Kpt.mk (F.out.below h_); replace hb := Kpt.mk (hb.out.trans (h_.mono hb.out.size)); clear h_; clear hm m3; have m4 : Kpt True := ⟨trivial⟩))
      | (go_at_call 34; have hm := m2; go_must (refine (HH.out _ F.out.dv).mono ?_; rintro e w6 ⟨rfl, rfl⟩; clear hm m2; have m3 : Kpt True := ⟨trivial⟩))
      | (refine wpList_load_bx rfl 38 _ rfl bc CV rfl Oc.out.bx _ Try.underlying38 rfl (by rw [hCs.out]; exact infoC) ?_)
      | fail)
  refine bodyPost_ret (v := .agg (nuS 5 8448 l).vals) (by simp [results, Try.results24, asAddr, Act.put, res_run Or.out.bx]) rfl ⟨rfl, hb.out⟩

set_option maxRecDepth 100000 in
set_option maxHeartbeats 1000000 in
theorem refuse_free13 (w : World) (B : Nat) (tag : Tags) (st : St) (f : ByteArray) (S D N : Nat) (k : Int) (ca : Bool) (c : Cm) (h : Dv w B tag st f S D N k ca) (hN : N ≤ 4096) (h0 : 0 ≤ k) (p0 : 0 ≤ c.pr) (hk : knownB k c.pr = true) (n13 : c.kd = 13) :
    Calls Try.prog 24 #[.pointer (some ⟨D, 0, none⟩), .agg c.vals] w fun e w' => e = .returned (.agg (noS).vals) ∧ Below w.heap.size w w' := by
  have hcm0 : ∀ (W : World) (b : Nat), Bx W b c.vals → W.cell? ⟨b, 0, none⟩ = some (.int .u8 c.kd) := fun W b h => (cm_at h).1
  have hcm6 : ∀ (W : World) (b : Nat), Bx W b c.vals → W.cell? ⟨b, 6, none⟩ = some (.int .u8 c.pr) := fun W b h => (cm_at h).2.2.2.2.2.2.1
  have HKn := fun W => known_any k c.pr W h0 p0
  simp only [hk] at HKn
  obtain ⟨pr, hpr⟩ : ∃ pr, pr = c.pr := ⟨_, rfl⟩
  rw [← hpr] at hcm6 HKn p0
  obtain ⟨kd, hkd⟩ : ∃ kd, kd = c.kd := ⟨_, rfl⟩
  rw [← hkd] at hcm0 n13
  subst n13
  have hCs : c.vals.size = 15 := rfl
  obtain ⟨CV, hCV⟩ : ∃ CV, CV = c.vals := ⟨_, rfl⟩
  rw [← hCV] at hCs hcm0 hcm6  ⊢
  replace hcm0 := Kpt.mk hcm0
  replace hcm6 := Kpt.mk hcm6
  replace hCs := Kpt.mk hCs
  clear hCV
  have hSl := h.sto.lt
  have hDl := h.bx.lt
  have F := Kpt.mk h.fx
  have hb := Kpt.mk (Below.refl w.heap.size w)
  replace HKn := Kpt.mk HKn
  replace h := Kpt.mk h
  have dd := dev_at F.out.dv.bx
  clear hk hpr hkd
  go_enter Try.func24, Try.ntmps24
  go_wp2_with (first
      | (have hm := m1; refine wpList_var rfl 32 rfl zeroS zeroSi ?_; intro br w_r hl_ hX_ h_; have q_c_r : bc < br := Nat.lt_of_lt_of_le Oc.out.bx.lt hl_; have Or := Kpt.mk (F.out.new hl_ hX_); replace Oc := Kpt.mk (Oc.out.below h_); replace F := Kpt.mk (F.out.below h_); replace x0 := hcm0.out _ _ Oc.out.bx; replace x6 := hcm6.out _ _ Oc.out.bx; replace dd := dev_at F.out.dv.bx; obtain ⟨d0, d1, dlt⟩ := dd; have dd := dev_at F.out.dv.bx; replace hb := Kpt.mk (hb.out.trans (h_.mono hb.out.size)); clear hl_ hX_ h_; clear hm m1; have m2 : Kpt True := ⟨trivial⟩)
      | (refine wpList_box rfl 38 _ rfl CV rfl ?_; intro bc w_c hl_ hX_ h_ _; have Oc := Kpt.mk (F.out.new hl_ hX_); replace F := Kpt.mk (F.out.below h_); replace dd := dev_at F.out.dv.bx; obtain ⟨d0, d1, dlt⟩ := dd; have dd := dev_at F.out.dv.bx; replace hb := Kpt.mk (hb.out.trans (h_.mono hb.out.size)); have x0 := hcm0.out _ _ Oc.out.bx; have x6 := hcm6.out _ _ Oc.out.bx; clear hl_ hX_ h_; have m1 : Kpt True := ⟨trivial⟩)
      | (refine wpList_load_bx rfl 38 _ rfl bc CV rfl Oc.out.bx _ Try.underlying38 rfl (by rw [hCs.out]; exact infoC) ?_)
      | fail)
  clear dd
  refine wp_region_any (by kernel_rfl) ?_
  refine wpAny_of_C (C := fun W => W.cell? ⟨D, 1, none⟩ = some (.int .u8 k) ∧ W.cell? ⟨bc, 6, none⟩ = some (.int .u8 pr) ∧ D < W.heap.size) _ _ _ _ ?_
  refine wpAnyC_take 0 (.pointer (some ⟨D, 0, none⟩)) rfl (by kernel_rfl) (by kernel_rfl) (by kernel_rfl) (fun _ _ _ h => h) (wanted_free rfl _) (fun W hW => by obtain ⟨q1, q2, q4⟩ := hW; go_simp) ?_
  try simp only [Act.put, List.getElem_toArray, List.getElem_cons_succ, List.getElem_cons_zero, List.setIfInBounds_toArray, List.set_cons_succ, List.set_cons_zero]
  refine wpAnyC_take 1 (.pointer (some ⟨D, 0, none⟩)) rfl (by kernel_rfl) (by kernel_rfl) (by kernel_rfl) (fun _ _ _ h => h) (wanted_free rfl _) (fun W hW => by obtain ⟨q1, q2, q4⟩ := hW; go_simp) ?_
  try simp only [Act.put, List.getElem_toArray, List.getElem_cons_succ, List.getElem_cons_zero, List.setIfInBounds_toArray, List.set_cons_succ, List.set_cons_zero]
  refine wpAnyC_take 2 (.pointer (some ⟨D, 1, none⟩)) rfl (by kernel_rfl) (by kernel_rfl) (by kernel_rfl) (fun _ _ _ h => h) (wanted_free rfl _) (fun W hW => by obtain ⟨q1, q2, q4⟩ := hW; go_simp) ?_
  try simp only [Act.put, List.getElem_toArray, List.getElem_cons_succ, List.getElem_cons_zero, List.setIfInBounds_toArray, List.set_cons_succ, List.set_cons_zero]
  refine wpAnyC_take 3 (.int .u8 k) rfl (by kernel_rfl) (by kernel_rfl) (by kernel_rfl) (fun _ _ _ h => h) (wanted_free rfl _) (fun W hW => by obtain ⟨q1, q2, q4⟩ := hW; go_simp) ?_
  try simp only [Act.put, List.getElem_toArray, List.getElem_cons_succ, List.getElem_cons_zero, List.setIfInBounds_toArray, List.set_cons_succ, List.set_cons_zero]
  refine wpAnyC_take 4 (.pointer (some ⟨bc, 6, none⟩)) rfl (by kernel_rfl) (by kernel_rfl) (by kernel_rfl) (fun _ _ _ h => h) (wanted_free rfl _) (fun W hW => by obtain ⟨q1, q2, q4⟩ := hW; go_simp) ?_
  try simp only [Act.put, List.getElem_toArray, List.getElem_cons_succ, List.getElem_cons_zero, List.setIfInBounds_toArray, List.set_cons_succ, List.set_cons_zero]
  refine wpAnyC_take 5 (.int .u8 pr) rfl (by kernel_rfl) (by kernel_rfl) (by kernel_rfl) (fun _ _ _ h => h) (wanted_free rfl _) (fun W hW => by obtain ⟨q1, q2, q4⟩ := hW; go_simp) ?_
  try simp only [Act.put, List.getElem_toArray, List.getElem_cons_succ, List.getElem_cons_zero, List.setIfInBounds_toArray, List.set_cons_succ, List.set_cons_zero]
  refine wpAnyC_one 6 (⟨d1, x6, dlt⟩) rfl (by kernel_rfl) (wanted_free rfl _) (fun KA hKA => ?_)
  go_simp
  refine (HKn.out _).mono ?_
  rintro e w3 ⟨rfl, h3⟩
  have h_ : Below w_r.heap.size w_r w3 := by rw [h3]; exact below_drew _
  clear h3
  refine hKA _ _ ?_
  clear hKA KA
  try simp only [Act.put, List.getElem_toArray, List.getElem_cons_succ, List.getElem_cons_zero, List.setIfInBounds_toArray, List.set_cons_succ, List.set_cons_zero]
  refine wpAnyC_take 7 (.bool false) rfl (by kernel_rfl) (by kernel_rfl) (by kernel_rfl) (fun _ _ _ h => h) (wanted_free rfl _) (fun W hW => by go_simp) ?_
  try simp only [Act.put, List.getElem_toArray, List.getElem_cons_succ, List.getElem_cons_zero, List.setIfInBounds_toArray, List.set_cons_succ, List.set_cons_zero]
  refine wpAnyC_take 8 (.bool false) rfl (by kernel_rfl) (by kernel_rfl) (by kernel_rfl) (fun _ _ _ h => h) (wanted_free rfl _) (fun W hW => by go_simp) ?_
  try simp only [Act.put, List.getElem_toArray, List.getElem_cons_succ, List.getElem_cons_zero, List.setIfInBounds_toArray, List.set_cons_succ, List.set_cons_zero]
  replace Oc := Kpt.mk (Oc.out.below h_)
  replace Or := Kpt.mk (Or.out.below h_)
  replace F := Kpt.mk (F.out.below h_)
  replace hb := Kpt.mk (hb.out.trans (h_.mono hb.out.size))
  refine wpAnyC_done (⟨(dev_at F.out.dv.bx).2.1, hcm6.out _ _ Oc.out.bx, (dev_at F.out.dv.bx).2.2⟩) (by kernel_rfl) ?_
  obtain ⟨d0', d1', dlt'⟩ := dev_at F.out.dv.bx
  replace x0 := hcm0.out _ _ Oc.out.bx
  clear h_ d0 d1 dlt x6
  go_wp2_with (first
      | (have hm := m2; refine wpList_store_bx rfl 32 _ _ rfl br _ (noS).vals rfl rfl Or.out.bx rfl infoS (Sn.vals_one _) rfl ?_; intro w3 hX_ hg_; replace hb := Kpt.mk (hb.out.trans (Below.ofGrown hg_ hb.out.size Or.out.lo)); replace Oc := Kpt.mk (Oc.out.other hg_ (by omega)); replace F := Kpt.mk (F.out.own Or.out hg_ hSl hDl); replace Or := Kpt.mk (Or.out.set hX_); clear hX_ hg_; clear hm m2; have m3 : Kpt True := ⟨trivial⟩)
      | (refine wpList_load_bx rfl 38 _ rfl bc CV rfl Oc.out.bx _ Try.underlying38 rfl (by rw [hCs.out]; exact infoC) ?_)
      | fail)
  refine bodyPost_ret (v := .agg (noS).vals) (by simp [results, Try.results24, asAddr, Act.put, res_run Or.out.bx]) rfl ⟨rfl, hb.out⟩

set_option maxRecDepth 100000 in
set_option maxHeartbeats 1000000 in
theorem refuse_free6 (w : World) (B : Nat) (tag : Tags) (st : St) (f : ByteArray) (S D N : Nat) (k : Int) (ca : Bool) (c : Cm) (h : Dv w B tag st f S D N k ca) (hN : N ≤ 4096) (h0 : 0 ≤ k) (p0 : 0 ≤ c.pr) (hk : knownB k c.pr = true) (n6 : c.kd = 6) :
    Calls Try.prog 24 #[.pointer (some ⟨D, 0, none⟩), .agg c.vals] w fun e w' => e = .returned (.agg (noS).vals) ∧ Below w.heap.size w w' := by
  have hcm0 : ∀ (W : World) (b : Nat), Bx W b c.vals → W.cell? ⟨b, 0, none⟩ = some (.int .u8 c.kd) := fun W b h => (cm_at h).1
  have hcm6 : ∀ (W : World) (b : Nat), Bx W b c.vals → W.cell? ⟨b, 6, none⟩ = some (.int .u8 c.pr) := fun W b h => (cm_at h).2.2.2.2.2.2.1
  have HKn := fun W => known_any k c.pr W h0 p0
  simp only [hk] at HKn
  obtain ⟨pr, hpr⟩ : ∃ pr, pr = c.pr := ⟨_, rfl⟩
  rw [← hpr] at hcm6 HKn p0
  obtain ⟨kd, hkd⟩ : ∃ kd, kd = c.kd := ⟨_, rfl⟩
  rw [← hkd] at hcm0 n6
  subst n6
  have hCs : c.vals.size = 15 := rfl
  obtain ⟨CV, hCV⟩ : ∃ CV, CV = c.vals := ⟨_, rfl⟩
  rw [← hCV] at hCs hcm0 hcm6  ⊢
  replace hcm0 := Kpt.mk hcm0
  replace hcm6 := Kpt.mk hcm6
  replace hCs := Kpt.mk hCs
  clear hCV
  have hSl := h.sto.lt
  have hDl := h.bx.lt
  have F := Kpt.mk h.fx
  have hb := Kpt.mk (Below.refl w.heap.size w)
  replace HKn := Kpt.mk HKn
  replace h := Kpt.mk h
  have dd := dev_at F.out.dv.bx
  clear hk hpr hkd
  go_enter Try.func24, Try.ntmps24
  go_wp2_with (first
      | (have hm := m1; refine wpList_var rfl 32 rfl zeroS zeroSi ?_; intro br w_r hl_ hX_ h_; have q_c_r : bc < br := Nat.lt_of_lt_of_le Oc.out.bx.lt hl_; have Or := Kpt.mk (F.out.new hl_ hX_); replace Oc := Kpt.mk (Oc.out.below h_); replace F := Kpt.mk (F.out.below h_); replace x0 := hcm0.out _ _ Oc.out.bx; replace x6 := hcm6.out _ _ Oc.out.bx; replace dd := dev_at F.out.dv.bx; obtain ⟨d0, d1, dlt⟩ := dd; have dd := dev_at F.out.dv.bx; replace hb := Kpt.mk (hb.out.trans (h_.mono hb.out.size)); clear hl_ hX_ h_; clear hm m1; have m2 : Kpt True := ⟨trivial⟩)
      | (refine wpList_box rfl 38 _ rfl CV rfl ?_; intro bc w_c hl_ hX_ h_ _; have Oc := Kpt.mk (F.out.new hl_ hX_); replace F := Kpt.mk (F.out.below h_); replace dd := dev_at F.out.dv.bx; obtain ⟨d0, d1, dlt⟩ := dd; have dd := dev_at F.out.dv.bx; replace hb := Kpt.mk (hb.out.trans (h_.mono hb.out.size)); have x0 := hcm0.out _ _ Oc.out.bx; have x6 := hcm6.out _ _ Oc.out.bx; clear hl_ hX_ h_; have m1 : Kpt True := ⟨trivial⟩)
      | (refine wpList_load_bx rfl 38 _ rfl bc CV rfl Oc.out.bx _ Try.underlying38 rfl (by rw [hCs.out]; exact infoC) ?_)
      | fail)
  clear dd
  refine wp_region_any (by kernel_rfl) ?_
  refine wpAny_of_C (C := fun W => W.cell? ⟨D, 1, none⟩ = some (.int .u8 k) ∧ W.cell? ⟨bc, 6, none⟩ = some (.int .u8 pr) ∧ D < W.heap.size) _ _ _ _ ?_
  refine wpAnyC_take 0 (.pointer (some ⟨D, 0, none⟩)) rfl (by kernel_rfl) (by kernel_rfl) (by kernel_rfl) (fun _ _ _ h => h) (wanted_free rfl _) (fun W hW => by obtain ⟨q1, q2, q4⟩ := hW; go_simp) ?_
  try simp only [Act.put, List.getElem_toArray, List.getElem_cons_succ, List.getElem_cons_zero, List.setIfInBounds_toArray, List.set_cons_succ, List.set_cons_zero]
  refine wpAnyC_take 1 (.pointer (some ⟨D, 0, none⟩)) rfl (by kernel_rfl) (by kernel_rfl) (by kernel_rfl) (fun _ _ _ h => h) (wanted_free rfl _) (fun W hW => by obtain ⟨q1, q2, q4⟩ := hW; go_simp) ?_
  try simp only [Act.put, List.getElem_toArray, List.getElem_cons_succ, List.getElem_cons_zero, List.setIfInBounds_toArray, List.set_cons_succ, List.set_cons_zero]
  refine wpAnyC_take 2 (.pointer (some ⟨D, 1, none⟩)) rfl (by kernel_rfl) (by kernel_rfl) (by kernel_rfl) (fun _ _ _ h => h) (wanted_free rfl _) (fun W hW => by obtain ⟨q1, q2, q4⟩ := hW; go_simp) ?_
  try simp only [Act.put, List.getElem_toArray, List.getElem_cons_succ, List.getElem_cons_zero, List.setIfInBounds_toArray, List.set_cons_succ, List.set_cons_zero]
  refine wpAnyC_take 3 (.int .u8 k) rfl (by kernel_rfl) (by kernel_rfl) (by kernel_rfl) (fun _ _ _ h => h) (wanted_free rfl _) (fun W hW => by obtain ⟨q1, q2, q4⟩ := hW; go_simp) ?_
  try simp only [Act.put, List.getElem_toArray, List.getElem_cons_succ, List.getElem_cons_zero, List.setIfInBounds_toArray, List.set_cons_succ, List.set_cons_zero]
  refine wpAnyC_take 4 (.pointer (some ⟨bc, 6, none⟩)) rfl (by kernel_rfl) (by kernel_rfl) (by kernel_rfl) (fun _ _ _ h => h) (wanted_free rfl _) (fun W hW => by obtain ⟨q1, q2, q4⟩ := hW; go_simp) ?_
  try simp only [Act.put, List.getElem_toArray, List.getElem_cons_succ, List.getElem_cons_zero, List.setIfInBounds_toArray, List.set_cons_succ, List.set_cons_zero]
  refine wpAnyC_take 5 (.int .u8 pr) rfl (by kernel_rfl) (by kernel_rfl) (by kernel_rfl) (fun _ _ _ h => h) (wanted_free rfl _) (fun W hW => by obtain ⟨q1, q2, q4⟩ := hW; go_simp) ?_
  try simp only [Act.put, List.getElem_toArray, List.getElem_cons_succ, List.getElem_cons_zero, List.setIfInBounds_toArray, List.set_cons_succ, List.set_cons_zero]
  refine wpAnyC_one 6 (⟨d1, x6, dlt⟩) rfl (by kernel_rfl) (wanted_free rfl _) (fun KA hKA => ?_)
  go_simp
  refine (HKn.out _).mono ?_
  rintro e w3 ⟨rfl, h3⟩
  have h_ : Below w_r.heap.size w_r w3 := by rw [h3]; exact below_drew _
  clear h3
  refine hKA _ _ ?_
  clear hKA KA
  try simp only [Act.put, List.getElem_toArray, List.getElem_cons_succ, List.getElem_cons_zero, List.setIfInBounds_toArray, List.set_cons_succ, List.set_cons_zero]
  refine wpAnyC_take 7 (.bool false) rfl (by kernel_rfl) (by kernel_rfl) (by kernel_rfl) (fun _ _ _ h => h) (wanted_free rfl _) (fun W hW => by go_simp) ?_
  try simp only [Act.put, List.getElem_toArray, List.getElem_cons_succ, List.getElem_cons_zero, List.setIfInBounds_toArray, List.set_cons_succ, List.set_cons_zero]
  refine wpAnyC_take 8 (.bool false) rfl (by kernel_rfl) (by kernel_rfl) (by kernel_rfl) (fun _ _ _ h => h) (wanted_free rfl _) (fun W hW => by go_simp) ?_
  try simp only [Act.put, List.getElem_toArray, List.getElem_cons_succ, List.getElem_cons_zero, List.setIfInBounds_toArray, List.set_cons_succ, List.set_cons_zero]
  replace Oc := Kpt.mk (Oc.out.below h_)
  replace Or := Kpt.mk (Or.out.below h_)
  replace F := Kpt.mk (F.out.below h_)
  replace hb := Kpt.mk (hb.out.trans (h_.mono hb.out.size))
  refine wpAnyC_done (⟨(dev_at F.out.dv.bx).2.1, hcm6.out _ _ Oc.out.bx, (dev_at F.out.dv.bx).2.2⟩) (by kernel_rfl) ?_
  obtain ⟨d0', d1', dlt'⟩ := dev_at F.out.dv.bx
  replace x0 := hcm0.out _ _ Oc.out.bx
  clear h_ d0 d1 dlt x6
  go_wp2_with (first
      | (have hm := m2; refine wpList_store_bx rfl 32 _ _ rfl br _ (noS).vals rfl rfl Or.out.bx rfl infoS (Sn.vals_one _) rfl ?_; intro w3 hX_ hg_; replace hb := Kpt.mk (hb.out.trans (Below.ofGrown hg_ hb.out.size Or.out.lo)); replace Oc := Kpt.mk (Oc.out.other hg_ (by omega)); replace F := Kpt.mk (F.out.own Or.out hg_ hSl hDl); replace Or := Kpt.mk (Or.out.set hX_); clear hX_ hg_; clear hm m2; have m3 : Kpt True := ⟨trivial⟩)
      | (refine wpList_load_bx rfl 38 _ rfl bc CV rfl Oc.out.bx _ Try.underlying38 rfl (by rw [hCs.out]; exact infoC) ?_)
      | fail)
  refine bodyPost_ret (v := .agg (noS).vals) (by simp [results, Try.results24, asAddr, Act.put, res_run Or.out.bx]) rfl ⟨rfl, hb.out⟩

end Go.Proofs.Ytklboieemljmiaa
