/-
  The contracts of written, write, take.
-/
import Derived.Test.YtklboieemljmiabVFx
namespace Go.Proofs.Ytklboieemljmiab
open Go.RowKit
set_option linter.unusedVariables false
set_option linter.unusedSimpArgs false
theorem written_ok (l n : Int) (w : World) : Calls Try.prog 64 #[.int .u64 l, .int .i64 n, .int .i64 0] w fun e w' => e = .returned (.agg noS.vals) ∧ Below w.heap.size w w' := by
  go_enter Try.func64, Try.ntmps64
  go_wp2
  refine bodyPost_ret (v := .agg noS.vals) (by simp [results, Try.results64, go_sem, noS, Sn.vals]) rfl ⟨rfl, ?_⟩
  exact (Below.refl _ _).alloc (Nat.le_refl _) _
/-- The state behind a write. -/
def wrF (st : St) (f : ByteArray) (l : Nat) (bs : List Bk) (ca fua : Bool) : St := if settled ca fua bs.length then wrSt st f l bs bs.length else syncSt (wrSt st f l bs bs.length)
theorem Bks.own_lt {w : World} {a : Option Addr} {n cp : Nat} {bs : List Bk} (h : Bks w (.slice a n cp) bs) (h0 : 0 < n) : ∀ g, (Value.slice a n cp).ownBlock = some g → g < w.heap.size := fun g hg => by
  obtain ⟨a', c', e, _, h⟩ := h
  simp only [Value.slice.injEq] at e
  obtain ⟨e1, e2, e3⟩ := e
  obtain ⟨_, g', o', ha, hl, _⟩ := h 0 bs[0] (List.getElem?_eq_getElem (by omega))
  rw [e1, ha] at hg
  simp [Value.ownBlock] at hg
  omega

set_option maxRecDepth 100000 in
set_option maxHeartbeats 1000000 in
theorem dwrite_ok (w : World) (B : Nat) (tag : Tags) (st : St) (f : ByteArray) (S D N : Nat) (k : Int) (ca : Bool) (l n cp : Nat) (a : Option Addr) (fua : Bool) (c : Cm) (bs : List Bk) (h : Dv w B tag st f S D N k ca) (hf1 : 1 ≤ f.size) (hf2 : f.size ≤ 32) (hN : N ≤ 4096) (hc : st.cnt < 500000000000) (hcw : st.waits.length < 1000000) (hf : ∀ i, st.fails i = false) (hw : Wrs st.waits) (hl : c.lba = (l : Nat)) (hin : l + n ≤ N) (hn : bs.length = n) (hv : Bks w (.slice a n cp) bs) (htag : ∀ g, (Value.slice a n cp).ownBlock = some g → tag g = none) :
    Calls Try.prog 44 #[.pointer (some ⟨D, 0, none⟩), .agg c.vals, .slice a n cp, .bool fua] w fun e w' => e = .returned (.agg noS.vals) ∧ ∃ tag', Wd w' B tag' (wrF st f l bs ca fua) ∧ Step w w' tag tag' (fun _ => True) := by
  have hcm2 : ∀ (W : World) (b : Nat), Bx W b c.vals → W.cell? ⟨b, 2, none⟩ = some (.int .u64 c.lba) := fun W b h => (cm_at h).2.2.1
  rw [hl] at hcm2
  have HK := fun W (h : Dv W B tag st f S D N k ca) (hv : Bks W (.slice a n cp) bs) => kwrite_any W B tag st S N l f ca fua (.slice a n cp) bs h.wd h.sto hf1 hf2 hN hc hcw hf hw hv htag (by rw [hn]; exact hin)
  have HKw := HK
  simp only [hn] at HK
  obtain ⟨st2, hst2⟩ : ∃ s, s = wrF st f l bs ca fua := ⟨_, rfl⟩
  have hst2' : (if settled ca fua n then wrSt st f l bs n else syncSt (wrSt st f l bs n)) = st2 := by rw [hst2]; unfold wrF; rw [hn]
  rw [hst2'] at HK
  rw [← hst2]
  have HWn := Kpt.mk (fun W => written_ok l n W)
  have hCs : c.vals.size = 15 := rfl
  obtain ⟨CV, hCV⟩ : ∃ CV, CV = c.vals := ⟨_, rfl⟩
  rw [← hCV] at hCs hcm2  ⊢
  replace hcm2 := Kpt.mk hcm2
  replace hCs := Kpt.mk hCs
  clear hCV
  have hSl := h.sto.lt
  have hDl := h.bx.lt
  have F := Kpt.mk h.fx
  have hvb := fun W (hb : Below w.heap.size w W) => hv.below hb
  replace hvb := Kpt.mk hvb
  replace HK := Kpt.mk HK
  have el : IntKind.i64.wrap (l : Int) = l := by rw [IntKind.wrap_i64]; omega
  replace h := Kpt.mk h
  clear hst2 hst2' HKw hn hv htag hl hf hw
  go_enter Try.func44, Try.ntmps44
  go_wp2_with (first
      | (have hm := m1; refine wpList_var rfl 32 rfl zeroS zeroSi ?_; intro br w_r hl_ hX_ h_; have q_c_r : bc < br := Nat.lt_of_lt_of_le Oc.out.bx.lt hl_; have Or := Kpt.mk (F.out.new hl_ hX_); replace hbw_ := hbw_.trans (h_.mono hbw_.size); replace Oc := Kpt.mk (Oc.out.below h_); replace F := Kpt.mk (F.out.below h_); clear hl_ hX_ h_; clear hm m1; have m2 : Kpt True := ⟨trivial⟩)
      | (refine wpList_box rfl 38 _ rfl CV rfl ?_; intro bc w_c hl_ hX_ h_ _; have Oc := Kpt.mk (F.out.new hl_ hX_); have hbw_ := h_; replace F := Kpt.mk (F.out.below h_); clear hl_ hX_ h_; have m1 : Kpt True := ⟨trivial⟩)
      | (refine wpList_load_bx rfl 38 _ rfl bc CV rfl Oc.out.bx _ Try.underlying38 rfl (by rw [hCs.out]; exact infoC) ?_)
      | fail)
  have dd := dev_at F.out.dv.bx
  obtain ⟨d0, d1, dlt⟩ := dd
  have hbw : Kpt (Below w.heap.size w w_r) := ⟨hbw_⟩
  have x2 := hcm2.out _ _ Oc.out.bx
  refine wp_region_any (by kernel_rfl) ?_
  refine wpAny_of_C (C := fun W => W.cell? ⟨D, 0, none⟩ = some (.pointer (some ⟨S, 0, none⟩)) ∧ W.cell? ⟨bc, 2, none⟩ = some (.int .u64 l) ∧ D < W.heap.size) _ _ _ _ ?_
  refine wpAnyC_take 0 (.pointer (some ⟨D, 0, none⟩)) rfl (by kernel_rfl) (by kernel_rfl) (by kernel_rfl) (fun _ _ _ h => h) (wanted_free rfl _) (fun W hW => by obtain ⟨q1, q2, q4⟩ := hW; go_simp) ?_
  try simp only [Act.put, List.getElem_toArray, List.getElem_cons_succ, List.getElem_cons_zero, List.setIfInBounds_toArray, List.set_cons_succ, List.set_cons_zero]
  refine wpAnyC_take 1 (.pointer (some ⟨D, 0, none⟩)) rfl (by kernel_rfl) (by kernel_rfl) (by kernel_rfl) (fun _ _ _ h => h) (wanted_free rfl _) (fun W hW => by obtain ⟨q1, q2, q4⟩ := hW; go_simp) ?_
  try simp only [Act.put, List.getElem_toArray, List.getElem_cons_succ, List.getElem_cons_zero, List.setIfInBounds_toArray, List.set_cons_succ, List.set_cons_zero]
  refine wpAnyC_take 2 (.pointer (some ⟨D, 0, none⟩)) rfl (by kernel_rfl) (by kernel_rfl) (by kernel_rfl) (fun _ _ _ h => h) (wanted_free rfl _) (fun W hW => by obtain ⟨q1, q2, q4⟩ := hW; go_simp) ?_
  try simp only [Act.put, List.getElem_toArray, List.getElem_cons_succ, List.getElem_cons_zero, List.setIfInBounds_toArray, List.set_cons_succ, List.set_cons_zero]
  refine wpAnyC_take 3 (.pointer (some ⟨S, 0, none⟩)) rfl (by kernel_rfl) (by kernel_rfl) (by kernel_rfl) (fun _ _ _ h => h) (wanted_free rfl _) (fun W hW => by obtain ⟨q1, q2, q4⟩ := hW; go_simp) ?_
  try simp only [Act.put, List.getElem_toArray, List.getElem_cons_succ, List.getElem_cons_zero, List.setIfInBounds_toArray, List.set_cons_succ, List.set_cons_zero]
  refine wpAnyC_take 4 (.pointer (some ⟨bc, 2, none⟩)) rfl (by kernel_rfl) (by kernel_rfl) (by kernel_rfl) (fun _ _ _ h => h) (wanted_free rfl _) (fun W hW => by obtain ⟨q1, q2, q4⟩ := hW; go_simp) ?_
  try simp only [Act.put, List.getElem_toArray, List.getElem_cons_succ, List.getElem_cons_zero, List.setIfInBounds_toArray, List.set_cons_succ, List.set_cons_zero]
  refine wpAnyC_take 5 (.int .u64 l) rfl (by kernel_rfl) (by kernel_rfl) (by kernel_rfl) (fun _ _ _ h => h) (wanted_free rfl _) (fun W hW => by obtain ⟨q1, q2, q4⟩ := hW; go_simp) ?_
  try simp only [Act.put, List.getElem_toArray, List.getElem_cons_succ, List.getElem_cons_zero, List.setIfInBounds_toArray, List.set_cons_succ, List.set_cons_zero]
  refine wpAnyC_take 6 (.int .i64 l) rfl (by kernel_rfl) (by kernel_rfl) (by kernel_rfl) (fun _ _ _ h => h) (wanted_free rfl _) (fun W hW => by obtain ⟨q1, q2, q4⟩ := hW; go_simp) ?_
  try simp only [Act.put, List.getElem_toArray, List.getElem_cons_succ, List.getElem_cons_zero, List.setIfInBounds_toArray, List.set_cons_succ, List.set_cons_zero]
  refine wpAnyC_take 7 (.slice a n cp) rfl (by kernel_rfl) (by kernel_rfl) (by kernel_rfl) (fun _ _ _ h => h) (wanted_free rfl _) (fun W hW => by obtain ⟨q1, q2, q4⟩ := hW; go_simp) ?_
  try simp only [Act.put, List.getElem_toArray, List.getElem_cons_succ, List.getElem_cons_zero, List.setIfInBounds_toArray, List.set_cons_succ, List.set_cons_zero]
  refine wpAnyC_take 8 (.bool fua) rfl (by kernel_rfl) (by kernel_rfl) (by kernel_rfl) (fun _ _ _ h => h) (wanted_free rfl _) (fun W hW => by obtain ⟨q1, q2, q4⟩ := hW; go_simp) ?_
  try simp only [Act.put, List.getElem_toArray, List.getElem_cons_succ, List.getElem_cons_zero, List.setIfInBounds_toArray, List.set_cons_succ, List.set_cons_zero]
  refine wpAnyC_one 9 (⟨d0, x2, dlt⟩) rfl (by kernel_rfl) (wanted_free rfl _) (fun KA hKA => ?_)
  go_simp
  refine (HK.out _ (F.out.dv.below (below_drew _)) (hvb.out _ (hbw.out.trans ((below_drew _).mono hbw.out.size)))).mono ?_
  rintro e w3 ⟨rfl, tag3, hW_, s3⟩
  have s_ : Step w_r w3 tag tag3 (fun _ => True) := (step_below (below_drew _) tag (fun _ => True)).trans s3
  replace Oc := Kpt.mk (Oc.out.call s_)
  replace Or := Kpt.mk (Or.out.call s_)
  replace F := Kpt.mk (F.out.call hW_ s_)
  refine hKA _ _ ?_
  clear hKA KA
  try simp only [Act.put, List.getElem_toArray, List.getElem_cons_succ, List.getElem_cons_zero, List.setIfInBounds_toArray, List.set_cons_succ, List.set_cons_zero]
  refine wpAnyC_take 10 (.tuple #[.int .i64 n, .int .i64 0]) rfl (by kernel_rfl) (by kernel_rfl) (by kernel_rfl) (fun _ _ _ h => h) (wanted_free rfl _) (fun W hW => by go_simp) ?_
  try simp only [Act.put, List.getElem_toArray, List.getElem_cons_succ, List.getElem_cons_zero, List.setIfInBounds_toArray, List.set_cons_succ, List.set_cons_zero]
  refine wpAnyC_take 11 (.int .i64 n) rfl (by kernel_rfl) (by kernel_rfl) (by kernel_rfl) (fun _ _ _ h => h) (wanted_free rfl _) (fun W hW => by go_simp) ?_
  try simp only [Act.put, List.getElem_toArray, List.getElem_cons_succ, List.getElem_cons_zero, List.setIfInBounds_toArray, List.set_cons_succ, List.set_cons_zero]
  refine wpAnyC_take 12 (.int .i64 0) rfl (by kernel_rfl) (by kernel_rfl) (by kernel_rfl) (fun _ _ _ h => h) (wanted_free rfl _) (fun W hW => by go_simp) ?_
  try simp only [Act.put, List.getElem_toArray, List.getElem_cons_succ, List.getElem_cons_zero, List.setIfInBounds_toArray, List.set_cons_succ, List.set_cons_zero]
  refine wpAnyC_take 13 (.int .i64 n) rfl (by kernel_rfl) (by kernel_rfl) (by kernel_rfl) (fun _ _ _ h => h) (wanted_free rfl _) (fun W hW => by go_simp) ?_
  try simp only [Act.put, List.getElem_toArray, List.getElem_cons_succ, List.getElem_cons_zero, List.setIfInBounds_toArray, List.set_cons_succ, List.set_cons_zero]
  refine wpAnyC_take 14 (.int .i64 0) rfl (by kernel_rfl) (by kernel_rfl) (by kernel_rfl) (fun _ _ _ h => h) (wanted_free rfl _) (fun W hW => by go_simp) ?_
  try simp only [Act.put, List.getElem_toArray, List.getElem_cons_succ, List.getElem_cons_zero, List.setIfInBounds_toArray, List.set_cons_succ, List.set_cons_zero]
  refine wpAnyC_done (⟨(dev_at F.out.dv.bx).1, hcm2.out _ _ Oc.out.bx, (dev_at F.out.dv.bx).2.2⟩) (by kernel_rfl) ?_
  clear hW_ s_ s3 d0 d1 dlt
  replace x2 := hcm2.out _ _ Oc.out.bx
  go_wp2_with (first
      | (have hm := m3; refine wpList_store_bx rfl 32 _ _ rfl br _ (noS).vals rfl rfl Or.out.bx rfl infoS (Sn.vals_one _) rfl ?_; intro w4 hX_ hg_; replace Oc := Kpt.mk (Oc.out.other hg_ (by omega)); replace F := Kpt.mk (F.out.own Or.out hg_ hSl hDl); replace Or := Kpt.mk (Or.out.set hX_); replace x2 := hcm2.out _ _ Oc.out.bx; clear hX_ hg_; clear hm m3; have m4 : Kpt True := ⟨trivial⟩)
      | (go_at_call 64; have hm := m2; go_must (refine (HWn.out _).mono ?_; rintro e w4 ⟨rfl, h_⟩; replace Oc := Kpt.mk (Oc.out.below h_); replace Or := Kpt.mk (Or.out.below h_); replace F := Kpt.mk (F.out.below h_); replace x2 := hcm2.out _ _ Oc.out.bx; clear h_; clear hm m2; have m3 : Kpt True := ⟨trivial⟩))
      | (refine wpList_load_bx rfl 38 _ rfl bc CV rfl Oc.out.bx _ Try.underlying38 rfl (by rw [hCs.out]; exact infoC) ?_)
      | (refine wpList_load_bx rfl 32 _ rfl br (noS).vals rfl Or.out.bx _ Try.underlying32 rfl infoS ?_)
      | fail)
  refine bodyPost_ret (v := .agg noS.vals) (by simp [results, Try.results44, asAddr, Act.put, res_run Or.out.bx]) rfl ⟨rfl, _, F.out.dv.wd, F.out.st⟩

end Go.Proofs.Ytklboieemljmiab
