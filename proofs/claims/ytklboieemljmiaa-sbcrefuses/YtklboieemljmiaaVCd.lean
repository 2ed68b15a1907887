/-
  The contracts of answer and Do for the capacity.
-/
import Derived.Test.YtklboieemljmiaaVCl
import Derived.Test.YtklboieemljmiaaVNil
namespace Go.Proofs.Ytklboieemljmiaa
open Go.RowKit
set_option linter.unusedVariables false
set_option linter.unusedSimpArgs false
set_option maxRecDepth 100000 in
set_option maxHeartbeats 1000000 in
theorem answer_cap (w : World) (B : Nat) (tag : Tags) (st : St) (f : ByteArray) (S D N : Nat) (k : Int) (ca : Bool) (c : Cm) (p : Value) (h : Dv w B tag st f S D N k ca) (hkd : c.kd = 6)
    (HR : ∀ W, Below w.heap.size w W → Calls Try.prog 24 #[.pointer (some ⟨D, 0, none⟩), .agg c.vals] W fun e w' => e = .returned (.agg noS.vals) ∧ Below W.heap.size W w')
    (HC : ∀ W, Below w.heap.size w W → Calls Try.prog 28 #[.pointer (some ⟨D, 0, none⟩), .agg c.vals] W fun e w' => ∃ a n cap, e = .returned (.slice a n cap) ∧ Below W.heap.size W w') :
    Calls Try.prog 21 #[.pointer (some ⟨D, 0, none⟩), .agg c.vals, p] w fun e w' => ∃ a n cap, e = .returned (.tuple #[.slice a n cap, .agg noS.vals]) ∧ Below w.heap.size w w' := by
  have hcm0 : ∀ (W : World) (b : Nat), Bx W b c.vals → W.cell? ⟨b, 0, none⟩ = some (.int .u8 c.kd) := fun W b h => (cm_at h).1
  rw [hkd] at hcm0
  have HE := fun W => ended_any noS W
  simp only [show (noS.key != 0) = false from rfl] at HE
  have hCs : c.vals.size = 15 := rfl
  obtain ⟨CV, hCV⟩ : ∃ CV, CV = c.vals := ⟨_, rfl⟩
  rw [← hCV] at hCs hcm0 HR HC ⊢
  replace hcm0 := Kpt.mk hcm0
  replace hCs := Kpt.mk hCs
  clear hCV
  have hSl := h.sto.lt
  have hDl := h.bx.lt
  have F := Kpt.mk h.fx
  have hb := Kpt.mk (Below.refl w.heap.size w)
  replace HR := Kpt.mk HR
  replace HC := Kpt.mk HC
  replace HE := Kpt.mk HE
  replace h := Kpt.mk h
  clear hkd
  go_enter Try.func21, Try.ntmps21
  go_wp2_with (first
      | (have hm := m7; refine wpList_store_bx rfl 32 _ _ rfl br _ (noS).vals rfl rfl Or.out.bx rfl infoS (Sn.vals_one _) rfl ?_; intro w8 hX_ hg_; replace hb := Kpt.mk (hb.out.trans (Below.ofGrown hg_ hb.out.size Or.out.lo)); replace Oc := Kpt.mk (Oc.out.other hg_ (by omega)); replace Ov := Kpt.mk (Ov.out.other hg_ (by omega)); replace F := Kpt.mk (F.out.own Or.out hg_ hSl hDl); replace Or := Kpt.mk (Or.out.set hX_); replace x0 := hcm0.out _ _ Oc.out.bx; clear hX_ hg_; clear hm m7; have m8 : Kpt True := ⟨trivial⟩)
      | (go_at_call 28; have hm := m6; refine (HC.out _ hb.out).mono ?_; rintro e w5 ⟨va, vn, vc, rfl, h_⟩; replace Oc := Kpt.mk (Oc.out.below h_); replace Or := Kpt.mk (Or.out.below h_); replace Ov := Kpt.mk (Ov.out.below h_); replace F := Kpt.mk (F.out.below h_); replace x0 := hcm0.out _ _ Oc.out.bx; replace hb := Kpt.mk (hb.out.trans (h_.mono hb.out.size)); clear h_; clear hm m6; have m7 : Kpt True := ⟨trivial⟩)
      | (go_at_call 22; have hm := m5; refine (HE.out _).mono ?_; rintro e w4 ⟨rfl, h_⟩; replace Oc := Kpt.mk (Oc.out.below h_); replace Or := Kpt.mk (Or.out.below h_); replace Ov := Kpt.mk (Ov.out.below h_); replace F := Kpt.mk (F.out.below h_); replace x0 := hcm0.out _ _ Oc.out.bx; replace hb := Kpt.mk (hb.out.trans (h_.mono hb.out.size)); clear h_; clear hm m5; have m6 : Kpt True := ⟨trivial⟩)
      | (have hm := m4; refine wpList_store_bx rfl 32 _ _ rfl bv _ (noS).vals rfl rfl Ov.out.bx rfl infoS (Sn.vals_one _) rfl ?_; intro w5 hX_ hg_; replace hb := Kpt.mk (hb.out.trans (Below.ofGrown hg_ hb.out.size Ov.out.lo)); replace Oc := Kpt.mk (Oc.out.other hg_ (by omega)); replace Or := Kpt.mk (Or.out.other hg_ (by omega)); replace F := Kpt.mk (F.out.own Ov.out hg_ hSl hDl); replace Ov := Kpt.mk (Ov.out.set hX_); replace x0 := hcm0.out _ _ Oc.out.bx; clear hX_ hg_; clear hm m4; have m5 : Kpt True := ⟨trivial⟩)
      | (have hm := m3; refine wpList_var rfl 32 rfl zeroS zeroSi ?_; intro bv w_v hl_ hX_ h_; have q_c_v : bc < bv := Nat.lt_of_lt_of_le Oc.out.bx.lt hl_; have q_r_v : br < bv := Nat.lt_of_lt_of_le Or.out.bx.lt hl_; have Ov := Kpt.mk (F.out.new hl_ hX_); replace Oc := Kpt.mk (Oc.out.below h_); replace Or := Kpt.mk (Or.out.below h_); replace F := Kpt.mk (F.out.below h_); replace x0 := hcm0.out _ _ Oc.out.bx; replace hb := Kpt.mk (hb.out.trans (h_.mono hb.out.size)); clear hl_ hX_ h_; clear hm m3; have m4 : Kpt True := ⟨trivial⟩)
      | (go_at_call 24; have hm := m2; refine (HR.out _ hb.out).mono ?_; rintro e w3 ⟨rfl, h_⟩; replace Oc := Kpt.mk (Oc.out.below h_); replace Or := Kpt.mk (Or.out.below h_); replace F := Kpt.mk (F.out.below h_); replace x0 := hcm0.out _ _ Oc.out.bx; replace hb := Kpt.mk (hb.out.trans (h_.mono hb.out.size)); clear h_; clear hm m2; have m3 : Kpt True := ⟨trivial⟩)
      | (have hm := m1; refine wpList_var rfl 32 rfl zeroS zeroSi ?_; intro br w_r hl_ hX_ h_; have q_c_r : bc < br := Nat.lt_of_lt_of_le Oc.out.bx.lt hl_; have Or := Kpt.mk (F.out.new hl_ hX_); replace Oc := Kpt.mk (Oc.out.below h_); replace F := Kpt.mk (F.out.below h_); replace x0 := hcm0.out _ _ Oc.out.bx; replace hb := Kpt.mk (hb.out.trans (h_.mono hb.out.size)); clear hl_ hX_ h_; clear hm m1; have m2 : Kpt True := ⟨trivial⟩)
      | (refine wpList_box rfl 38 _ rfl CV rfl ?_; intro bc w_c hl_ hX_ h_ _; have Oc := Kpt.mk (F.out.new hl_ hX_); replace F := Kpt.mk (F.out.below h_); replace hb := Kpt.mk (hb.out.trans (h_.mono hb.out.size)); have x0 := hcm0.out _ _ Oc.out.bx; clear hl_ hX_ h_; have m1 : Kpt True := ⟨trivial⟩)
      | (refine wpList_load_bx rfl 38 _ rfl bc CV rfl Oc.out.bx _ Try.underlying38 rfl (by rw [hCs.out]; exact infoC) ?_)
      | (refine wpList_load_bx rfl 32 _ rfl bv (noS).vals rfl Ov.out.bx _ Try.underlying32 rfl infoS ?_)
      | (refine wpList_load_bx rfl 32 _ rfl br (noS).vals rfl Or.out.bx _ Try.underlying32 rfl infoS ?_)
      | fail)
  refine bodyPost_ret (v := .tuple #[.slice va vn vc, .agg noS.vals]) (by simp [results, Try.results21, asAddr, Act.put, res_run Or.out.bx]) rfl ⟨_, _, _, rfl, hb.out⟩

set_option maxRecDepth 100000 in
set_option maxHeartbeats 1000000 in
theorem do_cap (w : World) (B : Nat) (tag : Tags) (st : St) (f : ByteArray) (S D N : Nat) (k : Int) (ca : Bool) (c : Cm) (p : Value) (h : Dv w B tag st f S D N k ca)
    (H : ∀ W, Below w.heap.size w W → Calls Try.prog 21 #[.pointer (some ⟨D, 0, none⟩), .agg c.vals, p] W fun e w' => ∃ a n cap, e = .returned (.tuple #[.slice a n cap, .agg noS.vals]) ∧ Below W.heap.size W w') :
    Calls Try.prog 11 #[.pointer (some ⟨D, 0, none⟩), .agg c.vals, p] w fun e w' => ∃ a n cap, e = .returned (.agg (resV 0 noS (.slice a n cap))) ∧ Below w.heap.size w w' := by
  have HE := fun W => ended_any noS W
  simp only [show (noS.key != 0) = false from rfl] at HE
  have hCs : c.vals.size = 15 := rfl
  obtain ⟨CV, hCV⟩ : ∃ CV, CV = c.vals := ⟨_, rfl⟩
  rw [← hCV] at hCs  H ⊢
  replace hCs := Kpt.mk hCs
  clear hCV
  have hSl := h.sto.lt
  have hDl := h.bx.lt
  have F := Kpt.mk h.fx
  have hb := Kpt.mk (Below.refl w.heap.size w)
  replace H := Kpt.mk H
  replace HE := Kpt.mk HE
  replace h := Kpt.mk h
  go_enter Try.func11, Try.ntmps11
  go_wp2_with (first
      | (have hm := m6; refine wpList_store_bx rfl 34 _ _ rfl br _ (resV 0 noS (.slice va vn vc)) rfl rfl Or.out.bx rfl infoR (resV_one _ _ _ _ _) rfl ?_; intro w9 hX_ hg_; replace hb := Kpt.mk (hb.out.trans (Below.ofGrown hg_ hb.out.size Or.out.lo)); replace Oc := Kpt.mk (Oc.out.other hg_ (by omega)); replace Ov := Kpt.mk (Ov.out.other hg_ (by omega)); replace F := Kpt.mk (F.out.own Or.out hg_ hSl hDl); replace Or := Kpt.mk (Or.out.set hX_); clear hX_ hg_; clear hm m6; have m7 : Kpt True := ⟨trivial⟩)
      | (go_at_call 22; have hm := m5; refine (HE.out _).mono ?_; rintro e w6 ⟨rfl, h_⟩; replace Oc := Kpt.mk (Oc.out.below h_); replace Or := Kpt.mk (Or.out.below h_); replace Ov := Kpt.mk (Ov.out.below h_); replace F := Kpt.mk (F.out.below h_); replace hb := Kpt.mk (hb.out.trans (h_.mono hb.out.size)); clear h_; clear hm m5; have m6 : Kpt True := ⟨trivial⟩)
      | (have hm := m4; refine wpList_store_bx rfl 32 _ _ rfl bv _ (noS).vals rfl rfl Ov.out.bx rfl infoS (Sn.vals_one _) rfl ?_; intro w5 hX_ hg_; replace hb := Kpt.mk (hb.out.trans (Below.ofGrown hg_ hb.out.size Ov.out.lo)); replace Oc := Kpt.mk (Oc.out.other hg_ (by omega)); replace Or := Kpt.mk (Or.out.other hg_ (by omega)); replace F := Kpt.mk (F.out.own Ov.out hg_ hSl hDl); replace Ov := Kpt.mk (Ov.out.set hX_); clear hX_ hg_; clear hm m4; have m5 : Kpt True := ⟨trivial⟩)
      | (have hm := m3; refine wpList_var rfl 32 rfl zeroS zeroSi ?_; intro bv w_v hl_ hX_ h_; have q_c_v : bc < bv := Nat.lt_of_lt_of_le Oc.out.bx.lt hl_; have q_r_v : br < bv := Nat.lt_of_lt_of_le Or.out.bx.lt hl_; have Ov := Kpt.mk (F.out.new hl_ hX_); replace Oc := Kpt.mk (Oc.out.below h_); replace Or := Kpt.mk (Or.out.below h_); replace F := Kpt.mk (F.out.below h_); replace hb := Kpt.mk (hb.out.trans (h_.mono hb.out.size)); clear hl_ hX_ h_; clear hm m3; have m4 : Kpt True := ⟨trivial⟩)
      | (go_at_call 21; have hm := m2; refine (H.out _ hb.out).mono ?_; rintro e w5 ⟨va, vn, vc, rfl, h_⟩; replace Oc := Kpt.mk (Oc.out.below h_); replace Or := Kpt.mk (Or.out.below h_); replace F := Kpt.mk (F.out.below h_); replace hb := Kpt.mk (hb.out.trans (h_.mono hb.out.size)); clear h_; clear hm m2; have m3 : Kpt True := ⟨trivial⟩)
      | (have hm := m1; refine wpList_var rfl 34 rfl zeroR zeroRi ?_; intro br w_r hl_ hX_ h_; have q_c_r : bc < br := Nat.lt_of_lt_of_le Oc.out.bx.lt hl_; have Or := Kpt.mk (F.out.new hl_ hX_); replace Oc := Kpt.mk (Oc.out.below h_); replace F := Kpt.mk (F.out.below h_); replace hb := Kpt.mk (hb.out.trans (h_.mono hb.out.size)); clear hl_ hX_ h_; clear hm m1; have m2 : Kpt True := ⟨trivial⟩)
      | (refine wpList_box rfl 38 _ rfl CV rfl ?_; intro bc w_c hl_ hX_ h_ _; have Oc := Kpt.mk (F.out.new hl_ hX_); replace F := Kpt.mk (F.out.below h_); replace hb := Kpt.mk (hb.out.trans (h_.mono hb.out.size)); clear hl_ hX_ h_; have m1 : Kpt True := ⟨trivial⟩)
      | (refine wpList_load_bx rfl 38 _ rfl bc CV rfl Oc.out.bx _ Try.underlying38 rfl (by rw [hCs.out]; exact infoC) ?_)
      | (refine wpList_load_bx rfl 32 _ rfl bv (noS).vals rfl Ov.out.bx _ Try.underlying32 rfl infoS ?_)
      | fail)
  refine bodyPost_ret (v := .agg (resV 0 noS (.slice va vn vc))) (by simp [results, Try.results11, asAddr, Act.put, resR_run Or.out.bx]) rfl ⟨_, _, _, rfl, hb.out⟩

end Go.Proofs.Ytklboieemljmiaa
