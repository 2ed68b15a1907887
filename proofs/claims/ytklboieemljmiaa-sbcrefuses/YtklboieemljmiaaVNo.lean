/-
  Within and has for all numbers; sync; unmap of what is no list of descriptors.
-/
import Derived.Test.YtklboieemljmiaaVFrm
namespace Go.Proofs.Ytklboieemljmiaa
open Go.RowKit
set_option linter.unusedVariables false
set_option linter.unusedSimpArgs false
theorem within_all (a b c : Int) (w : World) (ha : 0 ≤ a ∧ a < 18446744073709551616) (hb : 0 ≤ b ∧ b < 18446744073709551616) (hc : 0 ≤ c ∧ c < 9223372036854775808) :
    Calls Try.prog 50 #[.int .u64 a, .int .u64 b, .int .u64 c] w fun e w' => e = .returned (.bool (decide (a + b ≤ c))) ∧ w' = w := by
  by_cases h : b ≤ c
  · have e1 : IntKind.u64.wrap (c - b) = c - b := by rw [IntKind.wrap_u64]; omega
    go_enter Try.func50, Try.ntmps50
    go_wp2
    go_ret
    first
      | exact ⟨retb (decide_eq_decide.2 (by omega)), rfl⟩
      | exact ⟨retb (by rw [e1]; exact decide_eq_decide.2 (by omega)), rfl⟩
  · go_enter Try.func50, Try.ntmps50
    go_wp2
    go_ret
    exact ⟨retb (by first | exact (decide_eq_false (by omega)).symm | simp; omega), rfl⟩
set_option maxHeartbeats 1000000 in
theorem dhas_all (w : World) (B : Nat) (tag : Tags) (st : St) (f : ByteArray) (S D N : Nat) (k : Int) (ca : Bool) (a b : Int) (h : Dv w B tag st f S D N k ca) (hN : N ≤ 4096) (ha : 0 ≤ a ∧ a < 18446744073709551616) (hb : 0 ≤ b ∧ b < 18446744073709551616) :
    Calls Try.prog 34 #[.pointer (some ⟨D, 0, none⟩), .int .u64 a, .int .u64 b] w fun e w' => e = .returned (.bool (decide (a + b ≤ N))) ∧ w' = w := by
  obtain ⟨d0, d1, dlt⟩ := dev_at h.bx
  have HB := Kpt.mk (kblocks_any w tag S B N f ca h.sto)
  have HW := Kpt.mk (within_all a b N w ha hb (by omega))
  have eN : IntKind.u64.wrap (N : Int) = N := by rw [IntKind.wrap_u64]; omega
  clear h
  go_enter Try.func34, Try.ntmps34
  go_wp2_with (first
      | (go_at_call 40; go_must (refine HB.out.mono ?_; rintro e w2 ⟨rfl, rfl⟩))
      | (go_at_call 50; go_must (refine HW.out.mono ?_; rintro e w2 ⟨rfl, rfl⟩))
      | fail)
  go_ret
  exact ⟨rfl, rfl⟩

set_option maxRecDepth 100000 in
set_option maxHeartbeats 1000000 in
theorem dsync_ok (w : World) (B : Nat) (tag : Tags) (st : St) (f : ByteArray) (S D N : Nat) (k : Int) (ca : Bool) (h : Dv w B tag st f S D N k ca) (hf1 : 1 ≤ f.size) (hf2 : f.size ≤ 32) (hN : N ≤ 4096) (hc : st.cnt < 500000000000) (hcw : st.waits.length < 1000000) (hf : ∀ i, st.fails i = false) (hw : Wrs st.waits) :
    Calls Try.prog 45 #[.pointer (some ⟨D, 0, none⟩)] w fun e w' => e = .returned (.agg noS.vals) ∧ ∃ tag', Wd w' B tag' (syncSt st) ∧ Step w w' tag tag' (fun _ => True) := by
  have HK := fun W (h : Dv W B tag st f S D N k ca) => ksync_any W B tag st S N f ca h.wd h.sto (by omega) (hf _) hw
  obtain ⟨st2, hst2⟩ : ∃ s, s = syncSt st := ⟨_, rfl⟩
  rw [← hst2] at HK ⊢
  have hSl := h.sto.lt
  have hDl := h.bx.lt
  have F := Kpt.mk h.fx
  replace HK := Kpt.mk HK
  replace h := Kpt.mk h
  clear hst2 hf hw
  go_enter Try.func45, Try.ntmps45
  have dd := dev_at F.out.dv.bx
  go_wp2_with (first
      | (have hm := m2; refine wpList_store_bx rfl 32 _ _ rfl br _ (noS).vals rfl rfl Or.out.bx rfl infoS (Sn.vals_one _) rfl ?_; intro w3 hX_ hg_; replace F := Kpt.mk (F.out.own Or.out hg_ hSl hDl); replace Or := Kpt.mk (Or.out.set hX_); replace dd := dev_at F.out.dv.bx; clear hX_ hg_; clear hm m2; have m3 : Kpt True := ⟨trivial⟩)
      | (go_at_call 61; have hm := m1; go_must (refine (HK.out _ F.out.dv).mono ?_; rintro e w3 ⟨rfl, tag3, hW_, s_⟩; replace Or := Kpt.mk (Or.out.call s_); replace F := Kpt.mk (F.out.call hW_ s_); replace dd := dev_at F.out.dv.bx; clear hW_ s_; clear hm m1; have m2 : Kpt True := ⟨trivial⟩))
      | (refine wpList_var rfl 32 rfl zeroS zeroSi ?_; intro br w_r hl_ hX_ h_; have Or := Kpt.mk (F.out.new hl_ hX_); replace F := Kpt.mk (F.out.below h_); replace dd := dev_at F.out.dv.bx; clear hl_ hX_ h_; have m1 : Kpt True := ⟨trivial⟩)
      | (refine wpList_load_bx rfl 32 _ rfl br (noS).vals rfl Or.out.bx _ Try.underlying32 rfl infoS ?_)
      | fail)
  refine bodyPost_ret (v := .agg (noS).vals) (by simp [results, Try.results45, asAddr, Act.put, res_run Or.out.bx]) rfl ⟨rfl, _, F.out.dv.wd, F.out.st⟩

set_option maxRecDepth 100000 in
set_option maxHeartbeats 1000000 in
theorem unmap_nil (w : World) (B : Nat) (tag : Tags) (st : St) (f : ByteArray) (S D N : Nat) (k : Int) (ca : Bool) (h : Dv w B tag st f S D N k ca) (a : Option Addr) (cp : Nat) :
    Calls Try.prog 47 #[.pointer (some ⟨D, 0, none⟩), .slice a 0 cp] w fun e w' => e = .returned (.agg noS.vals) ∧ Below w.heap.size w w' := by
  have hSl := h.sto.lt
  have hDl := h.bx.lt
  have F := Kpt.mk h.fx
  have hb := Kpt.mk (Below.refl w.heap.size w)
  replace h := Kpt.mk h
  go_enter Try.func47, Try.ntmps47
  go_wp2_with (first
      | (have hm := m1; refine wpList_store_bx rfl 32 _ _ rfl br _ (noS).vals rfl rfl Or.out.bx rfl infoS (Sn.vals_one _) rfl ?_; intro w2 hX_ hg_; replace hb := Kpt.mk (hb.out.trans (Below.ofGrown hg_ hb.out.size Or.out.lo)); replace F := Kpt.mk (F.out.own Or.out hg_ hSl hDl); replace Or := Kpt.mk (Or.out.set hX_); clear hX_ hg_; clear hm m1; have m2 : Kpt True := ⟨trivial⟩)
      | (refine wpList_var rfl 32 rfl zeroS zeroSi ?_; intro br w_r hl_ hX_ h_; have Or := Kpt.mk (F.out.new hl_ hX_); replace F := Kpt.mk (F.out.below h_); replace hb := Kpt.mk (hb.out.trans (h_.mono hb.out.size)); clear hl_ hX_ h_; have m1 : Kpt True := ⟨trivial⟩)
      | (refine wpList_load_bx rfl 32 _ rfl br (noS).vals rfl Or.out.bx _ Try.underlying32 rfl infoS ?_)
      | fail)
  refine bodyPost_ret (v := .agg (noS).vals) (by simp [results, Try.results47, asAddr, Act.put, res_run Or.out.bx]) rfl ⟨rfl, hb.out⟩

set_option maxRecDepth 100000 in
set_option maxHeartbeats 1000000 in
theorem unmap_wrong (w : World) (B : Nat) (tag : Tags) (st : St) (f : ByteArray) (S D N : Nat) (k : Int) (ca : Bool) (h : Dv w B tag st f S D N k ca) (a : Option Addr) (n cp : Nat) (hn : 0 < n) (HF : ∀ W, Below w.heap.size w W → Calls Try.prog 64 #[.slice a n cp] W fun e w' => e = .returned (.bool false) ∧ w' = W) :
    Calls Try.prog 47 #[.pointer (some ⟨D, 0, none⟩), .slice a n cp] w fun e w' => e = .returned (.agg (plS 5 6656).vals) ∧ Below w.heap.size w w' := by
  have e0 : ((n : Int) == 0) = false := by simp; omega
  have HR := Kpt.mk (fun W => wrong_any W)
  replace HF := Kpt.mk HF
  have hSl := h.sto.lt
  have hDl := h.bx.lt
  have F := Kpt.mk h.fx
  have hb := Kpt.mk (Below.refl w.heap.size w)
  replace h := Kpt.mk h
  go_enter Try.func47, Try.ntmps47
  go_wp2_with (first
      | (have hm := m3; refine wpList_store_bx rfl 32 _ _ rfl br _ (plS 5 6656).vals rfl rfl Or.out.bx rfl infoS (Sn.vals_one _) rfl ?_; intro w4 hX_ hg_; replace hb := Kpt.mk (hb.out.trans (Below.ofGrown hg_ hb.out.size Or.out.lo)); replace F := Kpt.mk (F.out.own Or.out hg_ hSl hDl); replace Or := Kpt.mk (Or.out.set hX_); clear hX_ hg_; clear hm m3; have m4 : Kpt True := ⟨trivial⟩)
      | (go_at_call 65; have hm := m2; go_must (refine (HR.out _).mono ?_; rintro e w7 ⟨rfl, h_⟩; replace Or := Kpt.mk (Or.out.below h_); replace F := Kpt.mk (F.out.below h_); replace hb := Kpt.mk (hb.out.trans (h_.mono hb.out.size)); clear h_; clear hm m2; have m3 : Kpt True := ⟨trivial⟩))
      | (go_at_call 64; have hm := m1; go_must (refine (HF.out _ hb.out).mono ?_; rintro e w6 ⟨rfl, rfl⟩; clear hm m1; have m2 : Kpt True := ⟨trivial⟩))
      | (refine wpList_var rfl 32 rfl zeroS zeroSi ?_; intro br w_r hl_ hX_ h_; have Or := Kpt.mk (F.out.new hl_ hX_); replace F := Kpt.mk (F.out.below h_); replace hb := Kpt.mk (hb.out.trans (h_.mono hb.out.size)); clear hl_ hX_ h_; have m1 : Kpt True := ⟨trivial⟩)
      | (refine wpList_load_bx rfl 32 _ rfl br (plS 5 6656).vals rfl Or.out.bx _ Try.underlying32 rfl infoS ?_)
      | fail)
  refine bodyPost_ret (v := .agg (plS 5 6656).vals) (by simp [results, Try.results47, asAddr, Act.put, res_run Or.out.bx]) rfl ⟨rfl, hb.out⟩

end Go.Proofs.Ytklboieemljmiaa
