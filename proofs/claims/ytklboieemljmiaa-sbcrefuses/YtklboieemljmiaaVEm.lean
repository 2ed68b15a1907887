/-
  The contract of empty: blocks are unmapped.
-/
import Derived.Test.YtklboieemljmiaaMX
namespace Go.Proofs.Ytklboieemljmiaa
open Go.RowKit
set_option linter.unusedVariables false
set_option linter.unusedSimpArgs false
/-- The state behind an unmapping. -/
def emF (st : St) (f : ByteArray) (l n : Nat) (ca : Bool) : St := if settled ca false n then unSt st f l n else syncSt (unSt st f l n)
set_option maxRecDepth 100000 in
set_option maxHeartbeats 1000000 in
theorem dempty_ok (w : World) (B : Nat) (tag : Tags) (st : St) (f : ByteArray) (S D N : Nat) (k : Int) (ca : Bool) (l n : Nat) (h : Dv w B tag st f S D N k ca) (hf1 : 1 ≤ f.size) (hf2 : f.size ≤ 32) (hN : N ≤ 4096) (hc : st.cnt < 500000000000) (hcw : st.waits.length < 1000000) (hf : ∀ i, st.fails i = false) (hw : Wrs st.waits) (hin : l + n ≤ N) :
    Calls Try.prog 62 #[.pointer (some ⟨D, 0, none⟩), .int .u64 l, .int .i64 n] w fun e w' => e = .returned (.agg noS.vals) ∧ ∃ tag', Wd w' B tag' (emF st f l n ca) ∧ Step w w' tag tag' (fun _ => True) := by
  have HK := fun W (h : Dv W B tag st f S D N k ca) => kunmap_any W B tag st S N l n f ca h.wd h.sto hf1 hf2 hN hc hcw hf hw hin
  obtain ⟨st2, hst2⟩ : ∃ s, s = emF st f l n ca := ⟨_, rfl⟩
  have hst2' : (if settled ca false n then unSt st f l n else syncSt (unSt st f l n)) = st2 := by rw [hst2]; rfl
  rw [hst2'] at HK
  rw [← hst2]
  have HWn := Kpt.mk (fun W => written_ok l n W)
  have hSl := h.sto.lt
  have hDl := h.bx.lt
  have F := Kpt.mk h.fx
  replace HK := Kpt.mk HK
  have el : IntKind.i64.wrap (l : Int) = l := by rw [IntKind.wrap_i64]; omega
  replace h := Kpt.mk h
  clear hst2 hst2' hf hw
  go_enter Try.func62, Try.ntmps62
  have dd := dev_at F.out.dv.bx
  go_wp2_with (first
      | (have hm := m3; refine wpList_store_bx rfl 32 _ _ rfl br _ (noS).vals rfl rfl Or.out.bx rfl infoS (Sn.vals_one _) rfl ?_; intro w4 hX_ hg_; replace F := Kpt.mk (F.out.own Or.out hg_ hSl hDl); replace Or := Kpt.mk (Or.out.set hX_); replace dd := dev_at F.out.dv.bx; clear hX_ hg_; clear hm m3; have m4 : Kpt True := ⟨trivial⟩)
      | (go_at_call 78; have hm := m2; go_must (refine (HWn.out _).mono ?_; rintro e w4 ⟨rfl, h_⟩; replace Or := Kpt.mk (Or.out.below h_); replace F := Kpt.mk (F.out.below h_); replace dd := dev_at F.out.dv.bx; clear h_; clear hm m2; have m3 : Kpt True := ⟨trivial⟩))
      | (go_at_call 82; have hm := m1; go_must (refine (HK.out _ F.out.dv).mono ?_; rintro e w3 ⟨rfl, tag3, hW_, s_⟩; replace Or := Kpt.mk (Or.out.call s_); replace F := Kpt.mk (F.out.call hW_ s_); replace dd := dev_at F.out.dv.bx; clear hW_ s_; clear hm m1; have m2 : Kpt True := ⟨trivial⟩))
      | (refine wpList_var rfl 32 rfl zeroS zeroSi ?_; intro br w_r hl_ hX_ h_; have Or := Kpt.mk (F.out.new hl_ hX_); replace F := Kpt.mk (F.out.below h_); replace dd := dev_at F.out.dv.bx; clear hl_ hX_ h_; have m1 : Kpt True := ⟨trivial⟩)
      | (refine wpList_load_bx rfl 32 _ rfl br (noS).vals rfl Or.out.bx _ Try.underlying32 rfl infoS ?_)
      | fail)
  refine bodyPost_ret (v := .agg noS.vals) (by simp [results, Try.results62, asAddr, Act.put, res_run Or.out.bx]) rfl ⟨rfl, _, F.out.dv.wd, F.out.st⟩

end Go.Proofs.Ytklboieemljmiaa
