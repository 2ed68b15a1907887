/-
  The contract of Do for reads.
-/
import Derived.Test.YtklboieemljmiabVRd
namespace Go.Proofs.Ytklboieemljmiab
open Go.RowKit
set_option linter.unusedVariables false
set_option linter.unusedSimpArgs false
/-- Bytes in a row of their own. -/
structure Ob (w W : World) (tag' : Tags) (g n cap : Nat) (zs : List Int) : Prop where
  own : W.ownsRow w.heap.size 5 1 (.slice (some ⟨g, 0, none⟩) n cap) n (cels zs)
  bare : tag' g = none
variable {w W W' : World} {tag' tag2 : Tags} {g n cap b2 : Nat} {zs : List Int}
theorem Ob.lt (o : Ob w W tag' g n cap zs) : g < W.heap.size := (own_lo o.own).2
theorem Ob.lo (o : Ob w W tag' g n cap zs) : w.heap.size ≤ g := (own_lo o.own).1
theorem Ob.keep (o : Ob w W tag' g n cap zs) (hb : W'.heap[g]? = W.heap[g]?) (ht : tag2 g = none) : Ob w W' tag2 g n cap zs :=
  ⟨own_of_block o.own (fun q hq => by simp [Value.ownBlock] at hq; subst hq; exact hb), ht⟩
theorem Ob.below (o : Ob w W tag' g n cap zs) (hb : Below W.heap.size W W') : Ob w W' tag' g n cap zs := o.keep (hb.block g o.lt) o.bare
theorem Ob.call (o : Ob w W tag' g n cap zs) {X : Tag → Prop} (s : Step W W' tag' tag2 X) : Ob w W' tag2 g n cap zs := o.keep (s.block g o.lt (fun t _ e => by rw [o.bare] at e; cases e)) (s.bare g o.lt o.bare)
theorem Ob.other (o : Ob w W tag' g n cap zs) (hg : W.grownBy W' (some b2)) (hne : b2 ≠ g) : Ob w W' tag' g n cap zs := o.keep (hg.block g o.lt (by simpa using fun e => hne e.symm)) o.bare

set_option maxRecDepth 100000 in
set_option maxHeartbeats 1000000 in
theorem do_read (w : World) (B : Nat) (tag : Tags) (st : St) (f : ByteArray) (S D N : Nat) (k : Int) (ca : Bool) (c : Cm) (p : Value) (sn : Nat) (Z : List Int) (st2 : St) (h : Dv w B tag st f S D N k ca)
    (H : ∀ W, Below w.heap.size w W → Calls Try.prog 10 #[.pointer (some ⟨D, 0, none⟩), .agg c.vals, p] W fun e w' => ∃ g cap, e = .returned (.tuple #[.slice (some ⟨g, 0, none⟩) sn cap, .agg noS.vals]) ∧ Got W w' B tag st2 g sn cap Z) :
    Calls Try.prog 6 #[.pointer (some ⟨D, 0, none⟩), .agg c.vals, p] w fun e w' => ∃ g cap, e = .returned (.agg (resV 0 noS (.slice (some ⟨g, 0, none⟩) sn cap))) ∧ Got w w' B tag st2 g sn cap Z := by
  have HE := fun W => ended_any noS W
  simp only [show (noS.key != 0) = false from rfl] at HE
  have hCs : c.vals.size = 15 := rfl
  obtain ⟨CV, hCV⟩ : ∃ CV, CV = c.vals := ⟨_, rfl⟩
  rw [← hCV] at hCs  H ⊢
  replace hCs := Kpt.mk hCs
  clear hCV
  have hSl := h.sto.lt
  have hDl := h.bx.lt
  have F := Kpt.mk h.fx
  have hb := Kpt.mk (Below.refl w.heap.size w)
  replace H := Kpt.mk H
  replace HE := Kpt.mk HE
  replace h := Kpt.mk h
  go_enter Try.func6, Try.ntmps6
  go_wp2_with (first
      | (have hm := m6; refine wpList_store_bx rfl 34 _ _ rfl br _ (resV 0 noS (.slice (some ⟨gd, 0, none⟩) sn cap)) rfl rfl Or.out.bx rfl infoR (resV_one _ _ _ _ _) rfl ?_; intro w9 hX_ hg_; replace Oc := Kpt.mk (Oc.out.other hg_ (by omega)); replace Ov := Kpt.mk (Ov.out.other hg_ (by omega)); replace Rd := Kpt.mk (Rd.out.other hg_ (by omega)); replace F := Kpt.mk (F.out.own Or.out hg_ hSl hDl); replace Or := Kpt.mk (Or.out.set hX_); clear hX_ hg_; clear hm m6; have m7 : Kpt True := ⟨trivial⟩)
      | (go_at_call 11; have hm := m5; go_must (refine (HE.out _).mono ?_; rintro e w6 ⟨rfl, h_⟩; replace Oc := Kpt.mk (Oc.out.below h_); replace Or := Kpt.mk (Or.out.below h_); replace Ov := Kpt.mk (Ov.out.below h_); replace Rd := Kpt.mk (Rd.out.below h_); replace F := Kpt.mk (F.out.below h_); clear h_; clear hm m5; have m6 : Kpt True := ⟨trivial⟩))
      | (have hm := m4; refine wpList_store_bx rfl 32 _ _ rfl bv _ (noS).vals rfl rfl Ov.out.bx rfl infoS (Sn.vals_one _) rfl ?_; intro w5 hX_ hg_; replace Oc := Kpt.mk (Oc.out.other hg_ (by omega)); replace Or := Kpt.mk (Or.out.other hg_ (by omega)); replace Rd := Kpt.mk (Rd.out.other hg_ (by omega)); replace F := Kpt.mk (F.out.own Ov.out hg_ hSl hDl); replace Ov := Kpt.mk (Ov.out.set hX_); clear hX_ hg_; clear hm m4; have m5 : Kpt True := ⟨trivial⟩)
      | (have hm := m3; refine wpList_var rfl 32 rfl zeroS zeroSi ?_; intro bv w_v hl_ hX_ h_; have q_c_v : bc < bv := Nat.lt_of_lt_of_le Oc.out.bx.lt hl_; have q_r_v : br < bv := Nat.lt_of_lt_of_le Or.out.bx.lt hl_; have q_d_v : gd < bv := Nat.lt_of_lt_of_le Rd.out.lt hl_; have Ov := Kpt.mk (F.out.new hl_ hX_); replace Oc := Kpt.mk (Oc.out.below h_); replace Or := Kpt.mk (Or.out.below h_); replace Rd := Kpt.mk (Rd.out.below h_); replace F := Kpt.mk (F.out.below h_); clear hl_ hX_ h_; clear hm m3; have m4 : Kpt True := ⟨trivial⟩)
      | (go_at_call 10; have hm := m2; go_must (refine (H.out _ hb.out).mono ?_; rintro e w5 ⟨gd, cap, rfl, tag5, hW_, s_, hrow, hgn⟩; have q_r_d : br < gd := Nat.lt_of_lt_of_le Or.out.bx.lt (own_lo hrow).1; have Rd : Kpt (Ob w w5 tag5 gd sn cap Z) := ⟨⟨own_base hrow hb.out.size, hgn⟩⟩; clear hrow hgn; replace Oc := Kpt.mk (Oc.out.call s_); replace Or := Kpt.mk (Or.out.call s_); replace F := Kpt.mk (F.out.call hW_ s_); clear hW_ s_; clear hm m2; have m3 : Kpt True := ⟨trivial⟩))
      | (have hm := m1; refine wpList_var rfl 34 rfl zeroR zeroRi ?_; intro br w_r hl_ hX_ h_; have q_c_r : bc < br := Nat.lt_of_lt_of_le Oc.out.bx.lt hl_; have Or := Kpt.mk (F.out.new hl_ hX_); replace Oc := Kpt.mk (Oc.out.below h_); replace F := Kpt.mk (F.out.below h_); replace hb := Kpt.mk (hb.out.trans (h_.mono hb.out.size)); clear hl_ hX_ h_; clear hm m1; have m2 : Kpt True := ⟨trivial⟩)
      | (refine wpList_box rfl 38 _ rfl CV rfl ?_; intro bc w_c hl_ hX_ h_ _; have Oc := Kpt.mk (F.out.new hl_ hX_); replace F := Kpt.mk (F.out.below h_); replace hb := Kpt.mk (hb.out.trans (h_.mono hb.out.size)); clear hl_ hX_ h_; have m1 : Kpt True := ⟨trivial⟩)
      | (refine wpList_load_bx rfl 38 _ rfl bc CV rfl Oc.out.bx _ Try.underlying38 rfl (by rw [hCs.out]; exact infoC) ?_)
      | (refine wpList_load_bx rfl 32 _ rfl bv (noS).vals rfl Ov.out.bx _ Try.underlying32 rfl infoS ?_)
      | fail)
  refine bodyPost_ret (v := .agg (resV 0 noS (.slice (some ⟨gd, 0, none⟩) sn cap))) (by simp [results, Try.results6, asAddr, Act.put, resR_run Or.out.bx]) rfl ⟨gd, cap, rfl, _, F.out.dv.wd, F.out.st, Rd.out.own, Rd.out.bare⟩

end Go.Proofs.Ytklboieemljmiab
