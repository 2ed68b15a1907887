/-
  capacity in its short form, weakly: eight bytes in a row of their own.
-/
import Derived.Test.YtklboieemljmiaaVNum
namespace Go.Proofs.Ytklboieemljmiaa
open Go.RowKit
set_option linter.unusedVariables false
set_option linter.unusedSimpArgs false
set_option maxRecDepth 100000 in
set_option maxHeartbeats 1000000 in
theorem cap_short (w : World) (B : Nat) (tag : Tags) (st : St) (f : ByteArray) (S D N : Nat) (k : Int) (ca : Bool) (c : Cm) (h : Dv w B tag st f S D N k ca) (hN : N ≤ 4096) (hN1 : 1 ≤ N) (hlg : c.lg = false) :
    Calls Try.prog 28 #[.pointer (some ⟨D, 0, none⟩), .agg c.vals] w fun e w' => ∃ g cap, e = .returned (.slice (some ⟨g, 0, none⟩) 8 cap) ∧ Below w.heap.size w w' := by
  have hcm1 : ∀ (W : World) (b : Nat), Bx W b c.vals → W.cell? ⟨b, 1, none⟩ = some (.bool c.lg) := fun W b h => (cm_at h).2.1
  rw [hlg] at hcm1
  have HB := fun W (h : Dv W B tag st f S D N k ca) => kblocks_any W tag S B N f ca h.sto
  obtain ⟨v, hv⟩ : ∃ v : Int, v = (N : Int) - 1 := ⟨_, rfl⟩
  have e1 : IntKind.i64.wrap ((N : Int) - 1) = v := by rw [IntKind.wrap_i64]; omega
  have e2 : IntKind.u64.wrap v = v := by rw [IntKind.wrap_u64]; omega
  have H1 := fun W => number_any v 4 W (by omega) (by omega) (by omega) (by rw [show v / 2 ^ (8 * 4) = 0 from by omega]; rfl)
  have H2 := fun W => number_any 16 4 W (by omega) (by omega) (by omega) (by decide)
  obtain ⟨zs, hzs⟩ : ∃ zs, zs = Go.Proofs.Ytklboieemljmiaa.B.asc (List.replicate 4 0) 0 4 v 4 := ⟨_, rfl⟩
  obtain ⟨ys, hys⟩ : ∃ ys, ys = Go.Proofs.Ytklboieemljmiaa.B.asc (List.replicate 4 0) 0 4 16 4 := ⟨_, rfl⟩
  rw [← hzs] at H1
  rw [← hys] at H2
  have lz : zs.length = 4 := by rw [hzs, asc_len]; rfl
  have ly : ys.length = 4 := by rw [hys, asc_len]; rfl
  have hCs : c.vals.size = 15 := rfl
  obtain ⟨CV, hCV⟩ : ∃ CV, CV = c.vals := ⟨_, rfl⟩
  rw [← hCV] at hCs hcm1  ⊢
  replace hcm1 := Kpt.mk hcm1
  replace hCs := Kpt.mk hCs
  clear hCV
  have hSl := h.sto.lt
  have hDl := h.bx.lt
  have F := Kpt.mk h.fx
  have hb := Kpt.mk (Below.refl w.heap.size w)
  replace HB := Kpt.mk HB
  replace H1 := Kpt.mk H1
  replace H2 := Kpt.mk H2
  replace h := Kpt.mk h
  have dd := dev_at F.out.dv.bx
  clear hlg hzs hys hv
  go_enter Try.func28, Try.ntmps28
  go_wp2_with (first
      | (go_at_call 41; have hm := m3; go_must (refine (H2.out _).mono ?_; rintro e w8 ⟨gm, rfl, hrow_, h_⟩; have q_c_m : bc < gm := Nat.lt_of_lt_of_le Oc.out.bx.lt (own_lo hrow_).1; have q_n_m : gn < gm := Nat.lt_of_lt_of_le Rn.out.lt (own_lo hrow_).1; have Rm := Kpt.mk (F.out.obs hrow_); replace Oc := Kpt.mk (Oc.out.below h_); replace Rn := Kpt.mk (Rn.out.below h_); replace F := Kpt.mk (F.out.below h_); replace x1 := hcm1.out _ _ Oc.out.bx; replace dd := dev_at F.out.dv.bx; replace hb := Kpt.mk (hb.out.trans (h_.mono hb.out.size)); clear h_ hrow_; clear hm m3; have m4 : Kpt True := ⟨trivial⟩))
      | (go_at_call 41; have hm := m2; go_must (refine (H1.out _).mono ?_; rintro e w7 ⟨gn, rfl, hrow_, h_⟩; have q_c_n : bc < gn := Nat.lt_of_lt_of_le Oc.out.bx.lt (own_lo hrow_).1; have Rn := Kpt.mk (F.out.obs hrow_); replace Oc := Kpt.mk (Oc.out.below h_); replace F := Kpt.mk (F.out.below h_); replace x1 := hcm1.out _ _ Oc.out.bx; replace dd := dev_at F.out.dv.bx; replace hb := Kpt.mk (hb.out.trans (h_.mono hb.out.size)); clear h_ hrow_; clear hm m2; have m3 : Kpt True := ⟨trivial⟩))
      | (go_at_call 40; have hm := m1; go_must (refine (HB.out _ F.out.dv).mono ?_; rintro e w6 ⟨rfl, rfl⟩; clear hm m1; have m2 : Kpt True := ⟨trivial⟩))
      | (refine wpList_box rfl 38 _ rfl CV rfl ?_; intro bc w_c hl_ hX_ h_ _; have Oc := Kpt.mk (F.out.new hl_ hX_); replace F := Kpt.mk (F.out.below h_); replace dd := dev_at F.out.dv.bx; replace hb := Kpt.mk (hb.out.trans (h_.mono hb.out.size)); have x1 := hcm1.out _ _ Oc.out.bx; clear hl_ hX_ h_; have m1 : Kpt True := ⟨trivial⟩)
      | (refine wpList_load_bx rfl 38 _ rfl bc CV rfl Oc.out.bx _ Try.underlying38 rfl (by rw [hCs.out]; exact infoC) ?_)
      | (at_builtin; have hm := m4; refine wpList_append_new rfl (.tmp 18) (.tmp 19) rfl w.heap.size _ _ zs ys 4 8 rfl rfl Rn.out.own (own_rd Rm.out.own) (by omega) lz (by omega) (by omega) hb.out.size ?_; intro g9 k9 w9 ho9 hl9 hg9; have hbf : Kpt (Below w.heap.size w w9) := ⟨hb.out.grown hg9.out hb.out.size (fun q hq => by cases hq; exact Rn.out.lo)⟩; clear hg9 hm m4)
      | fail)
  go_ret
  exact ⟨_, _, rfl, hbf.out⟩

end Go.Proofs.Ytklboieemljmiaa
