/-
  capacity in its long form, weakly: bytes in a row of their own.
-/
import Derived.Test.YtklboieemljmiaaVCap
import Derived.Test.YtklboieemljmiaaVCn
namespace Go.Proofs.Ytklboieemljmiaa
open Go.RowKit
set_option linter.unusedVariables false
set_option linter.unusedSimpArgs false
set_option maxRecDepth 100000 in
set_option maxHeartbeats 1000000 in
theorem prot_any (w : World) (B : Nat) (tag : Tags) (st : St) (f : ByteArray) (S D N : Nat) (k : Int) (ca : Bool) (h : Dv w B tag st f S D N k ca) (h0 : 0 ≤ k) (h3 : k ≤ 3) :
    Calls Try.prog 42 #[.pointer (some ⟨D, 0, none⟩)] w fun e w' => ∃ z, e = .returned (.int .u8 z) ∧ (0 ≤ z ∧ z ≤ 255) ∧ w' = w := by
  obtain ⟨d0, d1, dlt⟩ := dev_at h.bx
  clear h
  rcases (show k = 0 ∨ k = 1 ∨ k = 2 ∨ k = 3 by omega) with rfl | rfl | rfl | rfl
  · go_enter Try.func42, Try.ntmps42
    go_wp2
    go_ret
    exact ⟨_, rfl, by decide, rfl⟩
  · go_enter Try.func42, Try.ntmps42
    go_wp2
    go_ret
    exact ⟨_, rfl, by decide, rfl⟩
  · go_enter Try.func42, Try.ntmps42
    go_wp2
    go_ret
    exact ⟨_, rfl, by decide, rfl⟩
  · go_enter Try.func42, Try.ntmps42
    go_wp2
    go_ret
    exact ⟨_, rfl, by decide, rfl⟩
theorem wpList_append_zeros {w : World} {ops : Array Oper} {rest : List Oper} {o : Oper} {a : Act} {Q : Exit → Act → World → Prop} (hgd : o.guard = none) (d s : Operand)
    (ho : o.op = .call { callee := .builtin .append, args := #[d, s], argTypes := #[22, 3] }) (v : Value) (zs : List Int) (k : Nat) (hd : a.eval d = v) (hs : a.eval s = .int .i64 (k : Int)) (hown : Row w v zs) (h0 : 0 < k) (hb : zs.length + k ≤ 140737488355328)
    (h : ∀ v' w', Kpt (Row w' v' (zs ++ List.replicate k 0)) → Kpt (w.grownBy w' v.ownBlock) → wpList Try.prog ops Q rest (a.put o.dst v') w') : wpList Try.prog ops Q (o :: rest) a w := by
  obtain ⟨v', w', hrun, h1, h2, h3⟩ := run_append_zeros w v zs hown k h0 hb
  refine wpList_plain hgd fun K hK => ?_
  unfold Oper.wp
  simp [execOp, ho, resolve, invoke, builtin, hd, hs, hrun, Result.andThen]
  exact hK _ _ (h v' w' ⟨h1⟩ ⟨h2⟩)
theorem own_row0 {W : World} {b g n c : Nat} {xs : List Int} (h : W.ownsRow b 5 1 (.slice (some ⟨g, 0, none⟩) n c) n (cels xs)) : Row W (.slice (some ⟨g, 0, none⟩) n c) xs := by
  have hl : n = xs.length := by have := h.1; rw [cels_length] at this; omega
  subst hl
  exact own_base h (Nat.zero_le _)
theorem own_len {W : World} {g n c m : Nat} {xs : List Int} (h : Row W (.slice (some ⟨g, 0, none⟩) n c) xs) (hm : xs.length = m) : m ≤ c := by
  rcases h.2 with ⟨h1, _⟩ | ⟨g', cap, cur, e, _, _, h1, _⟩
  · cases h1
  · simp only [Value.slice.injEq] at e; omega
set_option maxRecDepth 100000 in
set_option maxHeartbeats 2000000 in
theorem cap_long (w : World) (B : Nat) (tag : Tags) (st : St) (f : ByteArray) (S D N : Nat) (k : Int) (ca : Bool) (c : Cm) (h : Dv w B tag st f S D N k ca) (hN : N ≤ 4096) (hN1 : 1 ≤ N) (h0 : 0 ≤ k) (h3 : k ≤ 3) (hlg : c.lg = true) (M : Nat) (hM : (c.al < 0 ∧ M = 0) ∨ (0 ≤ c.al ∧ c.al ≤ 32 ∧ c.al = M) ∨ (32 < c.al ∧ c.al ≤ 9223372036854775807 ∧ M = 32)) :
    Calls Try.prog 28 #[.pointer (some ⟨D, 0, none⟩), .agg c.vals] w fun e w' => ∃ a n cap, e = .returned (.slice a n cap) ∧ Below w.heap.size w w' := by
  have hcm1 : ∀ (W : World) (b : Nat), Bx W b c.vals → W.cell? ⟨b, 1, none⟩ = some (.bool c.lg) := fun W b h => (cm_at h).2.1
  have hcm4 : ∀ (W : World) (b : Nat), Bx W b c.vals → W.cell? ⟨b, 4, none⟩ = some (.int .i64 c.al) := fun W b h => (cm_at h).2.2.2.2.1
  rw [hlg] at hcm1
  have HB := fun W (h : Dv W B tag st f S D N k ca) => kblocks_any W tag S B N f ca h.sto
  have HPr := Kpt.mk (fun W (h : Dv W B tag st f S D N k ca) => prot_any W B tag st f S D N k ca h h0 h3)
  obtain ⟨v, hv⟩ : ∃ v : Int, v = (N : Int) - 1 := ⟨_, rfl⟩
  have e1 : IntKind.i64.wrap ((N : Int) - 1) = v := by rw [IntKind.wrap_i64]; omega
  have e2 : IntKind.u64.wrap v = v := by rw [IntKind.wrap_u64]; omega
  have H1 := fun W => number_any v 8 W (by omega) (by omega) (by omega) (by rw [show v / 2 ^ (8 * 8) = 0 from by omega]; rfl)
  have H2 := fun W => number_any 16 4 W (by omega) (by omega) (by omega) (by decide)
  obtain ⟨zs, hzs⟩ : ∃ zs, zs = Go.Proofs.Ytklboieemljmiaa.B.asc (List.replicate 8 0) 0 8 v 8 := ⟨_, rfl⟩
  obtain ⟨ys, hys⟩ : ∃ ys, ys = Go.Proofs.Ytklboieemljmiaa.B.asc (List.replicate 4 0) 0 4 16 4 := ⟨_, rfl⟩
  rw [← hzs] at H1
  rw [← hys] at H2
  have lz : zs.length = 8 := by rw [hzs, asc_len]; rfl
  have ly : ys.length = 4 := by rw [hys, asc_len]; rfl
  obtain ⟨us, hus⟩ : ∃ us, us = zs ++ ys := ⟨_, rfl⟩
  have lu : us.length = 12 := by rw [hus, List.length_append, lz, ly]
  obtain ⟨al, hal⟩ : ∃ x, x = c.al := ⟨_, rfl⟩
  rw [← hal] at hM hcm4
  have hCs : c.vals.size = 15 := rfl
  obtain ⟨CV, hCV⟩ : ∃ CV, CV = c.vals := ⟨_, rfl⟩
  rw [← hCV] at hCs hcm1 hcm4  ⊢
  replace hcm1 := Kpt.mk hcm1
  replace hcm4 := Kpt.mk hcm4
  replace hCs := Kpt.mk hCs
  clear hCV
  have hSl := h.sto.lt
  have hDl := h.bx.lt
  have F := Kpt.mk h.fx
  have hb := Kpt.mk (Below.refl w.heap.size w)
  replace HB := Kpt.mk HB
  replace H1 := Kpt.mk H1
  replace H2 := Kpt.mk H2
  replace h := Kpt.mk h
  have dd := dev_at F.out.dv.bx
  replace hus := Kpt.mk hus
  clear hlg hzs hys hv hal
  go_enter Try.func28, Try.ntmps28
  go_upto_region 5 with (first
      | (go_at_call 41; have hm := m3; refine (H2.out _).mono ?_; rintro e w8 ⟨gm, rfl, hrow_, h_⟩; have q_c_m : bc < gm := Nat.lt_of_lt_of_le Oc.out.bx.lt (own_lo hrow_).1; have q_n_m : gn < gm := Nat.lt_of_lt_of_le Rn.out.lt (own_lo hrow_).1; have Rm := Kpt.mk (F.out.obs hrow_); replace Oc := Kpt.mk (Oc.out.below h_); replace Rn := Kpt.mk (Rn.out.below h_); replace F := Kpt.mk (F.out.below h_); replace x1 := hcm1.out _ _ Oc.out.bx; replace x4 := hcm4.out _ _ Oc.out.bx; replace dd := dev_at F.out.dv.bx; replace hb := Kpt.mk (hb.out.trans (h_.mono hb.out.size)); clear h_ hrow_; clear hm m3; have m4 : Kpt True := ⟨trivial⟩)
      | (go_at_call 41; have hm := m2; refine (H1.out _).mono ?_; rintro e w7 ⟨gn, rfl, hrow_, h_⟩; have q_c_n : bc < gn := Nat.lt_of_lt_of_le Oc.out.bx.lt (own_lo hrow_).1; have Rn := Kpt.mk (F.out.obs hrow_); replace Oc := Kpt.mk (Oc.out.below h_); replace F := Kpt.mk (F.out.below h_); replace x1 := hcm1.out _ _ Oc.out.bx; replace x4 := hcm4.out _ _ Oc.out.bx; replace dd := dev_at F.out.dv.bx; replace hb := Kpt.mk (hb.out.trans (h_.mono hb.out.size)); clear h_ hrow_; clear hm m2; have m3 : Kpt True := ⟨trivial⟩)
      | (go_at_call 40; have hm := m1; refine (HB.out _ F.out.dv).mono ?_; rintro e w6 ⟨rfl, rfl⟩; clear hm m1; have m2 : Kpt True := ⟨trivial⟩)
      | (refine wpList_box rfl 38 _ rfl CV rfl ?_; intro bc w_c hl_ hX_ h_ _; have Oc := Kpt.mk (F.out.new hl_ hX_); replace F := Kpt.mk (F.out.below h_); replace dd := dev_at F.out.dv.bx; replace hb := Kpt.mk (hb.out.trans (h_.mono hb.out.size)); have x1 := hcm1.out _ _ Oc.out.bx; have x4 := hcm4.out _ _ Oc.out.bx; clear hl_ hX_ h_; have m1 : Kpt True := ⟨trivial⟩)
      | (refine wpList_load_bx rfl 38 _ rfl bc CV rfl Oc.out.bx _ Try.underlying38 rfl (by rw [hCs.out]; exact infoC) ?_)
      | (at_builtin; have hm := m4; refine wpList_append_new rfl (.tmp 22) (.tmp 23) rfl (bc + 1) _ _ zs ys 8 12 rfl rfl (own_re Rn.out.own (by omega)) (own_rd Rm.out.own) (by omega) lz (by omega) (by omega) Oc.out.bx.lt ?_; intro g9 k9 w9 ho9 hl9 hg9; have X9 : Kpt (Bx w9 bc CV) := ⟨Oc.out.bx.grown hg9.out (fun e => by have h2 : gn = bc := Option.some.inj e; omega)⟩; have hlo := Kpt.mk Oc.out.lo; rw [← hus.out] at ho9; have hb9 : Kpt (Below w.heap.size w w9) := ⟨hb.out.grown hg9.out hb.out.size (fun q hq => by cases hq; exact Rn.out.lo)⟩; clear hg9 hm m4)
      | fail)
  replace hM := Kpt.mk hM
  have hDv9 := Kpt.mk (h.out.below hb9.out)
  clear F Rn Rm Oc dd x1 x4 H1 H2 HB
  go_upto_region 7 with (first
      | (refine (?_ : wpList _ _ _ (Oper.mk (some 34) _ _ _ _ _ :: _) _ _); go_must (refine wpList_append_zeros rfl (.tmp 30) (.tmp 33) rfl _ (us ++ [z, 0, 128]) 17 rfl rfl (own_row0 hoB.out) (by decide) (by rw [List.length_append, lu]; simp) ?_; intro vC wC hoC hgC; have hlen : (us ++ [z, 0, 128] ++ List.replicate 17 (0 : Int)).length = 32 := (by rw [List.length_append, List.length_append, lu]; rfl); obtain ⟨gC, kC, hvC, -, -⟩ := own_shape hoC.out (by rw [hlen]; decide); rw [hlen] at hvC; subst hvC; have XC : Kpt (Bx wC bc CV) := ⟨XB.out.grown hgC.out (fun e => by have h2 : gB = bc := Option.some.inj e; have := hlB.out.1; omega)⟩; have hbC : Kpt (Below w.heap.size w wC) := ⟨hbB.out.grown hgC.out hbB.out.size (fun q e => by have h2 : gB = q := Option.some.inj e; have := hlB.out.1; have := hlo.out; omega)⟩; have x4 := hcm4.out _ _ XC.out; have hkC : (32 : Int) ≤ kC := (by have := own_len hoC.out hlen; omega); clear XB hbB hoB hgC hlen hoC))
      | (refine (?_ : wpList _ _ _ (Oper.mk (some 29) _ _ _ _ _ :: _) _ _); go_must (have hbA : Kpt (Below w9.heap.size w9 (w9.alloc (.cells #[.int .u8 z, .int .u8 0, .int .u8 128] 5))) := ⟨(Below.refl _ _).alloc (Nat.le_refl _) _⟩; have hoA : Kpt ((w9.alloc (.cells #[.int .u8 z, .int .u8 0, .int .u8 128] 5)).ownsRow (bc + 1) 5 1 (.slice (some ⟨g9, 0, none⟩) 12 k9) 12 (cels us)) := ⟨own_of_block ho9.out (fun q hq => hbA.out.block q (World.ownsRow.lt ho9.out q hq).2)⟩; have hrA : Kpt (RdAt (w9.alloc (.cells #[.int .u8 z, .int .u8 0, .int .u8 128] 5)) (.slice (some ⟨w9.heap.size, 0, none⟩) 3 3) [z, 0, 128]) := ⟨⟨_, 3, rfl, (fun e => by cases e), Nat.le_refl _, .inr ⟨_, 0, rfl, fun j u hu => (bx_new w9 _ 5).range j u hu⟩⟩⟩; refine wpList_append_new rfl (.tmp 25) (.tmp 28) rfl (bc + 1) _ _ us [z, 0, 128] 12 15 rfl rfl hoA.out hrA.out (Nat.succ_pos _) lu rfl (by decide) (Nat.lt_of_lt_of_le X9.out.lt hbA.out.size) ?_; intro gB kB wB hoB hlB hgB; have XB : Kpt (Bx wB bc CV) := ⟨(X9.out.below hbA.out X9.out.lt).grown hgB.out (fun e => by have h2 : g9 = bc := Option.some.inj e; have := hl9.out.1; omega)⟩; have hbB : Kpt (Below w.heap.size w wB) := ⟨(hb9.out.trans (hbA.out.mono hb9.out.size)).grown hgB.out (Nat.le_trans hb9.out.size hbA.out.size) (fun q e => by have h2 : g9 = q := Option.some.inj e; have := hl9.out.1; have := hlo.out; omega)⟩; clear hbA hoA hrA hgB X9 ho9 hDv9 HPr))
      | (go_at_call 42; go_must (refine (HPr.out _ hDv9.out).mono ?_; rintro e w9 ⟨z, rfl, hz, rfl⟩))
      | fail)
  clear hl9 hlo hlB
  rcases hM.out with ⟨m1, rfl⟩ | ⟨m1, m2, m3⟩ | ⟨m1, m2, rfl⟩
  · have m4 : ¬ (0 : Int) ≤ al := by omega
    go_wp2_with fail
    go_ret
    exact ⟨⟨_, _, _, rfl⟩, hbC.out⟩
  · subst m3
    have m5 : ¬ (32 : Int) < M := by omega
    go_wp2_with fail
    go_ret
    exact ⟨⟨_, _, _, rfl⟩, hbC.out⟩
  · have m4 : ¬ al < 0 := by omega
    have m6 : (0 : Int) ≤ al := by omega
    go_wp2_with fail
    go_ret
    exact ⟨⟨_, _, _, rfl⟩, hbC.out⟩
end Go.Proofs.Ytklboieemljmiaa
