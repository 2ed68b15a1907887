/-
  SbcRefuses: the walk.
-/
import Derived.Test.YtklboieemljmiaaVRf0
import Derived.Test.YtklboieemljmiaaVNil
namespace Go.Proofs.Ytklboieemljmiaa
open Go.RowKit
set_option linter.unusedVariables false
set_option linter.unusedSimpArgs false
/-- A box that was there ahead of the device, to be read. -/
structure Xi (w W : World) (tag' : Tags) (b : Nat) (cs : Array Value) : Prop where
  bx : Bx W b cs
  lo : b < w.heap.size
  bare : tag' b = none
section
variable {w W W' : World} {tag' tag2 : Tags} {b b2 : Nat} {cs : Array Value}
theorem Xi.below (o : Xi w W tag' b cs) (hb : Below W.heap.size W W') : Xi w W' tag' b cs := ⟨o.bx.below hb o.bx.lt, o.lo, o.bare⟩
theorem Xi.call (o : Xi w W tag' b cs) {X : Tag → Prop} (s : Step W W' tag' tag2 X) : Xi w W' tag2 b cs := ⟨o.bx.step s o.bare, o.lo, s.bare b o.bx.lt o.bare⟩
theorem Xi.other (o : Xi w W tag' b cs) (hg : W.grownBy W' (some b2)) (hl : w.heap.size ≤ b2) : Xi w W' tag' b cs := ⟨o.bx.grown hg (by have := o.lo; simp; omega), o.lo, o.bare⟩
end
/-- Bytes that came in, to be read; none of them may lie anywhere. -/
structure Yz (w W : World) (tag' : Tags) (a : Option Addr) (n cp : Nat) (zs : List Int) : Prop where
  rd : RdAt W (.slice a n cp) zs
  lo : 0 < n → ∀ g o, a = some ⟨g, o, none⟩ → g < w.heap.size ∧ tag' g = none
  sz : w.heap.size ≤ W.heap.size
section
variable {w W W' : World} {tag' tag2 : Tags} {b2 n cp : Nat} {a : Option Addr} {zs : List Int}
theorem yz_keep (h : RdAt W (.slice a n cp) zs) (hb : 0 < n → ∀ g o, a = some ⟨g, o, none⟩ → W'.heap[g]? = W.heap[g]?) : RdAt W' (.slice a n cp) zs := by
  obtain ⟨sa, sc, e, h1, h2, h3⟩ := h
  refine ⟨sa, sc, e, h1, h2, ?_⟩
  simp only [Value.slice.injEq] at e
  by_cases h0 : 0 < n
  · rcases h3 with h3 | ⟨b, off, ha, hc⟩
    · exact .inl h3
    · refine .inr ⟨b, off, ha, fun j u hu => ?_⟩
      exact (World.cell?_of_block (w := W) (a := ⟨b, off + j, none⟩) (hb h0 b off (by rw [e.1]; exact ha))).trans (hc j u hu)
  · exact .inl (by omega)
theorem Yz.below (o : Yz w W tag' a n cp zs) (hb : Below W.heap.size W W') : Yz w W' tag' a n cp zs := ⟨rd_below o.rd hb, o.lo, Nat.le_trans o.sz hb.size⟩
theorem Yz.call (o : Yz w W tag' a n cp zs) {X : Tag → Prop} (s : Step W W' tag' tag2 X) : Yz w W' tag2 a n cp zs := ⟨yz_keep o.rd (fun h0 g' o' e => s.block g' (Nat.lt_of_lt_of_le (o.lo h0 g' o' e).1 o.sz) (fun t _ e2 => by rw [(o.lo h0 g' o' e).2] at e2; cases e2)), fun h0 g' o' e => ⟨(o.lo h0 g' o' e).1, s.bare g' (Nat.lt_of_lt_of_le (o.lo h0 g' o' e).1 o.sz) (o.lo h0 g' o' e).2⟩, Nat.le_trans o.sz s.size⟩
theorem Yz.other (o : Yz w W tag' a n cp zs) (hg : W.grownBy W' (some b2)) (hl : w.heap.size ≤ b2) : Yz w W' tag' a n cp zs :=
  ⟨yz_keep o.rd (fun h0 g' o' e => hg.block g' (Nat.lt_of_lt_of_le (o.lo h0 g' o' e).1 o.sz) (by have := (o.lo h0 g' o' e).1; simp; omega)), o.lo, Nat.le_trans o.sz hg.size⟩
end
set_option maxRecDepth 100000 in
set_option maxHeartbeats 6000000 in
theorem refuses_walk (a : Option Addr) (len cap : Nat) (c : Cm) (p k : Int) (Z : List Int) (w : World) (hC : CmOk c) (hp : 0 ≤ p ∧ p ≤ 255) (hk : p % 4 = k) (hk0 : 0 ≤ k) (hk3 : k ≤ 3) (hZ : RdAt w (.slice a len cap) Z) (hZl : Z.length = len) (hZb : Bytes Z) (hZlo : 0 < len → ∀ g o, a = some ⟨g, o, none⟩ → g < w.heap.size) (hlen : len ≤ 140737488355328) :
    Calls Try.prog 6 #[.agg c.vals, .slice a len cap, .int .u8 p] w fun e w' => e = .returned (.bool true) ∧ Below w.heap.size w w' := by
  have HA := Kpt.mk (fun W => awake_any W)
  have HD := Kpt.mk (fun W => device_any 16 k true W (by decide) (by decide))
  have HBy := fun W => bytes_any 32 119 W (by decide)
  rw [show List.replicate 32 (119 : Int) = z32 from rfl] at HBy
  have HW5 : Kpt (∀ W B tag S D g cp, Dv W B tag st0 nmF S D 16 k true → RdAt W (.slice (some ⟨g, 0, none⟩) 32 cp) z32 → Calls Try.prog 11 #[.pointer (some ⟨D, 0, none⟩), .agg (Cm.vals ⟨8, false, 0, 2, 0, false, 0, false, false, 0, 0, false, 0, 0, false⟩), .slice (some ⟨g, 0, none⟩) 32 cp] W fun e w' => e = .returned (.agg (resV 0 noS (.slice none 0 0))) ∧ Aft W w' B tag (stR k)) :=
    ⟨fun W B tag S D g cp h hr => doWrite_8 W B tag st0 nmF S D 16 k true 0 2 32 cp _ z32 ⟨8, false, 0, 2, 0, false, 0, false, false, 0, 0, false, 0, 0, false⟩ h (by decide) (by decide) (by decide) (by decide) (by decide) (fun _ => rfl) (fun c hc => by cases hc) hk0 hk3 rfl rfl rfl (by decide) hr rfl z32_bytes rfl rfl⟩
  have HM : Kpt (∀ W B tag S D, Dv W B tag (stR k) nmF S D 16 k true → RdAt W (.slice a len cap) Z → Calls Try.prog 11 #[.pointer (some ⟨D, 0, none⟩), .agg c.vals, .slice a len cap] W (Rk W B tag (stR k))) :=
    ⟨fun W B tag S D h hr => doAny_w W B tag (stR k) nmF S D 16 k 9 len cap a Z c h (by decide) (by decide) (by decide) (by decide) (stR_fine k) (by decide) hk0 hk3 hC (stR_look k) hr hZl hZb hlen⟩
  have HN : Kpt (∀ W B tag st S D, Dv W B tag st nmF S D 16 k true → Calls Try.prog 11 #[.pointer none, .agg c.vals, .slice a len cap] W fun e w' => e = .returned (.agg (resV 2 (plS 5 9472) (.slice none 0 0))) ∧ Below W.heap.size W w') :=
    ⟨fun W B tag st S D h => do_nil W B tag st nmF S D 16 k true c _ (plS 5 9472) (show (5 : Int) ≠ 0 by decide) h (fun W' hb => answer_nil W' B tag st nmF S D 16 k true c _ (h.below hb))⟩
  have HE := Kpt.mk (fun W => ends_any 5 9472 W)
  have HS := Kpt.mk (fun W => same_nil 2 (plS 5 9472) W)
  have HWt := Kpt.mk waits_any
  have hCs : c.vals.size = 15 := rfl
  obtain ⟨CV, hCV⟩ : ∃ CV, CV = c.vals := ⟨_, rfl⟩
  rw [← hCV] at hCs HM HN ⊢
  obtain ⟨s1, hs1⟩ : ∃ s, s = stR k := ⟨_, rfl⟩
  rw [← hs1] at HW5 HM
  obtain ⟨n1, hn1⟩ : ∃ n : Nat, n = s1.waits.length := ⟨_, rfl⟩
  have HW1 : Kpt (∀ W B tag, Wd W B tag s1 → Calls Try.prog 17 #[.pointer (some ⟨B, 0, none⟩)] W fun e w' => e = .returned (.int .i64 (n1 : Int)) ∧ w' = W) := ⟨fun W B tag h => by rw [hn1]; exact HWt.out W B tag s1 h⟩
  simp only [Cm.vals] at HW5
  replace HBy := Kpt.mk HBy
  replace hCs := Kpt.mk hCs
  have hZK := Kpt.mk hZ
  have hZloK := Kpt.mk hZlo
  replace hn1 := Kpt.mk hn1
  clear hCV hs1 hC hZ hZl hZb hZlo hlen
  go_enter Try.func6, Try.ntmps6
  go_upto_region 9 with (first
      | (have hm := m3; refine wpList_store_bx rfl 34 _ _ rfl ba _ (resV 0 noS (.slice none 0 0)) rfl rfl Oa.out.bx rfl infoR (resV_one _ _ _ _ _) rfl ?_; intro w4 hX_ hg_; replace Rp := Kpt.mk (Rp.out.other hg_ (by omega)); replace IV := Kpt.mk (IV.out.other hg_ Oa.out.lo); replace XC := Kpt.mk (XC.out.other hg_ Oa.out.lo); replace F := Kpt.mk (F.out.own Oa.out hg_ hSl hDl); replace Oa := Kpt.mk (Oa.out.set hX_); clear hX_ hg_; clear hm m3; have m4 : Kpt True := ⟨trivial⟩; have ra := (resV_at Oa.out.bx).1; have la_ := Oa.out.bx.lt)
      | (have hm := m2; refine wpList_var rfl 34 rfl zeroR zeroRi ?_; intro ba w_a hl_ hX_ h_; have q_p_a : gp < ba := Nat.lt_of_lt_of_le Rp.out.lt hl_; have Oa := Kpt.mk (F.out.new hl_ hX_); replace Rp := Kpt.mk (Rp.out.below h_); replace IV := Kpt.mk (IV.out.below h_); replace XC := Kpt.mk (XC.out.below h_); replace F := Kpt.mk (F.out.below h_); clear hl_ hX_ h_; clear hm m2; have m3 : Kpt True := ⟨trivial⟩)
      | (go_at_call 11; have hm := m1; go_must (refine (HW5.out _ _ _ _ _ _ _ F.out.dv (own_rd Rp.out.own)).mono ?_; rintro e wA ⟨rfl, tagA, hW_, s_⟩; replace Rp := Kpt.mk (Rp.out.call s_); replace IV := Kpt.mk (IV.out.call s_); replace XC := Kpt.mk (XC.out.call s_); replace F := Kpt.mk (F.out.call hW_ s_); clear hW_ s_; clear hm m1; have m2 : Kpt True := ⟨trivial⟩))
      | (go_at_call 14; go_must (refine (HBy.out _).mono ?_; rintro e wB5 ⟨gp, rfl, hrow_, h_⟩; have Rp := Kpt.mk (F.out.obs hrow_); replace IV := Kpt.mk (IV.out.below h_); replace XC := Kpt.mk (XC.out.below h_); replace F := Kpt.mk (F.out.below h_); clear h_ hrow_; have m1 : Kpt True := ⟨trivial⟩))
      | (go_at_call 10; go_must (go_must (refine (HD.out _).mono ?_; rintro e w2 ⟨D, B, S, tag, rfl, hdv, hb2, ht2⟩; have F := Kpt.mk hdv.fx; have hSl := hdv.sto.lt; have hDl := hdv.bx.lt; have hbT := Kpt.mk (And.intro (hb1.out.trans (hb2.mono hb1.out.size)) (fun i (hi : i < w.heap.size) => ht2 i (Nat.lt_of_lt_of_le hi hb1.out.size))); have IV : Kpt (Yz w2 w2 tag a len cap Z) := ⟨rd_below hZK.out hbT.out.1, fun h0 g o e => ⟨Nat.lt_of_lt_of_le (hZloK.out h0 g o e) hbT.out.1.size, hbT.out.2 _ (hZloK.out h0 g o e)⟩, Nat.le_refl _⟩; have XC : Kpt (Xi w2 w2 tag bc CV) := ⟨hXc.out.below hb2 hXc.out.lt, Nat.lt_of_lt_of_le hXc.out.lt hb2.size, ht2 _ hXc.out.lt⟩; clear hdv hb2 ht2 hXc)))
      | (go_at_call 9; go_must (go_must (refine (HA.out _).mono ?_; rintro e w1 ⟨rfl, h_⟩; replace hXc := Kpt.mk (hXc.out.below h_ hXc.out.lt); have hb1 := Kpt.mk (hbc.out.trans (h_.mono hbc.out.size)); clear h_ hbc)))
      | (refine wpList_box rfl 38 _ rfl CV rfl ?_; intro bc wc hcl hXc hbc _; replace hXc := Kpt.mk hXc; replace hbc := Kpt.mk hbc; clear hcl)
      | fail)
  clear HA HD hZK hZloK ra la_
  go_upto_region 11 with (first
      | (have hm := m8; refine wpList_store_bx rfl 34 _ _ rfl br _ (resV q sr (.slice va vn vc)) rfl rfl Or.out.bx rfl infoR (resV_one _ _ _ _ _) rfl ?_; intro w9 hX_ hg_; replace Oa := Kpt.mk (Oa.out.other hg_ (by omega)); replace Rp := Kpt.mk (Rp.out.other hg_ (by omega)); replace IV := Kpt.mk (IV.out.other hg_ Or.out.lo); replace XC := Kpt.mk (XC.out.other hg_ Or.out.lo); replace F := Kpt.mk (F.out.own Or.out hg_ hSl hDl); replace Or := Kpt.mk (Or.out.set hX_); clear hX_ hg_; clear hm m8; have m9 : Kpt True := ⟨trivial⟩)
      | (have hm := m7; refine wpList_var rfl 34 rfl zeroR zeroRi ?_; intro br w_r hl_ hX_ h_; have q_a_r : ba < br := Nat.lt_of_lt_of_le Oa.out.bx.lt hl_; have q_p_r : gp < br := Nat.lt_of_lt_of_le Rp.out.lt hl_; have Or := Kpt.mk (F.out.new hl_ hX_); replace Oa := Kpt.mk (Oa.out.below h_); replace Rp := Kpt.mk (Rp.out.below h_); replace IV := Kpt.mk (IV.out.below h_); replace XC := Kpt.mk (XC.out.below h_); replace F := Kpt.mk (F.out.below h_); clear hl_ hX_ h_; clear hm m7; have m8 : Kpt True := ⟨trivial⟩)
      | (go_at_call 11; have hm := m6; go_must (refine (HM.out _ _ _ _ _ F.out.dv IV.out.rd).mono ?_; rintro e wM ⟨q, sr, va, vn, vc, st2, rfl, ⟨tagM, hW_, s_⟩, hkey, hq⟩; replace Oa := Kpt.mk (Oa.out.call s_); replace Rp := Kpt.mk (Rp.out.call s_); replace IV := Kpt.mk (IV.out.call s_); replace XC := Kpt.mk (XC.out.call s_); replace F := Kpt.mk (F.out.call hW_ s_); replace hkey := Kpt.mk hkey; replace hq := Kpt.mk hq; clear hW_ s_; clear hm m6; have m7 : Kpt True := ⟨trivial⟩))
      | (have hm := m5; refine wpList_load_bx rfl 38 _ rfl bc CV rfl XC.out.bx _ Try.underlying38 rfl (by rw [hCs.out]; exact infoC) ?_; clear hm m5; have m6 : Kpt True := ⟨trivial⟩)
      | (go_at_call 17; have hm := m4; go_must (go_must (refine (HW1.out _ _ _ F.out.dv.wd).mono ?_; rintro e wt ⟨rfl, rfl⟩); clear hm m4; have m5 : Kpt True := ⟨trivial⟩))
      | fail)
  rcases hq.out with ⟨hq0, hq1⟩ | ⟨hq0, hq1, hq2, hq3⟩
  · subst hq0 hq1
    clear hq
    go_upto_region 14 with (first
        | (go_at_call 12; have hm := m12; go_must (refine (HS.out _).mono ?_; rintro e wS ⟨rfl, h_⟩; replace Oa := Kpt.mk (Oa.out.below h_); replace Or := Kpt.mk (Or.out.below h_); replace Rp := Kpt.mk (Rp.out.below h_); replace IV := Kpt.mk (IV.out.below h_); replace XC := Kpt.mk (XC.out.below h_); replace F := Kpt.mk (F.out.below h_); clear h_; clear hm m12; have m13 : Kpt True := ⟨trivial⟩))
        | (go_at_call 18; have hm := m11; go_must (refine (HE.out _).mono ?_; rintro e wE ⟨rfl, h_⟩; replace Oa := Kpt.mk (Oa.out.below h_); replace Or := Kpt.mk (Or.out.below h_); replace Rp := Kpt.mk (Rp.out.below h_); replace IV := Kpt.mk (IV.out.below h_); replace XC := Kpt.mk (XC.out.below h_); replace F := Kpt.mk (F.out.below h_); clear h_; clear hm m11; have m12 : Kpt True := ⟨trivial⟩))
        | (go_at_call 11; have hm := m10; go_must (refine (HN.out _ _ _ _ _ _ F.out.dv).mono ?_; rintro e wN ⟨rfl, h_⟩; replace Oa := Kpt.mk (Oa.out.below h_); replace Or := Kpt.mk (Or.out.below h_); replace Rp := Kpt.mk (Rp.out.below h_); replace IV := Kpt.mk (IV.out.below h_); replace XC := Kpt.mk (XC.out.below h_); replace F := Kpt.mk (F.out.below h_); clear h_; clear hm m10; have m11 : Kpt True := ⟨trivial⟩))
        | (have hm := m9; refine wpList_load_bx rfl 38 _ rfl bc CV rfl XC.out.bx _ Try.underlying38 rfl (by rw [hCs.out]; exact infoC) ?_; clear hm m9; have m10 : Kpt True := ⟨trivial⟩)
        | fail)
    have rc0 := Or.out.bx.cells 0 (show 0 < 10 by decide)
    have rc1 := Or.out.bx.cells 1 (show 1 < 10 by decide)
    have rc2 := Or.out.bx.cells 2 (show 2 < 10 by decide)
    have rc3 := Or.out.bx.cells 3 (show 3 < 10 by decide)
    have rc4 := Or.out.bx.cells 4 (show 4 < 10 by decide)
    have rc5 := Or.out.bx.cells 5 (show 5 < 10 by decide)
    have rc6 := Or.out.bx.cells 6 (show 6 < 10 by decide)
    have rc7 := Or.out.bx.cells 7 (show 7 < 10 by decide)
    have rc8 := Or.out.bx.cells 8 (show 8 < 10 by decide)
    have rc9 := Or.out.bx.cells 9 (show 9 < 10 by decide)
    simp only [resV, noS, List.getElem_toArray, List.getElem_cons_succ, List.getElem_cons_zero] at rc0 rc1 rc2 rc3 rc4 rc5 rc6 rc7 rc8 rc9
    have lr_ := Or.out.bx.lt
    go_wp2_with fail
    go_ret
    exact ⟨rfl, hbT.out.1.trans (F.out.st.belowT hbT.out.1.size hbT.out.2).1⟩
  · subst hq0 hq1 hq2 hq3
    clear hq
    go_upto_region 14 with (first
        | (go_at_call 12; have hm := m12; go_must (refine (HS.out _).mono ?_; rintro e wS ⟨rfl, h_⟩; replace Oa := Kpt.mk (Oa.out.below h_); replace Or := Kpt.mk (Or.out.below h_); replace Rp := Kpt.mk (Rp.out.below h_); replace IV := Kpt.mk (IV.out.below h_); replace XC := Kpt.mk (XC.out.below h_); replace F := Kpt.mk (F.out.below h_); clear h_; clear hm m12; have m13 : Kpt True := ⟨trivial⟩))
        | (go_at_call 18; have hm := m11; go_must (refine (HE.out _).mono ?_; rintro e wE ⟨rfl, h_⟩; replace Oa := Kpt.mk (Oa.out.below h_); replace Or := Kpt.mk (Or.out.below h_); replace Rp := Kpt.mk (Rp.out.below h_); replace IV := Kpt.mk (IV.out.below h_); replace XC := Kpt.mk (XC.out.below h_); replace F := Kpt.mk (F.out.below h_); clear h_; clear hm m11; have m12 : Kpt True := ⟨trivial⟩))
        | (go_at_call 11; have hm := m10; go_must (refine (HN.out _ _ _ _ _ _ F.out.dv).mono ?_; rintro e wN ⟨rfl, h_⟩; replace Oa := Kpt.mk (Oa.out.below h_); replace Or := Kpt.mk (Or.out.below h_); replace Rp := Kpt.mk (Rp.out.below h_); replace IV := Kpt.mk (IV.out.below h_); replace XC := Kpt.mk (XC.out.below h_); replace F := Kpt.mk (F.out.below h_); clear h_; clear hm m10; have m11 : Kpt True := ⟨trivial⟩))
        | (have hm := m9; refine wpList_load_bx rfl 38 _ rfl bc CV rfl XC.out.bx _ Try.underlying38 rfl (by rw [hCs.out]; exact infoC) ?_; clear hm m9; have m10 : Kpt True := ⟨trivial⟩)
        | fail)
    have rc0 := Or.out.bx.cells 0 (show 0 < 10 by decide)
    have rc1 := Or.out.bx.cells 1 (show 1 < 10 by decide)
    have rc2 := Or.out.bx.cells 2 (show 2 < 10 by decide)
    have rc3 := Or.out.bx.cells 3 (show 3 < 10 by decide)
    have rc4 := Or.out.bx.cells 4 (show 4 < 10 by decide)
    have rc5 := Or.out.bx.cells 5 (show 5 < 10 by decide)
    have rc6 := Or.out.bx.cells 6 (show 6 < 10 by decide)
    have rc7 := Or.out.bx.cells 7 (show 7 < 10 by decide)
    have rc8 := Or.out.bx.cells 8 (show 8 < 10 by decide)
    have rc9 := Or.out.bx.cells 9 (show 9 < 10 by decide)
    simp only [resV, List.getElem_toArray, List.getElem_cons_succ, List.getElem_cons_zero] at rc0 rc1 rc2 rc3 rc4 rc5 rc6 rc7 rc8 rc9
    have lr_ := Or.out.bx.lt
    by_cases h5 : sr.key = 5
    · have e5 := hkey.out h5
      subst e5
      go_wp2_with (first | (go_at_call 17; go_must (refine (HW1.out _ _ _ F.out.dv.wd).mono ?_; rintro e wt ⟨rfl, rfl⟩)) | fail)
      go_ret
      exact ⟨rfl, hbT.out.1.trans (F.out.st.belowT hbT.out.1.size hbT.out.2).1⟩
    · go_wp2_with fail
      go_ret
      exact ⟨rfl, hbT.out.1.trans (F.out.st.belowT hbT.out.1.size hbT.out.2).1⟩
end Go.Proofs.Ytklboieemljmiaa
