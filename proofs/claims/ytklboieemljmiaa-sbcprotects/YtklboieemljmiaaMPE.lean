/-
  SbcProtects: the walk. SbcProtects: the walk.
-/
import Derived.Test.YtklboieemljmiaaMP
namespace Go.Proofs.Ytklboieemljmiaa
open Go.RowKit
set_option linter.unusedVariables false
set_option linter.unusedSimpArgs false
set_option maxRecDepth 100000 in
set_option maxHeartbeats 8000000 in
theorem protects_8z (a : Option Addr) (len cap l : Nat) (zs : List Int) (pt lb at_ by_ k : Int) (w : World) (hI : Inp w a len cap zs) (hn8 : (8 : Nat) ≤ 8) (hnl : 128 ≤ len) (hn9 : 144 ≤ len) (hl : lb % 8 = l) (hl7 : l ≤ 7) (hk : (1 : Int) + pt % 3 = k) (hk3 : 1 ≤ k ∧ k ≤ 3) (hp : 0 ≤ pt ∧ pt ≤ 255) (ha : 0 ≤ at_ ∧ at_ ≤ 255) (hb : 0 ≤ by_ ∧ by_ ≤ 255) (hlb : 0 ≤ lb ∧ lb ≤ 255) (hb0 : by_ = 0) :
    Calls Try.prog 5 #[.slice a len cap, .int .u8 pt, .int .u8 lb, .int .u8 at_, .int .u8 by_] w fun e w' => e = .returned (.bool true) ∧ Below w.heap.size w w' := by
  obtain ⟨Z, hZ⟩ : ∃ Z, Z = zs.take (128) := ⟨_, rfl⟩
  have hrd : Kpt (RdAt w (.slice a (128) cap) Z) := ⟨by rw [hZ]; exact hI.rd _ hnl⟩
  have hZl : Z.length = 128 := by rw [hZ, List.length_take]; have := hI.hz; omega
  have hZb : Bytes Z := by rw [hZ]; exact take_bytes hI.byt _
  obtain ⟨ga, oa, rfl, hga⟩ := hI.shape (by omega)
  have hcap := hI.hl
  have hlm : len < 9223372036854775808 := by have := hI.hc; have := hI.hl; unfold maxLen at *; omega
  have HA := Kpt.mk (awake_any w)
  have HD := Kpt.mk (fun W => device_any 16 k true W (by decide) (by decide))
  have hus := unBs_ok false Z 8 hZb hZl
  have hul : (unBs false Z 8).length = 8 := unBs_len _ _ _
  have h00 := hold0 Z k l 8 hZb hZl hn8
  have hpk := pack_pr k l Z 8 hZl
  obtain ⟨us, hus0⟩ : ∃ us, us = unBs false Z 8 := ⟨_, rfl⟩
  have HW : Kpt (∀ W B tag S D, Dv W B tag st0 nmF S D 16 k true → RdAt W (.slice (some ⟨ga, oa, none⟩) (128) cap) Z → Calls Try.prog 11 #[.pointer (some ⟨D, 0, none⟩), .agg (Cm.vals ⟨8, false, ((l : Nat) : Int), (8 : Int), 0, false, 0, false, false, 0, 0, false, 0, 0, false⟩), .slice (some ⟨ga, oa, none⟩) (128) cap] W fun e w' => e = .returned (.agg (resV 0 noS (.slice none 0 0))) ∧ Aft W w' B tag (wrF st0 nmF l (prL k l (unBs false Z 8)) true false)) :=
    ⟨fun W B tag S D h hr => doWrite_8 W B tag st0 nmF S D 16 k true l 8 (128) cap _ Z ⟨8, false, ((l : Nat) : Int), (8 : Int), 0, false, 0, false, false, 0, 0, false, 0, 0, false⟩ h (by decide) (by decide) (by decide) (by decide) (by decide) (fun _ => rfl) (fun c hc => by cases hc) (by omega) (by omega) rfl rfl rfl (by omega) hr hZl hZb rfl rfl⟩
  rw [← hus0] at hus hul h00 hpk HW
  have hbo := prL_ok k l us hus
  have hbl : (prL k l us).length = 8 := by rw [prL_len, hul]
  have hPl : (packL true (prL k l us)).length = 192 := by rw [packL_len true _ hbo, hbl]; rfl
  have hPb := packL_bytes true _ hbo
  obtain ⟨bs, hbs⟩ : ∃ bs, bs = prL k l us := ⟨_, rfl⟩
  have HR0 : Kpt (∀ W B tag st S D q, Dv W B tag st nmF S D 16 k true → Hold q st l 8 bs → q ≤ 8 → Calls Try.prog 11 #[.pointer (some ⟨D, 0, none⟩), .agg (Cm.vals ⟨7, false, ((l : Nat) : Int), (8 : Int), 0, false, 0, false, false, 0, 0, false, 0, 0, false⟩), .slice none 0 0] W fun e w' => ∃ g cap, e = .returned (.agg (resV 0 noS (.slice (some ⟨g, 0, none⟩) (128) cap))) ∧ Got W w' B tag (rdSt st 8) g (128) cap Z) :=
    ⟨fun W B tag st S D q h hH hq => by
      have := readQ W B tag st S D l 8 q k 0 bs us hbs h hH hq hk3 (by decide) (by omega)
      rw [show packL (((0 : Nat) : Int) != 0) bs = Z from by rw [hbs]; exact hpk] at this
      exact this⟩
  have HRq : Kpt (∀ W B tag st S D q p, Dv W B tag st nmF S D 16 k true → Hold q st l 8 bs → q ≤ 8 → 1 ≤ p → p ≤ 4 → Calls Try.prog 11 #[.pointer (some ⟨D, 0, none⟩), .agg (Cm.vals ⟨7, false, ((l : Nat) : Int), (8 : Int), 0, false, ((p : Nat) : Int), false, false, 0, 0, false, 0, 0, false⟩), .slice none 0 0] W fun e w' => ∃ g cap, e = .returned (.agg (resV 0 noS (.slice (some ⟨g, 0, none⟩) (192) cap))) ∧ Got W w' B tag (rdSt st 8) g (192) cap (packL true bs)) :=
    ⟨fun W B tag st S D q p h hH hq hp1 hp4 => by
      have := readQ W B tag st S D l 8 q k p bs us hbs h hH hq hk3 hp4 (by omega)
      rw [show (((p : Nat) : Int) != 0) = true from by simp; omega] at this
      exact this⟩
  have HWq : Kpt (∀ W B tag st S D p g cp, Dv W B tag st nmF S D 16 k true → Fine 700000 st nmF → 1 ≤ p → p ≤ 4 → RdAt W (.slice (some ⟨g, 0, none⟩) (192) cp) (packL true bs) → Calls Try.prog 11 #[.pointer (some ⟨D, 0, none⟩), .agg (Cm.vals ⟨8, false, ((l : Nat) : Int), (8 : Int), 0, false, ((p : Nat) : Int), false, false, 0, 0, false, 0, 0, false⟩), .slice (some ⟨g, 0, none⟩) (192) cp] W fun e w' => e = .returned (.agg (resV 0 noS (.slice none 0 0))) ∧ Aft W w' B tag (wrF st nmF l bs true false)) :=
    ⟨fun W B tag st S D p g cp h hF hp1 hp4 hr => writeQ W B tag st S D l 8 0 cp g k p bs us hbs (by rw [hbs]; exact hbl) (by rw [hbs]; exact hbo) h hF hk3 ⟨hp1, hp4⟩ (by omega) hr⟩
  rw [← hbs] at h00 HW hbl hbo hPl hPb
  have hHw := Kpt.mk (fun q st (h : Hold q st l 8 bs) => h.write hbl hn8 hbo)
  have hHr := Kpt.mk (fun q st (h : Hold q st l 8 bs) => h.read hn8)
  obtain ⟨P, hP⟩ : ∃ P, P = packL true bs := ⟨_, rfl⟩
  rw [← hP] at HRq HWq hPl hPb 
  have HUp : Kpt (∀ W g cp, RdAt W (.slice (some ⟨g, 0, none⟩) (192) cp) P → Calls Try.prog 16 #[.slice (some ⟨g, 0, none⟩) (192) cp, .bool true] W fun e w' => ∃ gu cu, e = .returned (.tuple #[.slice (some ⟨gu, 0, none⟩) 8 cu, .bool true]) ∧ Below W.heap.size W w') :=
    ⟨fun W g cp hr => (runpack_true (some ⟨g, 0, none⟩) (192) cp 8 P W hr hPl rfl hPb (by omega)).mono (fun e w' ⟨v, h1, h2, h3⟩ => by
      obtain ⟨gu, cu, rfl⟩ := ownB_shape h2 (by omega)
      exact ⟨gu, cu, h1, h3⟩)⟩
  obtain ⟨sW, hsW⟩ : ∃ s, s = wrF st0 nmF l bs true false := ⟨_, rfl⟩
  rw [← hsW] at HW h00
  simp only [Cm.vals] at HW HR0 HRq HWq 
  have eL : (16 : Int) * (8 : Int) = (128 : Int) := by omega
  have eLw : wrap64 (16 * (8 : Int)) = (128 : Int) := by unfold wrap64; omega
  have en : IntKind.u64.wrap (8 : Int) = (8 : Int) := by rw [IntKind.wrap_u64]; omega
  have hn0 : ¬ (8 : Int) = 0 := by omega
  have bn0 : ((8 : Int) == 0) = false := beq_eq_false_iff_ne.mpr hn0
  have bnn : ((8 : Int) != (8 : Int)) = false := by simp
  have hq8 : (8 : Int) < (len : Int) / 16 := by omega
  obtain ⟨i, hi⟩ : ∃ i : Nat, at_ % (128 : Int) = i := ⟨(at_ % (128 : Int)).toNat, by have : 0 ≤ at_ % (128 : Int) := Int.emod_nonneg _ (by omega); omega⟩
  have hiL : i < 128 := by have : at_ % (128 : Int) < (128 : Int) := Int.emod_lt_of_pos _ (by omega); omega
  obtain ⟨a16, ha16⟩ : ∃ x : Nat, (i : Int) / 16 = x := ⟨i / 16, by omega⟩
  obtain ⟨b16, hb16⟩ : ∃ x : Nat, (i : Int) % 16 = x := ⟨i % 16, by omega⟩
  obtain ⟨j, hj⟩ : ∃ x : Nat, (a16 : Int) * 24 + b16 = x := ⟨a16 * 24 + b16, by omega⟩
  have hjj : j = i / 16 * 24 + i % 16 := by omega
  have hjM : j < 192 := by omega
  obtain ⟨x, hx⟩ : ∃ x, x = P.getD j 0 := ⟨_, rfl⟩
  have hxb : 0 ≤ x ∧ x ≤ 255 := by rw [hx]; exact hPb j
  subst hb0
  have hxv : bits .xor .u8 x 0 = x := xor_0 x hxb
  have hset : Kpt (P.set j x = P) := ⟨by rw [hx, List.getD_eq_getElem?_getD, List.getElem?_eq_getElem (by omega), Option.getD_some, List.set_getElem_self]⟩
  replace hx := Kpt.mk hx
  replace hjj := Kpt.mk hjj
  replace h00 := Kpt.mk h00
  have hPlK := Kpt.mk hPl
  have hbK := Kpt.mk (And.intro hbl hbo)
  clear hZ hus hul hus0 hpk hbo hbl hPb hbs hP hsW hI hZl hZb hPl 
  go_enter Try.func5, Try.ntmps5
  go_wp2_with (first
      | (have hm := m2; refine wpList_store_bx rfl 34 _ _ rfl ba _ (resV 0 noS (.slice none 0 0)) rfl rfl Oa.out.bx rfl infoR (resV_one _ _ _ _ _) rfl ?_; intro w3 hX_ hg_; replace IV := Kpt.mk (IV.out.other hg_ Oa.out.lo); replace F := Kpt.mk (F.out.own Oa.out hg_ hSl hDl); replace Oa := Kpt.mk (Oa.out.set hX_); clear hX_ hg_; clear hm m2; have m3 : Kpt True := ⟨trivial⟩; have ra := (resV_at Oa.out.bx).1; have la_ := Oa.out.bx.lt)
      | (have hm := m1; refine wpList_var rfl 34 rfl zeroR zeroRi ?_; intro ba w_a hl_ hX_ h_; have Oa := Kpt.mk (F.out.new hl_ hX_); replace IV := Kpt.mk (IV.out.below h_); replace F := Kpt.mk (F.out.below h_); clear hl_ hX_ h_; clear hm m1; have m2 : Kpt True := ⟨trivial⟩)
      | (go_at_call 11; go_must (refine (HW.out _ _ _ _ _ F.out.dv IV.out.rd).mono ?_; rintro e wA ⟨rfl, tagA, hW_, s_⟩; replace IV := Kpt.mk (IV.out.call s_); replace F := Kpt.mk (F.out.call hW_ s_); clear hW_ s_; have m1 : Kpt True := ⟨trivial⟩))
      | (go_at_call 10; go_must (go_must (refine (HD.out _).mono ?_; rintro e w2 ⟨D, B, S, tag, rfl, hdv, hb2, ht2⟩; have F := Kpt.mk hdv.fx; have hSl := hdv.sto.lt; have hDl := hdv.bx.lt; have hbT := Kpt.mk (And.intro (hb1.out.trans (hb2.mono hb1.out.size)) (fun i (hi : i < w.heap.size) => ht2 i (Nat.lt_of_lt_of_le hi hb1.out.size))); have IV : Kpt (Yi w2 w2 tag (some ⟨ga, oa, none⟩) 128 cap Z) := ⟨rd_below hrd.out hbT.out.1, fun g o e => by cases e; exact ⟨Nat.lt_of_lt_of_le hga hbT.out.1.size, hbT.out.2 _ hga⟩, Nat.le_refl _⟩; clear hdv hb2 ht2)))
      | (go_at_call 9; go_must (go_must (refine HA.out.mono ?_; rintro e w1 ⟨rfl, hb1⟩; replace hb1 := Kpt.mk hb1)))
      | fail)
  clear ra la_ Oa m3
  go_loopw [17] (fun t wr => ∃ (q : Nat) (tagq : Tags) (stq : St), q ≤ 5 ∧ t = .int .u8 q ∧ Kpt (Fx w2 wr B tag tagq stq nmF S D 16 k true) ∧ Kpt (Hold q stq l 8 bs) ∧ Kpt (Yi w2 wr tagq (some ⟨ga, oa, none⟩) 128 cap Z)) (fun t _ => 5 - (intOf t).toNat)
  case atStart => exact ⟨0, _, _, by decide, rfl, F, h00, IV⟩
  case round =>
    clear F IV
    obtain ⟨q, tagq, stq, hq, rfl, F, hH, IV⟩ := hrel
    by_cases hlt : q < 5
    · have e5 : (q : Int) < 5 := by omega
      by_cases hq0 : q = 0
      · subst hq0
        go_wp2_with (first
      | (have hm := m2; refine wpList_store_bx rfl 34 _ _ rfl be _ (resV 0 noS (.slice (some ⟨gy, 0, none⟩) 128 cy)) rfl rfl Oe.out.bx rfl infoR (resV_one _ _ _ _ _) rfl ?_; intro w3 hX_ hg_; replace Ry := Kpt.mk (Ry.out.other hg_ (by omega)); replace IV := Kpt.mk (IV.out.other hg_ Oe.out.lo); replace F := Kpt.mk (F.out.own Oe.out hg_ hSl hDl); replace Oe := Kpt.mk (Oe.out.set hX_); clear hX_ hg_; clear hm m2; have m3 : Kpt True := ⟨trivial⟩; have ra := (resV_at Oe.out.bx).1; have la_ := Oe.out.bx.lt)
      | (have hm := m1; refine wpList_var rfl 34 rfl zeroR zeroRi ?_; intro be w_e hl_ hX_ h_; have q_y_e : gy < be := Nat.lt_of_lt_of_le Ry.out.lt hl_; have Oe := Kpt.mk (F.out.new hl_ hX_); replace Ry := Kpt.mk (Ry.out.below h_); replace IV := Kpt.mk (IV.out.below h_); replace F := Kpt.mk (F.out.below h_); clear hl_ hX_ h_; clear hm m1; have m2 : Kpt True := ⟨trivial⟩)
      | (go_at_call 11; go_must (refine (HR0.out _ _ _ _ _ _ _ F.out.dv hH.out (by decide)).mono ?_; rintro e w1 ⟨gy, cy, rfl, tagR, hW_, s_, hrow_, hgn_⟩; have Ry_ := Kpt.mk (Ob.mk (w := w2) (tag' := tagR) (own_base hrow_ F.out.st.size) hgn_); replace IV := Kpt.mk (IV.out.call s_); replace F := Kpt.mk (F.out.call hW_ s_); have Ry := Ry_; clear Ry_; clear hW_ s_ hrow_ hgn_; have m1 : Kpt True := ⟨trivial⟩))
      | fail)
        go_roundw
        case rel => exact ⟨1, _, _, by decide, by go_num, F, ⟨hHr.out _ _ hH.out⟩, IV⟩
        case measure => simp [intOf]
      · have bq0 : ((q : Int) == 0) = false := by simp; omega
        have nq0 : ¬ (q : Int) = 0 := by omega
        go_wp2_with (first
      | (have hm := m6; refine wpList_store_bx rfl 34 _ _ rfl bf _ (resV 0 noS (.slice none 0 0)) rfl rfl Of.out.bx rfl infoR (resV_one _ _ _ _ _) rfl ?_; intro w7 hX_ hg_; replace Oe := Kpt.mk (Oe.out.other hg_ (by omega)); replace Ry := Kpt.mk (Ry.out.other hg_ (by omega)); replace IV := Kpt.mk (IV.out.other hg_ Of.out.lo); replace F := Kpt.mk (F.out.own Of.out hg_ hSl hDl); replace Of := Kpt.mk (Of.out.set hX_); replace ra := (resV_at Oe.out.bx).1; replace r9 := (resV_at Oe.out.bx).2.1; replace la_ := Oe.out.bx.lt; clear hX_ hg_; clear hm m6; have m7 : Kpt True := ⟨trivial⟩; have rf := (resV_at Of.out.bx).1; have lf := Of.out.bx.lt)
      | (have hm := m5; refine wpList_var rfl 34 rfl zeroR zeroRi ?_; intro bf w_f hl_ hX_ h_; have q_e_f : be < bf := Nat.lt_of_lt_of_le Oe.out.bx.lt hl_; have q_y_f : gy < bf := Nat.lt_of_lt_of_le Ry.out.lt hl_; have Of := Kpt.mk (F.out.new hl_ hX_); replace Oe := Kpt.mk (Oe.out.below h_); replace Ry := Kpt.mk (Ry.out.below h_); replace IV := Kpt.mk (IV.out.below h_); replace F := Kpt.mk (F.out.below h_); replace ra := (resV_at Oe.out.bx).1; replace r9 := (resV_at Oe.out.bx).2.1; replace la_ := Oe.out.bx.lt; clear hl_ hX_ h_; clear hm m5; have m6 : Kpt True := ⟨trivial⟩)
      | (go_at_call 11; have hm := m4; go_must (refine (HWq.out _ _ _ _ _ _ _ _ _ F.out.dv (fineR hH.out (by omega) hn8) (show 1 ≤ q by omega) (by omega) (own_rd Ry.out.own)).mono ?_; rintro e wV ⟨rfl, tagV, hW_, s_⟩; replace Oe := Kpt.mk (Oe.out.call s_); replace Ry := Kpt.mk (Ry.out.call s_); replace IV := Kpt.mk (IV.out.call s_); replace F := Kpt.mk (F.out.call hW_ s_); replace ra := (resV_at Oe.out.bx).1; replace r9 := (resV_at Oe.out.bx).2.1; replace la_ := Oe.out.bx.lt; clear hW_ s_; clear hm m4; have m5 : Kpt True := ⟨trivial⟩))
      | (go_at_call 16; have hm := m3; go_must (refine (HUp.out _ _ _ (own_rd Ry.out.own)).mono ?_; rintro e wU ⟨gu, cu, rfl, h_⟩; replace Oe := Kpt.mk (Oe.out.below h_); replace Ry := Kpt.mk (Ry.out.below h_); replace IV := Kpt.mk (IV.out.below h_); replace F := Kpt.mk (F.out.below h_); replace ra := (resV_at Oe.out.bx).1; replace r9 := (resV_at Oe.out.bx).2.1; replace la_ := Oe.out.bx.lt; clear h_; clear hm m3; have m4 : Kpt True := ⟨trivial⟩))
      | (have hm := m2; refine wpList_store_bx rfl 34 _ _ rfl be _ (resV 0 noS (.slice (some ⟨gy, 0, none⟩) 192 cy)) rfl rfl Oe.out.bx rfl infoR (resV_one _ _ _ _ _) rfl ?_; intro w3 hX_ hg_; replace Ry := Kpt.mk (Ry.out.other hg_ (by omega)); replace IV := Kpt.mk (IV.out.other hg_ Oe.out.lo); replace F := Kpt.mk (F.out.own Oe.out hg_ hSl hDl); replace Oe := Kpt.mk (Oe.out.set hX_); clear hX_ hg_; clear hm m2; have m3 : Kpt True := ⟨trivial⟩; have ra := (resV_at Oe.out.bx).1; have r9 := (resV_at Oe.out.bx).2.1; have la_ := Oe.out.bx.lt)
      | (have hm := m1; refine wpList_var rfl 34 rfl zeroR zeroRi ?_; intro be w_e hl_ hX_ h_; have q_y_e : gy < be := Nat.lt_of_lt_of_le Ry.out.lt hl_; have Oe := Kpt.mk (F.out.new hl_ hX_); replace Ry := Kpt.mk (Ry.out.below h_); replace IV := Kpt.mk (IV.out.below h_); replace F := Kpt.mk (F.out.below h_); clear hl_ hX_ h_; clear hm m1; have m2 : Kpt True := ⟨trivial⟩)
      | (go_at_call 11; go_must (refine (HRq.out _ _ _ _ _ _ _ _ F.out.dv hH.out (by omega) (show 1 ≤ q by omega) (by omega)).mono ?_; rintro e w1 ⟨gy, cy, rfl, tagR, hW_, s_, hrow_, hgn_⟩; have Ry_ := Kpt.mk (Ob.mk (w := w2) (tag' := tagR) (own_base hrow_ F.out.st.size) hgn_); replace IV := Kpt.mk (IV.out.call s_); replace F := Kpt.mk (F.out.call hW_ s_); have Ry := Ry_; clear Ry_; clear hW_ s_ hrow_ hgn_; have m1 : Kpt True := ⟨trivial⟩))
      | fail)
        go_roundw
        case rel => exact ⟨q + 1, _, _, by omega, by go_num, F, ⟨hHw.out _ _ hH.out⟩, IV⟩
        case measure => simp [intOf]; omega
    · have e5 : ¬ (q : Int) < 5 := by omega
      have eq5 : q = 5 := by omega
      subst eq5
      clear hHr hHw
      go_wp2_with (first
      | (have hm := m8; refine wpList_store_bx rfl 34 _ _ rfl bh _ (resV 0 noS (.slice (some ⟨gz, 0, none⟩) 128 cz)) rfl rfl Oh.out.bx rfl infoR (resV_one _ _ _ _ _) rfl ?_; intro w9 hX_ hg_; replace Oe := Kpt.mk (Oe.out.other hg_ (by omega)); replace Of := Kpt.mk (Of.out.other hg_ (by omega)); replace Ry := Kpt.mk (Ry.out.other hg_ (by omega)); replace Rz := Kpt.mk (Rz.out.other hg_ (by omega)); replace IV := Kpt.mk (IV.out.other hg_ Oh.out.lo); replace F := Kpt.mk (F.out.own Oh.out hg_ hSl hDl); replace Oh := Kpt.mk (Oh.out.set hX_); clear hX_ hg_; clear hm m8; have m9 : Kpt True := ⟨trivial⟩; have rf := (resV_at Of.out.bx).1; have lf := Of.out.bx.lt)
      | (have hm := m7; refine wpList_var rfl 34 rfl zeroR zeroRi ?_; intro bh w_h hl_ hX_ h_; have q_e_h : be < bh := Nat.lt_of_lt_of_le Oe.out.bx.lt hl_; have q_f_h : bf < bh := Nat.lt_of_lt_of_le Of.out.bx.lt hl_; have q_y_h : gy < bh := Nat.lt_of_lt_of_le Ry.out.lt hl_; have q_z_h : gz < bh := Nat.lt_of_lt_of_le Rz.out.lt hl_; have Oh := Kpt.mk (F.out.new hl_ hX_); replace Oe := Kpt.mk (Oe.out.below h_); replace Of := Kpt.mk (Of.out.below h_); replace Ry := Kpt.mk (Ry.out.below h_); replace Rz := Kpt.mk (Rz.out.below h_); replace IV := Kpt.mk (IV.out.below h_); replace F := Kpt.mk (F.out.below h_); clear hl_ hX_ h_; clear hm m7; have m8 : Kpt True := ⟨trivial⟩)
      | (go_at_call 11; have hm := m6; go_must (refine (HR0.out _ _ _ _ _ _ 7 F.out.dv ((hold5 hH.out hn8 hbK.out).1) (by decide)).mono ?_; rintro e w7 ⟨gz, cz, rfl, tagZ, hW_, s_, hrow_, hgn_⟩; have q_e_z : be < gz := Nat.lt_of_lt_of_le Oe.out.bx.lt (own_lo hrow_).1; have q_f_z : bf < gz := Nat.lt_of_lt_of_le Of.out.bx.lt (own_lo hrow_).1; have q_y_z : gy < gz := Nat.lt_of_lt_of_le Ry.out.lt (own_lo hrow_).1; have Rz_ := Kpt.mk (Ob.mk (w := w2) (tag' := tagZ) (own_base hrow_ F.out.st.size) hgn_); replace Oe := Kpt.mk (Oe.out.call s_); replace Of := Kpt.mk (Of.out.call s_); replace Ry := Kpt.mk (Ry.out.call s_); replace IV := Kpt.mk (IV.out.call s_); replace F := Kpt.mk (F.out.call hW_ s_); have Rz := Rz_; clear Rz_; clear hW_ s_ hrow_ hgn_; clear hm m6; have m7 : Kpt True := ⟨trivial⟩))
      | (have hm := m5; refine wpList_store_bx rfl 34 _ _ rfl bf _ (resV 0 noS (.slice none 0 0)) rfl rfl Of.out.bx rfl infoR (resV_one _ _ _ _ _) rfl ?_; intro w6 hX_ hg_; replace Oe := Kpt.mk (Oe.out.other hg_ (by omega)); replace Ry := Kpt.mk (Ry.out.other hg_ (by omega)); replace IV := Kpt.mk (IV.out.other hg_ Of.out.lo); replace F := Kpt.mk (F.out.own Of.out hg_ hSl hDl); replace Of := Kpt.mk (Of.out.set hX_); clear hX_ hg_; clear hm m5; have m6 : Kpt True := ⟨trivial⟩)
      | (have hm := m4; refine wpList_var rfl 34 rfl zeroR zeroRi ?_; intro bf w_f hl_ hX_ h_; have q_e_f : be < bf := Nat.lt_of_lt_of_le Oe.out.bx.lt hl_; have q_y_f : gy < bf := Nat.lt_of_lt_of_le Ry.out.lt hl_; have Of := Kpt.mk (F.out.new hl_ hX_); replace Oe := Kpt.mk (Oe.out.below h_); replace Ry := Kpt.mk (Ry.out.below h_); replace IV := Kpt.mk (IV.out.below h_); replace F := Kpt.mk (F.out.below h_); clear hl_ hX_ h_; clear hm m4; have m5 : Kpt True := ⟨trivial⟩)
      | (go_at_call 11; have hm := m3; go_must (have hg_ := grown_setCellK w3 ⟨gy, j, none⟩ (.int .u8 x); clear cellq frq ltq r9 la_; replace Oe := Kpt.mk (Oe.out.other hg_ (by show gy ≠ be; omega)); replace IV := Kpt.mk (IV.out.other hg_ Ry.out.lo); replace F := Kpt.mk (F.out.turnB Ry.out hg_ hSl hDl); replace Ry := Kpt.mk (Ry.out.setB j x); rw [hset.out] at Ry; refine (HWq.out _ _ _ _ _ _ 1 _ _ F.out.dv (fineR hH.out (by decide) hn8) (by decide) (by decide) (own_rd Ry.out.own)).mono ?_; rintro e wD ⟨rfl, tagD, hW_, s_⟩; replace Oe := Kpt.mk (Oe.out.call s_); replace Ry := Kpt.mk (Ry.out.call s_); replace IV := Kpt.mk (IV.out.call s_); replace F := Kpt.mk (F.out.call hW_ s_); clear hW_ s_ hg_; clear hm m3; have m4 : Kpt True := ⟨trivial⟩))
      | (have hm := m2; refine wpList_store_bx rfl 34 _ _ rfl be _ (resV 0 noS (.slice (some ⟨gy, 0, none⟩) 192 cy)) rfl rfl Oe.out.bx rfl infoR (resV_one _ _ _ _ _) rfl ?_; intro w3 hX_ hg_; replace Ry := Kpt.mk (Ry.out.other hg_ (by omega)); replace IV := Kpt.mk (IV.out.other hg_ Oe.out.lo); replace F := Kpt.mk (F.out.own Oe.out hg_ hSl hDl); replace Oe := Kpt.mk (Oe.out.set hX_); clear hX_ hg_; clear hm m2; have m3 : Kpt True := ⟨trivial⟩; have r9 := (resV_at Oe.out.bx).2.1; have la_ := Oe.out.bx.lt; have cellq : w3.cell? ⟨gy, j, none⟩ = some (.int .u8 x) := (own_facts Ry.out.own j hjM).trans (by rw [hx.out]); have frq := Ry.out.own.frozenAt j; have ltq := Ry.out.lt)
      | (have hm := m1; refine wpList_var rfl 34 rfl zeroR zeroRi ?_; intro be w_e hl_ hX_ h_; have q_y_e : gy < be := Nat.lt_of_lt_of_le Ry.out.lt hl_; have Oe := Kpt.mk (F.out.new hl_ hX_); replace Ry := Kpt.mk (Ry.out.below h_); replace IV := Kpt.mk (IV.out.below h_); replace F := Kpt.mk (F.out.below h_); clear hl_ hX_ h_; clear hm m1; have m2 : Kpt True := ⟨trivial⟩)
      | (go_at_call 11; go_must (refine (HRq.out _ _ _ _ _ _ _ 1 F.out.dv hH.out (by decide) (by decide) (by decide)).mono ?_; rintro e w1 ⟨gy, cy, rfl, tagR, hW_, s_, hrow_, hgn_⟩; have Ry_ := Kpt.mk (Ob.mk (w := w2) (tag' := tagR) (own_base hrow_ F.out.st.size) hgn_); replace IV := Kpt.mk (IV.out.call s_); replace F := Kpt.mk (F.out.call hW_ s_); have Ry := Ry_; clear Ry_; clear hW_ s_ hrow_ hgn_; have m1 : Kpt True := ⟨trivial⟩))
      | fail)
      go_ret
      exact ⟨rfl, hbT.out.1.trans (F.out.st.belowT hbT.out.1.size hbT.out.2).1⟩
end Go.Proofs.Ytklboieemljmiaa

namespace Go.Proofs.Ytklboieemljmiaa
open Go.RowKit
set_option linter.unusedVariables false
set_option linter.unusedSimpArgs false
set_option maxRecDepth 100000 in
set_option maxHeartbeats 8000000 in
theorem protects_8b (a : Option Addr) (len cap l : Nat) (zs : List Int) (pt lb at_ by_ k : Int) (w : World) (hI : Inp w a len cap zs) (hn8 : (8 : Nat) ≤ 8) (hnl : 128 ≤ len) (hn9 : 144 ≤ len) (hl : lb % 8 = l) (hl7 : l ≤ 7) (hk : (1 : Int) + pt % 3 = k) (hk3 : 1 ≤ k ∧ k ≤ 3) (hp : 0 ≤ pt ∧ pt ≤ 255) (ha : 0 ≤ at_ ∧ at_ ≤ 255) (hb : 0 ≤ by_ ∧ by_ ≤ 255) (hlb : 0 ≤ lb ∧ lb ≤ 255) (hb0 : by_ ≠ 0) :
    Calls Try.prog 5 #[.slice a len cap, .int .u8 pt, .int .u8 lb, .int .u8 at_, .int .u8 by_] w fun e w' => e = .returned (.bool true) ∧ Below w.heap.size w w' := by
  obtain ⟨Z, hZ⟩ : ∃ Z, Z = zs.take (128) := ⟨_, rfl⟩
  have hrd : Kpt (RdAt w (.slice a (128) cap) Z) := ⟨by rw [hZ]; exact hI.rd _ hnl⟩
  have hZl : Z.length = 128 := by rw [hZ, List.length_take]; have := hI.hz; omega
  have hZb : Bytes Z := by rw [hZ]; exact take_bytes hI.byt _
  obtain ⟨ga, oa, rfl, hga⟩ := hI.shape (by omega)
  have hcap := hI.hl
  have hlm : len < 9223372036854775808 := by have := hI.hc; have := hI.hl; unfold maxLen at *; omega
  have HA := Kpt.mk (awake_any w)
  have HD := Kpt.mk (fun W => device_any 16 k true W (by decide) (by decide))
  have hus := unBs_ok false Z 8 hZb hZl
  have hul : (unBs false Z 8).length = 8 := unBs_len _ _ _
  have h00 := hold0 Z k l 8 hZb hZl hn8
  have hpk := pack_pr k l Z 8 hZl
  obtain ⟨us, hus0⟩ : ∃ us, us = unBs false Z 8 := ⟨_, rfl⟩
  have HW : Kpt (∀ W B tag S D, Dv W B tag st0 nmF S D 16 k true → RdAt W (.slice (some ⟨ga, oa, none⟩) (128) cap) Z → Calls Try.prog 11 #[.pointer (some ⟨D, 0, none⟩), .agg (Cm.vals ⟨8, false, ((l : Nat) : Int), (8 : Int), 0, false, 0, false, false, 0, 0, false, 0, 0, false⟩), .slice (some ⟨ga, oa, none⟩) (128) cap] W fun e w' => e = .returned (.agg (resV 0 noS (.slice none 0 0))) ∧ Aft W w' B tag (wrF st0 nmF l (prL k l (unBs false Z 8)) true false)) :=
    ⟨fun W B tag S D h hr => doWrite_8 W B tag st0 nmF S D 16 k true l 8 (128) cap _ Z ⟨8, false, ((l : Nat) : Int), (8 : Int), 0, false, 0, false, false, 0, 0, false, 0, 0, false⟩ h (by decide) (by decide) (by decide) (by decide) (by decide) (fun _ => rfl) (fun c hc => by cases hc) (by omega) (by omega) rfl rfl rfl (by omega) hr hZl hZb rfl rfl⟩
  rw [← hus0] at hus hul h00 hpk HW
  have hbo := prL_ok k l us hus
  have hbl : (prL k l us).length = 8 := by rw [prL_len, hul]
  have hPl : (packL true (prL k l us)).length = 192 := by rw [packL_len true _ hbo, hbl]; rfl
  have hPb := packL_bytes true _ hbo
  obtain ⟨bs, hbs⟩ : ∃ bs, bs = prL k l us := ⟨_, rfl⟩
  have HR0 : Kpt (∀ W B tag st S D q, Dv W B tag st nmF S D 16 k true → Hold q st l 8 bs → q ≤ 8 → Calls Try.prog 11 #[.pointer (some ⟨D, 0, none⟩), .agg (Cm.vals ⟨7, false, ((l : Nat) : Int), (8 : Int), 0, false, 0, false, false, 0, 0, false, 0, 0, false⟩), .slice none 0 0] W fun e w' => ∃ g cap, e = .returned (.agg (resV 0 noS (.slice (some ⟨g, 0, none⟩) (128) cap))) ∧ Got W w' B tag (rdSt st 8) g (128) cap Z) :=
    ⟨fun W B tag st S D q h hH hq => by
      have := readQ W B tag st S D l 8 q k 0 bs us hbs h hH hq hk3 (by decide) (by omega)
      rw [show packL (((0 : Nat) : Int) != 0) bs = Z from by rw [hbs]; exact hpk] at this
      exact this⟩
  have HRq : Kpt (∀ W B tag st S D q p, Dv W B tag st nmF S D 16 k true → Hold q st l 8 bs → q ≤ 8 → 1 ≤ p → p ≤ 4 → Calls Try.prog 11 #[.pointer (some ⟨D, 0, none⟩), .agg (Cm.vals ⟨7, false, ((l : Nat) : Int), (8 : Int), 0, false, ((p : Nat) : Int), false, false, 0, 0, false, 0, 0, false⟩), .slice none 0 0] W fun e w' => ∃ g cap, e = .returned (.agg (resV 0 noS (.slice (some ⟨g, 0, none⟩) (192) cap))) ∧ Got W w' B tag (rdSt st 8) g (192) cap (packL true bs)) :=
    ⟨fun W B tag st S D q p h hH hq hp1 hp4 => by
      have := readQ W B tag st S D l 8 q k p bs us hbs h hH hq hk3 hp4 (by omega)
      rw [show (((p : Nat) : Int) != 0) = true from by simp; omega] at this
      exact this⟩
  have HWq : Kpt (∀ W B tag st S D p g cp, Dv W B tag st nmF S D 16 k true → Fine 700000 st nmF → 1 ≤ p → p ≤ 4 → RdAt W (.slice (some ⟨g, 0, none⟩) (192) cp) (packL true bs) → Calls Try.prog 11 #[.pointer (some ⟨D, 0, none⟩), .agg (Cm.vals ⟨8, false, ((l : Nat) : Int), (8 : Int), 0, false, ((p : Nat) : Int), false, false, 0, 0, false, 0, 0, false⟩), .slice (some ⟨g, 0, none⟩) (192) cp] W fun e w' => e = .returned (.agg (resV 0 noS (.slice none 0 0))) ∧ Aft W w' B tag (wrF st nmF l bs true false)) :=
    ⟨fun W B tag st S D p g cp h hF hp1 hp4 hr => writeQ W B tag st S D l 8 0 cp g k p bs us hbs (by rw [hbs]; exact hbl) (by rw [hbs]; exact hbo) h hF hk3 ⟨hp1, hp4⟩ (by omega) hr⟩
  have HWb : Kpt (∀ W B tag st S D g cp i v, Dv W B tag st nmF S D 16 k true → Fine 700000 st nmF → i < 128 → 0 ≤ v ∧ v ≤ 255 → v ≠ (packL true bs).getD (i / 16 * 24 + i % 16) 0 → RdAt W (.slice (some ⟨g, 0, none⟩) (192) cp) ((packL true bs).set (i / 16 * 24 + i % 16) v) → Calls Try.prog 11 #[.pointer (some ⟨D, 0, none⟩), .agg (Cm.vals ⟨8, false, ((l : Nat) : Int), (8 : Int), 0, false, 1, false, false, 0, 0, false, 0, 0, false⟩), .slice (some ⟨g, 0, none⟩) (192) cp] W fun e w' => e = .returned (.agg (resV 2 (nuS 11 4097 ((l + i / 16 : Nat) : Int)) (.slice none 0 0))) ∧ Aft W w' B tag st) :=
    ⟨fun W B tag st S D g cp i v h hF hi hv hne hr => writeB W B tag st S D l 8 cp g i v k us hul hus h hF hk3 (by omega) hi hv (by rw [← hbs]; exact hne) (by rw [← hbs]; exact hr)⟩
  have HAt := Kpt.mk (fun W n => at_any 11 4097 n W)
  have HSm := Kpt.mk (fun W s => same_nil 2 s W)
  rw [← hbs] at h00 HW hbl hbo hPl hPb
  have hHw := Kpt.mk (fun q st (h : Hold q st l 8 bs) => h.write hbl hn8 hbo)
  have hHr := Kpt.mk (fun q st (h : Hold q st l 8 bs) => h.read hn8)
  obtain ⟨P, hP⟩ : ∃ P, P = packL true bs := ⟨_, rfl⟩
  rw [← hP] at HRq HWq hPl hPb HWb
  have HUp : Kpt (∀ W g cp, RdAt W (.slice (some ⟨g, 0, none⟩) (192) cp) P → Calls Try.prog 16 #[.slice (some ⟨g, 0, none⟩) (192) cp, .bool true] W fun e w' => ∃ gu cu, e = .returned (.tuple #[.slice (some ⟨gu, 0, none⟩) 8 cu, .bool true]) ∧ Below W.heap.size W w') :=
    ⟨fun W g cp hr => (runpack_true (some ⟨g, 0, none⟩) (192) cp 8 P W hr hPl rfl hPb (by omega)).mono (fun e w' ⟨v, h1, h2, h3⟩ => by
      obtain ⟨gu, cu, rfl⟩ := ownB_shape h2 (by omega)
      exact ⟨gu, cu, h1, h3⟩)⟩
  obtain ⟨sW, hsW⟩ : ∃ s, s = wrF st0 nmF l bs true false := ⟨_, rfl⟩
  rw [← hsW] at HW h00
  simp only [Cm.vals] at HW HR0 HRq HWq HWb
  have eL : (16 : Int) * (8 : Int) = (128 : Int) := by omega
  have eLw : wrap64 (16 * (8 : Int)) = (128 : Int) := by unfold wrap64; omega
  have en : IntKind.u64.wrap (8 : Int) = (8 : Int) := by rw [IntKind.wrap_u64]; omega
  have hn0 : ¬ (8 : Int) = 0 := by omega
  have bn0 : ((8 : Int) == 0) = false := beq_eq_false_iff_ne.mpr hn0
  have bnn : ((8 : Int) != (8 : Int)) = false := by simp
  have hq8 : (8 : Int) < (len : Int) / 16 := by omega
  obtain ⟨i, hi⟩ : ∃ i : Nat, at_ % (128 : Int) = i := ⟨(at_ % (128 : Int)).toNat, by have : 0 ≤ at_ % (128 : Int) := Int.emod_nonneg _ (by omega); omega⟩
  have hiL : i < 128 := by have : at_ % (128 : Int) < (128 : Int) := Int.emod_lt_of_pos _ (by omega); omega
  obtain ⟨a16, ha16⟩ : ∃ x : Nat, (i : Int) / 16 = x := ⟨i / 16, by omega⟩
  obtain ⟨b16, hb16⟩ : ∃ x : Nat, (i : Int) % 16 = x := ⟨i % 16, by omega⟩
  obtain ⟨j, hj⟩ : ∃ x : Nat, (a16 : Int) * 24 + b16 = x := ⟨a16 * 24 + b16, by omega⟩
  have hjj : j = i / 16 * 24 + i % 16 := by omega
  have hjM : j < 192 := by omega
  obtain ⟨x, hx⟩ : ∃ x, x = P.getD j 0 := ⟨_, rfl⟩
  have hxb : 0 ≤ x ∧ x ≤ 255 := by rw [hx]; exact hPb j
  obtain ⟨xv, hxv0⟩ : ∃ xv, xv = bits .xor .u8 x by_ := ⟨_, rfl⟩
  have hxn := xor_ne x by_ hxb hb hb0
  rw [← hxv0] at hxn
  have hxv : bits .xor .u8 x by_ = xv := hxv0.symm
  have bb0 : (by_ == 0) = false := beq_eq_false_iff_ne.mpr hb0
  have HWb2 : Kpt (∀ W B tag st S D g cp, Dv W B tag st nmF S D 16 k true → Fine 700000 st nmF → RdAt W (.slice (some ⟨g, 0, none⟩) 192 cp) (P.set j xv) → Calls Try.prog 11 #[.pointer (some ⟨D, 0, none⟩), .agg (Cm.vals ⟨8, false, ((l : Nat) : Int), (8 : Int), 0, false, 1, false, false, 0, 0, false, 0, 0, false⟩), .slice (some ⟨g, 0, none⟩) 192 cp] W fun e w' => e = .returned (.agg (resV 2 (nuS 11 4097 ((l + a16 : Nat) : Int)) (.slice none 0 0))) ∧ Aft W w' B tag st) :=
    ⟨fun W B tag st S D g cp h hF hr => by
      have := HWb.out W B tag st S D g cp i xv h hF hiL hxn.2 (by rw [← hjj, ← hx]; exact hxn.1) (by rw [← hjj]; exact hr)
      rw [show i / 16 = a16 by omega] at this
      exact this⟩
  simp only [Cm.vals] at HWb2
  obtain ⟨la, hla⟩ : ∃ x : Nat, x = l + a16 := ⟨_, rfl⟩
  rw [← hla] at HWb2
  have ela : (l : Int) + a16 = la := by omega
  have elw : IntKind.u64.wrap ((l : Int) + a16) = la := by rw [IntKind.wrap_u64]; omega
  have eaw : IntKind.u64.wrap (a16 : Int) = a16 := by rw [IntKind.wrap_u64]; omega
  clear HWb hxv0 hla
  replace hx := Kpt.mk hx
  replace hjj := Kpt.mk hjj
  replace h00 := Kpt.mk h00
  have hPlK := Kpt.mk hPl
  clear hZ hus hul hus0 hpk hbo hbl hPb hbs hP hsW hI hZl hZb hPl 
  go_enter Try.func5, Try.ntmps5
  go_wp2_with (first
      | (have hm := m2; refine wpList_store_bx rfl 34 _ _ rfl ba _ (resV 0 noS (.slice none 0 0)) rfl rfl Oa.out.bx rfl infoR (resV_one _ _ _ _ _) rfl ?_; intro w3 hX_ hg_; replace IV := Kpt.mk (IV.out.other hg_ Oa.out.lo); replace F := Kpt.mk (F.out.own Oa.out hg_ hSl hDl); replace Oa := Kpt.mk (Oa.out.set hX_); clear hX_ hg_; clear hm m2; have m3 : Kpt True := ⟨trivial⟩; have ra := (resV_at Oa.out.bx).1; have la_ := Oa.out.bx.lt)
      | (have hm := m1; refine wpList_var rfl 34 rfl zeroR zeroRi ?_; intro ba w_a hl_ hX_ h_; have Oa := Kpt.mk (F.out.new hl_ hX_); replace IV := Kpt.mk (IV.out.below h_); replace F := Kpt.mk (F.out.below h_); clear hl_ hX_ h_; clear hm m1; have m2 : Kpt True := ⟨trivial⟩)
      | (go_at_call 11; go_must (refine (HW.out _ _ _ _ _ F.out.dv IV.out.rd).mono ?_; rintro e wA ⟨rfl, tagA, hW_, s_⟩; replace IV := Kpt.mk (IV.out.call s_); replace F := Kpt.mk (F.out.call hW_ s_); clear hW_ s_; have m1 : Kpt True := ⟨trivial⟩))
      | (go_at_call 10; go_must (go_must (refine (HD.out _).mono ?_; rintro e w2 ⟨D, B, S, tag, rfl, hdv, hb2, ht2⟩; have F := Kpt.mk hdv.fx; have hSl := hdv.sto.lt; have hDl := hdv.bx.lt; have hbT := Kpt.mk (And.intro (hb1.out.trans (hb2.mono hb1.out.size)) (fun i (hi : i < w.heap.size) => ht2 i (Nat.lt_of_lt_of_le hi hb1.out.size))); have IV : Kpt (Yi w2 w2 tag (some ⟨ga, oa, none⟩) 128 cap Z) := ⟨rd_below hrd.out hbT.out.1, fun g o e => by cases e; exact ⟨Nat.lt_of_lt_of_le hga hbT.out.1.size, hbT.out.2 _ hga⟩, Nat.le_refl _⟩; clear hdv hb2 ht2)))
      | (go_at_call 9; go_must (go_must (refine HA.out.mono ?_; rintro e w1 ⟨rfl, hb1⟩; replace hb1 := Kpt.mk hb1)))
      | fail)
  clear ra la_ Oa m3
  go_loopw [17] (fun t wr => ∃ (q : Nat) (tagq : Tags) (stq : St), q ≤ 5 ∧ t = .int .u8 q ∧ Kpt (Fx w2 wr B tag tagq stq nmF S D 16 k true) ∧ Kpt (Hold q stq l 8 bs) ∧ Kpt (Yi w2 wr tagq (some ⟨ga, oa, none⟩) 128 cap Z)) (fun t _ => 5 - (intOf t).toNat)
  case atStart => exact ⟨0, _, _, by decide, rfl, F, h00, IV⟩
  case round =>
    clear F IV
    obtain ⟨q, tagq, stq, hq, rfl, F, hH, IV⟩ := hrel
    by_cases hlt : q < 5
    · have e5 : (q : Int) < 5 := by omega
      by_cases hq0 : q = 0
      · subst hq0
        go_wp2_with (first
      | (have hm := m2; refine wpList_store_bx rfl 34 _ _ rfl be _ (resV 0 noS (.slice (some ⟨gy, 0, none⟩) 128 cy)) rfl rfl Oe.out.bx rfl infoR (resV_one _ _ _ _ _) rfl ?_; intro w3 hX_ hg_; replace Ry := Kpt.mk (Ry.out.other hg_ (by omega)); replace IV := Kpt.mk (IV.out.other hg_ Oe.out.lo); replace F := Kpt.mk (F.out.own Oe.out hg_ hSl hDl); replace Oe := Kpt.mk (Oe.out.set hX_); clear hX_ hg_; clear hm m2; have m3 : Kpt True := ⟨trivial⟩; have ra := (resV_at Oe.out.bx).1; have la_ := Oe.out.bx.lt)
      | (have hm := m1; refine wpList_var rfl 34 rfl zeroR zeroRi ?_; intro be w_e hl_ hX_ h_; have q_y_e : gy < be := Nat.lt_of_lt_of_le Ry.out.lt hl_; have Oe := Kpt.mk (F.out.new hl_ hX_); replace Ry := Kpt.mk (Ry.out.below h_); replace IV := Kpt.mk (IV.out.below h_); replace F := Kpt.mk (F.out.below h_); clear hl_ hX_ h_; clear hm m1; have m2 : Kpt True := ⟨trivial⟩)
      | (go_at_call 11; go_must (refine (HR0.out _ _ _ _ _ _ _ F.out.dv hH.out (by decide)).mono ?_; rintro e w1 ⟨gy, cy, rfl, tagR, hW_, s_, hrow_, hgn_⟩; have Ry_ := Kpt.mk (Ob.mk (w := w2) (tag' := tagR) (own_base hrow_ F.out.st.size) hgn_); replace IV := Kpt.mk (IV.out.call s_); replace F := Kpt.mk (F.out.call hW_ s_); have Ry := Ry_; clear Ry_; clear hW_ s_ hrow_ hgn_; have m1 : Kpt True := ⟨trivial⟩))
      | fail)
        go_roundw
        case rel => exact ⟨1, _, _, by decide, by go_num, F, ⟨hHr.out _ _ hH.out⟩, IV⟩
        case measure => simp [intOf]
      · have bq0 : ((q : Int) == 0) = false := by simp; omega
        have nq0 : ¬ (q : Int) = 0 := by omega
        go_wp2_with (first
      | (have hm := m6; refine wpList_store_bx rfl 34 _ _ rfl bf _ (resV 0 noS (.slice none 0 0)) rfl rfl Of.out.bx rfl infoR (resV_one _ _ _ _ _) rfl ?_; intro w7 hX_ hg_; replace Oe := Kpt.mk (Oe.out.other hg_ (by omega)); replace Ry := Kpt.mk (Ry.out.other hg_ (by omega)); replace IV := Kpt.mk (IV.out.other hg_ Of.out.lo); replace F := Kpt.mk (F.out.own Of.out hg_ hSl hDl); replace Of := Kpt.mk (Of.out.set hX_); replace ra := (resV_at Oe.out.bx).1; replace r9 := (resV_at Oe.out.bx).2.1; replace la_ := Oe.out.bx.lt; clear hX_ hg_; clear hm m6; have m7 : Kpt True := ⟨trivial⟩; have rf := (resV_at Of.out.bx).1; have lf := Of.out.bx.lt)
      | (have hm := m5; refine wpList_var rfl 34 rfl zeroR zeroRi ?_; intro bf w_f hl_ hX_ h_; have q_e_f : be < bf := Nat.lt_of_lt_of_le Oe.out.bx.lt hl_; have q_y_f : gy < bf := Nat.lt_of_lt_of_le Ry.out.lt hl_; have Of := Kpt.mk (F.out.new hl_ hX_); replace Oe := Kpt.mk (Oe.out.below h_); replace Ry := Kpt.mk (Ry.out.below h_); replace IV := Kpt.mk (IV.out.below h_); replace F := Kpt.mk (F.out.below h_); replace ra := (resV_at Oe.out.bx).1; replace r9 := (resV_at Oe.out.bx).2.1; replace la_ := Oe.out.bx.lt; clear hl_ hX_ h_; clear hm m5; have m6 : Kpt True := ⟨trivial⟩)
      | (go_at_call 11; have hm := m4; go_must (refine (HWq.out _ _ _ _ _ _ _ _ _ F.out.dv (fineR hH.out (by omega) hn8) (show 1 ≤ q by omega) (by omega) (own_rd Ry.out.own)).mono ?_; rintro e wV ⟨rfl, tagV, hW_, s_⟩; replace Oe := Kpt.mk (Oe.out.call s_); replace Ry := Kpt.mk (Ry.out.call s_); replace IV := Kpt.mk (IV.out.call s_); replace F := Kpt.mk (F.out.call hW_ s_); replace ra := (resV_at Oe.out.bx).1; replace r9 := (resV_at Oe.out.bx).2.1; replace la_ := Oe.out.bx.lt; clear hW_ s_; clear hm m4; have m5 : Kpt True := ⟨trivial⟩))
      | (go_at_call 16; have hm := m3; go_must (refine (HUp.out _ _ _ (own_rd Ry.out.own)).mono ?_; rintro e wU ⟨gu, cu, rfl, h_⟩; replace Oe := Kpt.mk (Oe.out.below h_); replace Ry := Kpt.mk (Ry.out.below h_); replace IV := Kpt.mk (IV.out.below h_); replace F := Kpt.mk (F.out.below h_); replace ra := (resV_at Oe.out.bx).1; replace r9 := (resV_at Oe.out.bx).2.1; replace la_ := Oe.out.bx.lt; clear h_; clear hm m3; have m4 : Kpt True := ⟨trivial⟩))
      | (have hm := m2; refine wpList_store_bx rfl 34 _ _ rfl be _ (resV 0 noS (.slice (some ⟨gy, 0, none⟩) 192 cy)) rfl rfl Oe.out.bx rfl infoR (resV_one _ _ _ _ _) rfl ?_; intro w3 hX_ hg_; replace Ry := Kpt.mk (Ry.out.other hg_ (by omega)); replace IV := Kpt.mk (IV.out.other hg_ Oe.out.lo); replace F := Kpt.mk (F.out.own Oe.out hg_ hSl hDl); replace Oe := Kpt.mk (Oe.out.set hX_); clear hX_ hg_; clear hm m2; have m3 : Kpt True := ⟨trivial⟩; have ra := (resV_at Oe.out.bx).1; have r9 := (resV_at Oe.out.bx).2.1; have la_ := Oe.out.bx.lt)
      | (have hm := m1; refine wpList_var rfl 34 rfl zeroR zeroRi ?_; intro be w_e hl_ hX_ h_; have q_y_e : gy < be := Nat.lt_of_lt_of_le Ry.out.lt hl_; have Oe := Kpt.mk (F.out.new hl_ hX_); replace Ry := Kpt.mk (Ry.out.below h_); replace IV := Kpt.mk (IV.out.below h_); replace F := Kpt.mk (F.out.below h_); clear hl_ hX_ h_; clear hm m1; have m2 : Kpt True := ⟨trivial⟩)
      | (go_at_call 11; go_must (refine (HRq.out _ _ _ _ _ _ _ _ F.out.dv hH.out (by omega) (show 1 ≤ q by omega) (by omega)).mono ?_; rintro e w1 ⟨gy, cy, rfl, tagR, hW_, s_, hrow_, hgn_⟩; have Ry_ := Kpt.mk (Ob.mk (w := w2) (tag' := tagR) (own_base hrow_ F.out.st.size) hgn_); replace IV := Kpt.mk (IV.out.call s_); replace F := Kpt.mk (F.out.call hW_ s_); have Ry := Ry_; clear Ry_; clear hW_ s_ hrow_ hgn_; have m1 : Kpt True := ⟨trivial⟩))
      | fail)
        go_roundw
        case rel => exact ⟨q + 1, _, _, by omega, by go_num, F, ⟨hHw.out _ _ hH.out⟩, IV⟩
        case measure => simp [intOf]; omega
    · have e5 : ¬ (q : Int) < 5 := by omega
      have eq5 : q = 5 := by omega
      subst eq5
      clear hHr hHw
      go_wp2_with (first
      | (have hm := m8; refine wpList_store_bx rfl 34 _ _ rfl bh _ (resV 0 noS (.slice (some ⟨gz, 0, none⟩) 128 cz)) rfl rfl Oh.out.bx rfl infoR (resV_one _ _ _ _ _) rfl ?_; intro w9 hX_ hg_; replace Oe := Kpt.mk (Oe.out.other hg_ (by omega)); replace Of := Kpt.mk (Of.out.other hg_ (by omega)); replace Ry := Kpt.mk (Ry.out.other hg_ (by omega)); replace Rz := Kpt.mk (Rz.out.other hg_ (by omega)); replace IV := Kpt.mk (IV.out.other hg_ Oh.out.lo); replace F := Kpt.mk (F.out.own Oh.out hg_ hSl hDl); replace Oh := Kpt.mk (Oh.out.set hX_); clear hX_ hg_; clear hm m8; have m9 : Kpt True := ⟨trivial⟩; have rf := (resV_at Of.out.bx).1; have lf := Of.out.bx.lt)
      | (have hm := m7; refine wpList_var rfl 34 rfl zeroR zeroRi ?_; intro bh w_h hl_ hX_ h_; have q_e_h : be < bh := Nat.lt_of_lt_of_le Oe.out.bx.lt hl_; have q_f_h : bf < bh := Nat.lt_of_lt_of_le Of.out.bx.lt hl_; have q_y_h : gy < bh := Nat.lt_of_lt_of_le Ry.out.lt hl_; have q_z_h : gz < bh := Nat.lt_of_lt_of_le Rz.out.lt hl_; have Oh := Kpt.mk (F.out.new hl_ hX_); replace Oe := Kpt.mk (Oe.out.below h_); replace Of := Kpt.mk (Of.out.below h_); replace Ry := Kpt.mk (Ry.out.below h_); replace Rz := Kpt.mk (Rz.out.below h_); replace IV := Kpt.mk (IV.out.below h_); replace F := Kpt.mk (F.out.below h_); clear hl_ hX_ h_; clear hm m7; have m8 : Kpt True := ⟨trivial⟩)
      | (go_at_call 11; have hm := m6; go_must (refine (HR0.out _ _ _ _ _ _ 6 F.out.dv (hH.out.read hn8) (by decide)).mono ?_; rintro e w7 ⟨gz, cz, rfl, tagZ, hW_, s_, hrow_, hgn_⟩; have q_e_z : be < gz := Nat.lt_of_lt_of_le Oe.out.bx.lt (own_lo hrow_).1; have q_f_z : bf < gz := Nat.lt_of_lt_of_le Of.out.bx.lt (own_lo hrow_).1; have q_y_z : gy < gz := Nat.lt_of_lt_of_le Ry.out.lt (own_lo hrow_).1; have Rz_ := Kpt.mk (Ob.mk (w := w2) (tag' := tagZ) (own_base hrow_ F.out.st.size) hgn_); replace Oe := Kpt.mk (Oe.out.call s_); replace Of := Kpt.mk (Of.out.call s_); replace Ry := Kpt.mk (Ry.out.call s_); replace IV := Kpt.mk (IV.out.call s_); replace F := Kpt.mk (F.out.call hW_ s_); have Rz := Rz_; clear Rz_; clear hW_ s_ hrow_ hgn_; clear hm m6; have m7 : Kpt True := ⟨trivial⟩))
      | (have hm := m5; refine wpList_store_bx rfl 34 _ _ rfl bf _ (resV 2 (nuS 11 4097 la) (.slice none 0 0)) rfl rfl Of.out.bx rfl infoR (resV_one _ _ _ _ _) rfl ?_; intro w6 hX_ hg_; replace Oe := Kpt.mk (Oe.out.other hg_ (by omega)); replace Ry := Kpt.mk (Ry.out.other hg_ (by omega)); replace IV := Kpt.mk (IV.out.other hg_ Of.out.lo); replace F := Kpt.mk (F.out.own Of.out hg_ hSl hDl); replace Of := Kpt.mk (Of.out.set hX_); clear hX_ hg_; clear hm m5; have m6 : Kpt True := ⟨trivial⟩)
      | (have hm := m4; refine wpList_var rfl 34 rfl zeroR zeroRi ?_; intro bf w_f hl_ hX_ h_; have q_e_f : be < bf := Nat.lt_of_lt_of_le Oe.out.bx.lt hl_; have q_y_f : gy < bf := Nat.lt_of_lt_of_le Ry.out.lt hl_; have Of := Kpt.mk (F.out.new hl_ hX_); replace Oe := Kpt.mk (Oe.out.below h_); replace Ry := Kpt.mk (Ry.out.below h_); replace IV := Kpt.mk (IV.out.below h_); replace F := Kpt.mk (F.out.below h_); clear hl_ hX_ h_; clear hm m4; have m5 : Kpt True := ⟨trivial⟩)
      | (go_at_call 11; have hm := m3; go_must (have hg_ := grown_setCellK w3 ⟨gy, j, none⟩ (.int .u8 xv); clear cellq frq ltq r9 la_; replace Oe := Kpt.mk (Oe.out.other hg_ (by show gy ≠ be; omega)); replace IV := Kpt.mk (IV.out.other hg_ Ry.out.lo); replace F := Kpt.mk (F.out.turnB Ry.out hg_ hSl hDl); replace Ry := Kpt.mk (Ry.out.setB j xv); refine (HWb2.out _ _ _ _ _ _ _ _ F.out.dv (fineR hH.out (by decide) hn8) (own_rd Ry.out.own)).mono ?_; rintro e wD ⟨rfl, tagD, hW_, s_⟩; replace Oe := Kpt.mk (Oe.out.call s_); replace Ry := Kpt.mk (Ry.out.call s_); replace IV := Kpt.mk (IV.out.call s_); replace F := Kpt.mk (F.out.call hW_ s_); clear hW_ s_ hg_; clear hm m3; have m4 : Kpt True := ⟨trivial⟩))
      | (have hm := m2; refine wpList_store_bx rfl 34 _ _ rfl be _ (resV 0 noS (.slice (some ⟨gy, 0, none⟩) 192 cy)) rfl rfl Oe.out.bx rfl infoR (resV_one _ _ _ _ _) rfl ?_; intro w3 hX_ hg_; replace Ry := Kpt.mk (Ry.out.other hg_ (by omega)); replace IV := Kpt.mk (IV.out.other hg_ Oe.out.lo); replace F := Kpt.mk (F.out.own Oe.out hg_ hSl hDl); replace Oe := Kpt.mk (Oe.out.set hX_); clear hX_ hg_; clear hm m2; have m3 : Kpt True := ⟨trivial⟩; have r9 := (resV_at Oe.out.bx).2.1; have la_ := Oe.out.bx.lt; have cellq : w3.cell? ⟨gy, j, none⟩ = some (.int .u8 x) := (own_facts Ry.out.own j hjM).trans (by rw [hx.out]); have frq := Ry.out.own.frozenAt j; have ltq := Ry.out.lt)
      | (have hm := m1; refine wpList_var rfl 34 rfl zeroR zeroRi ?_; intro be w_e hl_ hX_ h_; have q_y_e : gy < be := Nat.lt_of_lt_of_le Ry.out.lt hl_; have Oe := Kpt.mk (F.out.new hl_ hX_); replace Ry := Kpt.mk (Ry.out.below h_); replace IV := Kpt.mk (IV.out.below h_); replace F := Kpt.mk (F.out.below h_); clear hl_ hX_ h_; clear hm m1; have m2 : Kpt True := ⟨trivial⟩)
      | (go_at_call 11; go_must (refine (HRq.out _ _ _ _ _ _ _ 1 F.out.dv hH.out (by decide) (by decide) (by decide)).mono ?_; rintro e w1 ⟨gy, cy, rfl, tagR, hW_, s_, hrow_, hgn_⟩; have Ry_ := Kpt.mk (Ob.mk (w := w2) (tag' := tagR) (own_base hrow_ F.out.st.size) hgn_); replace IV := Kpt.mk (IV.out.call s_); replace F := Kpt.mk (F.out.call hW_ s_); have Ry := Ry_; clear Ry_; clear hW_ s_ hrow_ hgn_; have m1 : Kpt True := ⟨trivial⟩))
      | fail)
      clear rf lf
      have eiaw : IntKind.i64.wrap (a16 : Int) = a16 := by rw [IntKind.wrap_i64]; omega
      have elaw : IntKind.u64.wrap (la : Int) = la := by rw [IntKind.wrap_u64]; omega
      have eLi : IntKind.i64.wrap (128 : Int) = (128 : Int) := by rw [IntKind.wrap_i64]; omega
      have hcL : ¬ cap < 128 := by omega
      have hcL2 : ¬ (cap : Int) < (128 : Int) := by omega
      refine wp_region_any (by kernel_rfl) ?_
      refine wpAny_of_C (C := fun W => Bx W bf (resV 2 (nuS 11 4097 la) (.slice none 0 0)) ∧ W.cell? ⟨bh, 9, none⟩ = some (.slice (some ⟨gz, 0, none⟩) 128 cz) ∧ RdAt W (.slice (some ⟨gz, 0, none⟩) 128 cz) Z ∧ RdAt W (.slice (some ⟨ga, oa, none⟩) 128 cap) Z) _ _ _ _ ?_
      refine wpAnyC_take 0 (.agg (resV 2 (nuS 11 4097 la) (.slice none 0 0))) rfl (by kernel_rfl) (by kernel_rfl) (by kernel_rfl) (fun _ _ _ h => h) (wanted_free rfl _) (fun W hW => exec_load_bxG 34 (.tmp 26) rfl bf _ rfl hW.1 _ Try.underlying34 rfl infoR) ?_
      try simp only [Act.put, List.getElem_toArray, List.getElem_cons_succ, List.getElem_cons_zero, List.setIfInBounds_toArray, List.set_cons_succ, List.set_cons_zero]
      refine wpAnyC_take 1 (.int .u64 l) rfl (by kernel_rfl) (by kernel_rfl) (by kernel_rfl) (fun _ _ _ h => h) (wanted_free rfl _) (fun W hW => by go_simp) ?_
      try simp only [Act.put, List.getElem_toArray, List.getElem_cons_succ, List.getElem_cons_zero, List.setIfInBounds_toArray, List.set_cons_succ, List.set_cons_zero]
      refine wpAnyC_take 2 (.int .i64 i) rfl (by kernel_rfl) (by kernel_rfl) (by kernel_rfl) (fun _ _ _ h => h) (wanted_free rfl _) (fun W hW => by go_simp) ?_
      try simp only [Act.put, List.getElem_toArray, List.getElem_cons_succ, List.getElem_cons_zero, List.setIfInBounds_toArray, List.set_cons_succ, List.set_cons_zero]
      refine wpAnyC_take 3 (.int .i64 a16) rfl (by kernel_rfl) (by kernel_rfl) (by kernel_rfl) (fun _ _ _ h => h) (wanted_free rfl _) (fun W hW => by go_simp) ?_
      try simp only [Act.put, List.getElem_toArray, List.getElem_cons_succ, List.getElem_cons_zero, List.setIfInBounds_toArray, List.set_cons_succ, List.set_cons_zero]
      refine wpAnyC_take 4 (.int .u64 a16) rfl (by kernel_rfl) (by kernel_rfl) (by kernel_rfl) (fun _ _ _ h => h) (wanted_free rfl _) (fun W hW => by go_simp) ?_
      try simp only [Act.put, List.getElem_toArray, List.getElem_cons_succ, List.getElem_cons_zero, List.setIfInBounds_toArray, List.set_cons_succ, List.set_cons_zero]
      refine wpAnyC_take 5 (.int .u64 la) rfl (by kernel_rfl) (by kernel_rfl) (by kernel_rfl) (fun _ _ _ h => h) (wanted_free rfl _) (fun W hW => by go_simp) ?_
      try simp only [Act.put, List.getElem_toArray, List.getElem_cons_succ, List.getElem_cons_zero, List.setIfInBounds_toArray, List.set_cons_succ, List.set_cons_zero]
      refine wpAnyC_one 6 (⟨Of.out.bx.drew, (resV_at Oh.out.bx).2.1, rd_below (own_rd Rz.out.own) (below_drew _), rd_below IV.out.rd (below_drew _)⟩) rfl (by kernel_rfl) (wanted_free rfl _) (fun KA hKA => ?_)
      go_simp
      refine (HAt.out _ _).mono ?_
      rintro e wE ⟨rfl, hE⟩
      have h_ := below_undrew hE
      replace Oe := Kpt.mk (Oe.out.below h_)
      replace Of := Kpt.mk (Of.out.below h_)
      replace Oh := Kpt.mk (Oh.out.below h_)
      replace Ry := Kpt.mk (Ry.out.below h_)
      replace Rz := Kpt.mk (Rz.out.below h_)
      replace IV := Kpt.mk (IV.out.below h_)
      replace F := Kpt.mk (F.out.below h_)
      refine hKA _ _ ?_
      clear hKA KA
      try simp only [Act.put, List.getElem_toArray, List.getElem_cons_succ, List.getElem_cons_zero, List.setIfInBounds_toArray, List.set_cons_succ, List.set_cons_zero]
      refine wpAnyC_one 7 (⟨Of.out.bx, (resV_at Oh.out.bx).2.1, own_rd Rz.out.own, IV.out.rd⟩) rfl (by kernel_rfl) (wanted_free rfl _) (fun KA hKA => ?_)
      go_simp
      refine (HSm.out _ _).mono ?_
      rintro e wG ⟨rfl, h2_⟩
      replace Oe := Kpt.mk (Oe.out.below h2_)
      replace Of := Kpt.mk (Of.out.below h2_)
      replace Oh := Kpt.mk (Oh.out.below h2_)
      replace Ry := Kpt.mk (Ry.out.below h2_)
      replace Rz := Kpt.mk (Rz.out.below h2_)
      replace IV := Kpt.mk (IV.out.below h2_)
      replace F := Kpt.mk (F.out.below h2_)
      refine hKA _ _ ?_
      clear hKA KA
      try simp only [Act.put, List.getElem_toArray, List.getElem_cons_succ, List.getElem_cons_zero, List.setIfInBounds_toArray, List.set_cons_succ, List.set_cons_zero]
      refine wpAnyC_take 8 (.bool true) rfl (by kernel_rfl) (by kernel_rfl) (by kernel_rfl) (fun _ _ _ h => h) (wanted_free rfl _) (fun W hW => by go_simp) ?_
      try simp only [Act.put, List.getElem_toArray, List.getElem_cons_succ, List.getElem_cons_zero, List.setIfInBounds_toArray, List.set_cons_succ, List.set_cons_zero]
      refine wpAnyC_take 9 (.pointer (some ⟨bh, 9, none⟩)) rfl (by kernel_rfl) (by kernel_rfl) (by kernel_rfl) (fun _ _ _ h => h) (wanted_at true rfl rfl rfl rfl) (fun W hW => by obtain ⟨q1, q2, q3, q4⟩ := hW; go_simp) ?_
      try simp only [Act.put, List.getElem_toArray, List.getElem_cons_succ, List.getElem_cons_zero, List.setIfInBounds_toArray, List.set_cons_succ, List.set_cons_zero]
      refine wpAnyC_take 10 (.slice (some ⟨gz, 0, none⟩) 128 cz) rfl (by kernel_rfl) (by kernel_rfl) (by kernel_rfl) (fun _ _ _ h => h) (wanted_at true rfl rfl rfl rfl) (fun W hW => by obtain ⟨q1, q2, q3, q4⟩ := hW; go_simp) ?_
      try simp only [Act.put, List.getElem_toArray, List.getElem_cons_succ, List.getElem_cons_zero, List.setIfInBounds_toArray, List.set_cons_succ, List.set_cons_zero]
      refine wpAnyC_take 11 (.string (strOfNums Z)) rfl (by kernel_rfl) (by kernel_rfl) (by kernel_rfl) (fun _ _ _ h => h) (wanted_at true rfl rfl rfl rfl) (fun W hW => exec_conv (.tmp 164) rfl (.slice (some ⟨gz, 0, none⟩) 128 cz) Z rfl hW.2.2.1) ?_
      try simp only [Act.put, List.getElem_toArray, List.getElem_cons_succ, List.getElem_cons_zero, List.setIfInBounds_toArray, List.set_cons_succ, List.set_cons_zero]
      refine wpAnyC_take 12 (.slice (some ⟨ga, oa, none⟩) len cap) rfl (by kernel_rfl) (by kernel_rfl) (by kernel_rfl) (fun _ _ _ h => h) (wanted_at true rfl rfl rfl rfl) (fun W hW => by obtain ⟨q1, q2, q3, q4⟩ := hW; go_simp) ?_
      try simp only [Act.put, List.getElem_toArray, List.getElem_cons_succ, List.getElem_cons_zero, List.setIfInBounds_toArray, List.set_cons_succ, List.set_cons_zero]
      refine wpAnyC_take 13 (.int .i64 8) rfl (by kernel_rfl) (by kernel_rfl) (by kernel_rfl) (fun _ _ _ h => h) (wanted_at true rfl rfl rfl rfl) (fun W hW => by obtain ⟨q1, q2, q3, q4⟩ := hW; go_simp) ?_
      try simp only [Act.put, List.getElem_toArray, List.getElem_cons_succ, List.getElem_cons_zero, List.setIfInBounds_toArray, List.set_cons_succ, List.set_cons_zero]
      refine wpAnyC_take 14 (.int .i64 128) rfl (by kernel_rfl) (by kernel_rfl) (by kernel_rfl) (fun _ _ _ h => h) (wanted_at true rfl rfl rfl rfl) (fun W hW => by obtain ⟨q1, q2, q3, q4⟩ := hW; go_simp) ?_
      try simp only [Act.put, List.getElem_toArray, List.getElem_cons_succ, List.getElem_cons_zero, List.setIfInBounds_toArray, List.set_cons_succ, List.set_cons_zero]
      refine wpAnyC_take 15 (.slice (some ⟨ga, oa, none⟩) 128 cap) rfl (by kernel_rfl) (by kernel_rfl) (by kernel_rfl) (fun _ _ _ h => h) (wanted_at true rfl rfl rfl rfl) (fun W hW => by obtain ⟨q1, q2, q3, q4⟩ := hW; go_simp) ?_
      try simp only [Act.put, List.getElem_toArray, List.getElem_cons_succ, List.getElem_cons_zero, List.setIfInBounds_toArray, List.set_cons_succ, List.set_cons_zero]
      refine wpAnyC_take 16 (.string (strOfNums Z)) rfl (by kernel_rfl) (by kernel_rfl) (by kernel_rfl) (fun _ _ _ h => h) (wanted_at true rfl rfl rfl rfl) (fun W hW => exec_conv (.tmp 169) rfl (.slice (some ⟨ga, oa, none⟩) 128 cap) Z rfl hW.2.2.2) ?_
      try simp only [Act.put, List.getElem_toArray, List.getElem_cons_succ, List.getElem_cons_zero, List.setIfInBounds_toArray, List.set_cons_succ, List.set_cons_zero]
      refine wpAnyC_take 17 (.bool true) rfl (by kernel_rfl) (by kernel_rfl) (by kernel_rfl) (fun _ _ _ h => h) (wanted_at true rfl rfl rfl rfl) (fun W hW => by go_simp) ?_
      try simp only [Act.put, List.getElem_toArray, List.getElem_cons_succ, List.getElem_cons_zero, List.setIfInBounds_toArray, List.set_cons_succ, List.set_cons_zero]
      refine wpAnyC_take 18 (.bool true) rfl (by kernel_rfl) (by kernel_rfl) (by kernel_rfl) (fun _ _ _ h => h) (wanted_free rfl _) (fun W hW => by go_simp) ?_
      try simp only [Act.put, List.getElem_toArray, List.getElem_cons_succ, List.getElem_cons_zero, List.setIfInBounds_toArray, List.set_cons_succ, List.set_cons_zero]
      refine wpAnyC_take 19 (.bool true) rfl (by kernel_rfl) (by kernel_rfl) (by kernel_rfl) (fun _ _ _ h => h) (wanted_free rfl _) (fun W hW => by go_simp) ?_
      try simp only [Act.put, List.getElem_toArray, List.getElem_cons_succ, List.getElem_cons_zero, List.setIfInBounds_toArray, List.set_cons_succ, List.set_cons_zero]
      refine wpAnyC_done (⟨Of.out.bx, (resV_at Oh.out.bx).2.1, own_rd Rz.out.own, IV.out.rd⟩) (by kernel_rfl) ?_
      go_wp2
      go_ret
      exact ⟨rfl, hbT.out.1.trans (F.out.st.belowT hbT.out.1.size hbT.out.2).1⟩
end Go.Proofs.Ytklboieemljmiaa
