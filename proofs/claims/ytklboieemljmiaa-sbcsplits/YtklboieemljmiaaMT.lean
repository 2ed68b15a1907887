/-
  SbcSplits: the walk. SbcSplits: the walk. SbcSplits: the walk. SbcSplits: the walk.
-/
import Derived.Test.YtklboieemljmiaaMU
namespace Go.Proofs.Ytklboieemljmiaa
open Go.RowKit
set_option linter.unusedVariables false
set_option linter.unusedSimpArgs false

set_option maxRecDepth 100000 in
set_option maxHeartbeats 4000000 in
theorem splits_wk (ga oa len cap n l : Nat) (pt lb k : Int) (Z : List Int) (w : World) (hn1 : 1 ≤ n) (hn6 : n ≤ 6) (hnl : n * 16 ≤ len) (hcap : len ≤ cap) (hcm : cap ≤ maxLen) (hnq : ((len : Int) / 16 ≤ 6 ∧ (len : Int) / 16 = n) ∨ (6 < (len : Int) / 16 ∧ n = 6)) (hk : pt % 4 = k) (hkp : 0 < k) (hk3 : k ≤ 3) (hl : lb % 10 = l) (hl9 : l ≤ 9) (hpt : 0 ≤ pt ∧ pt ≤ 255) (hlb : 0 ≤ lb ∧ lb ≤ 255) (hga : ga < w.heap.size) (hZ : RdAt w (.slice (some ⟨ga, oa, none⟩) len cap) Z) (hZl : Z.length = len) (hZb : Bytes Z) :
    Calls Try.prog 7 #[.slice (some ⟨ga, oa, none⟩) len cap, .int .u8 lb, .int .u8 pt, .bool false] w fun e w' => e = .returned (.bool true) ∧ Below w.heap.size w w' := by
  have HA := Kpt.mk (awake_any w)
  have HD := Kpt.mk (fun W => device_lo 16 k true W (by decide) (by decide))
  have k0 : (0 : Int) ≤ k := by omega
  have k3 : (k : Int) ≤ 3 := by omega
  have hcmI : (cap : Int) ≤ 9223372036854775807 := by unfold maxLen at hcm; omega
  obtain ⟨L, hL⟩ : ∃ L, L = n * 16 := ⟨_, rfl⟩
  obtain ⟨us, hus⟩ : ∃ us, us = (unBs false (Z.take L) n) := ⟨_, rfl⟩
  have husl : us.length = n := by rw [hus]; rw [unBs_len]
  have huso : ∀ b ∈ us, b.ok := by rw [hus]; exact unBs_ok false _ n (take_bytes hZb _) (by rw [List.length_take]; show min L Z.length = n * 16; omega)
  obtain ⟨v1, v2⟩ := view_all k l us huso
  rw [husl] at v1 v2
  obtain ⟨sA, hsA⟩ : ∃ s, s = wrSt st0 nmF l (prL k l us) n := ⟨_, rfl⟩
  have hfA : Fine (2 * n) sA nmF := by
    have := (fine0 nmF).one l (prL k l us) (prL_ok _ _ _ huso) (by rw [prL_len, husl]; exact v1)
    rw [prL_len, husl, ← hsA] at this
    exact this.up (by omega)
  rw [← hsA] at v1 v2
  have HWA : Kpt (∀ W t DA DB, Tw w W k DA DB st0 st0 t → Calls Try.prog 11 #[.pointer (some ⟨DA, 0, none⟩), .agg (Cm.vals ⟨8, false, ((l : Nat) : Int), ((n : Nat) : Int), 0, false, 0, false, false, 0, 0, false, 0, 0, false⟩), .slice (some ⟨ga, oa, none⟩) L cap] W fun e w' => e = .returned (.agg (resV 0 noS (.slice none 0 0))) ∧ ∃ t', Tw w w' k DA DB sA st0 t' ∧ Mv W w' DA DB t t') :=
    ⟨fun W t DA DB h => by
      have hr := rd_sub (A := 0) (m := L) (c' := cap) (rd_below hZ h.be) hZl (by omega) (by omega)
      rw [Nat.add_zero, List.drop_zero] at hr
      have hq : (Z.take L).length = L := by rw [List.length_take]; omega
      have hc := doWr_part W t.BA t.tagA st0 nmF t.SA DA 16 k l n cap _ (Z.take L) ⟨8, false, ((l : Nat) : Int), ((n : Nat) : Int), 0, false, 0, false, false, 0, 0, false, 0, 0, false⟩ h.a (by decide) (by decide) (by decide) (by decide) (by decide) (fun c hc => by cases hc) k0 k3 rfl rfl rfl hn1 (by omega) (by rw [← hL]; exact hr) (by rw [hq, hL]) (take_bytes hZb _) rfl rfl rfl (fun _ _ => rfl)
      rw [← hL, ← hus, ← hsA] at hc
      exact twA_do h hc⟩
  have HWB : Kpt (∀ W t DA DB sB (j lj A : Nat), j < n → l + j = lj → 16 * j = A → Tw w W k DA DB sA sB t → Fine (2 * j) sB nmF → View k l us (sB.seen nmF) j → Calls Try.prog 11 #[.pointer (some ⟨DB, 0, none⟩), .agg (Cm.vals ⟨8, false, ((lj : Nat) : Int), ((1 : Nat) : Int), 0, false, 0, false, false, 0, 0, false, 0, 0, false⟩), .slice (some ⟨ga, oa + A, none⟩) 16 (cap - A)] W fun e w' => e = .returned (.agg (resV 0 noS (.slice none 0 0))) ∧ ∃ sB' t', Tw w w' k DA DB sA sB' t' ∧ Mv W w' DA DB t t' ∧ Fine (2 * (j + 1)) sB' nmF ∧ View k l us (sB'.seen nmF) (j + 1)) :=
    ⟨fun W t DA DB sB j lj A hj hlj hA h hF hV => by
      subst hA
      have hr : RdAt W (.slice (some ⟨ga, oa + 16 * j, none⟩) 16 (cap - 16 * j)) ((Z.drop (j * 16)).take 16) := by
        rw [Nat.mul_comm j 16]
        exact rd_sub (rd_below hZ h.be) hZl (by omega) (by omega)
      refine (twB_one h hF (by omega) hV huso (by omega) (by omega) k0 k3 lj hlj ((Z.drop (j * 16)).take 16) (by rw [hus]; exact un_at Z n j L hL hj (by omega)) (by simp only [List.length_take, List.length_drop]; omega) (bytes_sub hZb _ _) _ _ hr).mono ?_
      rintro e w' ⟨he, sB', t', h1, h2, h3, h4⟩
      exact ⟨he, sB', t', h1, h2, h3.up (by omega), h4⟩⟩
  obtain ⟨PK, hPK⟩ : ∃ P : Nat → List Int, P = fun i => packL true (rdL (sA.seen nmF) 0 i) := ⟨_, rfl⟩
  obtain ⟨QK, hQK⟩ : ∃ P : Nat → List Int, P = fun i => packL true (rdL (sA.seen nmF) i 1) := ⟨_, rfl⟩
  have hP0 : Kpt (PK 0 = []) := ⟨by rw [hPK]; rfl⟩
  have hPs : Kpt (∀ j, PK (j + 1) = PK j ++ QK j) := ⟨fun j => by rw [hPK, hQK]; show packL _ _ = _; rw [rdL_snoc, packL_app]⟩
  have hQl : Kpt (∀ j, (QK j).length = 24) := ⟨fun j => by rw [hQK]; show (packL _ _).length = _; rw [packL_len _ _ (rdL_ok v1 j 1), rdL_len]; rfl⟩
  have hPl : Kpt (∀ j, j ≤ 16 → (PK j).length ≤ 384) := ⟨fun j hj => by rw [hPK]; show (packL _ _).length ≤ _; rw [packL_len _ _ (rdL_ok v1 0 j), rdL_len]; simp only [sz]; split <;> omega⟩
  have HXA : Kpt (∀ W t DA DB sB, Tw w W k DA DB sA sB t → Calls Try.prog 11 #[.pointer (some ⟨DA, 0, none⟩), .agg (Cm.vals ⟨7, false, ((0 : Nat) : Int), ((16 : Nat) : Int), 0, false, 1, false, false, 0, 0, false, 0, 0, false⟩), .slice none 0 0] W fun e w' => ∃ g cap t', e = .returned (.agg (resV 0 noS (.slice (some ⟨g, 0, none⟩) 384 cap))) ∧ Tw w w' k DA DB (rdSt sA 16) sB t' ∧ Mv W w' DA DB t t' ∧ Or2 w w' DA DB t' (.slice (some ⟨g, 0, none⟩) 384 cap) (PK 16) ∧ W.heap.size ≤ g) :=
    ⟨fun W t DA DB sB h => twA_read h hfA (by omega) k0 k3 ⟨7, false, ((0 : Nat) : Int), ((16 : Nat) : Int), 0, false, 1, false, false, 0, 0, false, 0, 0, false⟩ 0 16 _ (show (0 : Int) ≤ 1 by decide) (show (1 : Int) ≤ 4 by decide) (by show knownB k 1 = true; unfold knownB; exact decide_eq_true (by omega)) rfl rfl rfl (by decide) (look_view v2 _ _ _) 384 rfl (PK 16) (by rw [hPK]; rfl)⟩
  have HYB : Kpt (∀ W t DA DB sA' sB (j : Nat), j < 16 → Tw w W k DA DB sA' sB t → Fine (12 + j) sB nmF → View k l us (sB.seen nmF) n → Calls Try.prog 11 #[.pointer (some ⟨DB, 0, none⟩), .agg (Cm.vals ⟨7, false, ((j : Nat) : Int), ((1 : Nat) : Int), 0, false, 1, false, false, 0, 0, false, 0, 0, false⟩), .slice none 0 0] W fun e w' => ∃ g cap sB' t', e = .returned (.agg (resV 0 noS (.slice (some ⟨g, 0, none⟩) 24 cap))) ∧ Tw w w' k DA DB sA' sB' t' ∧ Mv W w' DA DB t t' ∧ Or2 w w' DA DB t' (.slice (some ⟨g, 0, none⟩) 24 cap) (QK j) ∧ W.heap.size ≤ g ∧ Fine (12 + (j + 1)) sB' nmF ∧ View k l us (sB'.seen nmF) n) :=
    ⟨fun W t DA DB sA' sB j hj h hF hV => by
      refine (twB_read h hF (by omega) k0 k3 ⟨7, false, ((j : Nat) : Int), ((1 : Nat) : Int), 0, false, 1, false, false, 0, 0, false, 0, 0, false⟩ j 1 _ (show (0 : Int) ≤ 1 by decide) (show (1 : Int) ≤ 4 by decide) (by show knownB k 1 = true; unfold knownB; exact decide_eq_true (by omega)) rfl rfl rfl (by omega) (look_view hV _ _ _) 24 rfl (QK j) (by rw [hQK, rdL_view hV v2]; rfl)).mono ?_
      rintro e w' ⟨g, cp, t', he, h1, h2, h3, h4⟩
      exact ⟨g, cp, _, t', he, h1, h2, h3, h4, hF.read 1, hV⟩⟩
  have hv0 := Kpt.mk (view0 k l us)
  simp only [Cm.vals] at HWB HXA HYB
  have eL : (16 : Int) * n = L := by omega
  have en : IntKind.u64.wrap (n : Int) = n := by rw [IntKind.wrap_u64]; omega
  have el : IntKind.u64.wrap (l : Int) = l := by rw [IntKind.wrap_u64]; omega
  have hn0 : ¬ (n : Int) = 0 := by omega
  have bn0 : ((n : Int) == 0) = false := beq_eq_false_iff_ne.mpr hn0
  have hLl : L ≤ len := by omega
  have hL16 : 16 ≤ len := by omega
  have hmin : min ((len : Int) / 16) 6 = n := by omega
  have hmin2 : (if (6 : Int) < (len : Int) / 16 then (6 : Int) else (len : Int) / 16) = n := by split <;> omega
  clear hus husl huso v1 v2 hsA hfA hPK hQK hZ hZl hZb hnq hcm hL k0 k3
  go_enter Try.func7, Try.ntmps7
  go_wp2_with (first
    | (have hm := m7; refine (?_ : wpList _ _ _ (Oper.mk none (Op.store 34 _ _) _ _ _ _ :: _) _ _); go_must (refine wpList_store_bx rfl 34 _ _ rfl br _ (resV 0 noS (.slice none 0 0)) rfl rfl Or.out.bx rfl infoR (resV_one _ _ _ _ _) rfl ?_; intro w8 hX_ hg_; replace T := Kpt.mk (T.out.own hg_ Or.out.un Or.out.lo); replace Or := Kpt.mk (Or.out.set hX_ hg_.size); clear hX_ hg_); clear hm m7)
    | (have hm := m6; refine wpList_var rfl 34 rfl zeroR zeroRi ?_; intro br w7 hl_ hX_ h_; have Or := Kpt.mk (T.out.box hl_ hX_); replace T := Kpt.mk (T.out.below h_); clear hl_ hX_ h_; clear hm m6; have m7 : Kpt True := ⟨trivial⟩)
    | (go_at_call 11; have hm := m5; go_must (refine (HWA.out _ _ _ _ T.out).mono ?_; rintro e w6 ⟨rfl, t1, hT, hM⟩; replace T := Kpt.mk hT; clear hT hM Ok hm m5 HWA; have m6 : Kpt True := ⟨trivial⟩))
    | (have hm := m4; refine (?_ : wpList _ _ _ (Oper.mk (some 74) _ _ _ _ _ :: _) _ _); go_must (refine wpList_load_bx rfl 38 _ rfl bk (Cm.vals ⟨8, false, ((l : Nat) : Int), ((n : Nat) : Int), 0, false, 0, false, false, 0, 0, false, 0, 0, false⟩) rfl Ok.out.bx _ Try.underlying38 rfl infoC ?_); clear hm m4; have m5 : Kpt True := ⟨trivial⟩)
    | (have hm := m3; refine (?_ : wpList _ _ _ (Oper.mk none (Op.store 38 _ _) _ _ _ _ :: _) _ _); go_must (refine wpList_store_bx rfl 38 _ _ rfl bk _ (Cm.vals ⟨8, false, ((l : Nat) : Int), ((n : Nat) : Int), 0, false, 0, false, false, 0, 0, false, 0, 0, false⟩) rfl rfl Ok.out.bx rfl infoC (cm_one _) rfl ?_; intro w5 hX_ hg_; replace T := Kpt.mk (T.out.own hg_ Ok.out.un Ok.out.lo); replace Ok := Kpt.mk (Ok.out.set hX_ hg_.size); clear hX_ hg_); clear hm m3; have m4 : Kpt True := ⟨trivial⟩)
    | (have hm := m2; refine wpList_var rfl 38 rfl zeroC zeroCi ?_; intro bk w4 hl_ hX_ h_; have Ok := Kpt.mk (T.out.box hl_ hX_); replace T := Kpt.mk (T.out.below h_); clear hl_ hX_ h_; clear hm m2; have m3 : Kpt True := ⟨trivial⟩)
    | (go_at_call 10; have hm := m1; go_must (refine (HD.out _).mono ?_; rintro e w3 ⟨DB, BB, SB, tagB, rfl, hB1, hB2, hB3, hB4, hB5⟩; obtain ⟨t0, ht0⟩ : ∃ t : T2, t = ⟨BA, tagA, SA, BB, tagB, SB⟩ := ⟨_, rfl⟩; have T : Kpt (Tw w w3 k DA DB st0 st0 t0) := ⟨by rw [ht0]; exact tw_new hda.out hB2 hB1 hbT.out.1 hbT.out.2 hB3 hB4 hB5⟩; clear hB1 hB2 hB3 hB4 hB5 ht0 hda hbT hb1 hm m1 HD HA; have m2 : Kpt True := ⟨trivial⟩))
    | (go_at_call 10; go_must (refine (HD.out _).mono ?_; rintro e w2 ⟨DA, BA, SA, tagA, rfl, hA1, hA2, hA3, -, -⟩; have hda := Kpt.mk hA1; have hbT := Kpt.mk (And.intro (hb1.out.trans (hA2.mono hb1.out.size)) (fun i (hi : i < w.heap.size) => hA3 i (Nat.lt_of_lt_of_le hi hb1.out.size))); clear hA1 hA2 hA3; have m1 : Kpt True := ⟨trivial⟩))
    | (go_at_call 9; go_must (refine HA.out.mono ?_; rintro e w1 ⟨rfl, hb1⟩; replace hb1 := Kpt.mk hb1))
    | fail)
  go_loopg [19, 20, 21] n (fun i r19 r20 r21 wv => ∃ (j : Nat) (t : T2) (sB : St), r19 = .int .i64 (j : Int) ∧ j + i = n ∧ Kpt (Tw w wv k DA DB sA sB t) ∧ Kpt (Fine (2 * j) sB nmF) ∧ Kpt (View k l us (sB.seen nmF) j) ∧ Kpt (Oq w wv DA DB t br (resV 0 noS (.slice none 0 0))))
  case atStart => exact ⟨0, _, st0, rfl, by omega, T, ⟨fine0 nmF⟩, hv0, Or⟩
  case round =>
    clear T Or hv0
    obtain ⟨j, t, sB, rfl, hji, T, F, V, Or⟩ := hrel
    by_cases hjn : j < n
    · have e3 : (j : Int) < n := by omega
      obtain ⟨A, hA⟩ : ∃ A : Nat, 16 * j = A := ⟨_, rfl⟩
      have eA : (16 : Int) * j = A := by omega
      obtain ⟨lj, hlj⟩ : ∃ x : Nat, l + j = x := ⟨_, rfl⟩
      have elj : (l : Int) + j = lj := by omega
      have eljw : IntKind.u64.wrap (lj : Int) = lj := by rw [IntKind.wrap_u64]; omega
      have eAc : (A : Int) + 16 ≤ cap := by omega
      have eAl : (A : Int) ≤ A + 16 := by omega
      have hAc : ¬ cap = A := by omega
      have hHB := Kpt.mk (HWB.out _ t DA DB sB j lj A hjn hlj hA T.out F.out V.out)
      clear hA hlj F V
      go_wp2_with (first
        | (have hm := m2; refine (?_ : wpList _ _ _ (Oper.mk none (Op.store 34 _ _) _ _ _ _ :: _) _ _); go_must (refine wpList_store_bx rfl 34 _ _ rfl bs _ (resV 0 noS (.slice none 0 0)) rfl rfl Os.out.bx rfl infoR (resV_one _ _ _ _ _) rfl ?_; intro wb hX_ hg_; replace Or := Kpt.mk (Or.out.other hg_ (fun e => by have := Option.some.inj e; omega)); replace T := Kpt.mk (T.out.own hg_ Os.out.un Os.out.lo); replace Os := Kpt.mk (Os.out.set hX_ hg_.size); have rs := (resV_at Os.out.bx).1; clear hX_ hg_); clear hm m2)
        | (have hm := m1; refine wpList_var rfl 34 rfl zeroR zeroRi ?_; intro bs wa hl_ hX_ h_; have qr : br < bs := Nat.lt_of_lt_of_le Or.out.bx.lt hl_; have Os := Kpt.mk (T.out.box hl_ hX_); replace T := Kpt.mk (T.out.below h_); replace Or := Kpt.mk (Or.out.mv (Mv.below h_)); clear hl_ hX_ h_; clear hm m1; have m2 : Kpt True := ⟨trivial⟩)
        | (go_at_call 11; go_must (refine hHB.out.mono ?_; rintro e w9 ⟨rfl, sB2, t2, hT, hM, hF, hV⟩; replace T := Kpt.mk hT; replace Or := Kpt.mk (Or.out.mv hM); have F := Kpt.mk hF; have V := Kpt.mk hV; clear hT hM hF hV hHB; have m1 : Kpt True := ⟨trivial⟩))
        | fail)
      go_roundg (n - (j + 1))
      case measure => omega
      case rel => exact ⟨j + 1, _, sB2, by go_num, by omega, T, F, V, Or⟩
    · have e3 : ¬ (j : Int) < n := by omega
      have hjn2 : j = n := by omega
      have F2 : Kpt (Fine (12 + 0) sB nmF) := ⟨F.out.up (by omega)⟩
      have V2 : Kpt (View k l us (sB.seen nmF) n) := ⟨by rw [← hjn2]; exact V.out⟩
      clear F V hjn2 hjn
      have hkg : (k : Int) > 0 := by omega
      go_wp2_with (first
        | (have hm := m2; refine (?_ : wpList _ _ _ (Oper.mk none (Op.store 34 _ _) _ _ _ _ :: _) _ _); go_must (refine wpList_store_bx rfl 34 _ _ rfl bx _ (resV 0 noS (.slice (some ⟨gx, 0, none⟩) 384 cx)) rfl rfl Ox.out.bx rfl infoR (resV_one _ _ _ _ _) rfl ?_; intro wb hX_ hg_; replace Or := Kpt.mk (Or.out.other hg_ (fun e => by have := Option.some.inj e; omega)); replace X := Kpt.mk (X.out.other hg_ (fun g e1 e => by have h1 : gx = g := Option.some.inj e1; have h2 := Option.some.inj e; omega)); replace T := Kpt.mk (T.out.own hg_ Ox.out.un Ox.out.lo); replace Ox := Kpt.mk (Ox.out.set hX_ hg_.size); clear hX_ hg_); clear hm m2)
        | (have hm := m1; refine wpList_var rfl 34 rfl zeroR zeroRi ?_; intro bx wa hl_ hX_ h_; have qr : br < bx := Nat.lt_of_lt_of_le Or.out.bx.lt hl_; have qxx : gx < bx := Nat.lt_of_lt_of_le (X.out.un gx rfl).lt hl_; have Ox := Kpt.mk (T.out.box hl_ hX_); replace T := Kpt.mk (T.out.below h_); replace Or := Kpt.mk (Or.out.mv (Mv.below h_)); replace X := Kpt.mk (X.out.mv (Mv.below h_)); clear hl_ hX_ h_; clear hm m1; have m2 : Kpt True := ⟨trivial⟩)
        | (go_at_call 11; go_must (refine (HXA.out _ _ _ _ _ T.out).mono ?_; rintro e w9 ⟨gx, cx, t2, rfl, hT, hM, hX, hgx⟩; replace T := Kpt.mk hT; have qx : br < gx := Nat.lt_of_lt_of_le Or.out.bx.lt hgx; replace Or := Kpt.mk (Or.out.mv hM); have X := Kpt.mk hX; clear hT hM hX hgx; have m1 : Kpt True := ⟨trivial⟩))
        | fail)
      go_loopg [24, 25, 26] 16 (fun i r24 r25 r26 wq => ∃ (j : Nat) (t : T2) (sA' sB : St) (va : Option Addr) (vn vc : Nat), r24 = .slice va vn vc ∧ r25 = .int .i64 (j : Int) ∧ j + i = 16 ∧ Kpt (Tw w wq k DA DB sA' sB t) ∧ Kpt (Fine (12 + j) sB nmF) ∧ Kpt (View k l us (sB.seen nmF) n) ∧ Kpt (Oq w wq DA DB t br (resV 0 noS (.slice none 0 0))) ∧ Kpt (Oq w wq DA DB t bx (resV 0 noS (.slice (some ⟨gx, 0, none⟩) 384 cx))) ∧ Kpt (Or2 w wq DA DB t (.slice (some ⟨gx, 0, none⟩) 384 cx) (PK 16)) ∧ Kpt (Or2 w wq DA DB t (.slice va vn vc) (PK j)) ∧ (∀ g, (Value.slice va vn vc).ownBlock = some g → gx ≠ g) ∧ ((Value.slice va vn vc).ownBlock ≠ some br ∧ (Value.slice va vn vc).ownBlock ≠ some bx))
      case atStart => exact ⟨0, _, _, _, none, 0, 0, rfl, rfl, by omega, T, F2, V2, Or, Ox, X, ⟨by rw [hP0.out]; exact Or2.nil _ _ _ _ _⟩, (fun g e => by cases e), (fun e => by cases e), (fun e => by cases e)⟩
      case round =>
        clear T F2 V2 Or Ox X
        obtain ⟨j, t, sA', sB, va, vn, vc, rfl, rfl, hji, T, F, V, Or, Ox, X, Y, hne0, hnb0⟩ := hrel
        have hne := Kpt.mk hne0
        have hnb := Kpt.mk hnb0
        clear hne0 hnb0
        by_cases hjn : j < 16
        · have e4 : (j : Int) < 16 := by omega
          have ejw : IntKind.u64.wrap (j : Int) = j := by rw [IntKind.wrap_u64]; omega
          have hHB := Kpt.mk (HYB.out _ t DA DB sA' sB j hjn T.out F.out V.out)
          have hpl := Kpt.mk (hPl.out j (by omega))
          clear F V
          go_wp2_with (first
            | (have hm := m3; refine (?_ : wpList _ _ _ (Oper.mk (some 125) _ _ _ _ _ :: _) _ _); go_must (refine wpList_append_mid rfl (.tmp 122) (.tmp 124) rfl w.heap.size (.slice va vn vc) (PK j) (QK j) rfl Y.out.own (.slice (some ⟨gy, 0, none⟩) 24 cy) rfl D.out.own.rd (by rw [hQl.out]; have := hpl.out; omega) T.out.n0 ?_; intro v7 w7 hM hg hn; have Or0 := Kpt.mk Or.out.bx.lt; have Ox0 := Kpt.mk Ox.out.bx.lt; obtain ⟨ya, yc, hv', -⟩ := hM.out.ex; rw [← hPs.out] at hM hv'; obtain ⟨YL, hYL⟩ : ∃ n, n = (PK (j + 1)).length := (⟨_, rfl⟩); rw [← hYL] at hv'; subst hv'; have hY := Y.out.app T.out hM.out hg.out hn.out; have hq : Kpt (∀ g, (Value.slice ya YL yc).ownBlock = some g → gx ≠ g) := ⟨fun g e => (hn.out.elim (fun h => hne.out g (by rw [← h]; exact e)) (fun h e2 => absurd (X.out.un gx rfl).lt (Nat.not_lt.2 (e2 ▸ h g e))))⟩; replace Or := Kpt.mk (Or.out.other hg.out (fun e => hnb.out.1 e)); replace Ox := Kpt.mk (Ox.out.other hg.out (fun e => hnb.out.2 e)); replace X := Kpt.mk (X.out.other hg.out (fun g e1 e => by have h1 : gx = g := Option.some.inj e1; exact hne.out g e h1)); have hnb2 : Kpt ((Value.slice ya YL yc).ownBlock ≠ some br ∧ (Value.slice ya YL yc).ownBlock ≠ some bx) := ⟨fun e => hn.out.elim (fun h => hnb.out.1 (by rw [← h]; exact e)) (fun h => absurd Or0.out (Nat.not_lt.2 (h br e))), fun e => hn.out.elim (fun h => hnb.out.2 (by rw [← h]; exact e)) (fun h => absurd Ox0.out (Nat.not_lt.2 (h bx e)))⟩; replace T := Kpt.mk hY.2; have Y2 := Kpt.mk hY.1; clear hY; clear hYL hm m3))
            | (have hm := m2; refine (?_ : wpList _ _ _ (Oper.mk none (Op.store 34 _ _) _ _ _ _ :: _) _ _); go_must (refine wpList_store_bx rfl 34 _ _ rfl b_y _ (resV 0 noS (.slice (some ⟨gy, 0, none⟩) 24 cy)) rfl rfl Oy.out.bx rfl infoR (resV_one _ _ _ _ _) rfl ?_; intro we hX_ hg_; replace Or := Kpt.mk (Or.out.other hg_ (fun e => by have := Option.some.inj e; have := qb.out.1; omega)); replace Ox := Kpt.mk (Ox.out.other hg_ (fun e => by have := Option.some.inj e; have := qb.out.2.1; omega)); replace X := Kpt.mk (X.out.other hg_ (fun g e1 e => by have h1 : gx = g := Option.some.inj e1; have h2 := Option.some.inj e; have := qb.out.2.2.1; omega)); replace Y := Kpt.mk (Y.out.other hg_ (fun g e1 e => by have := Option.some.inj e; have := qb.out.2.2.2.2 g e1; omega)); replace D := Kpt.mk (D.out.other hg_ (fun g e1 e => by have h1 : gy = g := Option.some.inj e1; have h2 := Option.some.inj e; have := qb.out.2.2.2.1; omega)); replace T := Kpt.mk (T.out.own hg_ Oy.out.un Oy.out.lo); replace Oy := Kpt.mk (Oy.out.set hX_ hg_.size); have ry := (resV_at Oy.out.bx).1; have rd := (resV_at Oy.out.bx).2.1; clear hX_ hg_); clear hm m2; have m3 : Kpt True := ⟨trivial⟩)
            | (have hm := m1; refine wpList_var rfl 34 rfl zeroR zeroRi ?_; intro b_y wd hl_ hX_ h_; have qb : Kpt (br < b_y ∧ bx < b_y ∧ gx < b_y ∧ gy < b_y ∧ ∀ g, (Value.slice va vn vc).ownBlock = some g → g < b_y) := ⟨Nat.lt_of_lt_of_le Or.out.bx.lt hl_, Nat.lt_of_lt_of_le Ox.out.bx.lt hl_, Nat.lt_of_lt_of_le (X.out.un gx rfl).lt hl_, Nat.lt_of_lt_of_le (D.out.un gy rfl).lt hl_, fun g e => Nat.lt_of_lt_of_le (Y.out.un g e).lt hl_⟩; have Oy := Kpt.mk (T.out.box hl_ hX_); replace T := Kpt.mk (T.out.below h_); replace Or := Kpt.mk (Or.out.mv (Mv.below h_)); replace Ox := Kpt.mk (Ox.out.mv (Mv.below h_)); replace X := Kpt.mk (X.out.mv (Mv.below h_)); replace Y := Kpt.mk (Y.out.mv (Mv.below h_)); replace D := Kpt.mk (D.out.mv (Mv.below h_)); clear hl_ hX_ h_; clear hm m1; have m2 : Kpt True := ⟨trivial⟩)
            | (go_at_call 11; go_must (refine hHB.out.mono ?_; rintro e wc ⟨gy, cy, sB2, t2, rfl, hT, hM, hD, hgy, hF, hV⟩; have qy : Kpt (br < gy ∧ bx < gy ∧ gx < gy ∧ ∀ g, (Value.slice va vn vc).ownBlock = some g → g < gy) := ⟨Nat.lt_of_lt_of_le Or.out.bx.lt hgy, Nat.lt_of_lt_of_le Ox.out.bx.lt hgy, Nat.lt_of_lt_of_le (X.out.un gx rfl).lt hgy, fun g e => Nat.lt_of_lt_of_le (Y.out.un g e).lt hgy⟩; replace T := Kpt.mk hT; replace Or := Kpt.mk (Or.out.mv hM); replace Ox := Kpt.mk (Ox.out.mv hM); replace X := Kpt.mk (X.out.mv hM); replace Y := Kpt.mk (Y.out.mv hM); have D := Kpt.mk hD; have F := Kpt.mk hF; have V := Kpt.mk hV; clear hT hM hD hF hV hgy hHB; have m1 : Kpt True := ⟨trivial⟩))
            | fail)
          go_roundg (16 - (j + 1))
          case measure => omega
          case rel => exact ⟨j + 1, _, _, _, ya, YL, yc, rfl, by go_num, by omega, T, F, V, Or, Ox, X, Y2, hq.out, hnb2.out⟩
        · have e4 : ¬ (j : Int) < 16 := by omega
          have hj16 : j = 16 := by omega
          have hY : Kpt (RdAt wr (.slice va vn vc) (PK 16)) := ⟨by rw [← hj16]; exact Y.out.own.rd⟩
          have c1 := conv_rd hY.out
          have c2 := conv_rd X.out.own.rd
          have q1 := (resV_at Or.out.bx).1
          have q2 := (resV_at Ox.out.bx).1
          have q3 := (resV_at Ox.out.bx).2.1
          have hend := Kpt.mk T.out.be
          clear hj16 hjn hY HXA HYB HWB hPs hPl hQl hP0 F V T X Y Or Ox hne hnb
          obtain ⟨sD, hsD⟩ : ∃ s, s = strOfNums (PK 16) := ⟨_, rfl⟩
          rw [← hsD] at c1 c2
          clear hsD
          go_wp2_with fail
          go_ret
          exact ⟨rfl, hend.out⟩
end Go.Proofs.Ytklboieemljmiaa

namespace Go.Proofs.Ytklboieemljmiaa
open Go.RowKit
set_option linter.unusedVariables false
set_option linter.unusedSimpArgs false

set_option maxRecDepth 100000 in
set_option maxHeartbeats 4000000 in
theorem splits_wz (ga oa len cap n l : Nat) (pt lb : Int) (Z : List Int) (w : World) (hn1 : 1 ≤ n) (hn6 : n ≤ 6) (hnl : n * 16 ≤ len) (hcap : len ≤ cap) (hcm : cap ≤ maxLen) (hnq : ((len : Int) / 16 ≤ 6 ∧ (len : Int) / 16 = n) ∨ (6 < (len : Int) / 16 ∧ n = 6)) (hk : pt % 4 = 0) (hl : lb % 10 = l) (hl9 : l ≤ 9) (hpt : 0 ≤ pt ∧ pt ≤ 255) (hlb : 0 ≤ lb ∧ lb ≤ 255) (hga : ga < w.heap.size) (hZ : RdAt w (.slice (some ⟨ga, oa, none⟩) len cap) Z) (hZl : Z.length = len) (hZb : Bytes Z) :
    Calls Try.prog 7 #[.slice (some ⟨ga, oa, none⟩) len cap, .int .u8 lb, .int .u8 pt, .bool false] w fun e w' => e = .returned (.bool true) ∧ Below w.heap.size w w' := by
  have HA := Kpt.mk (awake_any w)
  have HD := Kpt.mk (fun W => device_lo 16 0 true W (by decide) (by decide))
  have k0 : (0 : Int) ≤ 0 := by omega
  have k3 : (0 : Int) ≤ 3 := by omega
  have hcmI : (cap : Int) ≤ 9223372036854775807 := by unfold maxLen at hcm; omega
  obtain ⟨L, hL⟩ : ∃ L, L = n * 16 := ⟨_, rfl⟩
  obtain ⟨us, hus⟩ : ∃ us, us = (unBs false (Z.take L) n) := ⟨_, rfl⟩
  have husl : us.length = n := by rw [hus]; rw [unBs_len]
  have huso : ∀ b ∈ us, b.ok := by rw [hus]; exact unBs_ok false _ n (take_bytes hZb _) (by rw [List.length_take]; show min L Z.length = n * 16; omega)
  obtain ⟨v1, v2⟩ := view_all 0 l us huso
  rw [husl] at v1 v2
  obtain ⟨sA, hsA⟩ : ∃ s, s = wrSt st0 nmF l (prL 0 l us) n := ⟨_, rfl⟩
  have hfA : Fine (2 * n) sA nmF := by
    have := (fine0 nmF).one l (prL 0 l us) (prL_ok _ _ _ huso) (by rw [prL_len, husl]; exact v1)
    rw [prL_len, husl, ← hsA] at this
    exact this.up (by omega)
  rw [← hsA] at v1 v2
  have HWA : Kpt (∀ W t DA DB, Tw w W 0 DA DB st0 st0 t → Calls Try.prog 11 #[.pointer (some ⟨DA, 0, none⟩), .agg (Cm.vals ⟨8, false, ((l : Nat) : Int), ((n : Nat) : Int), 0, false, 0, false, false, 0, 0, false, 0, 0, false⟩), .slice (some ⟨ga, oa, none⟩) L cap] W fun e w' => e = .returned (.agg (resV 0 noS (.slice none 0 0))) ∧ ∃ t', Tw w w' 0 DA DB sA st0 t' ∧ Mv W w' DA DB t t') :=
    ⟨fun W t DA DB h => by
      have hr := rd_sub (A := 0) (m := L) (c' := cap) (rd_below hZ h.be) hZl (by omega) (by omega)
      rw [Nat.add_zero, List.drop_zero] at hr
      have hq : (Z.take L).length = L := by rw [List.length_take]; omega
      have hc := doWr_part W t.BA t.tagA st0 nmF t.SA DA 16 0 l n cap _ (Z.take L) ⟨8, false, ((l : Nat) : Int), ((n : Nat) : Int), 0, false, 0, false, false, 0, 0, false, 0, 0, false⟩ h.a (by decide) (by decide) (by decide) (by decide) (by decide) (fun c hc => by cases hc) k0 k3 rfl rfl rfl hn1 (by omega) (by rw [← hL]; exact hr) (by rw [hq, hL]) (take_bytes hZb _) rfl rfl rfl (fun _ _ => rfl)
      rw [← hL, ← hus, ← hsA] at hc
      exact twA_do h hc⟩
  have HWB : Kpt (∀ W t DA DB sB (j lj A : Nat), j < n → l + j = lj → 16 * j = A → Tw w W 0 DA DB sA sB t → Fine (2 * j) sB nmF → View 0 l us (sB.seen nmF) j → Calls Try.prog 11 #[.pointer (some ⟨DB, 0, none⟩), .agg (Cm.vals ⟨8, false, ((lj : Nat) : Int), ((1 : Nat) : Int), 0, false, 0, false, false, 0, 0, false, 0, 0, false⟩), .slice (some ⟨ga, oa + A, none⟩) 16 (cap - A)] W fun e w' => e = .returned (.agg (resV 0 noS (.slice none 0 0))) ∧ ∃ sB' t', Tw w w' 0 DA DB sA sB' t' ∧ Mv W w' DA DB t t' ∧ Fine (2 * (j + 1)) sB' nmF ∧ View 0 l us (sB'.seen nmF) (j + 1)) :=
    ⟨fun W t DA DB sB j lj A hj hlj hA h hF hV => by
      subst hA
      have hr : RdAt W (.slice (some ⟨ga, oa + 16 * j, none⟩) 16 (cap - 16 * j)) ((Z.drop (j * 16)).take 16) := by
        rw [Nat.mul_comm j 16]
        exact rd_sub (rd_below hZ h.be) hZl (by omega) (by omega)
      refine (twB_one h hF (by omega) hV huso (by omega) (by omega) k0 k3 lj hlj ((Z.drop (j * 16)).take 16) (by rw [hus]; exact un_at Z n j L hL hj (by omega)) (by simp only [List.length_take, List.length_drop]; omega) (bytes_sub hZb _ _) _ _ hr).mono ?_
      rintro e w' ⟨he, sB', t', h1, h2, h3, h4⟩
      exact ⟨he, sB', t', h1, h2, h3.up (by omega), h4⟩⟩
  obtain ⟨PK, hPK⟩ : ∃ P : Nat → List Int, P = fun i => packL false (rdL (sA.seen nmF) 0 i) := ⟨_, rfl⟩
  obtain ⟨QK, hQK⟩ : ∃ P : Nat → List Int, P = fun i => packL false (rdL (sA.seen nmF) i 1) := ⟨_, rfl⟩
  have hP0 : Kpt (PK 0 = []) := ⟨by rw [hPK]; rfl⟩
  have hPs : Kpt (∀ j, PK (j + 1) = PK j ++ QK j) := ⟨fun j => by rw [hPK, hQK]; show packL _ _ = _; rw [rdL_snoc, packL_app]⟩
  have hQl : Kpt (∀ j, (QK j).length = 16) := ⟨fun j => by rw [hQK]; show (packL _ _).length = _; rw [packL_len _ _ (rdL_ok v1 j 1), rdL_len]; rfl⟩
  have hPl : Kpt (∀ j, j ≤ 16 → (PK j).length ≤ 384) := ⟨fun j hj => by rw [hPK]; show (packL _ _).length ≤ _; rw [packL_len _ _ (rdL_ok v1 0 j), rdL_len]; simp only [sz]; split <;> omega⟩
  have HXA : Kpt (∀ W t DA DB sB, Tw w W 0 DA DB sA sB t → Calls Try.prog 11 #[.pointer (some ⟨DA, 0, none⟩), .agg (Cm.vals ⟨7, false, ((0 : Nat) : Int), ((16 : Nat) : Int), 0, false, 0, false, false, 0, 0, false, 0, 0, false⟩), .slice none 0 0] W fun e w' => ∃ g cap t', e = .returned (.agg (resV 0 noS (.slice (some ⟨g, 0, none⟩) 256 cap))) ∧ Tw w w' 0 DA DB (rdSt sA 16) sB t' ∧ Mv W w' DA DB t t' ∧ Or2 w w' DA DB t' (.slice (some ⟨g, 0, none⟩) 256 cap) (PK 16) ∧ W.heap.size ≤ g) :=
    ⟨fun W t DA DB sB h => twA_read h hfA (by omega) k0 k3 ⟨7, false, ((0 : Nat) : Int), ((16 : Nat) : Int), 0, false, 0, false, false, 0, 0, false, 0, 0, false⟩ 0 16 _ (show (0 : Int) ≤ 0 by decide) (show (0 : Int) ≤ 4 by decide) (by show knownB 0 0 = true; unfold knownB; exact decide_eq_true (by omega)) rfl rfl rfl (by decide) (look_view v2 _ _ _) 256 rfl (PK 16) (by rw [hPK]; rfl)⟩
  have HYB : Kpt (∀ W t DA DB sA' sB (j : Nat), j < 16 → Tw w W 0 DA DB sA' sB t → Fine (12 + j) sB nmF → View 0 l us (sB.seen nmF) n → Calls Try.prog 11 #[.pointer (some ⟨DB, 0, none⟩), .agg (Cm.vals ⟨7, false, ((j : Nat) : Int), ((1 : Nat) : Int), 0, false, 0, false, false, 0, 0, false, 0, 0, false⟩), .slice none 0 0] W fun e w' => ∃ g cap sB' t', e = .returned (.agg (resV 0 noS (.slice (some ⟨g, 0, none⟩) 16 cap))) ∧ Tw w w' 0 DA DB sA' sB' t' ∧ Mv W w' DA DB t t' ∧ Or2 w w' DA DB t' (.slice (some ⟨g, 0, none⟩) 16 cap) (QK j) ∧ W.heap.size ≤ g ∧ Fine (12 + (j + 1)) sB' nmF ∧ View 0 l us (sB'.seen nmF) n) :=
    ⟨fun W t DA DB sA' sB j hj h hF hV => by
      refine (twB_read h hF (by omega) k0 k3 ⟨7, false, ((j : Nat) : Int), ((1 : Nat) : Int), 0, false, 0, false, false, 0, 0, false, 0, 0, false⟩ j 1 _ (show (0 : Int) ≤ 0 by decide) (show (0 : Int) ≤ 4 by decide) (by show knownB 0 0 = true; unfold knownB; exact decide_eq_true (by omega)) rfl rfl rfl (by omega) (look_view hV _ _ _) 16 rfl (QK j) (by rw [hQK, rdL_view hV v2]; rfl)).mono ?_
      rintro e w' ⟨g, cp, t', he, h1, h2, h3, h4⟩
      exact ⟨g, cp, _, t', he, h1, h2, h3, h4, hF.read 1, hV⟩⟩
  have hv0 := Kpt.mk (view0 0 l us)
  simp only [Cm.vals] at HWB HXA HYB
  have eL : (16 : Int) * n = L := by omega
  have en : IntKind.u64.wrap (n : Int) = n := by rw [IntKind.wrap_u64]; omega
  have el : IntKind.u64.wrap (l : Int) = l := by rw [IntKind.wrap_u64]; omega
  have hn0 : ¬ (n : Int) = 0 := by omega
  have bn0 : ((n : Int) == 0) = false := beq_eq_false_iff_ne.mpr hn0
  have hLl : L ≤ len := by omega
  have hL16 : 16 ≤ len := by omega
  have hmin : min ((len : Int) / 16) 6 = n := by omega
  have hmin2 : (if (6 : Int) < (len : Int) / 16 then (6 : Int) else (len : Int) / 16) = n := by split <;> omega
  clear hus husl huso v1 v2 hsA hfA hPK hQK hZ hZl hZb hnq hcm hL k0 k3
  go_enter Try.func7, Try.ntmps7
  go_wp2_with (first
    | (have hm := m7; refine (?_ : wpList _ _ _ (Oper.mk none (Op.store 34 _ _) _ _ _ _ :: _) _ _); go_must (refine wpList_store_bx rfl 34 _ _ rfl br _ (resV 0 noS (.slice none 0 0)) rfl rfl Or.out.bx rfl infoR (resV_one _ _ _ _ _) rfl ?_; intro w8 hX_ hg_; replace T := Kpt.mk (T.out.own hg_ Or.out.un Or.out.lo); replace Or := Kpt.mk (Or.out.set hX_ hg_.size); clear hX_ hg_); clear hm m7)
    | (have hm := m6; refine wpList_var rfl 34 rfl zeroR zeroRi ?_; intro br w7 hl_ hX_ h_; have Or := Kpt.mk (T.out.box hl_ hX_); replace T := Kpt.mk (T.out.below h_); clear hl_ hX_ h_; clear hm m6; have m7 : Kpt True := ⟨trivial⟩)
    | (go_at_call 11; have hm := m5; go_must (refine (HWA.out _ _ _ _ T.out).mono ?_; rintro e w6 ⟨rfl, t1, hT, hM⟩; replace T := Kpt.mk hT; clear hT hM Ok hm m5 HWA; have m6 : Kpt True := ⟨trivial⟩))
    | (have hm := m4; refine (?_ : wpList _ _ _ (Oper.mk (some 74) _ _ _ _ _ :: _) _ _); go_must (refine wpList_load_bx rfl 38 _ rfl bk (Cm.vals ⟨8, false, ((l : Nat) : Int), ((n : Nat) : Int), 0, false, 0, false, false, 0, 0, false, 0, 0, false⟩) rfl Ok.out.bx _ Try.underlying38 rfl infoC ?_); clear hm m4; have m5 : Kpt True := ⟨trivial⟩)
    | (have hm := m3; refine (?_ : wpList _ _ _ (Oper.mk none (Op.store 38 _ _) _ _ _ _ :: _) _ _); go_must (refine wpList_store_bx rfl 38 _ _ rfl bk _ (Cm.vals ⟨8, false, ((l : Nat) : Int), ((n : Nat) : Int), 0, false, 0, false, false, 0, 0, false, 0, 0, false⟩) rfl rfl Ok.out.bx rfl infoC (cm_one _) rfl ?_; intro w5 hX_ hg_; replace T := Kpt.mk (T.out.own hg_ Ok.out.un Ok.out.lo); replace Ok := Kpt.mk (Ok.out.set hX_ hg_.size); clear hX_ hg_); clear hm m3; have m4 : Kpt True := ⟨trivial⟩)
    | (have hm := m2; refine wpList_var rfl 38 rfl zeroC zeroCi ?_; intro bk w4 hl_ hX_ h_; have Ok := Kpt.mk (T.out.box hl_ hX_); replace T := Kpt.mk (T.out.below h_); clear hl_ hX_ h_; clear hm m2; have m3 : Kpt True := ⟨trivial⟩)
    | (go_at_call 10; have hm := m1; go_must (refine (HD.out _).mono ?_; rintro e w3 ⟨DB, BB, SB, tagB, rfl, hB1, hB2, hB3, hB4, hB5⟩; obtain ⟨t0, ht0⟩ : ∃ t : T2, t = ⟨BA, tagA, SA, BB, tagB, SB⟩ := ⟨_, rfl⟩; have T : Kpt (Tw w w3 0 DA DB st0 st0 t0) := ⟨by rw [ht0]; exact tw_new hda.out hB2 hB1 hbT.out.1 hbT.out.2 hB3 hB4 hB5⟩; clear hB1 hB2 hB3 hB4 hB5 ht0 hda hbT hb1 hm m1 HD HA; have m2 : Kpt True := ⟨trivial⟩))
    | (go_at_call 10; go_must (refine (HD.out _).mono ?_; rintro e w2 ⟨DA, BA, SA, tagA, rfl, hA1, hA2, hA3, -, -⟩; have hda := Kpt.mk hA1; have hbT := Kpt.mk (And.intro (hb1.out.trans (hA2.mono hb1.out.size)) (fun i (hi : i < w.heap.size) => hA3 i (Nat.lt_of_lt_of_le hi hb1.out.size))); clear hA1 hA2 hA3; have m1 : Kpt True := ⟨trivial⟩))
    | (go_at_call 9; go_must (refine HA.out.mono ?_; rintro e w1 ⟨rfl, hb1⟩; replace hb1 := Kpt.mk hb1))
    | fail)
  go_loopg [19, 20, 21] n (fun i r19 r20 r21 wv => ∃ (j : Nat) (t : T2) (sB : St), r19 = .int .i64 (j : Int) ∧ j + i = n ∧ Kpt (Tw w wv 0 DA DB sA sB t) ∧ Kpt (Fine (2 * j) sB nmF) ∧ Kpt (View 0 l us (sB.seen nmF) j) ∧ Kpt (Oq w wv DA DB t br (resV 0 noS (.slice none 0 0))))
  case atStart => exact ⟨0, _, st0, rfl, by omega, T, ⟨fine0 nmF⟩, hv0, Or⟩
  case round =>
    clear T Or hv0
    obtain ⟨j, t, sB, rfl, hji, T, F, V, Or⟩ := hrel
    by_cases hjn : j < n
    · have e3 : (j : Int) < n := by omega
      obtain ⟨A, hA⟩ : ∃ A : Nat, 16 * j = A := ⟨_, rfl⟩
      have eA : (16 : Int) * j = A := by omega
      obtain ⟨lj, hlj⟩ : ∃ x : Nat, l + j = x := ⟨_, rfl⟩
      have elj : (l : Int) + j = lj := by omega
      have eljw : IntKind.u64.wrap (lj : Int) = lj := by rw [IntKind.wrap_u64]; omega
      have eAc : (A : Int) + 16 ≤ cap := by omega
      have eAl : (A : Int) ≤ A + 16 := by omega
      have hAc : ¬ cap = A := by omega
      have hHB := Kpt.mk (HWB.out _ t DA DB sB j lj A hjn hlj hA T.out F.out V.out)
      clear hA hlj F V
      go_wp2_with (first
        | (have hm := m2; refine (?_ : wpList _ _ _ (Oper.mk none (Op.store 34 _ _) _ _ _ _ :: _) _ _); go_must (refine wpList_store_bx rfl 34 _ _ rfl bs _ (resV 0 noS (.slice none 0 0)) rfl rfl Os.out.bx rfl infoR (resV_one _ _ _ _ _) rfl ?_; intro wb hX_ hg_; replace Or := Kpt.mk (Or.out.other hg_ (fun e => by have := Option.some.inj e; omega)); replace T := Kpt.mk (T.out.own hg_ Os.out.un Os.out.lo); replace Os := Kpt.mk (Os.out.set hX_ hg_.size); have rs := (resV_at Os.out.bx).1; clear hX_ hg_); clear hm m2)
        | (have hm := m1; refine wpList_var rfl 34 rfl zeroR zeroRi ?_; intro bs wa hl_ hX_ h_; have qr : br < bs := Nat.lt_of_lt_of_le Or.out.bx.lt hl_; have Os := Kpt.mk (T.out.box hl_ hX_); replace T := Kpt.mk (T.out.below h_); replace Or := Kpt.mk (Or.out.mv (Mv.below h_)); clear hl_ hX_ h_; clear hm m1; have m2 : Kpt True := ⟨trivial⟩)
        | (go_at_call 11; go_must (refine hHB.out.mono ?_; rintro e w9 ⟨rfl, sB2, t2, hT, hM, hF, hV⟩; replace T := Kpt.mk hT; replace Or := Kpt.mk (Or.out.mv hM); have F := Kpt.mk hF; have V := Kpt.mk hV; clear hT hM hF hV hHB; have m1 : Kpt True := ⟨trivial⟩))
        | fail)
      go_roundg (n - (j + 1))
      case measure => omega
      case rel => exact ⟨j + 1, _, sB2, by go_num, by omega, T, F, V, Or⟩
    · have e3 : ¬ (j : Int) < n := by omega
      have hjn2 : j = n := by omega
      have F2 : Kpt (Fine (12 + 0) sB nmF) := ⟨F.out.up (by omega)⟩
      have V2 : Kpt (View 0 l us (sB.seen nmF) n) := ⟨by rw [← hjn2]; exact V.out⟩
      clear F V hjn2 hjn
      go_wp2_with (first
        | (have hm := m2; refine (?_ : wpList _ _ _ (Oper.mk none (Op.store 34 _ _) _ _ _ _ :: _) _ _); go_must (refine wpList_store_bx rfl 34 _ _ rfl bx _ (resV 0 noS (.slice (some ⟨gx, 0, none⟩) 256 cx)) rfl rfl Ox.out.bx rfl infoR (resV_one _ _ _ _ _) rfl ?_; intro wb hX_ hg_; replace Or := Kpt.mk (Or.out.other hg_ (fun e => by have := Option.some.inj e; omega)); replace X := Kpt.mk (X.out.other hg_ (fun g e1 e => by have h1 : gx = g := Option.some.inj e1; have h2 := Option.some.inj e; omega)); replace T := Kpt.mk (T.out.own hg_ Ox.out.un Ox.out.lo); replace Ox := Kpt.mk (Ox.out.set hX_ hg_.size); clear hX_ hg_); clear hm m2)
        | (have hm := m1; refine wpList_var rfl 34 rfl zeroR zeroRi ?_; intro bx wa hl_ hX_ h_; have qr : br < bx := Nat.lt_of_lt_of_le Or.out.bx.lt hl_; have qxx : gx < bx := Nat.lt_of_lt_of_le (X.out.un gx rfl).lt hl_; have Ox := Kpt.mk (T.out.box hl_ hX_); replace T := Kpt.mk (T.out.below h_); replace Or := Kpt.mk (Or.out.mv (Mv.below h_)); replace X := Kpt.mk (X.out.mv (Mv.below h_)); clear hl_ hX_ h_; clear hm m1; have m2 : Kpt True := ⟨trivial⟩)
        | (go_at_call 11; go_must (refine (HXA.out _ _ _ _ _ T.out).mono ?_; rintro e w9 ⟨gx, cx, t2, rfl, hT, hM, hX, hgx⟩; replace T := Kpt.mk hT; have qx : br < gx := Nat.lt_of_lt_of_le Or.out.bx.lt hgx; replace Or := Kpt.mk (Or.out.mv hM); have X := Kpt.mk hX; clear hT hM hX hgx; have m1 : Kpt True := ⟨trivial⟩))
        | fail)
      go_loopg [24, 25, 26] 16 (fun i r24 r25 r26 wq => ∃ (j : Nat) (t : T2) (sA' sB : St) (va : Option Addr) (vn vc : Nat), r24 = .slice va vn vc ∧ r25 = .int .i64 (j : Int) ∧ j + i = 16 ∧ Kpt (Tw w wq 0 DA DB sA' sB t) ∧ Kpt (Fine (12 + j) sB nmF) ∧ Kpt (View 0 l us (sB.seen nmF) n) ∧ Kpt (Oq w wq DA DB t br (resV 0 noS (.slice none 0 0))) ∧ Kpt (Oq w wq DA DB t bx (resV 0 noS (.slice (some ⟨gx, 0, none⟩) 256 cx))) ∧ Kpt (Or2 w wq DA DB t (.slice (some ⟨gx, 0, none⟩) 256 cx) (PK 16)) ∧ Kpt (Or2 w wq DA DB t (.slice va vn vc) (PK j)) ∧ (∀ g, (Value.slice va vn vc).ownBlock = some g → gx ≠ g) ∧ ((Value.slice va vn vc).ownBlock ≠ some br ∧ (Value.slice va vn vc).ownBlock ≠ some bx))
      case atStart => exact ⟨0, _, _, _, none, 0, 0, rfl, rfl, by omega, T, F2, V2, Or, Ox, X, ⟨by rw [hP0.out]; exact Or2.nil _ _ _ _ _⟩, (fun g e => by cases e), (fun e => by cases e), (fun e => by cases e)⟩
      case round =>
        clear T F2 V2 Or Ox X
        obtain ⟨j, t, sA', sB, va, vn, vc, rfl, rfl, hji, T, F, V, Or, Ox, X, Y, hne0, hnb0⟩ := hrel
        have hne := Kpt.mk hne0
        have hnb := Kpt.mk hnb0
        clear hne0 hnb0
        by_cases hjn : j < 16
        · have e4 : (j : Int) < 16 := by omega
          have ejw : IntKind.u64.wrap (j : Int) = j := by rw [IntKind.wrap_u64]; omega
          have hHB := Kpt.mk (HYB.out _ t DA DB sA' sB j hjn T.out F.out V.out)
          have hpl := Kpt.mk (hPl.out j (by omega))
          clear F V
          go_wp2_with (first
            | (have hm := m3; refine (?_ : wpList _ _ _ (Oper.mk (some 125) _ _ _ _ _ :: _) _ _); go_must (refine wpList_append_mid rfl (.tmp 122) (.tmp 124) rfl w.heap.size (.slice va vn vc) (PK j) (QK j) rfl Y.out.own (.slice (some ⟨gy, 0, none⟩) 16 cy) rfl D.out.own.rd (by rw [hQl.out]; have := hpl.out; omega) T.out.n0 ?_; intro v7 w7 hM hg hn; have Or0 := Kpt.mk Or.out.bx.lt; have Ox0 := Kpt.mk Ox.out.bx.lt; obtain ⟨ya, yc, hv', -⟩ := hM.out.ex; rw [← hPs.out] at hM hv'; obtain ⟨YL, hYL⟩ : ∃ n, n = (PK (j + 1)).length := (⟨_, rfl⟩); rw [← hYL] at hv'; subst hv'; have hY := Y.out.app T.out hM.out hg.out hn.out; have hq : Kpt (∀ g, (Value.slice ya YL yc).ownBlock = some g → gx ≠ g) := ⟨fun g e => (hn.out.elim (fun h => hne.out g (by rw [← h]; exact e)) (fun h e2 => absurd (X.out.un gx rfl).lt (Nat.not_lt.2 (e2 ▸ h g e))))⟩; replace Or := Kpt.mk (Or.out.other hg.out (fun e => hnb.out.1 e)); replace Ox := Kpt.mk (Ox.out.other hg.out (fun e => hnb.out.2 e)); replace X := Kpt.mk (X.out.other hg.out (fun g e1 e => by have h1 : gx = g := Option.some.inj e1; exact hne.out g e h1)); have hnb2 : Kpt ((Value.slice ya YL yc).ownBlock ≠ some br ∧ (Value.slice ya YL yc).ownBlock ≠ some bx) := ⟨fun e => hn.out.elim (fun h => hnb.out.1 (by rw [← h]; exact e)) (fun h => absurd Or0.out (Nat.not_lt.2 (h br e))), fun e => hn.out.elim (fun h => hnb.out.2 (by rw [← h]; exact e)) (fun h => absurd Ox0.out (Nat.not_lt.2 (h bx e)))⟩; replace T := Kpt.mk hY.2; have Y2 := Kpt.mk hY.1; clear hY; clear hYL hm m3))
            | (have hm := m2; refine (?_ : wpList _ _ _ (Oper.mk none (Op.store 34 _ _) _ _ _ _ :: _) _ _); go_must (refine wpList_store_bx rfl 34 _ _ rfl b_y _ (resV 0 noS (.slice (some ⟨gy, 0, none⟩) 16 cy)) rfl rfl Oy.out.bx rfl infoR (resV_one _ _ _ _ _) rfl ?_; intro we hX_ hg_; replace Or := Kpt.mk (Or.out.other hg_ (fun e => by have := Option.some.inj e; have := qb.out.1; omega)); replace Ox := Kpt.mk (Ox.out.other hg_ (fun e => by have := Option.some.inj e; have := qb.out.2.1; omega)); replace X := Kpt.mk (X.out.other hg_ (fun g e1 e => by have h1 : gx = g := Option.some.inj e1; have h2 := Option.some.inj e; have := qb.out.2.2.1; omega)); replace Y := Kpt.mk (Y.out.other hg_ (fun g e1 e => by have := Option.some.inj e; have := qb.out.2.2.2.2 g e1; omega)); replace D := Kpt.mk (D.out.other hg_ (fun g e1 e => by have h1 : gy = g := Option.some.inj e1; have h2 := Option.some.inj e; have := qb.out.2.2.2.1; omega)); replace T := Kpt.mk (T.out.own hg_ Oy.out.un Oy.out.lo); replace Oy := Kpt.mk (Oy.out.set hX_ hg_.size); have ry := (resV_at Oy.out.bx).1; have rd := (resV_at Oy.out.bx).2.1; clear hX_ hg_); clear hm m2; have m3 : Kpt True := ⟨trivial⟩)
            | (have hm := m1; refine wpList_var rfl 34 rfl zeroR zeroRi ?_; intro b_y wd hl_ hX_ h_; have qb : Kpt (br < b_y ∧ bx < b_y ∧ gx < b_y ∧ gy < b_y ∧ ∀ g, (Value.slice va vn vc).ownBlock = some g → g < b_y) := ⟨Nat.lt_of_lt_of_le Or.out.bx.lt hl_, Nat.lt_of_lt_of_le Ox.out.bx.lt hl_, Nat.lt_of_lt_of_le (X.out.un gx rfl).lt hl_, Nat.lt_of_lt_of_le (D.out.un gy rfl).lt hl_, fun g e => Nat.lt_of_lt_of_le (Y.out.un g e).lt hl_⟩; have Oy := Kpt.mk (T.out.box hl_ hX_); replace T := Kpt.mk (T.out.below h_); replace Or := Kpt.mk (Or.out.mv (Mv.below h_)); replace Ox := Kpt.mk (Ox.out.mv (Mv.below h_)); replace X := Kpt.mk (X.out.mv (Mv.below h_)); replace Y := Kpt.mk (Y.out.mv (Mv.below h_)); replace D := Kpt.mk (D.out.mv (Mv.below h_)); clear hl_ hX_ h_; clear hm m1; have m2 : Kpt True := ⟨trivial⟩)
            | (go_at_call 11; go_must (refine hHB.out.mono ?_; rintro e wc ⟨gy, cy, sB2, t2, rfl, hT, hM, hD, hgy, hF, hV⟩; have qy : Kpt (br < gy ∧ bx < gy ∧ gx < gy ∧ ∀ g, (Value.slice va vn vc).ownBlock = some g → g < gy) := ⟨Nat.lt_of_lt_of_le Or.out.bx.lt hgy, Nat.lt_of_lt_of_le Ox.out.bx.lt hgy, Nat.lt_of_lt_of_le (X.out.un gx rfl).lt hgy, fun g e => Nat.lt_of_lt_of_le (Y.out.un g e).lt hgy⟩; replace T := Kpt.mk hT; replace Or := Kpt.mk (Or.out.mv hM); replace Ox := Kpt.mk (Ox.out.mv hM); replace X := Kpt.mk (X.out.mv hM); replace Y := Kpt.mk (Y.out.mv hM); have D := Kpt.mk hD; have F := Kpt.mk hF; have V := Kpt.mk hV; clear hT hM hD hF hV hgy hHB; have m1 : Kpt True := ⟨trivial⟩))
            | fail)
          go_roundg (16 - (j + 1))
          case measure => omega
          case rel => exact ⟨j + 1, _, _, _, ya, YL, yc, rfl, by go_num, by omega, T, F, V, Or, Ox, X, Y2, hq.out, hnb2.out⟩
        · have e4 : ¬ (j : Int) < 16 := by omega
          have hj16 : j = 16 := by omega
          have hY : Kpt (RdAt wr (.slice va vn vc) (PK 16)) := ⟨by rw [← hj16]; exact Y.out.own.rd⟩
          have c1 := conv_rd hY.out
          have c2 := conv_rd X.out.own.rd
          have q1 := (resV_at Or.out.bx).1
          have q2 := (resV_at Ox.out.bx).1
          have q3 := (resV_at Ox.out.bx).2.1
          have hend := Kpt.mk T.out.be
          clear hj16 hjn hY HXA HYB HWB hPs hPl hQl hP0 F V T X Y Or Ox hne hnb
          obtain ⟨sD, hsD⟩ : ∃ s, s = strOfNums (PK 16) := ⟨_, rfl⟩
          rw [← hsD] at c1 c2
          clear hsD
          go_wp2_with fail
          go_ret
          exact ⟨rfl, hend.out⟩
end Go.Proofs.Ytklboieemljmiaa

namespace Go.Proofs.Ytklboieemljmiaa
open Go.RowKit
set_option linter.unusedVariables false
set_option linter.unusedSimpArgs false

set_option maxRecDepth 100000 in
set_option maxHeartbeats 4000000 in
theorem splits_sk (ga oa len cap n l : Nat) (pt lb k : Int) (Z : List Int) (w : World) (hn1 : 1 ≤ n) (hn6 : n ≤ 6) (hnl : n * 16 ≤ len) (hcap : len ≤ cap) (hcm : cap ≤ maxLen) (hnq : ((len : Int) / 16 ≤ 6 ∧ (len : Int) / 16 = n) ∨ (6 < (len : Int) / 16 ∧ n = 6)) (hk : pt % 4 = k) (hkp : 0 < k) (hk3 : k ≤ 3) (hl : lb % 10 = l) (hl9 : l ≤ 9) (hpt : 0 ≤ pt ∧ pt ≤ 255) (hlb : 0 ≤ lb ∧ lb ≤ 255) (hga : ga < w.heap.size) (hZ : RdAt w (.slice (some ⟨ga, oa, none⟩) len cap) Z) (hZl : Z.length = len) (hZb : Bytes Z) :
    Calls Try.prog 7 #[.slice (some ⟨ga, oa, none⟩) len cap, .int .u8 lb, .int .u8 pt, .bool true] w fun e w' => e = .returned (.bool true) ∧ Below w.heap.size w w' := by
  have HA := Kpt.mk (awake_any w)
  have HD := Kpt.mk (fun W => device_lo 16 k true W (by decide) (by decide))
  have k0 : (0 : Int) ≤ k := by omega
  have k3 : (k : Int) ≤ 3 := by omega
  have hcmI : (cap : Int) ≤ 9223372036854775807 := by unfold maxLen at hcm; omega
  obtain ⟨L, hL⟩ : ∃ L, L = n * 16 := ⟨_, rfl⟩
  obtain ⟨us, hus⟩ : ∃ us, us = (List.replicate n (unB false (Z.take 16) 0)) := ⟨_, rfl⟩
  have husl : us.length = n := by rw [hus]; rw [List.length_replicate]
  have huso : ∀ b ∈ us, b.ok := by rw [hus]; exact fun b hb => by rw [List.eq_of_mem_replicate hb]; exact unBs_ok false _ 1 (take_bytes hZb _) (by rw [List.length_take]; show min 16 Z.length = 16; omega) _ (List.mem_singleton.2 rfl)
  obtain ⟨v1, v2⟩ := view_all k l us huso
  rw [husl] at v1 v2
  obtain ⟨sA, hsA⟩ : ∃ s, s = wrSt st0 nmF l (prL k l us) n := ⟨_, rfl⟩
  have hfA : Fine (2 * n) sA nmF := by
    have := (fine0 nmF).one l (prL k l us) (prL_ok _ _ _ huso) (by rw [prL_len, husl]; exact v1)
    rw [prL_len, husl, ← hsA] at this
    exact this.up (by omega)
  rw [← hsA] at v1 v2
  have HWA : Kpt (∀ W t DA DB, Tw w W k DA DB st0 st0 t → Calls Try.prog 11 #[.pointer (some ⟨DA, 0, none⟩), .agg (Cm.vals ⟨12, false, ((l : Nat) : Int), ((n : Nat) : Int), 0, false, 0, false, false, 0, 0, false, 0, 0, false⟩), .slice (some ⟨ga, oa, none⟩) 16 cap] W fun e w' => e = .returned (.agg (resV 0 noS (.slice none 0 0))) ∧ ∃ t', Tw w w' k DA DB sA st0 t' ∧ Mv W w' DA DB t t') :=
    ⟨fun W t DA DB h => by
      have hr := rd_sub (A := 0) (m := 16) (c' := cap) (rd_below hZ h.be) hZl (by omega) (by omega)
      rw [Nat.add_zero, List.drop_zero] at hr
      have hq : (Z.take 16).length = 16 := by rw [List.length_take]; omega
      have hc := doSame_part W t.BA t.tagA st0 nmF t.SA DA 16 k l n cap _ (Z.take 16) ⟨12, false, ((l : Nat) : Int), ((n : Nat) : Int), 0, false, 0, false, false, 0, 0, false, 0, 0, false⟩ h.a (by decide) (by decide) (by decide) (by decide) (by decide) (fun c hc => by cases hc) k0 k3 rfl rfl rfl hn1 (by omega) hr hq (take_bytes hZb _) rfl rfl (fun _ _ => rfl)
      rw [← hus, ← hsA] at hc
      exact twA_do h hc⟩
  have HWB : Kpt (∀ W t DA DB sB (j lj A : Nat), j < n → l + j = lj → 16 * j = A → Tw w W k DA DB sA sB t → Fine (2 * j) sB nmF → View k l us (sB.seen nmF) j → Calls Try.prog 11 #[.pointer (some ⟨DB, 0, none⟩), .agg (Cm.vals ⟨8, false, ((lj : Nat) : Int), ((1 : Nat) : Int), 0, false, 0, false, false, 0, 0, false, 0, 0, false⟩), .slice (some ⟨ga, oa, none⟩) 16 cap] W fun e w' => e = .returned (.agg (resV 0 noS (.slice none 0 0))) ∧ ∃ sB' t', Tw w w' k DA DB sA sB' t' ∧ Mv W w' DA DB t t' ∧ Fine (2 * (j + 1)) sB' nmF ∧ View k l us (sB'.seen nmF) (j + 1)) :=
    ⟨fun W t DA DB sB j lj A hj hlj hA h hF hV => by
      subst hA
      have hr : RdAt W (.slice (some ⟨ga, oa, none⟩) 16 cap) (Z.take 16) := by
        have hr := rd_sub (A := 0) (m := 16) (c' := cap) (rd_below hZ h.be) hZl (by omega) (by omega)
        rw [Nat.add_zero, List.drop_zero] at hr
        exact hr
      refine (twB_one h hF (by omega) hV huso (by omega) (by omega) k0 k3 lj hlj (Z.take 16) (by rw [hus, rep_at _ _ _ hj]; rfl) (by simp only [List.length_take, List.length_drop]; omega) (take_bytes hZb _) _ _ hr).mono ?_
      rintro e w' ⟨he, sB', t', h1, h2, h3, h4⟩
      exact ⟨he, sB', t', h1, h2, h3.up (by omega), h4⟩⟩
  obtain ⟨PK, hPK⟩ : ∃ P : Nat → List Int, P = fun i => packL true (rdL (sA.seen nmF) 0 i) := ⟨_, rfl⟩
  obtain ⟨QK, hQK⟩ : ∃ P : Nat → List Int, P = fun i => packL true (rdL (sA.seen nmF) i 1) := ⟨_, rfl⟩
  have hP0 : Kpt (PK 0 = []) := ⟨by rw [hPK]; rfl⟩
  have hPs : Kpt (∀ j, PK (j + 1) = PK j ++ QK j) := ⟨fun j => by rw [hPK, hQK]; show packL _ _ = _; rw [rdL_snoc, packL_app]⟩
  have hQl : Kpt (∀ j, (QK j).length = 24) := ⟨fun j => by rw [hQK]; show (packL _ _).length = _; rw [packL_len _ _ (rdL_ok v1 j 1), rdL_len]; rfl⟩
  have hPl : Kpt (∀ j, j ≤ 16 → (PK j).length ≤ 384) := ⟨fun j hj => by rw [hPK]; show (packL _ _).length ≤ _; rw [packL_len _ _ (rdL_ok v1 0 j), rdL_len]; simp only [sz]; split <;> omega⟩
  have HXA : Kpt (∀ W t DA DB sB, Tw w W k DA DB sA sB t → Calls Try.prog 11 #[.pointer (some ⟨DA, 0, none⟩), .agg (Cm.vals ⟨7, false, ((0 : Nat) : Int), ((16 : Nat) : Int), 0, false, 1, false, false, 0, 0, false, 0, 0, false⟩), .slice none 0 0] W fun e w' => ∃ g cap t', e = .returned (.agg (resV 0 noS (.slice (some ⟨g, 0, none⟩) 384 cap))) ∧ Tw w w' k DA DB (rdSt sA 16) sB t' ∧ Mv W w' DA DB t t' ∧ Or2 w w' DA DB t' (.slice (some ⟨g, 0, none⟩) 384 cap) (PK 16) ∧ W.heap.size ≤ g) :=
    ⟨fun W t DA DB sB h => twA_read h hfA (by omega) k0 k3 ⟨7, false, ((0 : Nat) : Int), ((16 : Nat) : Int), 0, false, 1, false, false, 0, 0, false, 0, 0, false⟩ 0 16 _ (show (0 : Int) ≤ 1 by decide) (show (1 : Int) ≤ 4 by decide) (by show knownB k 1 = true; unfold knownB; exact decide_eq_true (by omega)) rfl rfl rfl (by decide) (look_view v2 _ _ _) 384 rfl (PK 16) (by rw [hPK]; rfl)⟩
  have HYB : Kpt (∀ W t DA DB sA' sB (j : Nat), j < 16 → Tw w W k DA DB sA' sB t → Fine (12 + j) sB nmF → View k l us (sB.seen nmF) n → Calls Try.prog 11 #[.pointer (some ⟨DB, 0, none⟩), .agg (Cm.vals ⟨7, false, ((j : Nat) : Int), ((1 : Nat) : Int), 0, false, 1, false, false, 0, 0, false, 0, 0, false⟩), .slice none 0 0] W fun e w' => ∃ g cap sB' t', e = .returned (.agg (resV 0 noS (.slice (some ⟨g, 0, none⟩) 24 cap))) ∧ Tw w w' k DA DB sA' sB' t' ∧ Mv W w' DA DB t t' ∧ Or2 w w' DA DB t' (.slice (some ⟨g, 0, none⟩) 24 cap) (QK j) ∧ W.heap.size ≤ g ∧ Fine (12 + (j + 1)) sB' nmF ∧ View k l us (sB'.seen nmF) n) :=
    ⟨fun W t DA DB sA' sB j hj h hF hV => by
      refine (twB_read h hF (by omega) k0 k3 ⟨7, false, ((j : Nat) : Int), ((1 : Nat) : Int), 0, false, 1, false, false, 0, 0, false, 0, 0, false⟩ j 1 _ (show (0 : Int) ≤ 1 by decide) (show (1 : Int) ≤ 4 by decide) (by show knownB k 1 = true; unfold knownB; exact decide_eq_true (by omega)) rfl rfl rfl (by omega) (look_view hV _ _ _) 24 rfl (QK j) (by rw [hQK, rdL_view hV v2]; rfl)).mono ?_
      rintro e w' ⟨g, cp, t', he, h1, h2, h3, h4⟩
      exact ⟨g, cp, _, t', he, h1, h2, h3, h4, hF.read 1, hV⟩⟩
  have hv0 := Kpt.mk (view0 k l us)
  simp only [Cm.vals] at HWB HXA HYB
  have eL : (16 : Int) * n = L := by omega
  have en : IntKind.u64.wrap (n : Int) = n := by rw [IntKind.wrap_u64]; omega
  have el : IntKind.u64.wrap (l : Int) = l := by rw [IntKind.wrap_u64]; omega
  have hn0 : ¬ (n : Int) = 0 := by omega
  have bn0 : ((n : Int) == 0) = false := beq_eq_false_iff_ne.mpr hn0
  have hLl : L ≤ len := by omega
  have hL16 : 16 ≤ len := by omega
  have hmin : min ((len : Int) / 16) 6 = n := by omega
  have hmin2 : (if (6 : Int) < (len : Int) / 16 then (6 : Int) else (len : Int) / 16) = n := by split <;> omega
  clear hus husl huso v1 v2 hsA hfA hPK hQK hZ hZl hZb hnq hcm hL k0 k3
  go_enter Try.func7, Try.ntmps7
  go_wp2_with (first
    | (have hm := m7; refine (?_ : wpList _ _ _ (Oper.mk none (Op.store 34 _ _) _ _ _ _ :: _) _ _); go_must (refine wpList_store_bx rfl 34 _ _ rfl br _ (resV 0 noS (.slice none 0 0)) rfl rfl Or.out.bx rfl infoR (resV_one _ _ _ _ _) rfl ?_; intro w8 hX_ hg_; replace T := Kpt.mk (T.out.own hg_ Or.out.un Or.out.lo); replace Or := Kpt.mk (Or.out.set hX_ hg_.size); clear hX_ hg_); clear hm m7)
    | (have hm := m6; refine wpList_var rfl 34 rfl zeroR zeroRi ?_; intro br w7 hl_ hX_ h_; have Or := Kpt.mk (T.out.box hl_ hX_); replace T := Kpt.mk (T.out.below h_); clear hl_ hX_ h_; clear hm m6; have m7 : Kpt True := ⟨trivial⟩)
    | (go_at_call 11; have hm := m5; go_must (refine (HWA.out _ _ _ _ T.out).mono ?_; rintro e w6 ⟨rfl, t1, hT, hM⟩; replace T := Kpt.mk hT; clear hT hM Ok hm m5 HWA; have m6 : Kpt True := ⟨trivial⟩))
    | (have hm := m4; refine (?_ : wpList _ _ _ (Oper.mk (some 74) _ _ _ _ _ :: _) _ _); go_must (have hg_ : World.grownBy w5 (World.setCell w5 ⟨bk, 0, none⟩ (.int .u8 12)) (some bk) := grown_setCellK _ ⟨bk, 0, none⟩ (.int .u8 12); have hX_ : Bx (w5.setCell ⟨bk, 0, none⟩ (.int .u8 12)) bk (Cm.vals ⟨12, false, ((l : Nat) : Int), ((n : Nat) : Int), 0, false, 0, false, false, 0, 0, false, 0, 0, false⟩) := bx_cell Ok.out.bx (show 0 < 15 by decide) (.int .u8 12); replace T := Kpt.mk (T.out.own hg_ Ok.out.un Ok.out.lo); replace Ok := Kpt.mk (Ok.out.set hX_ hg_.size); clear hX_ hg_ kc kf kl; refine wpList_load_bx rfl 38 _ rfl bk (Cm.vals ⟨12, false, ((l : Nat) : Int), ((n : Nat) : Int), 0, false, 0, false, false, 0, 0, false, 0, 0, false⟩) rfl Ok.out.bx _ Try.underlying38 rfl infoC ?_); clear hm m4; have m5 : Kpt True := ⟨trivial⟩)
    | (have hm := m3; refine (?_ : wpList _ _ _ (Oper.mk none (Op.store 38 _ _) _ _ _ _ :: _) _ _); go_must (refine wpList_store_bx rfl 38 _ _ rfl bk _ (Cm.vals ⟨8, false, ((l : Nat) : Int), ((n : Nat) : Int), 0, false, 0, false, false, 0, 0, false, 0, 0, false⟩) rfl rfl Ok.out.bx rfl infoC (cm_one _) rfl ?_; intro w5 hX_ hg_; replace T := Kpt.mk (T.out.own hg_ Ok.out.un Ok.out.lo); replace Ok := Kpt.mk (Ok.out.set hX_ hg_.size); have kc := (cm_at Ok.out.bx).1; have kf := Ok.out.bx.free 0; have kl := Ok.out.bx.lt; clear hX_ hg_); clear hm m3; have m4 : Kpt True := ⟨trivial⟩)
    | (have hm := m2; refine wpList_var rfl 38 rfl zeroC zeroCi ?_; intro bk w4 hl_ hX_ h_; have Ok := Kpt.mk (T.out.box hl_ hX_); replace T := Kpt.mk (T.out.below h_); clear hl_ hX_ h_; clear hm m2; have m3 : Kpt True := ⟨trivial⟩)
    | (go_at_call 10; have hm := m1; go_must (refine (HD.out _).mono ?_; rintro e w3 ⟨DB, BB, SB, tagB, rfl, hB1, hB2, hB3, hB4, hB5⟩; obtain ⟨t0, ht0⟩ : ∃ t : T2, t = ⟨BA, tagA, SA, BB, tagB, SB⟩ := ⟨_, rfl⟩; have T : Kpt (Tw w w3 k DA DB st0 st0 t0) := ⟨by rw [ht0]; exact tw_new hda.out hB2 hB1 hbT.out.1 hbT.out.2 hB3 hB4 hB5⟩; clear hB1 hB2 hB3 hB4 hB5 ht0 hda hbT hb1 hm m1 HD HA; have m2 : Kpt True := ⟨trivial⟩))
    | (go_at_call 10; go_must (refine (HD.out _).mono ?_; rintro e w2 ⟨DA, BA, SA, tagA, rfl, hA1, hA2, hA3, -, -⟩; have hda := Kpt.mk hA1; have hbT := Kpt.mk (And.intro (hb1.out.trans (hA2.mono hb1.out.size)) (fun i (hi : i < w.heap.size) => hA3 i (Nat.lt_of_lt_of_le hi hb1.out.size))); clear hA1 hA2 hA3; have m1 : Kpt True := ⟨trivial⟩))
    | (go_at_call 9; go_must (refine HA.out.mono ?_; rintro e w1 ⟨rfl, hb1⟩; replace hb1 := Kpt.mk hb1))
    | fail)
  go_loopg [19, 20, 21] n (fun i r19 r20 r21 wv => ∃ (j : Nat) (t : T2) (sB : St), r19 = .int .i64 (j : Int) ∧ j + i = n ∧ Kpt (Tw w wv k DA DB sA sB t) ∧ Kpt (Fine (2 * j) sB nmF) ∧ Kpt (View k l us (sB.seen nmF) j) ∧ Kpt (Oq w wv DA DB t br (resV 0 noS (.slice none 0 0))))
  case atStart => exact ⟨0, _, st0, rfl, by omega, T, ⟨fine0 nmF⟩, hv0, Or⟩
  case round =>
    clear T Or hv0
    obtain ⟨j, t, sB, rfl, hji, T, F, V, Or⟩ := hrel
    by_cases hjn : j < n
    · have e3 : (j : Int) < n := by omega
      obtain ⟨A, hA⟩ : ∃ A : Nat, 16 * j = A := ⟨_, rfl⟩
      have eA : (16 : Int) * j = A := by omega
      obtain ⟨lj, hlj⟩ : ∃ x : Nat, l + j = x := ⟨_, rfl⟩
      have elj : (l : Int) + j = lj := by omega
      have eljw : IntKind.u64.wrap (lj : Int) = lj := by rw [IntKind.wrap_u64]; omega
      have eAc : (A : Int) + 16 ≤ cap := by omega
      have eAl : (A : Int) ≤ A + 16 := by omega
      have hAc : ¬ cap = A := by omega
      have hHB := Kpt.mk (HWB.out _ t DA DB sB j lj A hjn hlj hA T.out F.out V.out)
      clear hA hlj F V
      go_wp2_with (first
        | (have hm := m2; refine (?_ : wpList _ _ _ (Oper.mk none (Op.store 34 _ _) _ _ _ _ :: _) _ _); go_must (refine wpList_store_bx rfl 34 _ _ rfl bs _ (resV 0 noS (.slice none 0 0)) rfl rfl Os.out.bx rfl infoR (resV_one _ _ _ _ _) rfl ?_; intro wb hX_ hg_; replace Or := Kpt.mk (Or.out.other hg_ (fun e => by have := Option.some.inj e; omega)); replace T := Kpt.mk (T.out.own hg_ Os.out.un Os.out.lo); replace Os := Kpt.mk (Os.out.set hX_ hg_.size); have rs := (resV_at Os.out.bx).1; clear hX_ hg_); clear hm m2)
        | (have hm := m1; refine wpList_var rfl 34 rfl zeroR zeroRi ?_; intro bs wa hl_ hX_ h_; have qr : br < bs := Nat.lt_of_lt_of_le Or.out.bx.lt hl_; have Os := Kpt.mk (T.out.box hl_ hX_); replace T := Kpt.mk (T.out.below h_); replace Or := Kpt.mk (Or.out.mv (Mv.below h_)); clear hl_ hX_ h_; clear hm m1; have m2 : Kpt True := ⟨trivial⟩)
        | (go_at_call 11; go_must (refine hHB.out.mono ?_; rintro e w9 ⟨rfl, sB2, t2, hT, hM, hF, hV⟩; replace T := Kpt.mk hT; replace Or := Kpt.mk (Or.out.mv hM); have F := Kpt.mk hF; have V := Kpt.mk hV; clear hT hM hF hV hHB; have m1 : Kpt True := ⟨trivial⟩))
        | fail)
      go_roundg (n - (j + 1))
      case measure => omega
      case rel => exact ⟨j + 1, _, sB2, by go_num, by omega, T, F, V, Or⟩
    · have e3 : ¬ (j : Int) < n := by omega
      have hjn2 : j = n := by omega
      have F2 : Kpt (Fine (12 + 0) sB nmF) := ⟨F.out.up (by omega)⟩
      have V2 : Kpt (View k l us (sB.seen nmF) n) := ⟨by rw [← hjn2]; exact V.out⟩
      clear F V hjn2 hjn
      have hkg : (k : Int) > 0 := by omega
      go_wp2_with (first
        | (have hm := m2; refine (?_ : wpList _ _ _ (Oper.mk none (Op.store 34 _ _) _ _ _ _ :: _) _ _); go_must (refine wpList_store_bx rfl 34 _ _ rfl bx _ (resV 0 noS (.slice (some ⟨gx, 0, none⟩) 384 cx)) rfl rfl Ox.out.bx rfl infoR (resV_one _ _ _ _ _) rfl ?_; intro wb hX_ hg_; replace Or := Kpt.mk (Or.out.other hg_ (fun e => by have := Option.some.inj e; omega)); replace X := Kpt.mk (X.out.other hg_ (fun g e1 e => by have h1 : gx = g := Option.some.inj e1; have h2 := Option.some.inj e; omega)); replace T := Kpt.mk (T.out.own hg_ Ox.out.un Ox.out.lo); replace Ox := Kpt.mk (Ox.out.set hX_ hg_.size); clear hX_ hg_); clear hm m2)
        | (have hm := m1; refine wpList_var rfl 34 rfl zeroR zeroRi ?_; intro bx wa hl_ hX_ h_; have qr : br < bx := Nat.lt_of_lt_of_le Or.out.bx.lt hl_; have qxx : gx < bx := Nat.lt_of_lt_of_le (X.out.un gx rfl).lt hl_; have Ox := Kpt.mk (T.out.box hl_ hX_); replace T := Kpt.mk (T.out.below h_); replace Or := Kpt.mk (Or.out.mv (Mv.below h_)); replace X := Kpt.mk (X.out.mv (Mv.below h_)); clear hl_ hX_ h_; clear hm m1; have m2 : Kpt True := ⟨trivial⟩)
        | (go_at_call 11; go_must (refine (HXA.out _ _ _ _ _ T.out).mono ?_; rintro e w9 ⟨gx, cx, t2, rfl, hT, hM, hX, hgx⟩; replace T := Kpt.mk hT; have qx : br < gx := Nat.lt_of_lt_of_le Or.out.bx.lt hgx; replace Or := Kpt.mk (Or.out.mv hM); have X := Kpt.mk hX; clear hT hM hX hgx; have m1 : Kpt True := ⟨trivial⟩))
        | fail)
      go_loopg [24, 25, 26] 16 (fun i r24 r25 r26 wq => ∃ (j : Nat) (t : T2) (sA' sB : St) (va : Option Addr) (vn vc : Nat), r24 = .slice va vn vc ∧ r25 = .int .i64 (j : Int) ∧ j + i = 16 ∧ Kpt (Tw w wq k DA DB sA' sB t) ∧ Kpt (Fine (12 + j) sB nmF) ∧ Kpt (View k l us (sB.seen nmF) n) ∧ Kpt (Oq w wq DA DB t br (resV 0 noS (.slice none 0 0))) ∧ Kpt (Oq w wq DA DB t bx (resV 0 noS (.slice (some ⟨gx, 0, none⟩) 384 cx))) ∧ Kpt (Or2 w wq DA DB t (.slice (some ⟨gx, 0, none⟩) 384 cx) (PK 16)) ∧ Kpt (Or2 w wq DA DB t (.slice va vn vc) (PK j)) ∧ (∀ g, (Value.slice va vn vc).ownBlock = some g → gx ≠ g) ∧ ((Value.slice va vn vc).ownBlock ≠ some br ∧ (Value.slice va vn vc).ownBlock ≠ some bx))
      case atStart => exact ⟨0, _, _, _, none, 0, 0, rfl, rfl, by omega, T, F2, V2, Or, Ox, X, ⟨by rw [hP0.out]; exact Or2.nil _ _ _ _ _⟩, (fun g e => by cases e), (fun e => by cases e), (fun e => by cases e)⟩
      case round =>
        clear T F2 V2 Or Ox X
        obtain ⟨j, t, sA', sB, va, vn, vc, rfl, rfl, hji, T, F, V, Or, Ox, X, Y, hne0, hnb0⟩ := hrel
        have hne := Kpt.mk hne0
        have hnb := Kpt.mk hnb0
        clear hne0 hnb0
        by_cases hjn : j < 16
        · have e4 : (j : Int) < 16 := by omega
          have ejw : IntKind.u64.wrap (j : Int) = j := by rw [IntKind.wrap_u64]; omega
          have hHB := Kpt.mk (HYB.out _ t DA DB sA' sB j hjn T.out F.out V.out)
          have hpl := Kpt.mk (hPl.out j (by omega))
          clear F V
          go_wp2_with (first
            | (have hm := m3; refine (?_ : wpList _ _ _ (Oper.mk (some 125) _ _ _ _ _ :: _) _ _); go_must (refine wpList_append_mid rfl (.tmp 122) (.tmp 124) rfl w.heap.size (.slice va vn vc) (PK j) (QK j) rfl Y.out.own (.slice (some ⟨gy, 0, none⟩) 24 cy) rfl D.out.own.rd (by rw [hQl.out]; have := hpl.out; omega) T.out.n0 ?_; intro v7 w7 hM hg hn; have Or0 := Kpt.mk Or.out.bx.lt; have Ox0 := Kpt.mk Ox.out.bx.lt; obtain ⟨ya, yc, hv', -⟩ := hM.out.ex; rw [← hPs.out] at hM hv'; obtain ⟨YL, hYL⟩ : ∃ n, n = (PK (j + 1)).length := (⟨_, rfl⟩); rw [← hYL] at hv'; subst hv'; have hY := Y.out.app T.out hM.out hg.out hn.out; have hq : Kpt (∀ g, (Value.slice ya YL yc).ownBlock = some g → gx ≠ g) := ⟨fun g e => (hn.out.elim (fun h => hne.out g (by rw [← h]; exact e)) (fun h e2 => absurd (X.out.un gx rfl).lt (Nat.not_lt.2 (e2 ▸ h g e))))⟩; replace Or := Kpt.mk (Or.out.other hg.out (fun e => hnb.out.1 e)); replace Ox := Kpt.mk (Ox.out.other hg.out (fun e => hnb.out.2 e)); replace X := Kpt.mk (X.out.other hg.out (fun g e1 e => by have h1 : gx = g := Option.some.inj e1; exact hne.out g e h1)); have hnb2 : Kpt ((Value.slice ya YL yc).ownBlock ≠ some br ∧ (Value.slice ya YL yc).ownBlock ≠ some bx) := ⟨fun e => hn.out.elim (fun h => hnb.out.1 (by rw [← h]; exact e)) (fun h => absurd Or0.out (Nat.not_lt.2 (h br e))), fun e => hn.out.elim (fun h => hnb.out.2 (by rw [← h]; exact e)) (fun h => absurd Ox0.out (Nat.not_lt.2 (h bx e)))⟩; replace T := Kpt.mk hY.2; have Y2 := Kpt.mk hY.1; clear hY; clear hYL hm m3))
            | (have hm := m2; refine (?_ : wpList _ _ _ (Oper.mk none (Op.store 34 _ _) _ _ _ _ :: _) _ _); go_must (refine wpList_store_bx rfl 34 _ _ rfl b_y _ (resV 0 noS (.slice (some ⟨gy, 0, none⟩) 24 cy)) rfl rfl Oy.out.bx rfl infoR (resV_one _ _ _ _ _) rfl ?_; intro we hX_ hg_; replace Or := Kpt.mk (Or.out.other hg_ (fun e => by have := Option.some.inj e; have := qb.out.1; omega)); replace Ox := Kpt.mk (Ox.out.other hg_ (fun e => by have := Option.some.inj e; have := qb.out.2.1; omega)); replace X := Kpt.mk (X.out.other hg_ (fun g e1 e => by have h1 : gx = g := Option.some.inj e1; have h2 := Option.some.inj e; have := qb.out.2.2.1; omega)); replace Y := Kpt.mk (Y.out.other hg_ (fun g e1 e => by have := Option.some.inj e; have := qb.out.2.2.2.2 g e1; omega)); replace D := Kpt.mk (D.out.other hg_ (fun g e1 e => by have h1 : gy = g := Option.some.inj e1; have h2 := Option.some.inj e; have := qb.out.2.2.2.1; omega)); replace T := Kpt.mk (T.out.own hg_ Oy.out.un Oy.out.lo); replace Oy := Kpt.mk (Oy.out.set hX_ hg_.size); have ry := (resV_at Oy.out.bx).1; have rd := (resV_at Oy.out.bx).2.1; clear hX_ hg_); clear hm m2; have m3 : Kpt True := ⟨trivial⟩)
            | (have hm := m1; refine wpList_var rfl 34 rfl zeroR zeroRi ?_; intro b_y wd hl_ hX_ h_; have qb : Kpt (br < b_y ∧ bx < b_y ∧ gx < b_y ∧ gy < b_y ∧ ∀ g, (Value.slice va vn vc).ownBlock = some g → g < b_y) := ⟨Nat.lt_of_lt_of_le Or.out.bx.lt hl_, Nat.lt_of_lt_of_le Ox.out.bx.lt hl_, Nat.lt_of_lt_of_le (X.out.un gx rfl).lt hl_, Nat.lt_of_lt_of_le (D.out.un gy rfl).lt hl_, fun g e => Nat.lt_of_lt_of_le (Y.out.un g e).lt hl_⟩; have Oy := Kpt.mk (T.out.box hl_ hX_); replace T := Kpt.mk (T.out.below h_); replace Or := Kpt.mk (Or.out.mv (Mv.below h_)); replace Ox := Kpt.mk (Ox.out.mv (Mv.below h_)); replace X := Kpt.mk (X.out.mv (Mv.below h_)); replace Y := Kpt.mk (Y.out.mv (Mv.below h_)); replace D := Kpt.mk (D.out.mv (Mv.below h_)); clear hl_ hX_ h_; clear hm m1; have m2 : Kpt True := ⟨trivial⟩)
            | (go_at_call 11; go_must (refine hHB.out.mono ?_; rintro e wc ⟨gy, cy, sB2, t2, rfl, hT, hM, hD, hgy, hF, hV⟩; have qy : Kpt (br < gy ∧ bx < gy ∧ gx < gy ∧ ∀ g, (Value.slice va vn vc).ownBlock = some g → g < gy) := ⟨Nat.lt_of_lt_of_le Or.out.bx.lt hgy, Nat.lt_of_lt_of_le Ox.out.bx.lt hgy, Nat.lt_of_lt_of_le (X.out.un gx rfl).lt hgy, fun g e => Nat.lt_of_lt_of_le (Y.out.un g e).lt hgy⟩; replace T := Kpt.mk hT; replace Or := Kpt.mk (Or.out.mv hM); replace Ox := Kpt.mk (Ox.out.mv hM); replace X := Kpt.mk (X.out.mv hM); replace Y := Kpt.mk (Y.out.mv hM); have D := Kpt.mk hD; have F := Kpt.mk hF; have V := Kpt.mk hV; clear hT hM hD hF hV hgy hHB; have m1 : Kpt True := ⟨trivial⟩))
            | fail)
          go_roundg (16 - (j + 1))
          case measure => omega
          case rel => exact ⟨j + 1, _, _, _, ya, YL, yc, rfl, by go_num, by omega, T, F, V, Or, Ox, X, Y2, hq.out, hnb2.out⟩
        · have e4 : ¬ (j : Int) < 16 := by omega
          have hj16 : j = 16 := by omega
          have hY : Kpt (RdAt wr (.slice va vn vc) (PK 16)) := ⟨by rw [← hj16]; exact Y.out.own.rd⟩
          have c1 := conv_rd hY.out
          have c2 := conv_rd X.out.own.rd
          have q1 := (resV_at Or.out.bx).1
          have q2 := (resV_at Ox.out.bx).1
          have q3 := (resV_at Ox.out.bx).2.1
          have hend := Kpt.mk T.out.be
          clear hj16 hjn hY HXA HYB HWB hPs hPl hQl hP0 F V T X Y Or Ox hne hnb
          obtain ⟨sD, hsD⟩ : ∃ s, s = strOfNums (PK 16) := ⟨_, rfl⟩
          rw [← hsD] at c1 c2
          clear hsD
          go_wp2_with fail
          go_ret
          exact ⟨rfl, hend.out⟩
end Go.Proofs.Ytklboieemljmiaa

namespace Go.Proofs.Ytklboieemljmiaa
open Go.RowKit
set_option linter.unusedVariables false
set_option linter.unusedSimpArgs false

set_option maxRecDepth 100000 in
set_option maxHeartbeats 4000000 in
theorem splits_sz (ga oa len cap n l : Nat) (pt lb : Int) (Z : List Int) (w : World) (hn1 : 1 ≤ n) (hn6 : n ≤ 6) (hnl : n * 16 ≤ len) (hcap : len ≤ cap) (hcm : cap ≤ maxLen) (hnq : ((len : Int) / 16 ≤ 6 ∧ (len : Int) / 16 = n) ∨ (6 < (len : Int) / 16 ∧ n = 6)) (hk : pt % 4 = 0) (hl : lb % 10 = l) (hl9 : l ≤ 9) (hpt : 0 ≤ pt ∧ pt ≤ 255) (hlb : 0 ≤ lb ∧ lb ≤ 255) (hga : ga < w.heap.size) (hZ : RdAt w (.slice (some ⟨ga, oa, none⟩) len cap) Z) (hZl : Z.length = len) (hZb : Bytes Z) :
    Calls Try.prog 7 #[.slice (some ⟨ga, oa, none⟩) len cap, .int .u8 lb, .int .u8 pt, .bool true] w fun e w' => e = .returned (.bool true) ∧ Below w.heap.size w w' := by
  have HA := Kpt.mk (awake_any w)
  have HD := Kpt.mk (fun W => device_lo 16 0 true W (by decide) (by decide))
  have k0 : (0 : Int) ≤ 0 := by omega
  have k3 : (0 : Int) ≤ 3 := by omega
  have hcmI : (cap : Int) ≤ 9223372036854775807 := by unfold maxLen at hcm; omega
  obtain ⟨L, hL⟩ : ∃ L, L = n * 16 := ⟨_, rfl⟩
  obtain ⟨us, hus⟩ : ∃ us, us = (List.replicate n (unB false (Z.take 16) 0)) := ⟨_, rfl⟩
  have husl : us.length = n := by rw [hus]; rw [List.length_replicate]
  have huso : ∀ b ∈ us, b.ok := by rw [hus]; exact fun b hb => by rw [List.eq_of_mem_replicate hb]; exact unBs_ok false _ 1 (take_bytes hZb _) (by rw [List.length_take]; show min 16 Z.length = 16; omega) _ (List.mem_singleton.2 rfl)
  obtain ⟨v1, v2⟩ := view_all 0 l us huso
  rw [husl] at v1 v2
  obtain ⟨sA, hsA⟩ : ∃ s, s = wrSt st0 nmF l (prL 0 l us) n := ⟨_, rfl⟩
  have hfA : Fine (2 * n) sA nmF := by
    have := (fine0 nmF).one l (prL 0 l us) (prL_ok _ _ _ huso) (by rw [prL_len, husl]; exact v1)
    rw [prL_len, husl, ← hsA] at this
    exact this.up (by omega)
  rw [← hsA] at v1 v2
  have HWA : Kpt (∀ W t DA DB, Tw w W 0 DA DB st0 st0 t → Calls Try.prog 11 #[.pointer (some ⟨DA, 0, none⟩), .agg (Cm.vals ⟨12, false, ((l : Nat) : Int), ((n : Nat) : Int), 0, false, 0, false, false, 0, 0, false, 0, 0, false⟩), .slice (some ⟨ga, oa, none⟩) 16 cap] W fun e w' => e = .returned (.agg (resV 0 noS (.slice none 0 0))) ∧ ∃ t', Tw w w' 0 DA DB sA st0 t' ∧ Mv W w' DA DB t t') :=
    ⟨fun W t DA DB h => by
      have hr := rd_sub (A := 0) (m := 16) (c' := cap) (rd_below hZ h.be) hZl (by omega) (by omega)
      rw [Nat.add_zero, List.drop_zero] at hr
      have hq : (Z.take 16).length = 16 := by rw [List.length_take]; omega
      have hc := doSame_part W t.BA t.tagA st0 nmF t.SA DA 16 0 l n cap _ (Z.take 16) ⟨12, false, ((l : Nat) : Int), ((n : Nat) : Int), 0, false, 0, false, false, 0, 0, false, 0, 0, false⟩ h.a (by decide) (by decide) (by decide) (by decide) (by decide) (fun c hc => by cases hc) k0 k3 rfl rfl rfl hn1 (by omega) hr hq (take_bytes hZb _) rfl rfl (fun _ _ => rfl)
      rw [← hus, ← hsA] at hc
      exact twA_do h hc⟩
  have HWB : Kpt (∀ W t DA DB sB (j lj A : Nat), j < n → l + j = lj → 16 * j = A → Tw w W 0 DA DB sA sB t → Fine (2 * j) sB nmF → View 0 l us (sB.seen nmF) j → Calls Try.prog 11 #[.pointer (some ⟨DB, 0, none⟩), .agg (Cm.vals ⟨8, false, ((lj : Nat) : Int), ((1 : Nat) : Int), 0, false, 0, false, false, 0, 0, false, 0, 0, false⟩), .slice (some ⟨ga, oa, none⟩) 16 cap] W fun e w' => e = .returned (.agg (resV 0 noS (.slice none 0 0))) ∧ ∃ sB' t', Tw w w' 0 DA DB sA sB' t' ∧ Mv W w' DA DB t t' ∧ Fine (2 * (j + 1)) sB' nmF ∧ View 0 l us (sB'.seen nmF) (j + 1)) :=
    ⟨fun W t DA DB sB j lj A hj hlj hA h hF hV => by
      subst hA
      have hr : RdAt W (.slice (some ⟨ga, oa, none⟩) 16 cap) (Z.take 16) := by
        have hr := rd_sub (A := 0) (m := 16) (c' := cap) (rd_below hZ h.be) hZl (by omega) (by omega)
        rw [Nat.add_zero, List.drop_zero] at hr
        exact hr
      refine (twB_one h hF (by omega) hV huso (by omega) (by omega) k0 k3 lj hlj (Z.take 16) (by rw [hus, rep_at _ _ _ hj]; rfl) (by simp only [List.length_take, List.length_drop]; omega) (take_bytes hZb _) _ _ hr).mono ?_
      rintro e w' ⟨he, sB', t', h1, h2, h3, h4⟩
      exact ⟨he, sB', t', h1, h2, h3.up (by omega), h4⟩⟩
  obtain ⟨PK, hPK⟩ : ∃ P : Nat → List Int, P = fun i => packL false (rdL (sA.seen nmF) 0 i) := ⟨_, rfl⟩
  obtain ⟨QK, hQK⟩ : ∃ P : Nat → List Int, P = fun i => packL false (rdL (sA.seen nmF) i 1) := ⟨_, rfl⟩
  have hP0 : Kpt (PK 0 = []) := ⟨by rw [hPK]; rfl⟩
  have hPs : Kpt (∀ j, PK (j + 1) = PK j ++ QK j) := ⟨fun j => by rw [hPK, hQK]; show packL _ _ = _; rw [rdL_snoc, packL_app]⟩
  have hQl : Kpt (∀ j, (QK j).length = 16) := ⟨fun j => by rw [hQK]; show (packL _ _).length = _; rw [packL_len _ _ (rdL_ok v1 j 1), rdL_len]; rfl⟩
  have hPl : Kpt (∀ j, j ≤ 16 → (PK j).length ≤ 384) := ⟨fun j hj => by rw [hPK]; show (packL _ _).length ≤ _; rw [packL_len _ _ (rdL_ok v1 0 j), rdL_len]; simp only [sz]; split <;> omega⟩
  have HXA : Kpt (∀ W t DA DB sB, Tw w W 0 DA DB sA sB t → Calls Try.prog 11 #[.pointer (some ⟨DA, 0, none⟩), .agg (Cm.vals ⟨7, false, ((0 : Nat) : Int), ((16 : Nat) : Int), 0, false, 0, false, false, 0, 0, false, 0, 0, false⟩), .slice none 0 0] W fun e w' => ∃ g cap t', e = .returned (.agg (resV 0 noS (.slice (some ⟨g, 0, none⟩) 256 cap))) ∧ Tw w w' 0 DA DB (rdSt sA 16) sB t' ∧ Mv W w' DA DB t t' ∧ Or2 w w' DA DB t' (.slice (some ⟨g, 0, none⟩) 256 cap) (PK 16) ∧ W.heap.size ≤ g) :=
    ⟨fun W t DA DB sB h => twA_read h hfA (by omega) k0 k3 ⟨7, false, ((0 : Nat) : Int), ((16 : Nat) : Int), 0, false, 0, false, false, 0, 0, false, 0, 0, false⟩ 0 16 _ (show (0 : Int) ≤ 0 by decide) (show (0 : Int) ≤ 4 by decide) (by show knownB 0 0 = true; unfold knownB; exact decide_eq_true (by omega)) rfl rfl rfl (by decide) (look_view v2 _ _ _) 256 rfl (PK 16) (by rw [hPK]; rfl)⟩
  have HYB : Kpt (∀ W t DA DB sA' sB (j : Nat), j < 16 → Tw w W 0 DA DB sA' sB t → Fine (12 + j) sB nmF → View 0 l us (sB.seen nmF) n → Calls Try.prog 11 #[.pointer (some ⟨DB, 0, none⟩), .agg (Cm.vals ⟨7, false, ((j : Nat) : Int), ((1 : Nat) : Int), 0, false, 0, false, false, 0, 0, false, 0, 0, false⟩), .slice none 0 0] W fun e w' => ∃ g cap sB' t', e = .returned (.agg (resV 0 noS (.slice (some ⟨g, 0, none⟩) 16 cap))) ∧ Tw w w' 0 DA DB sA' sB' t' ∧ Mv W w' DA DB t t' ∧ Or2 w w' DA DB t' (.slice (some ⟨g, 0, none⟩) 16 cap) (QK j) ∧ W.heap.size ≤ g ∧ Fine (12 + (j + 1)) sB' nmF ∧ View 0 l us (sB'.seen nmF) n) :=
    ⟨fun W t DA DB sA' sB j hj h hF hV => by
      refine (twB_read h hF (by omega) k0 k3 ⟨7, false, ((j : Nat) : Int), ((1 : Nat) : Int), 0, false, 0, false, false, 0, 0, false, 0, 0, false⟩ j 1 _ (show (0 : Int) ≤ 0 by decide) (show (0 : Int) ≤ 4 by decide) (by show knownB 0 0 = true; unfold knownB; exact decide_eq_true (by omega)) rfl rfl rfl (by omega) (look_view hV _ _ _) 16 rfl (QK j) (by rw [hQK, rdL_view hV v2]; rfl)).mono ?_
      rintro e w' ⟨g, cp, t', he, h1, h2, h3, h4⟩
      exact ⟨g, cp, _, t', he, h1, h2, h3, h4, hF.read 1, hV⟩⟩
  have hv0 := Kpt.mk (view0 0 l us)
  simp only [Cm.vals] at HWB HXA HYB
  have eL : (16 : Int) * n = L := by omega
  have en : IntKind.u64.wrap (n : Int) = n := by rw [IntKind.wrap_u64]; omega
  have el : IntKind.u64.wrap (l : Int) = l := by rw [IntKind.wrap_u64]; omega
  have hn0 : ¬ (n : Int) = 0 := by omega
  have bn0 : ((n : Int) == 0) = false := beq_eq_false_iff_ne.mpr hn0
  have hLl : L ≤ len := by omega
  have hL16 : 16 ≤ len := by omega
  have hmin : min ((len : Int) / 16) 6 = n := by omega
  have hmin2 : (if (6 : Int) < (len : Int) / 16 then (6 : Int) else (len : Int) / 16) = n := by split <;> omega
  clear hus husl huso v1 v2 hsA hfA hPK hQK hZ hZl hZb hnq hcm hL k0 k3
  go_enter Try.func7, Try.ntmps7
  go_wp2_with (first
    | (have hm := m7; refine (?_ : wpList _ _ _ (Oper.mk none (Op.store 34 _ _) _ _ _ _ :: _) _ _); go_must (refine wpList_store_bx rfl 34 _ _ rfl br _ (resV 0 noS (.slice none 0 0)) rfl rfl Or.out.bx rfl infoR (resV_one _ _ _ _ _) rfl ?_; intro w8 hX_ hg_; replace T := Kpt.mk (T.out.own hg_ Or.out.un Or.out.lo); replace Or := Kpt.mk (Or.out.set hX_ hg_.size); clear hX_ hg_); clear hm m7)
    | (have hm := m6; refine wpList_var rfl 34 rfl zeroR zeroRi ?_; intro br w7 hl_ hX_ h_; have Or := Kpt.mk (T.out.box hl_ hX_); replace T := Kpt.mk (T.out.below h_); clear hl_ hX_ h_; clear hm m6; have m7 : Kpt True := ⟨trivial⟩)
    | (go_at_call 11; have hm := m5; go_must (refine (HWA.out _ _ _ _ T.out).mono ?_; rintro e w6 ⟨rfl, t1, hT, hM⟩; replace T := Kpt.mk hT; clear hT hM Ok hm m5 HWA; have m6 : Kpt True := ⟨trivial⟩))
    | (have hm := m4; refine (?_ : wpList _ _ _ (Oper.mk (some 74) _ _ _ _ _ :: _) _ _); go_must (have hg_ : World.grownBy w5 (World.setCell w5 ⟨bk, 0, none⟩ (.int .u8 12)) (some bk) := grown_setCellK _ ⟨bk, 0, none⟩ (.int .u8 12); have hX_ : Bx (w5.setCell ⟨bk, 0, none⟩ (.int .u8 12)) bk (Cm.vals ⟨12, false, ((l : Nat) : Int), ((n : Nat) : Int), 0, false, 0, false, false, 0, 0, false, 0, 0, false⟩) := bx_cell Ok.out.bx (show 0 < 15 by decide) (.int .u8 12); replace T := Kpt.mk (T.out.own hg_ Ok.out.un Ok.out.lo); replace Ok := Kpt.mk (Ok.out.set hX_ hg_.size); clear hX_ hg_ kc kf kl; refine wpList_load_bx rfl 38 _ rfl bk (Cm.vals ⟨12, false, ((l : Nat) : Int), ((n : Nat) : Int), 0, false, 0, false, false, 0, 0, false, 0, 0, false⟩) rfl Ok.out.bx _ Try.underlying38 rfl infoC ?_); clear hm m4; have m5 : Kpt True := ⟨trivial⟩)
    | (have hm := m3; refine (?_ : wpList _ _ _ (Oper.mk none (Op.store 38 _ _) _ _ _ _ :: _) _ _); go_must (refine wpList_store_bx rfl 38 _ _ rfl bk _ (Cm.vals ⟨8, false, ((l : Nat) : Int), ((n : Nat) : Int), 0, false, 0, false, false, 0, 0, false, 0, 0, false⟩) rfl rfl Ok.out.bx rfl infoC (cm_one _) rfl ?_; intro w5 hX_ hg_; replace T := Kpt.mk (T.out.own hg_ Ok.out.un Ok.out.lo); replace Ok := Kpt.mk (Ok.out.set hX_ hg_.size); have kc := (cm_at Ok.out.bx).1; have kf := Ok.out.bx.free 0; have kl := Ok.out.bx.lt; clear hX_ hg_); clear hm m3; have m4 : Kpt True := ⟨trivial⟩)
    | (have hm := m2; refine wpList_var rfl 38 rfl zeroC zeroCi ?_; intro bk w4 hl_ hX_ h_; have Ok := Kpt.mk (T.out.box hl_ hX_); replace T := Kpt.mk (T.out.below h_); clear hl_ hX_ h_; clear hm m2; have m3 : Kpt True := ⟨trivial⟩)
    | (go_at_call 10; have hm := m1; go_must (refine (HD.out _).mono ?_; rintro e w3 ⟨DB, BB, SB, tagB, rfl, hB1, hB2, hB3, hB4, hB5⟩; obtain ⟨t0, ht0⟩ : ∃ t : T2, t = ⟨BA, tagA, SA, BB, tagB, SB⟩ := ⟨_, rfl⟩; have T : Kpt (Tw w w3 0 DA DB st0 st0 t0) := ⟨by rw [ht0]; exact tw_new hda.out hB2 hB1 hbT.out.1 hbT.out.2 hB3 hB4 hB5⟩; clear hB1 hB2 hB3 hB4 hB5 ht0 hda hbT hb1 hm m1 HD HA; have m2 : Kpt True := ⟨trivial⟩))
    | (go_at_call 10; go_must (refine (HD.out _).mono ?_; rintro e w2 ⟨DA, BA, SA, tagA, rfl, hA1, hA2, hA3, -, -⟩; have hda := Kpt.mk hA1; have hbT := Kpt.mk (And.intro (hb1.out.trans (hA2.mono hb1.out.size)) (fun i (hi : i < w.heap.size) => hA3 i (Nat.lt_of_lt_of_le hi hb1.out.size))); clear hA1 hA2 hA3; have m1 : Kpt True := ⟨trivial⟩))
    | (go_at_call 9; go_must (refine HA.out.mono ?_; rintro e w1 ⟨rfl, hb1⟩; replace hb1 := Kpt.mk hb1))
    | fail)
  go_loopg [19, 20, 21] n (fun i r19 r20 r21 wv => ∃ (j : Nat) (t : T2) (sB : St), r19 = .int .i64 (j : Int) ∧ j + i = n ∧ Kpt (Tw w wv 0 DA DB sA sB t) ∧ Kpt (Fine (2 * j) sB nmF) ∧ Kpt (View 0 l us (sB.seen nmF) j) ∧ Kpt (Oq w wv DA DB t br (resV 0 noS (.slice none 0 0))))
  case atStart => exact ⟨0, _, st0, rfl, by omega, T, ⟨fine0 nmF⟩, hv0, Or⟩
  case round =>
    clear T Or hv0
    obtain ⟨j, t, sB, rfl, hji, T, F, V, Or⟩ := hrel
    by_cases hjn : j < n
    · have e3 : (j : Int) < n := by omega
      obtain ⟨A, hA⟩ : ∃ A : Nat, 16 * j = A := ⟨_, rfl⟩
      have eA : (16 : Int) * j = A := by omega
      obtain ⟨lj, hlj⟩ : ∃ x : Nat, l + j = x := ⟨_, rfl⟩
      have elj : (l : Int) + j = lj := by omega
      have eljw : IntKind.u64.wrap (lj : Int) = lj := by rw [IntKind.wrap_u64]; omega
      have eAc : (A : Int) + 16 ≤ cap := by omega
      have eAl : (A : Int) ≤ A + 16 := by omega
      have hAc : ¬ cap = A := by omega
      have hHB := Kpt.mk (HWB.out _ t DA DB sB j lj A hjn hlj hA T.out F.out V.out)
      clear hA hlj F V
      go_wp2_with (first
        | (have hm := m2; refine (?_ : wpList _ _ _ (Oper.mk none (Op.store 34 _ _) _ _ _ _ :: _) _ _); go_must (refine wpList_store_bx rfl 34 _ _ rfl bs _ (resV 0 noS (.slice none 0 0)) rfl rfl Os.out.bx rfl infoR (resV_one _ _ _ _ _) rfl ?_; intro wb hX_ hg_; replace Or := Kpt.mk (Or.out.other hg_ (fun e => by have := Option.some.inj e; omega)); replace T := Kpt.mk (T.out.own hg_ Os.out.un Os.out.lo); replace Os := Kpt.mk (Os.out.set hX_ hg_.size); have rs := (resV_at Os.out.bx).1; clear hX_ hg_); clear hm m2)
        | (have hm := m1; refine wpList_var rfl 34 rfl zeroR zeroRi ?_; intro bs wa hl_ hX_ h_; have qr : br < bs := Nat.lt_of_lt_of_le Or.out.bx.lt hl_; have Os := Kpt.mk (T.out.box hl_ hX_); replace T := Kpt.mk (T.out.below h_); replace Or := Kpt.mk (Or.out.mv (Mv.below h_)); clear hl_ hX_ h_; clear hm m1; have m2 : Kpt True := ⟨trivial⟩)
        | (go_at_call 11; go_must (refine hHB.out.mono ?_; rintro e w9 ⟨rfl, sB2, t2, hT, hM, hF, hV⟩; replace T := Kpt.mk hT; replace Or := Kpt.mk (Or.out.mv hM); have F := Kpt.mk hF; have V := Kpt.mk hV; clear hT hM hF hV hHB; have m1 : Kpt True := ⟨trivial⟩))
        | fail)
      go_roundg (n - (j + 1))
      case measure => omega
      case rel => exact ⟨j + 1, _, sB2, by go_num, by omega, T, F, V, Or⟩
    · have e3 : ¬ (j : Int) < n := by omega
      have hjn2 : j = n := by omega
      have F2 : Kpt (Fine (12 + 0) sB nmF) := ⟨F.out.up (by omega)⟩
      have V2 : Kpt (View 0 l us (sB.seen nmF) n) := ⟨by rw [← hjn2]; exact V.out⟩
      clear F V hjn2 hjn
      go_wp2_with (first
        | (have hm := m2; refine (?_ : wpList _ _ _ (Oper.mk none (Op.store 34 _ _) _ _ _ _ :: _) _ _); go_must (refine wpList_store_bx rfl 34 _ _ rfl bx _ (resV 0 noS (.slice (some ⟨gx, 0, none⟩) 256 cx)) rfl rfl Ox.out.bx rfl infoR (resV_one _ _ _ _ _) rfl ?_; intro wb hX_ hg_; replace Or := Kpt.mk (Or.out.other hg_ (fun e => by have := Option.some.inj e; omega)); replace X := Kpt.mk (X.out.other hg_ (fun g e1 e => by have h1 : gx = g := Option.some.inj e1; have h2 := Option.some.inj e; omega)); replace T := Kpt.mk (T.out.own hg_ Ox.out.un Ox.out.lo); replace Ox := Kpt.mk (Ox.out.set hX_ hg_.size); clear hX_ hg_); clear hm m2)
        | (have hm := m1; refine wpList_var rfl 34 rfl zeroR zeroRi ?_; intro bx wa hl_ hX_ h_; have qr : br < bx := Nat.lt_of_lt_of_le Or.out.bx.lt hl_; have qxx : gx < bx := Nat.lt_of_lt_of_le (X.out.un gx rfl).lt hl_; have Ox := Kpt.mk (T.out.box hl_ hX_); replace T := Kpt.mk (T.out.below h_); replace Or := Kpt.mk (Or.out.mv (Mv.below h_)); replace X := Kpt.mk (X.out.mv (Mv.below h_)); clear hl_ hX_ h_; clear hm m1; have m2 : Kpt True := ⟨trivial⟩)
        | (go_at_call 11; go_must (refine (HXA.out _ _ _ _ _ T.out).mono ?_; rintro e w9 ⟨gx, cx, t2, rfl, hT, hM, hX, hgx⟩; replace T := Kpt.mk hT; have qx : br < gx := Nat.lt_of_lt_of_le Or.out.bx.lt hgx; replace Or := Kpt.mk (Or.out.mv hM); have X := Kpt.mk hX; clear hT hM hX hgx; have m1 : Kpt True := ⟨trivial⟩))
        | fail)
      go_loopg [24, 25, 26] 16 (fun i r24 r25 r26 wq => ∃ (j : Nat) (t : T2) (sA' sB : St) (va : Option Addr) (vn vc : Nat), r24 = .slice va vn vc ∧ r25 = .int .i64 (j : Int) ∧ j + i = 16 ∧ Kpt (Tw w wq 0 DA DB sA' sB t) ∧ Kpt (Fine (12 + j) sB nmF) ∧ Kpt (View 0 l us (sB.seen nmF) n) ∧ Kpt (Oq w wq DA DB t br (resV 0 noS (.slice none 0 0))) ∧ Kpt (Oq w wq DA DB t bx (resV 0 noS (.slice (some ⟨gx, 0, none⟩) 256 cx))) ∧ Kpt (Or2 w wq DA DB t (.slice (some ⟨gx, 0, none⟩) 256 cx) (PK 16)) ∧ Kpt (Or2 w wq DA DB t (.slice va vn vc) (PK j)) ∧ (∀ g, (Value.slice va vn vc).ownBlock = some g → gx ≠ g) ∧ ((Value.slice va vn vc).ownBlock ≠ some br ∧ (Value.slice va vn vc).ownBlock ≠ some bx))
      case atStart => exact ⟨0, _, _, _, none, 0, 0, rfl, rfl, by omega, T, F2, V2, Or, Ox, X, ⟨by rw [hP0.out]; exact Or2.nil _ _ _ _ _⟩, (fun g e => by cases e), (fun e => by cases e), (fun e => by cases e)⟩
      case round =>
        clear T F2 V2 Or Ox X
        obtain ⟨j, t, sA', sB, va, vn, vc, rfl, rfl, hji, T, F, V, Or, Ox, X, Y, hne0, hnb0⟩ := hrel
        have hne := Kpt.mk hne0
        have hnb := Kpt.mk hnb0
        clear hne0 hnb0
        by_cases hjn : j < 16
        · have e4 : (j : Int) < 16 := by omega
          have ejw : IntKind.u64.wrap (j : Int) = j := by rw [IntKind.wrap_u64]; omega
          have hHB := Kpt.mk (HYB.out _ t DA DB sA' sB j hjn T.out F.out V.out)
          have hpl := Kpt.mk (hPl.out j (by omega))
          clear F V
          go_wp2_with (first
            | (have hm := m3; refine (?_ : wpList _ _ _ (Oper.mk (some 125) _ _ _ _ _ :: _) _ _); go_must (refine wpList_append_mid rfl (.tmp 122) (.tmp 124) rfl w.heap.size (.slice va vn vc) (PK j) (QK j) rfl Y.out.own (.slice (some ⟨gy, 0, none⟩) 16 cy) rfl D.out.own.rd (by rw [hQl.out]; have := hpl.out; omega) T.out.n0 ?_; intro v7 w7 hM hg hn; have Or0 := Kpt.mk Or.out.bx.lt; have Ox0 := Kpt.mk Ox.out.bx.lt; obtain ⟨ya, yc, hv', -⟩ := hM.out.ex; rw [← hPs.out] at hM hv'; obtain ⟨YL, hYL⟩ : ∃ n, n = (PK (j + 1)).length := (⟨_, rfl⟩); rw [← hYL] at hv'; subst hv'; have hY := Y.out.app T.out hM.out hg.out hn.out; have hq : Kpt (∀ g, (Value.slice ya YL yc).ownBlock = some g → gx ≠ g) := ⟨fun g e => (hn.out.elim (fun h => hne.out g (by rw [← h]; exact e)) (fun h e2 => absurd (X.out.un gx rfl).lt (Nat.not_lt.2 (e2 ▸ h g e))))⟩; replace Or := Kpt.mk (Or.out.other hg.out (fun e => hnb.out.1 e)); replace Ox := Kpt.mk (Ox.out.other hg.out (fun e => hnb.out.2 e)); replace X := Kpt.mk (X.out.other hg.out (fun g e1 e => by have h1 : gx = g := Option.some.inj e1; exact hne.out g e h1)); have hnb2 : Kpt ((Value.slice ya YL yc).ownBlock ≠ some br ∧ (Value.slice ya YL yc).ownBlock ≠ some bx) := ⟨fun e => hn.out.elim (fun h => hnb.out.1 (by rw [← h]; exact e)) (fun h => absurd Or0.out (Nat.not_lt.2 (h br e))), fun e => hn.out.elim (fun h => hnb.out.2 (by rw [← h]; exact e)) (fun h => absurd Ox0.out (Nat.not_lt.2 (h bx e)))⟩; replace T := Kpt.mk hY.2; have Y2 := Kpt.mk hY.1; clear hY; clear hYL hm m3))
            | (have hm := m2; refine (?_ : wpList _ _ _ (Oper.mk none (Op.store 34 _ _) _ _ _ _ :: _) _ _); go_must (refine wpList_store_bx rfl 34 _ _ rfl b_y _ (resV 0 noS (.slice (some ⟨gy, 0, none⟩) 16 cy)) rfl rfl Oy.out.bx rfl infoR (resV_one _ _ _ _ _) rfl ?_; intro we hX_ hg_; replace Or := Kpt.mk (Or.out.other hg_ (fun e => by have := Option.some.inj e; have := qb.out.1; omega)); replace Ox := Kpt.mk (Ox.out.other hg_ (fun e => by have := Option.some.inj e; have := qb.out.2.1; omega)); replace X := Kpt.mk (X.out.other hg_ (fun g e1 e => by have h1 : gx = g := Option.some.inj e1; have h2 := Option.some.inj e; have := qb.out.2.2.1; omega)); replace Y := Kpt.mk (Y.out.other hg_ (fun g e1 e => by have := Option.some.inj e; have := qb.out.2.2.2.2 g e1; omega)); replace D := Kpt.mk (D.out.other hg_ (fun g e1 e => by have h1 : gy = g := Option.some.inj e1; have h2 := Option.some.inj e; have := qb.out.2.2.2.1; omega)); replace T := Kpt.mk (T.out.own hg_ Oy.out.un Oy.out.lo); replace Oy := Kpt.mk (Oy.out.set hX_ hg_.size); have ry := (resV_at Oy.out.bx).1; have rd := (resV_at Oy.out.bx).2.1; clear hX_ hg_); clear hm m2; have m3 : Kpt True := ⟨trivial⟩)
            | (have hm := m1; refine wpList_var rfl 34 rfl zeroR zeroRi ?_; intro b_y wd hl_ hX_ h_; have qb : Kpt (br < b_y ∧ bx < b_y ∧ gx < b_y ∧ gy < b_y ∧ ∀ g, (Value.slice va vn vc).ownBlock = some g → g < b_y) := ⟨Nat.lt_of_lt_of_le Or.out.bx.lt hl_, Nat.lt_of_lt_of_le Ox.out.bx.lt hl_, Nat.lt_of_lt_of_le (X.out.un gx rfl).lt hl_, Nat.lt_of_lt_of_le (D.out.un gy rfl).lt hl_, fun g e => Nat.lt_of_lt_of_le (Y.out.un g e).lt hl_⟩; have Oy := Kpt.mk (T.out.box hl_ hX_); replace T := Kpt.mk (T.out.below h_); replace Or := Kpt.mk (Or.out.mv (Mv.below h_)); replace Ox := Kpt.mk (Ox.out.mv (Mv.below h_)); replace X := Kpt.mk (X.out.mv (Mv.below h_)); replace Y := Kpt.mk (Y.out.mv (Mv.below h_)); replace D := Kpt.mk (D.out.mv (Mv.below h_)); clear hl_ hX_ h_; clear hm m1; have m2 : Kpt True := ⟨trivial⟩)
            | (go_at_call 11; go_must (refine hHB.out.mono ?_; rintro e wc ⟨gy, cy, sB2, t2, rfl, hT, hM, hD, hgy, hF, hV⟩; have qy : Kpt (br < gy ∧ bx < gy ∧ gx < gy ∧ ∀ g, (Value.slice va vn vc).ownBlock = some g → g < gy) := ⟨Nat.lt_of_lt_of_le Or.out.bx.lt hgy, Nat.lt_of_lt_of_le Ox.out.bx.lt hgy, Nat.lt_of_lt_of_le (X.out.un gx rfl).lt hgy, fun g e => Nat.lt_of_lt_of_le (Y.out.un g e).lt hgy⟩; replace T := Kpt.mk hT; replace Or := Kpt.mk (Or.out.mv hM); replace Ox := Kpt.mk (Ox.out.mv hM); replace X := Kpt.mk (X.out.mv hM); replace Y := Kpt.mk (Y.out.mv hM); have D := Kpt.mk hD; have F := Kpt.mk hF; have V := Kpt.mk hV; clear hT hM hD hF hV hgy hHB; have m1 : Kpt True := ⟨trivial⟩))
            | fail)
          go_roundg (16 - (j + 1))
          case measure => omega
          case rel => exact ⟨j + 1, _, _, _, ya, YL, yc, rfl, by go_num, by omega, T, F, V, Or, Ox, X, Y2, hq.out, hnb2.out⟩
        · have e4 : ¬ (j : Int) < 16 := by omega
          have hj16 : j = 16 := by omega
          have hY : Kpt (RdAt wr (.slice va vn vc) (PK 16)) := ⟨by rw [← hj16]; exact Y.out.own.rd⟩
          have c1 := conv_rd hY.out
          have c2 := conv_rd X.out.own.rd
          have q1 := (resV_at Or.out.bx).1
          have q2 := (resV_at Ox.out.bx).1
          have q3 := (resV_at Ox.out.bx).2.1
          have hend := Kpt.mk T.out.be
          clear hj16 hjn hY HXA HYB HWB hPs hPl hQl hP0 F V T X Y Or Ox hne hnb
          obtain ⟨sD, hsD⟩ : ∃ s, s = strOfNums (PK 16) := ⟨_, rfl⟩
          rw [← hsD] at c1 c2
          clear hsD
          go_wp2_with fail
          go_ret
          exact ⟨rfl, hend.out⟩
end Go.Proofs.Ytklboieemljmiaa
