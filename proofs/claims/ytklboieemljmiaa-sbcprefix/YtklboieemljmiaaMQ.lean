/-
  SbcPrefix: the walk. SbcPrefix: the walk.
-/
import Derived.Test.YtklboieemljmiaaMR
namespace Go.Proofs.Ytklboieemljmiaa
open Go.RowKit
set_option linter.unusedVariables false
set_option linter.unusedSimpArgs false
set_option maxRecDepth 100000 in
set_option maxHeartbeats 6000000 in
theorem prefix_wp (ga oa len cap n l f : Nat) (fl lb : Int) (Z : List Int) (w : World) (hn1 : 1 ≤ n) (hn8 : n ≤ 8) (hnl : n * 16 ≤ len) (hcap : len ≤ cap) (hlm : len < 9223372036854775808) (hnq : (len : Int) / 16 = (n : Nat)) (hl : lb % 8 = l) (hl7 : l ≤ 7) (hfl : fl % 12 = f) (hf12 : f < 12) (hlb : 0 ≤ lb ∧ lb ≤ 255) (hfb : 0 ≤ fl ∧ fl ≤ 255) (hga : ga < w.heap.size) (hZ : RdAt w (.slice (some ⟨ga, oa, none⟩) (n * 16) cap) Z) (hZl : Z.length = n * 16) (hZb : Bytes Z) (hfn : n ≤ f) :
    Calls Try.prog 4 #[.slice (some ⟨ga, oa, none⟩) len cap, .int .u8 fl, .int .u8 lb, .bool false] w fun e w' => e = .returned (.bool true) ∧ Below w.heap.size w w' := by
  have HA := Kpt.mk (awake_any w)
  have HD := Kpt.mk (fun W => device_any 16 0 true W (by decide) (by decide))
  have HBy := fun W => bytes_any 256 85 W (by decide)
  rw [show List.replicate 256 (85 : Int) = P5 from rfl] at HBy
  have HW5 : Kpt (∀ W B tag S D g cp, Dv W B tag st0 nmF S D 16 0 true → RdAt W (.slice (some ⟨g, 0, none⟩) 256 cp) P5 → Calls Try.prog 11 #[.pointer (some ⟨D, 0, none⟩), .agg (Cm.vals ⟨8, false, 0, 16, 0, false, 0, false, false, 0, 0, false, 0, 0, false⟩), .slice (some ⟨g, 0, none⟩) 256 cp] W fun e w' => e = .returned (.agg (resV 0 noS (.slice none 0 0))) ∧ Aft W w' B tag s5) :=
    ⟨fun W B tag S D g cp h hr => doWrite_8 W B tag st0 nmF S D 16 0 true 0 16 256 cp _ P5 ⟨8, false, 0, 16, 0, false, 0, false, false, 0, 0, false, 0, 0, false⟩ h (by decide) (by decide) (by decide) (by decide) (by decide) (fun _ => rfl) (fun c hc => by cases hc) (by decide) (by decide) rfl rfl rfl (by decide) hr (by unfold P5; rw [List.length_replicate]) P5_bytes rfl rfl⟩
  have hus : ∀ b ∈ (unBs false Z n), b.ok := unBs_ok false Z n hZb hZl
  have hul : ((unBs false Z n)).length = n := unBs_len _ _ _
  have hQ := q_write Z n hZl
  have hd := pfx_data (stP s5 [(f : Int)]) l n n (unBs false Z n) Z (n * 16) hus hul (by omega) (by omega) rfl hQ
  have hs5 := fine5
  have hms := wrSt_misc (stP s5 [(f : Int)]) nmF l (prL 0 l (unBs false Z n)) n (by rw [prL_len, hul]; omega) hs5.wrs
  have HM : Kpt (∀ W B tag S D, Dv W B tag (stP s5 [(f : Int)]) nmF S D 16 0 true → RdAt W (.slice (some ⟨ga, oa, none⟩) (n * 16) cap) Z → Calls Try.prog 11 #[.pointer (some ⟨D, 0, none⟩), .agg (Cm.vals ⟨8, false, ((l : Nat) : Int), ((n : Nat) : Int), 0, false, 0, false, false, 0, 0, false, 0, 0, false⟩), .slice (some ⟨ga, oa, none⟩) (n * 16) cap] W fun e w' => e = .returned (.agg (resV 0 noS (.slice none 0 0))) ∧ Aft W w' B tag (wrSt (stP s5 [(f : Int)]) nmF l (prL 0 l (unBs false Z n)) n)) :=
    ⟨fun W B tag S D h hr => doWr_part W B tag (stP s5 [(f : Int)]) nmF S D 16 0 l n cap _ Z ⟨8, false, ((l : Nat) : Int), ((n : Nat) : Int), 0, false, 0, false, false, 0, 0, false, 0, 0, false⟩ h (by decide) (by decide) (by decide) (by have := hs5.cnt; simp only [stP]; omega) (by have := hs5.wl; simp only [stP]; omega) hs5.wrs (by decide) (by decide) rfl rfl rfl hn1 (by omega) hr hZl hZb rfl rfl rfl (fun i hi => by simp [stP]; omega)⟩
  obtain ⟨s3, hs3⟩ : ∃ s, s = wrSt (stP s5 [(f : Int)]) nmF l (prL 0 l (unBs false Z n)) n := ⟨_, rfl⟩
  have hs3s : s3.seen = (wrSt (stP s5 [(f : Int)]) nmF l (prL 0 l (unBs false Z n)) n).seen := by rw [hs3]
  have hs3c : s3.cnt ≤ 1000 := by rw [hs3]; have := hms.1; have h2 := hs5.cnt; simp only [stP] at *; omega
  rw [← hs3] at HM
  obtain ⟨DL, hDL⟩ : ∃ x, x = packL false (rdL (s3.seen nmF) 0 16) := ⟨_, rfl⟩
  have hdd := hd.2
  rw [← hs3s, ← hDL] at hdd
  have hdg : Good (s3.seen nmF) := by rw [hs3s]; exact hd.1
  have hDLl : DL.length = 256 := by rw [hDL, packL_len false _ (rdL_ok hdg 0 16), rdL_len]; rfl
  have HR : Kpt (∀ W B tag S D, Dv W B tag (stP s3 []) nmF S D 16 0 true → Calls Try.prog 11 #[.pointer (some ⟨D, 0, none⟩), .agg (Cm.vals ⟨7, false, 0, 16, 0, false, 0, false, false, 0, 0, false, 0, 0, false⟩), .slice none 0 0] W fun e w' => ∃ g cap, e = .returned (.agg (resV 0 noS (.slice (some ⟨g, 0, none⟩) 256 cap))) ∧ Got W w' B tag (rdSt (stP s3 []) 16) g 256 cap DL) :=
    ⟨fun W B tag S D h => by
      have := doRead W B tag (stP s3 []) nmF S D 16 0 true 0 16 ⟨7, false, 0, 16, 0, false, 0, false, false, 0, 0, false, 0, 0, false⟩ (.slice none 0 0) h (by decide) (by decide) (by decide) (by simp only [stP]; omega) (fun i => by simp [stP]) hdg (by decide) (by decide) (show (0 : Int) ≤ 0 by decide) (show (0 : Int) ≤ 4 by decide) (by decide) rfl rfl rfl (by decide) (look_k0 _ _ _)
      rw [show packL ((0 : Int) != 0) (rdL ((stP s3 []).seen nmF) 0 16) = DL from hDL.symm] at this
      exact this⟩
  have HP1 := Kpt.mk (fun W B tag st t h => plan_one W B tag st f t hf12 h)
  have HPn := Kpt.mk (fun W B tag st h => plan_nil W B tag st h)
  simp only [Cm.vals] at HW5 HR
  obtain ⟨L, hL⟩ : ∃ L, L = n * 16 := ⟨_, rfl⟩
  rw [← hL] at HM hdd hZ hZl
  have hfni : ¬ (f : Int) < n := by omega
  have eL : (16 : Int) * n = L := by omega
  have en : IntKind.u64.wrap (n : Int) = n := by rw [IntKind.wrap_u64]; omega
  have el : IntKind.u64.wrap (l : Int) = l := by rw [IntKind.wrap_u64]; omega
  have hn0 : ¬ (n : Int) = 0 := by omega
  have bn0 : ((n : Int) == 0) = false := beq_eq_false_iff_ne.mpr hn0
  have hn8' : ¬ (8 : Int) < n := by omega
  obtain ⟨A, hA⟩ : ∃ A : Nat, (16 : Int) * l = A := ⟨16 * l, by omega⟩
  obtain ⟨E, hE⟩ : ∃ E : Nat, (16 : Int) * n = E := ⟨16 * n, by omega⟩
  have hAb : A ≤ 112 ∧ E ≤ 128 ∧ A + E ≤ 256 := by omega
  have hdd2 : Kpt (∀ x, x < 256 → DL.getD x 0 = if A ≤ x ∧ x < A + E then Z.getD ((x - A) % L) 0 else 85) := ⟨fun x hx => by rw [hdd x hx, show 16 * l = A by omega, show 16 * n = E by omega]⟩
  have hLp : 1 ≤ L := by omega
  have hZK := Kpt.mk hZ
  have hZlK := Kpt.mk hZl
  have hDlK := Kpt.mk hDLl
  replace HBy := Kpt.mk HBy
  have hLb : L ≤ len := by omega
  clear hus hul hQ hd hs5 hms hs3 hs3s hs3c hDL hdd hdg hDLl hZ hZl hZb hL 
  go_enter Try.func4, Try.ntmps4
  go_wp2_with (first
      | (have hm := m14; refine wpList_store_bx rfl 34 _ _ rfl be _ (resV 0 noS (.slice (some ⟨gy, 0, none⟩) 256 cy)) rfl rfl Oe.out.bx rfl infoR (resV_one _ _ _ _ _) rfl ?_; intro w15 hX_ hg_; replace Oa := Kpt.mk (Oa.out.other hg_ (by omega)); replace Ok := Kpt.mk (Ok.out.other hg_ (by omega)); replace Or := Kpt.mk (Or.out.other hg_ (by omega)); replace Rp := Kpt.mk (Rp.out.other hg_ (by omega)); replace Ry := Kpt.mk (Ry.out.other hg_ (by omega)); replace IV := Kpt.mk (IV.out.other hg_ Oe.out.lo); replace F := Kpt.mk (F.out.own Oe.out hg_ hSl hDl); replace Oe := Kpt.mk (Oe.out.set hX_); clear hX_ hg_; clear hm m14; have m15 : Kpt True := ⟨trivial⟩; have re := (resV_at Oe.out.bx).1; have re9 := (resV_at Oe.out.bx).2.1; have le_ := Oe.out.bx.lt; have rr := (resV_at Or.out.bx).1; have lr := Or.out.bx.lt)
      | (have hm := m13; refine wpList_var rfl 34 rfl zeroR zeroRi ?_; intro be w_e hl_ hX_ h_; have q_a_e : ba < be := Nat.lt_of_lt_of_le Oa.out.bx.lt hl_; have q_k_e : bk < be := Nat.lt_of_lt_of_le Ok.out.bx.lt hl_; have q_r_e : br < be := Nat.lt_of_lt_of_le Or.out.bx.lt hl_; have q_p_e : gp < be := Nat.lt_of_lt_of_le Rp.out.lt hl_; have q_y_e : gy < be := Nat.lt_of_lt_of_le Ry.out.lt hl_; have Oe := Kpt.mk (F.out.new hl_ hX_); replace Oa := Kpt.mk (Oa.out.below h_); replace Ok := Kpt.mk (Ok.out.below h_); replace Or := Kpt.mk (Or.out.below h_); replace Rp := Kpt.mk (Rp.out.below h_); replace Ry := Kpt.mk (Ry.out.below h_); replace IV := Kpt.mk (IV.out.below h_); replace F := Kpt.mk (F.out.below h_); clear hl_ hX_ h_; clear hm m13; have m14 : Kpt True := ⟨trivial⟩)
      | (go_at_call 11; have hm := m12; go_must (refine (HR.out _ _ _ _ _ F.out.dv).mono ?_; rintro e w13 ⟨gy, cy, rfl, tagY, hW_, s_, hrow_, hgn_⟩; have q_a_y : ba < gy := Nat.lt_of_lt_of_le Oa.out.bx.lt (own_lo hrow_).1; have q_k_y : bk < gy := Nat.lt_of_lt_of_le Ok.out.bx.lt (own_lo hrow_).1; have q_r_y : br < gy := Nat.lt_of_lt_of_le Or.out.bx.lt (own_lo hrow_).1; have q_p_y : gp < gy := Nat.lt_of_lt_of_le Rp.out.lt (own_lo hrow_).1; have Ry_ := Kpt.mk (Ob.mk (w := w2) (tag' := tagY) (own_base hrow_ F.out.st.size) hgn_); replace Oa := Kpt.mk (Oa.out.call s_); replace Ok := Kpt.mk (Ok.out.call s_); replace Or := Kpt.mk (Or.out.call s_); replace Rp := Kpt.mk (Rp.out.call s_); replace IV := Kpt.mk (IV.out.call s_); replace F := Kpt.mk (F.out.call hW_ s_); have Ry := Ry_; clear Ry_; clear hW_ s_ hrow_ hgn_; clear hm m12; have m13 : Kpt True := ⟨trivial⟩))
      | (go_at_call 15; have hm := m11; go_must (refine (HPn.out _ _ _ _ F.out.dv.wd).mono ?_; rintro e wN ⟨rfl, tagN, hW_, s_⟩; replace Oa := Kpt.mk (Oa.out.call s_); replace Ok := Kpt.mk (Ok.out.call s_); replace Or := Kpt.mk (Or.out.call s_); replace Rp := Kpt.mk (Rp.out.call s_); replace IV := Kpt.mk (IV.out.call s_); replace F := Kpt.mk (F.out.call hW_ s_); clear hW_ s_; clear hm m11; have m12 : Kpt True := ⟨trivial⟩))
      | (have hm := m10; refine wpList_store_bx rfl 34 _ _ rfl br _ (resV 0 noS (.slice none 0 0)) rfl rfl Or.out.bx rfl infoR (resV_one _ _ _ _ _) rfl ?_; intro w11 hX_ hg_; replace Oa := Kpt.mk (Oa.out.other hg_ (by omega)); replace Ok := Kpt.mk (Ok.out.other hg_ (by omega)); replace Rp := Kpt.mk (Rp.out.other hg_ (by omega)); replace IV := Kpt.mk (IV.out.other hg_ Or.out.lo); replace F := Kpt.mk (F.out.own Or.out hg_ hSl hDl); replace Or := Kpt.mk (Or.out.set hX_); clear hX_ hg_; clear hm m10; have m11 : Kpt True := ⟨trivial⟩)
      | (have hm := m9; refine wpList_var rfl 34 rfl zeroR zeroRi ?_; intro br w_r hl_ hX_ h_; have q_a_r : ba < br := Nat.lt_of_lt_of_le Oa.out.bx.lt hl_; have q_k_r : bk < br := Nat.lt_of_lt_of_le Ok.out.bx.lt hl_; have q_p_r : gp < br := Nat.lt_of_lt_of_le Rp.out.lt hl_; have Or := Kpt.mk (F.out.new hl_ hX_); replace Oa := Kpt.mk (Oa.out.below h_); replace Ok := Kpt.mk (Ok.out.below h_); replace Rp := Kpt.mk (Rp.out.below h_); replace IV := Kpt.mk (IV.out.below h_); replace F := Kpt.mk (F.out.below h_); clear hl_ hX_ h_; clear hm m9; have m10 : Kpt True := ⟨trivial⟩)
      | (go_at_call 11; have hm := m8; go_must (refine (HM.out _ _ _ _ _ F.out.dv IV.out.rd).mono ?_; rintro e wM ⟨rfl, tagM, hW_, s_⟩; replace Oa := Kpt.mk (Oa.out.call s_); replace Ok := Kpt.mk (Ok.out.call s_); replace Rp := Kpt.mk (Rp.out.call s_); replace IV := Kpt.mk (IV.out.call s_); replace F := Kpt.mk (F.out.call hW_ s_); clear hW_ s_; clear hm m8; have m9 : Kpt True := ⟨trivial⟩))
      | (have hm := m7; refine wpList_load_bx rfl 38 _ rfl bk (Cm.vals ⟨8, false, ((l : Nat) : Int), ((n : Nat) : Int), 0, false, 0, false, false, 0, 0, false, 0, 0, false⟩) rfl Ok.out.bx _ Try.underlying38 rfl infoC ?_; clear hm m7; have m8 : Kpt True := ⟨trivial⟩)
      | (have hm := m6; refine wpList_store_bx rfl 38 _ _ rfl bk _ (Cm.vals ⟨8, false, ((l : Nat) : Int), ((n : Nat) : Int), 0, false, 0, false, false, 0, 0, false, 0, 0, false⟩) rfl rfl Ok.out.bx rfl infoC (cm_one _) rfl ?_; intro w7 hX_ hg_; replace Oa := Kpt.mk (Oa.out.other hg_ (by omega)); replace Rp := Kpt.mk (Rp.out.other hg_ (by omega)); replace IV := Kpt.mk (IV.out.other hg_ Ok.out.lo); replace F := Kpt.mk (F.out.own Ok.out hg_ hSl hDl); replace Ok := Kpt.mk (Ok.out.set hX_); clear hX_ hg_; clear hm m6; have m7 : Kpt True := ⟨trivial⟩)
      | (have hm := m5; refine wpList_var rfl 38 rfl zeroC zeroCi ?_; intro bk w_k hl_ hX_ h_; have q_a_k : ba < bk := Nat.lt_of_lt_of_le Oa.out.bx.lt hl_; have q_p_k : gp < bk := Nat.lt_of_lt_of_le Rp.out.lt hl_; have Ok := Kpt.mk (F.out.new hl_ hX_); replace Oa := Kpt.mk (Oa.out.below h_); replace Rp := Kpt.mk (Rp.out.below h_); replace IV := Kpt.mk (IV.out.below h_); replace F := Kpt.mk (F.out.below h_); clear hl_ hX_ h_; clear hm m5; have m6 : Kpt True := ⟨trivial⟩)
      | (go_at_call 15; have hm := m4; go_must (clear ra la_; refine (HP1.out _ _ _ _ _ F.out.dv.wd).mono ?_; rintro e wP ⟨rfl, tagP, hW_, s_⟩; replace Oa := Kpt.mk (Oa.out.call s_); replace Rp := Kpt.mk (Rp.out.call s_); replace IV := Kpt.mk (IV.out.call s_); replace F := Kpt.mk (F.out.call hW_ s_); clear hW_ s_; clear hm m4; have m5 : Kpt True := ⟨trivial⟩))
      | (have hm := m3; refine wpList_store_bx rfl 34 _ _ rfl ba _ (resV 0 noS (.slice none 0 0)) rfl rfl Oa.out.bx rfl infoR (resV_one _ _ _ _ _) rfl ?_; intro w4 hX_ hg_; replace Rp := Kpt.mk (Rp.out.other hg_ (by omega)); replace IV := Kpt.mk (IV.out.other hg_ Oa.out.lo); replace F := Kpt.mk (F.out.own Oa.out hg_ hSl hDl); replace Oa := Kpt.mk (Oa.out.set hX_); clear hX_ hg_; clear hm m3; have m4 : Kpt True := ⟨trivial⟩; have ra := (resV_at Oa.out.bx).1; have la_ := Oa.out.bx.lt)
      | (have hm := m2; refine wpList_var rfl 34 rfl zeroR zeroRi ?_; intro ba w_a hl_ hX_ h_; have q_p_a : gp < ba := Nat.lt_of_lt_of_le Rp.out.lt hl_; have Oa := Kpt.mk (F.out.new hl_ hX_); replace Rp := Kpt.mk (Rp.out.below h_); replace IV := Kpt.mk (IV.out.below h_); replace F := Kpt.mk (F.out.below h_); clear hl_ hX_ h_; clear hm m2; have m3 : Kpt True := ⟨trivial⟩)
      | (go_at_call 11; have hm := m1; go_must (refine (HW5.out _ _ _ _ _ _ _ F.out.dv (own_rd Rp.out.own)).mono ?_; rintro e wA ⟨rfl, tagA, hW_, s_⟩; replace Rp := Kpt.mk (Rp.out.call s_); replace IV := Kpt.mk (IV.out.call s_); replace F := Kpt.mk (F.out.call hW_ s_); clear hW_ s_; clear hm m1; have m2 : Kpt True := ⟨trivial⟩))
      | (go_at_call 14; go_must (refine (HBy.out _).mono ?_; rintro e wB5 ⟨gp, rfl, hrow_, h_⟩; have Rp := Kpt.mk (F.out.obs hrow_); replace IV := Kpt.mk (IV.out.below h_); replace F := Kpt.mk (F.out.below h_); clear h_ hrow_; have m1 : Kpt True := ⟨trivial⟩))
      | (go_at_call 10; go_must (go_must (refine (HD.out _).mono ?_; rintro e w2 ⟨D, B, S, tag, rfl, hdv, hb2, ht2⟩; have F := Kpt.mk hdv.fx; have hSl := hdv.sto.lt; have hDl := hdv.bx.lt; have hbT := Kpt.mk (And.intro (hb1.out.trans (hb2.mono hb1.out.size)) (fun i (hi : i < w.heap.size) => ht2 i (Nat.lt_of_lt_of_le hi hb1.out.size))); have IV : Kpt (Yi w2 w2 tag (some ⟨ga, oa, none⟩) L cap Z) := ⟨rd_below hZK.out hbT.out.1, fun g o e => by cases e; exact ⟨Nat.lt_of_lt_of_le hga hbT.out.1.size, hbT.out.2 _ hga⟩, Nat.le_refl _⟩; clear hdv hb2 ht2)))
      | (go_at_call 9; go_must (go_must (refine HA.out.mono ?_; rintro e w1 ⟨rfl, hb1⟩; replace hb1 := Kpt.mk hb1)))
      | fail)
  have hYd := Kpt.mk (fun j hj => own_facts Ry.out.own j hj)
  have hZd := Kpt.mk (fun j hj => rd_byte IV.out.rd hZlK.out j hj)
  have hgy := Ry.out.lt
  have hgz := (IV.out.lo ga oa rfl).1
  have hgz2 := IV.out.sz
  go_loopw [19] (fun t wr => ∃ x : Nat, x ≤ 256 ∧ t = .int .i64 x ∧ Kpt (wr = w15)) (fun t _ => 256 - (intOf t).toNat)
  case atStart => exact ⟨0, by decide, rfl, ⟨by trivial⟩⟩
  case round =>
    obtain ⟨x, hx, rfl, hwr⟩ := hrel
    obtain rfl := hwr.out
    clear hwr
    by_cases hlt : x < 256
    · have e1 : (x : Int) < 256 := by omega
      have hv := hdd2.out x hlt
      have cy0 := hYd.out x hlt
      rw [hv] at cy0
      by_cases h1 : A ≤ x
      · obtain ⟨d, hd⟩ : ∃ d : Nat, (x : Int) - A = d := ⟨x - A, by omega⟩
        have hd0 : (0 : Int) ≤ d := by omega
        by_cases h2 : d < E
        · have h2i : (d : Int) < E := by omega
          rw [if_pos (by omega), show x - A = d by omega] at cy0
          obtain ⟨r, hr⟩ : ∃ r : Nat, r = d % L := ⟨_, rfl⟩
          have hrL : r < L := by rw [hr]; exact Nat.mod_lt _ (by omega)
          have hri : (d : Int) % (L : Nat) = r := by rw [hr]; omega
          skip
          rw [← hr] at cy0
          have cz0 := hZd.out r hrL
          obtain ⟨z, hz⟩ : ∃ z, z = Z.getD r 0 := ⟨_, rfl⟩
          rw [← hz] at cy0 cz0
          clear hz hr hv
          go_wp2
          go_roundw
          case rel => exact ⟨x + 1, by omega, by go_num, ⟨by trivial⟩⟩
          case measure => simp [intOf]; omega
        · have h2i : ¬ (d : Int) < E := by omega
          rw [if_neg (by omega)] at cy0
          clear hv
          go_wp2
          go_roundw
          case rel => exact ⟨x + 1, by omega, by go_num, ⟨by trivial⟩⟩
          case measure => simp [intOf]; omega
      · have h1i : (x : Int) - A < 0 := by omega
        have h1j : ¬ (0 : Int) ≤ (x : Int) - A := by omega
        rw [if_neg (by omega)] at cy0
        clear hv
        go_wp2
        go_roundw
        case rel => exact ⟨x + 1, by omega, by go_num, ⟨by trivial⟩⟩
        case measure => simp [intOf]; omega
    · have e1 : ¬ (x : Int) < 256 := by omega
      go_wp2
      go_ret
      exact ⟨rfl, hbT.out.1.trans (F.out.st.belowT hbT.out.1.size hbT.out.2).1⟩
end Go.Proofs.Ytklboieemljmiaa

namespace Go.Proofs.Ytklboieemljmiaa
open Go.RowKit
set_option linter.unusedVariables false
set_option linter.unusedSimpArgs false
set_option maxRecDepth 100000 in
set_option maxHeartbeats 6000000 in
theorem prefix_wf (ga oa len cap n l f : Nat) (fl lb : Int) (Z : List Int) (w : World) (hn1 : 1 ≤ n) (hn8 : n ≤ 8) (hnl : n * 16 ≤ len) (hcap : len ≤ cap) (hlm : len < 9223372036854775808) (hnq : (len : Int) / 16 = (n : Nat)) (hl : lb % 8 = l) (hl7 : l ≤ 7) (hfl : fl % 12 = f) (hf12 : f < 12) (hlb : 0 ≤ lb ∧ lb ≤ 255) (hfb : 0 ≤ fl ∧ fl ≤ 255) (hga : ga < w.heap.size) (hZ : RdAt w (.slice (some ⟨ga, oa, none⟩) (n * 16) cap) Z) (hZl : Z.length = n * 16) (hZb : Bytes Z) (hfn : f < n) :
    Calls Try.prog 4 #[.slice (some ⟨ga, oa, none⟩) len cap, .int .u8 fl, .int .u8 lb, .bool false] w fun e w' => e = .returned (.bool true) ∧ Below w.heap.size w w' := by
  have HA := Kpt.mk (awake_any w)
  have HD := Kpt.mk (fun W => device_any 16 0 true W (by decide) (by decide))
  have HBy := fun W => bytes_any 256 85 W (by decide)
  rw [show List.replicate 256 (85 : Int) = P5 from rfl] at HBy
  have HW5 : Kpt (∀ W B tag S D g cp, Dv W B tag st0 nmF S D 16 0 true → RdAt W (.slice (some ⟨g, 0, none⟩) 256 cp) P5 → Calls Try.prog 11 #[.pointer (some ⟨D, 0, none⟩), .agg (Cm.vals ⟨8, false, 0, 16, 0, false, 0, false, false, 0, 0, false, 0, 0, false⟩), .slice (some ⟨g, 0, none⟩) 256 cp] W fun e w' => e = .returned (.agg (resV 0 noS (.slice none 0 0))) ∧ Aft W w' B tag s5) :=
    ⟨fun W B tag S D g cp h hr => doWrite_8 W B tag st0 nmF S D 16 0 true 0 16 256 cp _ P5 ⟨8, false, 0, 16, 0, false, 0, false, false, 0, 0, false, 0, 0, false⟩ h (by decide) (by decide) (by decide) (by decide) (by decide) (fun _ => rfl) (fun c hc => by cases hc) (by decide) (by decide) rfl rfl rfl (by decide) hr (by unfold P5; rw [List.length_replicate]) P5_bytes rfl rfl⟩
  have hus : ∀ b ∈ (unBs false Z n), b.ok := unBs_ok false Z n hZb hZl
  have hul : ((unBs false Z n)).length = n := unBs_len _ _ _
  have hQ := q_write Z n hZl
  have hd := pfx_data (stP s5 [(f : Int)]) l f n (unBs false Z n) Z (n * 16) hus hul (by omega) (by omega) rfl hQ
  have hs5 := fine5
  have hms := wrSt_misc (stP s5 [(f : Int)]) nmF l (prL 0 l (unBs false Z n)) f (by rw [prL_len, hul]; omega) hs5.wrs
  have HM : Kpt (∀ W B tag S D, Dv W B tag (stP s5 [(f : Int)]) nmF S D 16 0 true → RdAt W (.slice (some ⟨ga, oa, none⟩) (n * 16) cap) Z → Calls Try.prog 11 #[.pointer (some ⟨D, 0, none⟩), .agg (Cm.vals ⟨8, false, ((l : Nat) : Int), ((n : Nat) : Int), 0, false, 0, false, false, 0, 0, false, 0, 0, false⟩), .slice (some ⟨ga, oa, none⟩) (n * 16) cap] W fun e w' => e = .returned (.agg (resV 2 (nuS 3 3072 ((l + f : Nat) : Int)) (.slice none 0 0))) ∧ Aft W w' B tag (flSt (wrSt (stP s5 [(f : Int)]) nmF l (prL 0 l (unBs false Z n)) f))) :=
    ⟨fun W B tag S D h hr => doWr_fail W B tag (stP s5 [(f : Int)]) nmF S D 16 0 l n cap _ Z ⟨8, false, ((l : Nat) : Int), ((n : Nat) : Int), 0, false, 0, false, false, 0, 0, false, 0, 0, false⟩ h (by decide) (by decide) (by decide) (by have := hs5.cnt; simp only [stP]; omega) (by have := hs5.wl; simp only [stP]; omega) hs5.wrs (by decide) (by decide) rfl rfl rfl hn1 (by omega) hr hZl hZb rfl rfl rfl f hfn (fun i hi => by simp [stP]; omega) (by simp [stP])⟩
  obtain ⟨s3, hs3⟩ : ∃ s, s = flSt (wrSt (stP s5 [(f : Int)]) nmF l (prL 0 l (unBs false Z n)) f) := ⟨_, rfl⟩
  have hs3s : s3.seen = (wrSt (stP s5 [(f : Int)]) nmF l (prL 0 l (unBs false Z n)) f).seen := by rw [hs3]; rfl
  have hs3c : s3.cnt ≤ 1000 := by rw [hs3]; have := hms.1; have h2 := hs5.cnt; simp only [flSt, stP] at *; omega
  rw [← hs3] at HM
  obtain ⟨DL, hDL⟩ : ∃ x, x = packL false (rdL (s3.seen nmF) 0 16) := ⟨_, rfl⟩
  have hdd := hd.2
  rw [← hs3s, ← hDL] at hdd
  have hdg : Good (s3.seen nmF) := by rw [hs3s]; exact hd.1
  have hDLl : DL.length = 256 := by rw [hDL, packL_len false _ (rdL_ok hdg 0 16), rdL_len]; rfl
  have HR : Kpt (∀ W B tag S D, Dv W B tag (stP s3 []) nmF S D 16 0 true → Calls Try.prog 11 #[.pointer (some ⟨D, 0, none⟩), .agg (Cm.vals ⟨7, false, 0, 16, 0, false, 0, false, false, 0, 0, false, 0, 0, false⟩), .slice none 0 0] W fun e w' => ∃ g cap, e = .returned (.agg (resV 0 noS (.slice (some ⟨g, 0, none⟩) 256 cap))) ∧ Got W w' B tag (rdSt (stP s3 []) 16) g 256 cap DL) :=
    ⟨fun W B tag S D h => by
      have := doRead W B tag (stP s3 []) nmF S D 16 0 true 0 16 ⟨7, false, 0, 16, 0, false, 0, false, false, 0, 0, false, 0, 0, false⟩ (.slice none 0 0) h (by decide) (by decide) (by decide) (by simp only [stP]; omega) (fun i => by simp [stP]) hdg (by decide) (by decide) (show (0 : Int) ≤ 0 by decide) (show (0 : Int) ≤ 4 by decide) (by decide) rfl rfl rfl (by decide) (look_k0 _ _ _)
      rw [show packL ((0 : Int) != 0) (rdL ((stP s3 []).seen nmF) 0 16) = DL from hDL.symm] at this
      exact this⟩
  have HP1 := Kpt.mk (fun W B tag st t h => plan_one W B tag st f t hf12 h)
  have HPn := Kpt.mk (fun W B tag st h => plan_nil W B tag st h)
  simp only [Cm.vals] at HW5 HR
  obtain ⟨L, hL⟩ : ∃ L, L = n * 16 := ⟨_, rfl⟩
  rw [← hL] at HM hdd hZ hZl
  have HAt := Kpt.mk (fun W n => at_any 3 3072 n W)
  have HSm := Kpt.mk (fun W s => same_nil 2 s W)
  obtain ⟨lf, hlf⟩ : ∃ x : Nat, x = l + f := ⟨_, rfl⟩
  rw [← hlf] at HM
  have elf : (l : Int) + f = lf := by omega
  have elfw : IntKind.u64.wrap (lf : Int) = lf := by rw [IntKind.wrap_u64]; omega
  have elfi : IntKind.i64.wrap (lf : Int) = lf := by rw [IntKind.wrap_i64]; omega
  have hfni : (f : Int) < n := by omega
  have eL : (16 : Int) * n = L := by omega
  have en : IntKind.u64.wrap (n : Int) = n := by rw [IntKind.wrap_u64]; omega
  have el : IntKind.u64.wrap (l : Int) = l := by rw [IntKind.wrap_u64]; omega
  have hn0 : ¬ (n : Int) = 0 := by omega
  have bn0 : ((n : Int) == 0) = false := beq_eq_false_iff_ne.mpr hn0
  have hn8' : ¬ (8 : Int) < n := by omega
  obtain ⟨A, hA⟩ : ∃ A : Nat, (16 : Int) * l = A := ⟨16 * l, by omega⟩
  obtain ⟨E, hE⟩ : ∃ E : Nat, (16 : Int) * f = E := ⟨16 * f, by omega⟩
  have hAb : A ≤ 112 ∧ E ≤ 128 ∧ A + E ≤ 256 := by omega
  have hdd2 : Kpt (∀ x, x < 256 → DL.getD x 0 = if A ≤ x ∧ x < A + E then Z.getD ((x - A) % L) 0 else 85) := ⟨fun x hx => by rw [hdd x hx, show 16 * l = A by omega, show 16 * f = E by omega]⟩
  have hLp : 1 ≤ L := by omega
  have hZK := Kpt.mk hZ
  have hZlK := Kpt.mk hZl
  have hDlK := Kpt.mk hDLl
  replace HBy := Kpt.mk HBy
  have hLb : L ≤ len := by omega
  clear hus hul hQ hd hs5 hms hs3 hs3s hs3c hDL hdd hdg hDLl hZ hZl hZb hL hlf
  go_enter Try.func4, Try.ntmps4
  go_wp2_with (first
      | (have hm := m14; refine wpList_store_bx rfl 34 _ _ rfl be _ (resV 0 noS (.slice (some ⟨gy, 0, none⟩) 256 cy)) rfl rfl Oe.out.bx rfl infoR (resV_one _ _ _ _ _) rfl ?_; intro w15 hX_ hg_; replace Oa := Kpt.mk (Oa.out.other hg_ (by omega)); replace Ok := Kpt.mk (Ok.out.other hg_ (by omega)); replace Or := Kpt.mk (Or.out.other hg_ (by omega)); replace Rp := Kpt.mk (Rp.out.other hg_ (by omega)); replace Ry := Kpt.mk (Ry.out.other hg_ (by omega)); replace IV := Kpt.mk (IV.out.other hg_ Oe.out.lo); replace F := Kpt.mk (F.out.own Oe.out hg_ hSl hDl); replace Oe := Kpt.mk (Oe.out.set hX_); clear hX_ hg_; clear hm m14; have m15 : Kpt True := ⟨trivial⟩; have re := (resV_at Oe.out.bx).1; have re9 := (resV_at Oe.out.bx).2.1; have le_ := Oe.out.bx.lt; have rr := (resV_at Or.out.bx).1; have lr := Or.out.bx.lt)
      | (have hm := m13; refine wpList_var rfl 34 rfl zeroR zeroRi ?_; intro be w_e hl_ hX_ h_; have q_a_e : ba < be := Nat.lt_of_lt_of_le Oa.out.bx.lt hl_; have q_k_e : bk < be := Nat.lt_of_lt_of_le Ok.out.bx.lt hl_; have q_r_e : br < be := Nat.lt_of_lt_of_le Or.out.bx.lt hl_; have q_p_e : gp < be := Nat.lt_of_lt_of_le Rp.out.lt hl_; have q_y_e : gy < be := Nat.lt_of_lt_of_le Ry.out.lt hl_; have Oe := Kpt.mk (F.out.new hl_ hX_); replace Oa := Kpt.mk (Oa.out.below h_); replace Ok := Kpt.mk (Ok.out.below h_); replace Or := Kpt.mk (Or.out.below h_); replace Rp := Kpt.mk (Rp.out.below h_); replace Ry := Kpt.mk (Ry.out.below h_); replace IV := Kpt.mk (IV.out.below h_); replace F := Kpt.mk (F.out.below h_); clear hl_ hX_ h_; clear hm m13; have m14 : Kpt True := ⟨trivial⟩)
      | (go_at_call 11; have hm := m12; go_must (refine (HR.out _ _ _ _ _ F.out.dv).mono ?_; rintro e w13 ⟨gy, cy, rfl, tagY, hW_, s_, hrow_, hgn_⟩; have q_a_y : ba < gy := Nat.lt_of_lt_of_le Oa.out.bx.lt (own_lo hrow_).1; have q_k_y : bk < gy := Nat.lt_of_lt_of_le Ok.out.bx.lt (own_lo hrow_).1; have q_r_y : br < gy := Nat.lt_of_lt_of_le Or.out.bx.lt (own_lo hrow_).1; have q_p_y : gp < gy := Nat.lt_of_lt_of_le Rp.out.lt (own_lo hrow_).1; have Ry_ := Kpt.mk (Ob.mk (w := w2) (tag' := tagY) (own_base hrow_ F.out.st.size) hgn_); replace Oa := Kpt.mk (Oa.out.call s_); replace Ok := Kpt.mk (Ok.out.call s_); replace Or := Kpt.mk (Or.out.call s_); replace Rp := Kpt.mk (Rp.out.call s_); replace IV := Kpt.mk (IV.out.call s_); replace F := Kpt.mk (F.out.call hW_ s_); have Ry := Ry_; clear Ry_; clear hW_ s_ hrow_ hgn_; clear hm m12; have m13 : Kpt True := ⟨trivial⟩))
      | (go_at_call 15; have hm := m11; go_must (refine (HPn.out _ _ _ _ F.out.dv.wd).mono ?_; rintro e wN ⟨rfl, tagN, hW_, s_⟩; replace Oa := Kpt.mk (Oa.out.call s_); replace Ok := Kpt.mk (Ok.out.call s_); replace Or := Kpt.mk (Or.out.call s_); replace Rp := Kpt.mk (Rp.out.call s_); replace IV := Kpt.mk (IV.out.call s_); replace F := Kpt.mk (F.out.call hW_ s_); clear hW_ s_; clear hm m11; have m12 : Kpt True := ⟨trivial⟩))
      | (have hm := m10; refine wpList_store_bx rfl 34 _ _ rfl br _ (resV 2 (nuS 3 3072 (lf : Int)) (.slice none 0 0)) rfl rfl Or.out.bx rfl infoR (resV_one _ _ _ _ _) rfl ?_; intro w11 hX_ hg_; replace Oa := Kpt.mk (Oa.out.other hg_ (by omega)); replace Ok := Kpt.mk (Ok.out.other hg_ (by omega)); replace Rp := Kpt.mk (Rp.out.other hg_ (by omega)); replace IV := Kpt.mk (IV.out.other hg_ Or.out.lo); replace F := Kpt.mk (F.out.own Or.out hg_ hSl hDl); replace Or := Kpt.mk (Or.out.set hX_); clear hX_ hg_; clear hm m10; have m11 : Kpt True := ⟨trivial⟩)
      | (have hm := m9; refine wpList_var rfl 34 rfl zeroR zeroRi ?_; intro br w_r hl_ hX_ h_; have q_a_r : ba < br := Nat.lt_of_lt_of_le Oa.out.bx.lt hl_; have q_k_r : bk < br := Nat.lt_of_lt_of_le Ok.out.bx.lt hl_; have q_p_r : gp < br := Nat.lt_of_lt_of_le Rp.out.lt hl_; have Or := Kpt.mk (F.out.new hl_ hX_); replace Oa := Kpt.mk (Oa.out.below h_); replace Ok := Kpt.mk (Ok.out.below h_); replace Rp := Kpt.mk (Rp.out.below h_); replace IV := Kpt.mk (IV.out.below h_); replace F := Kpt.mk (F.out.below h_); clear hl_ hX_ h_; clear hm m9; have m10 : Kpt True := ⟨trivial⟩)
      | (go_at_call 11; have hm := m8; go_must (refine (HM.out _ _ _ _ _ F.out.dv IV.out.rd).mono ?_; rintro e wM ⟨rfl, tagM, hW_, s_⟩; replace Oa := Kpt.mk (Oa.out.call s_); replace Ok := Kpt.mk (Ok.out.call s_); replace Rp := Kpt.mk (Rp.out.call s_); replace IV := Kpt.mk (IV.out.call s_); replace F := Kpt.mk (F.out.call hW_ s_); clear hW_ s_; clear hm m8; have m9 : Kpt True := ⟨trivial⟩))
      | (have hm := m7; refine wpList_load_bx rfl 38 _ rfl bk (Cm.vals ⟨8, false, ((l : Nat) : Int), ((n : Nat) : Int), 0, false, 0, false, false, 0, 0, false, 0, 0, false⟩) rfl Ok.out.bx _ Try.underlying38 rfl infoC ?_; clear hm m7; have m8 : Kpt True := ⟨trivial⟩)
      | (have hm := m6; refine wpList_store_bx rfl 38 _ _ rfl bk _ (Cm.vals ⟨8, false, ((l : Nat) : Int), ((n : Nat) : Int), 0, false, 0, false, false, 0, 0, false, 0, 0, false⟩) rfl rfl Ok.out.bx rfl infoC (cm_one _) rfl ?_; intro w7 hX_ hg_; replace Oa := Kpt.mk (Oa.out.other hg_ (by omega)); replace Rp := Kpt.mk (Rp.out.other hg_ (by omega)); replace IV := Kpt.mk (IV.out.other hg_ Ok.out.lo); replace F := Kpt.mk (F.out.own Ok.out hg_ hSl hDl); replace Ok := Kpt.mk (Ok.out.set hX_); clear hX_ hg_; clear hm m6; have m7 : Kpt True := ⟨trivial⟩)
      | (have hm := m5; refine wpList_var rfl 38 rfl zeroC zeroCi ?_; intro bk w_k hl_ hX_ h_; have q_a_k : ba < bk := Nat.lt_of_lt_of_le Oa.out.bx.lt hl_; have q_p_k : gp < bk := Nat.lt_of_lt_of_le Rp.out.lt hl_; have Ok := Kpt.mk (F.out.new hl_ hX_); replace Oa := Kpt.mk (Oa.out.below h_); replace Rp := Kpt.mk (Rp.out.below h_); replace IV := Kpt.mk (IV.out.below h_); replace F := Kpt.mk (F.out.below h_); clear hl_ hX_ h_; clear hm m5; have m6 : Kpt True := ⟨trivial⟩)
      | (go_at_call 15; have hm := m4; go_must (clear ra la_; refine (HP1.out _ _ _ _ _ F.out.dv.wd).mono ?_; rintro e wP ⟨rfl, tagP, hW_, s_⟩; replace Oa := Kpt.mk (Oa.out.call s_); replace Rp := Kpt.mk (Rp.out.call s_); replace IV := Kpt.mk (IV.out.call s_); replace F := Kpt.mk (F.out.call hW_ s_); clear hW_ s_; clear hm m4; have m5 : Kpt True := ⟨trivial⟩))
      | (have hm := m3; refine wpList_store_bx rfl 34 _ _ rfl ba _ (resV 0 noS (.slice none 0 0)) rfl rfl Oa.out.bx rfl infoR (resV_one _ _ _ _ _) rfl ?_; intro w4 hX_ hg_; replace Rp := Kpt.mk (Rp.out.other hg_ (by omega)); replace IV := Kpt.mk (IV.out.other hg_ Oa.out.lo); replace F := Kpt.mk (F.out.own Oa.out hg_ hSl hDl); replace Oa := Kpt.mk (Oa.out.set hX_); clear hX_ hg_; clear hm m3; have m4 : Kpt True := ⟨trivial⟩; have ra := (resV_at Oa.out.bx).1; have la_ := Oa.out.bx.lt)
      | (have hm := m2; refine wpList_var rfl 34 rfl zeroR zeroRi ?_; intro ba w_a hl_ hX_ h_; have q_p_a : gp < ba := Nat.lt_of_lt_of_le Rp.out.lt hl_; have Oa := Kpt.mk (F.out.new hl_ hX_); replace Rp := Kpt.mk (Rp.out.below h_); replace IV := Kpt.mk (IV.out.below h_); replace F := Kpt.mk (F.out.below h_); clear hl_ hX_ h_; clear hm m2; have m3 : Kpt True := ⟨trivial⟩)
      | (go_at_call 11; have hm := m1; go_must (refine (HW5.out _ _ _ _ _ _ _ F.out.dv (own_rd Rp.out.own)).mono ?_; rintro e wA ⟨rfl, tagA, hW_, s_⟩; replace Rp := Kpt.mk (Rp.out.call s_); replace IV := Kpt.mk (IV.out.call s_); replace F := Kpt.mk (F.out.call hW_ s_); clear hW_ s_; clear hm m1; have m2 : Kpt True := ⟨trivial⟩))
      | (go_at_call 14; go_must (refine (HBy.out _).mono ?_; rintro e wB5 ⟨gp, rfl, hrow_, h_⟩; have Rp := Kpt.mk (F.out.obs hrow_); replace IV := Kpt.mk (IV.out.below h_); replace F := Kpt.mk (F.out.below h_); clear h_ hrow_; have m1 : Kpt True := ⟨trivial⟩))
      | (go_at_call 10; go_must (go_must (refine (HD.out _).mono ?_; rintro e w2 ⟨D, B, S, tag, rfl, hdv, hb2, ht2⟩; have F := Kpt.mk hdv.fx; have hSl := hdv.sto.lt; have hDl := hdv.bx.lt; have hbT := Kpt.mk (And.intro (hb1.out.trans (hb2.mono hb1.out.size)) (fun i (hi : i < w.heap.size) => ht2 i (Nat.lt_of_lt_of_le hi hb1.out.size))); have IV : Kpt (Yi w2 w2 tag (some ⟨ga, oa, none⟩) L cap Z) := ⟨rd_below hZK.out hbT.out.1, fun g o e => by cases e; exact ⟨Nat.lt_of_lt_of_le hga hbT.out.1.size, hbT.out.2 _ hga⟩, Nat.le_refl _⟩; clear hdv hb2 ht2)))
      | (go_at_call 9; go_must (go_must (refine HA.out.mono ?_; rintro e w1 ⟨rfl, hb1⟩; replace hb1 := Kpt.mk hb1)))
      | fail)
  clear re re9 le_ rr lr
  refine wp_region_any (by kernel_rfl) ?_
  refine wpAny_of_C (C := fun W => Bx W br (resV 2 (nuS 3 3072 (lf : Int)) (.slice none 0 0))) _ _ _ _ ?_
  refine wpAnyC_take 0 (.agg (resV 2 (nuS 3 3072 (lf : Int)) (.slice none 0 0))) rfl (by kernel_rfl) (by kernel_rfl) (by kernel_rfl) (fun _ _ _ h => h) (wanted_free rfl _) (fun W hW => exec_load_bxG 34 (.tmp 16) rfl br _ rfl hW _ Try.underlying34 rfl infoR) ?_
  try simp only [Act.put, List.getElem_toArray, List.getElem_cons_succ, List.getElem_cons_zero, List.setIfInBounds_toArray, List.set_cons_succ, List.set_cons_zero]
  refine wpAnyC_take 1 (.int .i64 l) rfl (by kernel_rfl) (by kernel_rfl) (by kernel_rfl) (fun _ _ _ h => h) (wanted_free rfl _) (fun W hW => by go_simp) ?_
  try simp only [Act.put, List.getElem_toArray, List.getElem_cons_succ, List.getElem_cons_zero, List.setIfInBounds_toArray, List.set_cons_succ, List.set_cons_zero]
  refine wpAnyC_take 2 (.int .i64 f) rfl (by kernel_rfl) (by kernel_rfl) (by kernel_rfl) (fun _ _ _ h => h) (wanted_free rfl _) (fun W hW => by go_simp) ?_
  try simp only [Act.put, List.getElem_toArray, List.getElem_cons_succ, List.getElem_cons_zero, List.setIfInBounds_toArray, List.set_cons_succ, List.set_cons_zero]
  refine wpAnyC_take 3 (.int .i64 lf) rfl (by kernel_rfl) (by kernel_rfl) (by kernel_rfl) (fun _ _ _ h => h) (wanted_free rfl _) (fun W hW => by go_simp) ?_
  try simp only [Act.put, List.getElem_toArray, List.getElem_cons_succ, List.getElem_cons_zero, List.setIfInBounds_toArray, List.set_cons_succ, List.set_cons_zero]
  refine wpAnyC_take 4 (.int .u64 lf) rfl (by kernel_rfl) (by kernel_rfl) (by kernel_rfl) (fun _ _ _ h => h) (wanted_free rfl _) (fun W hW => by go_simp) ?_
  try simp only [Act.put, List.getElem_toArray, List.getElem_cons_succ, List.getElem_cons_zero, List.setIfInBounds_toArray, List.set_cons_succ, List.set_cons_zero]
  refine wpAnyC_one 5 (Or.out.bx.drew) rfl (by kernel_rfl) (wanted_free rfl _) (fun KA hKA => ?_)
  go_simp
  refine (HAt.out _ _).mono ?_
  rintro e wE ⟨rfl, hE_⟩
  have h_ := below_undrew hE_
  replace Oa := Kpt.mk (Oa.out.below h_)
  replace Ok := Kpt.mk (Ok.out.below h_)
  replace Or := Kpt.mk (Or.out.below h_)
  replace Oe := Kpt.mk (Oe.out.below h_)
  replace Rp := Kpt.mk (Rp.out.below h_)
  replace Ry := Kpt.mk (Ry.out.below h_)
  replace IV := Kpt.mk (IV.out.below h_)
  replace F := Kpt.mk (F.out.below h_)
  refine hKA _ _ ?_
  clear hKA KA
  try simp only [Act.put, List.getElem_toArray, List.getElem_cons_succ, List.getElem_cons_zero, List.setIfInBounds_toArray, List.set_cons_succ, List.set_cons_zero]
  refine wpAnyC_one 6 (Or.out.bx) rfl (by kernel_rfl) (wanted_free rfl _) (fun KA hKA => ?_)
  go_simp
  refine (HSm.out _ _).mono ?_
  rintro e wG ⟨rfl, h2_⟩
  replace Oa := Kpt.mk (Oa.out.below h2_)
  replace Ok := Kpt.mk (Ok.out.below h2_)
  replace Or := Kpt.mk (Or.out.below h2_)
  replace Oe := Kpt.mk (Oe.out.below h2_)
  replace Rp := Kpt.mk (Rp.out.below h2_)
  replace Ry := Kpt.mk (Ry.out.below h2_)
  replace IV := Kpt.mk (IV.out.below h2_)
  replace F := Kpt.mk (F.out.below h2_)
  refine hKA _ _ ?_
  clear hKA KA
  try simp only [Act.put, List.getElem_toArray, List.getElem_cons_succ, List.getElem_cons_zero, List.setIfInBounds_toArray, List.set_cons_succ, List.set_cons_zero]
  refine wpAnyC_take 7 (.bool false) rfl (by kernel_rfl) (by kernel_rfl) (by kernel_rfl) (fun _ _ _ h => h) (wanted_free rfl _) (fun W hW => by go_simp) ?_
  try simp only [Act.put, List.getElem_toArray, List.getElem_cons_succ, List.getElem_cons_zero, List.setIfInBounds_toArray, List.set_cons_succ, List.set_cons_zero]
  refine wpAnyC_done (Or.out.bx) (by kernel_rfl) ?_
  have re := (resV_at Oe.out.bx).1
  have re9 := (resV_at Oe.out.bx).2.1
  have le_ := Oe.out.bx.lt
  go_wp2_with fail
  have hYd := Kpt.mk (fun j hj => own_facts Ry.out.own j hj)
  have hZd := Kpt.mk (fun j hj => rd_byte IV.out.rd hZlK.out j hj)
  have hgy := Ry.out.lt
  have hgz := (IV.out.lo ga oa rfl).1
  have hgz2 := IV.out.sz
  go_loopw [19] (fun t wr => ∃ x : Nat, x ≤ 256 ∧ t = .int .i64 x ∧ Kpt (wr = wG)) (fun t _ => 256 - (intOf t).toNat)
  case atStart => exact ⟨0, by decide, rfl, ⟨by trivial⟩⟩
  case round =>
    obtain ⟨x, hx, rfl, hwr⟩ := hrel
    obtain rfl := hwr.out
    clear hwr
    by_cases hlt : x < 256
    · have e1 : (x : Int) < 256 := by omega
      have hv := hdd2.out x hlt
      have cy0 := hYd.out x hlt
      rw [hv] at cy0
      by_cases h1 : A ≤ x
      · obtain ⟨d, hd⟩ : ∃ d : Nat, (x : Int) - A = d := ⟨x - A, by omega⟩
        have hd0 : (0 : Int) ≤ d := by omega
        by_cases h2 : d < E
        · have h2i : (d : Int) < E := by omega
          rw [if_pos (by omega), show x - A = d by omega] at cy0
          obtain ⟨r, hr⟩ : ∃ r : Nat, r = d % L := ⟨_, rfl⟩
          have hrL : r < L := by rw [hr]; exact Nat.mod_lt _ (by omega)
          have hri : (d : Int) % (L : Nat) = r := by rw [hr]; omega
          skip
          rw [← hr] at cy0
          have cz0 := hZd.out r hrL
          obtain ⟨z, hz⟩ : ∃ z, z = Z.getD r 0 := ⟨_, rfl⟩
          rw [← hz] at cy0 cz0
          clear hz hr hv
          go_wp2
          go_roundw
          case rel => exact ⟨x + 1, by omega, by go_num, ⟨by trivial⟩⟩
          case measure => simp [intOf]; omega
        · have h2i : ¬ (d : Int) < E := by omega
          rw [if_neg (by omega)] at cy0
          clear hv
          go_wp2
          go_roundw
          case rel => exact ⟨x + 1, by omega, by go_num, ⟨by trivial⟩⟩
          case measure => simp [intOf]; omega
      · have h1i : (x : Int) - A < 0 := by omega
        have h1j : ¬ (0 : Int) ≤ (x : Int) - A := by omega
        rw [if_neg (by omega)] at cy0
        clear hv
        go_wp2
        go_roundw
        case rel => exact ⟨x + 1, by omega, by go_num, ⟨by trivial⟩⟩
        case measure => simp [intOf]; omega
    · have e1 : ¬ (x : Int) < 256 := by omega
      go_wp2
      go_ret
      exact ⟨rfl, hbT.out.1.trans (F.out.st.belowT hbT.out.1.size hbT.out.2).1⟩
end Go.Proofs.Ytklboieemljmiaa
