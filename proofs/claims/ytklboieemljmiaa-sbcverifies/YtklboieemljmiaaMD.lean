/-
  SbcVerifies: the walk. SbcVerifies: the walk. SbcVerifies: the walk.
-/
import Derived.Test.YtklboieemljmiaaMX
namespace Go.Proofs.Ytklboieemljmiaa
open Go.RowKit
set_option linter.unusedVariables false
set_option linter.unusedSimpArgs false
set_option maxRecDepth 100000 in
set_option maxHeartbeats 1000000 in
theorem verifies_0 (a : Option Addr) (len cap : Nat) (at_ by_ lb : Int) (w : World) (hn : len < 16) :
    Calls Try.prog 8 #[.slice a len cap, .int .u16 at_, .int .u8 by_, .int .u8 lb] w fun e w' => e = .returned (.bool true) ∧ Below w.heap.size w w' := by
  have HA := Kpt.mk (awake_any w)
  have HD := Kpt.mk (fun W => device_any 16 0 true W (by decide) (by decide))
  have e0 : wrap64 ((len : Int) / 16) = 0 := by unfold wrap64; omega
  have e1 : min (0 : Int) 6 = 0 := by decide
  go_enter Try.func8, Try.ntmps8
  go_wp2_with (first
      | (go_at_call 10; go_must (go_must (refine (HD.out _).mono ?_; rintro e w2 ⟨D, B, S, tag, rfl, hdv, hb2, ht2⟩; have hb := Kpt.mk (hb1.out.trans (hb2.mono hb1.out.size)); clear hdv hb2 ht2)))
      | (go_at_call 9; go_must (go_must (refine HA.out.mono ?_; rintro e w1 ⟨rfl, hb1⟩; replace hb1 := Kpt.mk hb1)))
      | fail)
  go_ret
  exact ⟨rfl, hb.out⟩

/-- The state behind the first write. -/
def stV (Z : List Int) (l n : Nat) : St := wrF st0 nmF l (prL 0 l (unBs false Z n)) true true
theorem fineV (Z : List Int) (l n : Nat) (hb : Bytes Z) (hZ : Z.length = n * 16) (hn : n ≤ 6) : Fine 100 (stV Z l n) nmF := by
  have := (fine0 nmF).write l (prL 0 l (unBs false Z n)) (prL_ok 0 l _ (unBs_ok false Z n hb hZ)) true true
  rw [prL_len, unBs_len] at this
  exact ⟨by have := this.cnt; show (stV Z l n).cnt ≤ 100; unfold stV; omega, by have := this.wl; show (stV Z l n).waits.length ≤ 100; unfold stV; omega, this.fails, this.wrs, this.good⟩
theorem rdV (Z : List Int) (l n : Nat) (hb : Bytes Z) (hZ : Z.length = n * 16) : rdL ((stV Z l n).seen nmF) l n = prL 0 l (unBs false Z n) := by
  have := rd_wr (st := st0) (f := nmF) good_none l (prL 0 l (unBs false Z n)) (prL_ok 0 l _ (unBs_ok false Z n hb hZ)) true true
  rw [prL_len, unBs_len] at this
  exact this
theorem waitsV (Z : List Int) (l n : Nat) (h : 1 ≤ n) : (stV Z l n).waits = [] := by
  unfold stV wrF
  rw [prL_len, unBs_len, show settled true true n = false from by unfold settled; simp; omega]
  rfl

end Go.Proofs.Ytklboieemljmiaa

namespace Go.Proofs.Ytklboieemljmiaa
open Go.RowKit
set_option linter.unusedVariables false
set_option linter.unusedSimpArgs false
set_option maxRecDepth 100000 in
set_option maxHeartbeats 6000000 in
theorem verifies_n (a : Option Addr) (len cap n l : Nat) (zs : List Int) (at_ by_ lb : Int) (w : World) (hI : Inp w a len cap zs) (hn1 : 1 ≤ n) (hn6 : n ≤ 6) (hnl : n * 16 ≤ len) (hnq : (len : Int) / 16 = (n : Nat)) (hl : lb % 10 = l) (hl9 : l ≤ 9) (ha : 0 ≤ at_ ∧ at_ ≤ 65535) (hb : 0 ≤ by_ ∧ by_ ≤ 255) (hlb : 0 ≤ lb ∧ lb ≤ 255) :
    Calls Try.prog 8 #[.slice a len cap, .int .u16 at_, .int .u8 by_, .int .u8 lb] w fun e w' => e = .returned (.bool true) ∧ Below w.heap.size w w' := by
  obtain ⟨Z, hZ⟩ : ∃ Z, Z = zs.take (n * 16) := ⟨_, rfl⟩
  have hrd : Kpt (RdAt w (.slice a (n * 16) cap) Z) := ⟨by rw [hZ]; exact hI.rd _ hnl⟩
  have hZl : Z.length = n * 16 := by rw [hZ, List.length_take]; have := hI.hz; omega
  have hZb : Bytes Z := by rw [hZ]; exact take_bytes hI.byt _
  obtain ⟨ga, oa, rfl, hga⟩ := hI.shape (by omega)
  have hcap := hI.hl
  have HA := Kpt.mk (awake_any w)
  have HD := Kpt.mk (fun W => device_any 16 0 true W (by decide) (by decide))
  have hF := fineV Z l n hZb hZl hn6
  have hrv := rdV Z l n hZb hZl
  have hwv := waitsV Z l n (by omega)
  have HW : Kpt (∀ W B tag S D, Dv W B tag st0 nmF S D 16 0 true → RdAt W (.slice (some ⟨ga, oa, none⟩) (n * 16) cap) Z → Calls Try.prog 11 #[.pointer (some ⟨D, 0, none⟩), .agg (Cm.vals ⟨9, false, ((l : Nat) : Int), ((n : Nat) : Int), 0, false, 0, false, false, 0, 0, false, 0, 0, false⟩), .slice (some ⟨ga, oa, none⟩) (n * 16) cap] W fun e w' => e = .returned (.agg (resV 0 noS (.slice none 0 0))) ∧ Aft W w' B tag (stV Z l n)) :=
    ⟨fun W B tag S D h hr => doWrite_9 W B tag st0 nmF S D 16 0 true l n (n * 16) cap _ Z ⟨9, false, ((l : Nat) : Int), ((n : Nat) : Int), 0, false, 0, false, false, 0, 0, false, 0, 0, false⟩ h (by decide) (by decide) (by decide) (by decide) (by decide) (fun _ => rfl) (fun c hc => by cases hc) (by decide) (by decide) rfl rfl rfl (by omega) hr hZl hZb rfl rfl⟩
  obtain ⟨sV, hsV⟩ : ∃ sV, sV = stV Z l n := ⟨_, rfl⟩
  rw [← hsV] at HW hF hrv hwv
  have HVs : Kpt (∀ W B tag S D, Dv W B tag sV nmF S D 16 0 true → RdAt W (.slice (some ⟨ga, oa, none⟩) (n * 16) cap) Z → Calls Try.prog 11 #[.pointer (some ⟨D, 0, none⟩), .agg (Cm.vals ⟨10, false, ((l : Nat) : Int), ((n : Nat) : Int), 0, false, 0, false, false, 0, 0, false, 0, 0, true⟩), .slice (some ⟨ga, oa, none⟩) (n * 16) cap] W fun e w' => e = .returned (.agg (resV 0 noS (.slice none 0 0))) ∧ Aft W w' B tag (rdSt sV n)) :=
    ⟨fun W B tag S D h hr => doVerify_same W B tag sV nmF S D 16 0 true l n (n * 16) cap _ Z ⟨10, false, ((l : Nat) : Int), ((n : Nat) : Int), 0, false, 0, false, false, 0, 0, false, 0, 0, true⟩ h (by decide) (by decide) (by decide) (by have := hF.cnt; omega) hF.fails hF.good (by decide) (by decide) rfl rfl rfl rfl (by omega) (look_k0 _ _ _) rfl hr hZl hZb rfl (by rw [hrv]; exact pr_same 0 l Z n)⟩
  have HVp : Kpt (∀ W B tag S D, Dv W B tag (rdSt sV n) nmF S D 16 0 true → Calls Try.prog 11 #[.pointer (some ⟨D, 0, none⟩), .agg (Cm.vals ⟨10, false, ((l : Nat) : Int), ((n : Nat) : Int), 0, false, 0, false, false, 0, 0, false, 0, 0, false⟩), .slice none 0 0] W fun e w' => e = .returned (.agg (resV 0 noS (.slice none 0 0))) ∧ Aft W w' B tag (rdSt (rdSt sV n) n)) :=
    ⟨fun W B tag S D h => doVerify_plain W B tag (rdSt sV n) nmF S D 16 0 true l n ⟨10, false, ((l : Nat) : Int), ((n : Nat) : Int), 0, false, 0, false, false, 0, 0, false, 0, 0, false⟩ (.slice none 0 0) h (by decide) (by decide) (by decide) (by have := hF.cnt; simp only [rdSt]; omega) hF.fails hF.good (by decide) (by decide) rfl rfl rfl rfl (by omega) (look_k0 _ _ _) rfl⟩
  have HVd : Kpt (∀ W B tag S D g cp i v, Dv W B tag (rdSt (rdSt sV n) n) nmF S D 16 0 true → i < n * 16 → v ≠ Z.getD i 0 → 0 ≤ v ∧ v ≤ 255 → RdAt W (.slice (some ⟨g, 0, none⟩) (n * 16) cp) (Z.set i v) → Calls Try.prog 11 #[.pointer (some ⟨D, 0, none⟩), .agg (Cm.vals ⟨10, false, ((l : Nat) : Int), ((n : Nat) : Int), 0, false, 0, false, false, 0, 0, false, 0, 0, true⟩), .slice (some ⟨g, 0, none⟩) (n * 16) cp] W fun e w' => e = .returned (.agg (resV 2 (nuS 14 7424 i) (.slice none 0 0))) ∧ Aft W w' B tag (rdSt (rdSt (rdSt sV n) n) n)) :=
    ⟨fun W B tag S D g cp i v h hi hv hvb hr => doVerify_dif W B tag (rdSt (rdSt sV n) n) nmF S D 16 0 true l n (n * 16) cp _ (Z.set i v) ⟨10, false, ((l : Nat) : Int), ((n : Nat) : Int), 0, false, 0, false, false, 0, 0, false, 0, 0, true⟩ h (by decide) (by decide) (by decide) (by have := hF.cnt; simp only [rdSt]; omega) hF.fails hF.good (by decide) (by decide) rfl rfl rfl rfl (by omega) (look_k0 _ _ _) rfl hr (by rw [List.length_set]; exact hZl) (set_bytes hZb i hvb) rfl i (by omega) (by show Dif (rdL (sV.seen nmF) l n) _ i; rw [hrv]; exact dif_set Z n i v 0 l hZl hi hv)⟩
  simp only [Cm.vals] at HW HVs HVp HVd
  obtain ⟨L, hL⟩ : ∃ L, L = n * 16 := ⟨_, rfl⟩
  rw [← hL] at HW HVs HVd hrd hZl hnl
  have eL : (16 : Int) * ((n : Nat) : Int) = (L : Int) := by omega
  have hlm : len < 9223372036854775808 := by have := hI.hc; have := hI.hl; unfold maxLen at *; omega
  have eLw : wrap64 (16 * ((n : Nat) : Int)) = (L : Int) := by unfold wrap64; omega
  have en : IntKind.u64.wrap ((n : Nat) : Int) = ((n : Nat) : Int) := by rw [IntKind.wrap_u64]; omega
  have eb : IntKind.u64.wrap lb = lb := by rw [IntKind.wrap_u64]; omega
  have hn0 : ¬ ((n : Nat) : Int) = 0 := by omega
  have bn0 : (((n : Nat) : Int) == 0) = false := beq_eq_false_iff_ne.mpr hn0
  have hwl : Kpt (sV.waits.length = 0) := ⟨by rw [hwv]; rfl⟩
  have hLK : Kpt (L = n * 16) := ⟨by omega⟩
  replace hF := Kpt.mk hF
  replace hZb := Kpt.mk hZb
  replace hZlK := Kpt.mk hZl
  clear hZ hsV hrv hwv hI hL hZl
  have HWt : Kpt (∀ W B tag st, Wd W B tag st → st.waits.length = 0 → Calls Try.prog 17 #[.pointer (some ⟨B, 0, none⟩)] W fun e w' => e = .returned (.int .i64 0) ∧ w' = W) := ⟨fun W B tag st h h0 => by have := waits_any W B tag st h; rw [h0] at this; exact this⟩
  have HAt := Kpt.mk (fun W n => at_any 14 7424 n W)
  have HSm := Kpt.mk (fun W s => same_nil 2 s W)
  by_cases hb0 : by_ = 0
  · subst hb0
    clear HVd HAt HSm
    go_enter Try.func8, Try.ntmps8
    go_wp2_with (first
      | (have hm := m9; refine wpList_store_bx rfl 34 _ _ rfl be _ (resV 0 noS (.slice none 0 0)) rfl rfl Oe.out.bx rfl infoR (resV_one _ _ _ _ _) rfl ?_; intro w10 hX_ hg_; replace Oa := Kpt.mk (Oa.out.other hg_ (by omega)); replace Od := Kpt.mk (Od.out.other hg_ (by omega)); replace IV := Kpt.mk (IV.out.other hg_ Oe.out.lo); replace F := Kpt.mk (F.out.own Oe.out hg_ hSl hDl); replace Oe := Kpt.mk (Oe.out.set hX_); clear hX_ hg_; clear hm m9; have m10 : Kpt True := ⟨trivial⟩; have ra := (resV_at Oa.out.bx).1; have rd_ := (resV_at Od.out.bx).1; have re := (resV_at Oe.out.bx).1; have la := Oa.out.bx.lt; have ld := Od.out.bx.lt; have le := Oe.out.bx.lt)
      | (have hm := m8; refine wpList_var rfl 34 rfl zeroR zeroRi ?_; intro be w_e hl_ hX_ h_; have q_a_e : ba < be := Nat.lt_of_lt_of_le Oa.out.bx.lt hl_; have q_d_e : bd < be := Nat.lt_of_lt_of_le Od.out.bx.lt hl_; have Oe := Kpt.mk (F.out.new hl_ hX_); replace Oa := Kpt.mk (Oa.out.below h_); replace Od := Kpt.mk (Od.out.below h_); replace IV := Kpt.mk (IV.out.below h_); replace F := Kpt.mk (F.out.below h_); clear hl_ hX_ h_; clear hm m8; have m9 : Kpt True := ⟨trivial⟩)
      | (go_at_call 11; have hm := m7; go_must (refine (HVp.out _ _ _ _ _ F.out.dv).mono ?_; rintro e wC ⟨rfl, tagC, hW_, s_⟩; replace Oa := Kpt.mk (Oa.out.call s_); replace Od := Kpt.mk (Od.out.call s_); replace IV := Kpt.mk (IV.out.call s_); replace F := Kpt.mk (F.out.call hW_ s_); clear hW_ s_; clear hm m7; have m8 : Kpt True := ⟨trivial⟩))
      | (have hm := m6; refine wpList_store_bx rfl 34 _ _ rfl bd _ (resV 0 noS (.slice none 0 0)) rfl rfl Od.out.bx rfl infoR (resV_one _ _ _ _ _) rfl ?_; intro w7 hX_ hg_; replace Oa := Kpt.mk (Oa.out.other hg_ (by omega)); replace IV := Kpt.mk (IV.out.other hg_ Od.out.lo); replace F := Kpt.mk (F.out.own Od.out hg_ hSl hDl); replace Od := Kpt.mk (Od.out.set hX_); clear hX_ hg_; clear hm m6; have m7 : Kpt True := ⟨trivial⟩)
      | (have hm := m5; refine wpList_var rfl 34 rfl zeroR zeroRi ?_; intro bd w_d hl_ hX_ h_; have q_a_d : ba < bd := Nat.lt_of_lt_of_le Oa.out.bx.lt hl_; have Od := Kpt.mk (F.out.new hl_ hX_); replace Oa := Kpt.mk (Oa.out.below h_); replace IV := Kpt.mk (IV.out.below h_); replace F := Kpt.mk (F.out.below h_); clear hl_ hX_ h_; clear hm m5; have m6 : Kpt True := ⟨trivial⟩)
      | (go_at_call 11; have hm := m4; go_must (refine (HVs.out _ _ _ _ _ F.out.dv IV.out.rd).mono ?_; rintro e wB ⟨rfl, tagB, hW_, s_⟩; replace Oa := Kpt.mk (Oa.out.call s_); replace IV := Kpt.mk (IV.out.call s_); replace F := Kpt.mk (F.out.call hW_ s_); clear hW_ s_; clear hm m4; have m5 : Kpt True := ⟨trivial⟩))
      | (go_at_call 17; have hm := m3; go_must (refine (HWt.out _ _ _ _ F.out.dv.wd hwl.out).mono ?_; rintro e wW ⟨rfl, rfl⟩; clear hm m3; have m4 : Kpt True := ⟨trivial⟩))
      | (have hm := m2; refine wpList_store_bx rfl 34 _ _ rfl ba _ (resV 0 noS (.slice none 0 0)) rfl rfl Oa.out.bx rfl infoR (resV_one _ _ _ _ _) rfl ?_; intro w3 hX_ hg_; replace IV := Kpt.mk (IV.out.other hg_ Oa.out.lo); replace F := Kpt.mk (F.out.own Oa.out hg_ hSl hDl); replace Oa := Kpt.mk (Oa.out.set hX_); clear hX_ hg_; clear hm m2; have m3 : Kpt True := ⟨trivial⟩)
      | (have hm := m1; refine wpList_var rfl 34 rfl zeroR zeroRi ?_; intro ba w_a hl_ hX_ h_; have Oa := Kpt.mk (F.out.new hl_ hX_); replace IV := Kpt.mk (IV.out.below h_); replace F := Kpt.mk (F.out.below h_); clear hl_ hX_ h_; clear hm m1; have m2 : Kpt True := ⟨trivial⟩)
      | (go_at_call 11; go_must (refine (HW.out _ _ _ _ _ F.out.dv IV.out.rd).mono ?_; rintro e wA ⟨rfl, tagA, hW_, s_⟩; replace IV := Kpt.mk (IV.out.call s_); replace F := Kpt.mk (F.out.call hW_ s_); clear hW_ s_; have m1 : Kpt True := ⟨trivial⟩))
      | (go_at_call 10; go_must (go_must (refine (HD.out _).mono ?_; rintro e w2 ⟨D, B, S, tag, rfl, hdv, hb2, ht2⟩; have F := Kpt.mk hdv.fx; have hSl := hdv.sto.lt; have hDl := hdv.bx.lt; have hbT := Kpt.mk (And.intro (hb1.out.trans (hb2.mono hb1.out.size)) (fun i (hi : i < w.heap.size) => ht2 i (Nat.lt_of_lt_of_le hi hb1.out.size))); have IV : Kpt (Yi w2 w2 tag (some ⟨ga, oa, none⟩) L cap Z) := ⟨rd_below hrd.out hbT.out.1, fun g o e => by cases e; exact ⟨Nat.lt_of_lt_of_le hga hbT.out.1.size, hbT.out.2 _ hga⟩, Nat.le_refl _⟩; have m0 : Kpt True := ⟨trivial⟩; clear hdv hb2 ht2)))
      | (go_at_call 9; go_must (go_must (refine HA.out.mono ?_; rintro e w1 ⟨rfl, hb1⟩; replace hb1 := Kpt.mk hb1)))
      | fail)
    go_ret
    exact ⟨rfl, hbT.out.1.trans (F.out.st.belowT hbT.out.1.size hbT.out.2).1⟩
  · have bb0 : (by_ == 0) = false := by simpa using hb0
    obtain ⟨i, hi⟩ : ∃ i : Nat, at_ % (L : Int) = i := ⟨(at_ % (L : Int)).toNat, by have : 0 ≤ at_ % (L : Int) := Int.emod_nonneg _ (by omega); omega⟩
    have hiL : i < L := by have : at_ % (L : Int) < L := Int.emod_lt_of_pos _ (by omega); omega
    have hi65 : (i : Int) ≤ 65535 := by have := hLK.out; omega
    obtain ⟨x, hx⟩ : ∃ x, x = Z.getD i 0 := ⟨_, rfl⟩
    have hxb : 0 ≤ x ∧ x ≤ 255 := by rw [hx]; exact hZb.out i
    obtain ⟨xv, hxv⟩ : ∃ xv, xv = bits .xor .u8 x by_ := ⟨_, rfl⟩
    have hxn := xor_ne x by_ hxb hb hb0
    rw [← hxv] at hxn
    have hVd := fun W B tag S D g cp h hr => HVd.out W B tag S D g cp i xv h hiL (by rw [← hx]; exact hxn.1) hxn.2 hr
    replace hVd := Kpt.mk hVd
    replace hxn := Kpt.mk hxn
    replace hx := Kpt.mk hx
    have hxv' : bits .xor .u8 x by_ = xv := hxv.symm
    have eix : IntKind.u64.wrap (i : Int) = i := by rw [IntKind.wrap_u64]; omega
    clear HVd hxv
    go_enter Try.func8, Try.ntmps8
    go_wp2_with (first
      | (have hm := m13; refine wpList_store_bx rfl 34 _ _ rfl bf _ (resV 2 (nuS 14 7424 i) (.slice none 0 0)) rfl rfl Of.out.bx rfl infoR (resV_one _ _ _ _ _) rfl ?_; intro w14 hX_ hg_; replace Oa := Kpt.mk (Oa.out.other hg_ (by omega)); replace Od := Kpt.mk (Od.out.other hg_ (by omega)); replace Oe := Kpt.mk (Oe.out.other hg_ (by omega)); replace Rq := Kpt.mk (Rq.out.other hg_ (by omega)); replace IV := Kpt.mk (IV.out.other hg_ Of.out.lo); replace F := Kpt.mk (F.out.own Of.out hg_ hSl hDl); replace Of := Kpt.mk (Of.out.set hX_); clear hX_ hg_; clear hm m13; have m14 : Kpt True := ⟨trivial⟩)
      | (have hm := m12; refine wpList_var rfl 34 rfl zeroR zeroRi ?_; intro bf w_f hl_ hX_ h_; have q_a_f : ba < bf := Nat.lt_of_lt_of_le Oa.out.bx.lt hl_; have q_d_f : bd < bf := Nat.lt_of_lt_of_le Od.out.bx.lt hl_; have q_e_f : be < bf := Nat.lt_of_lt_of_le Oe.out.bx.lt hl_; have q_q_f : gq < bf := Nat.lt_of_lt_of_le Rq.out.lt hl_; have Of := Kpt.mk (F.out.new hl_ hX_); replace Oa := Kpt.mk (Oa.out.below h_); replace Od := Kpt.mk (Od.out.below h_); replace Oe := Kpt.mk (Oe.out.below h_); replace Rq := Kpt.mk (Rq.out.below h_); replace IV := Kpt.mk (IV.out.below h_); replace F := Kpt.mk (F.out.below h_); clear hl_ hX_ h_; clear hm m12; have m13 : Kpt True := ⟨trivial⟩)
      | (go_at_call 11; have hm := m11; go_must (have hg_ := grown_setCellK w20 ⟨gq, i, none⟩ (.int .u8 xv); clear cellq frq ltq; replace Oa := Kpt.mk (Oa.out.other hg_ (by show gq ≠ ba; omega)); replace Od := Kpt.mk (Od.out.other hg_ (by show gq ≠ bd; omega)); replace Oe := Kpt.mk (Oe.out.other hg_ (by show gq ≠ be; omega)); replace IV := Kpt.mk (IV.out.other hg_ Rq.out.lo); replace F := Kpt.mk (F.out.turnB Rq.out hg_ hSl hDl); replace Rq := Kpt.mk (Rq.out.setB i xv); refine (hVd.out _ _ _ _ _ _ _ F.out.dv (own_rd Rq.out.own)).mono ?_; rintro e wD ⟨rfl, tagD, hW_, s_⟩; replace Oa := Kpt.mk (Oa.out.call s_); replace Od := Kpt.mk (Od.out.call s_); replace Oe := Kpt.mk (Oe.out.call s_); replace Rq := Kpt.mk (Rq.out.call s_); replace IV := Kpt.mk (IV.out.call s_); replace F := Kpt.mk (F.out.call hW_ s_); clear hW_ s_ hg_; clear hm m11; have m12 : Kpt True := ⟨trivial⟩))
      | (at_builtin; have hm := m10; refine wpList_append_new rfl (.tmp 93) (.tmp 97) rfl w10.heap.size _ _ [] Z 0 L rfl rfl (nil_own _ _) IV.out.rd (by rw [hZlK.out]; omega) rfl (by rw [hZlK.out]; omega) (by omega) (Nat.le_refl _) ?_; intro gq cq w20 ho20 hl20 hg20; have h_ := belowN hg20.out; have hgo : w10.heap.size ≤ gq := hl20.out.1; have q_a_q : ba < gq := Nat.lt_of_lt_of_le Oa.out.bx.lt hgo; have q_d_q : bd < gq := Nat.lt_of_lt_of_le Od.out.bx.lt hgo; have q_e_q : be < gq := Nat.lt_of_lt_of_le Oe.out.bx.lt hgo; have Rq : Kpt (Ob w2 w20 tagC gq L cq Z) := ⟨⟨own_base ho20.out F.out.st.size, wd_none F.out.dv.wd hgo⟩⟩; replace Oa := Kpt.mk (Oa.out.below h_); replace Od := Kpt.mk (Od.out.below h_); replace Oe := Kpt.mk (Oe.out.below h_); replace IV := Kpt.mk (IV.out.below h_); replace F := Kpt.mk (F.out.below h_); have cellq : w20.cell? ⟨gq, i, none⟩ = some (.int .u8 x) := (own_facts Rq.out.own i hiL).trans (by rw [hx.out]); have frq := Rq.out.own.frozenAt i; have ltq := Rq.out.lt; clear h_ ho20 hl20 hg20 ra rd_ re la ld le; clear hm m10; have m11 : Kpt True := ⟨trivial⟩)
      | (have hm := m9; refine wpList_store_bx rfl 34 _ _ rfl be _ (resV 0 noS (.slice none 0 0)) rfl rfl Oe.out.bx rfl infoR (resV_one _ _ _ _ _) rfl ?_; intro w10 hX_ hg_; replace Oa := Kpt.mk (Oa.out.other hg_ (by omega)); replace Od := Kpt.mk (Od.out.other hg_ (by omega)); replace IV := Kpt.mk (IV.out.other hg_ Oe.out.lo); replace F := Kpt.mk (F.out.own Oe.out hg_ hSl hDl); replace Oe := Kpt.mk (Oe.out.set hX_); clear hX_ hg_; clear hm m9; have m10 : Kpt True := ⟨trivial⟩; have ra := (resV_at Oa.out.bx).1; have rd_ := (resV_at Od.out.bx).1; have re := (resV_at Oe.out.bx).1; have la := Oa.out.bx.lt; have ld := Od.out.bx.lt; have le := Oe.out.bx.lt)
      | (have hm := m8; refine wpList_var rfl 34 rfl zeroR zeroRi ?_; intro be w_e hl_ hX_ h_; have q_a_e : ba < be := Nat.lt_of_lt_of_le Oa.out.bx.lt hl_; have q_d_e : bd < be := Nat.lt_of_lt_of_le Od.out.bx.lt hl_; have Oe := Kpt.mk (F.out.new hl_ hX_); replace Oa := Kpt.mk (Oa.out.below h_); replace Od := Kpt.mk (Od.out.below h_); replace IV := Kpt.mk (IV.out.below h_); replace F := Kpt.mk (F.out.below h_); clear hl_ hX_ h_; clear hm m8; have m9 : Kpt True := ⟨trivial⟩)
      | (go_at_call 11; have hm := m7; go_must (refine (HVp.out _ _ _ _ _ F.out.dv).mono ?_; rintro e wC ⟨rfl, tagC, hW_, s_⟩; replace Oa := Kpt.mk (Oa.out.call s_); replace Od := Kpt.mk (Od.out.call s_); replace IV := Kpt.mk (IV.out.call s_); replace F := Kpt.mk (F.out.call hW_ s_); clear hW_ s_; clear hm m7; have m8 : Kpt True := ⟨trivial⟩))
      | (have hm := m6; refine wpList_store_bx rfl 34 _ _ rfl bd _ (resV 0 noS (.slice none 0 0)) rfl rfl Od.out.bx rfl infoR (resV_one _ _ _ _ _) rfl ?_; intro w7 hX_ hg_; replace Oa := Kpt.mk (Oa.out.other hg_ (by omega)); replace IV := Kpt.mk (IV.out.other hg_ Od.out.lo); replace F := Kpt.mk (F.out.own Od.out hg_ hSl hDl); replace Od := Kpt.mk (Od.out.set hX_); clear hX_ hg_; clear hm m6; have m7 : Kpt True := ⟨trivial⟩)
      | (have hm := m5; refine wpList_var rfl 34 rfl zeroR zeroRi ?_; intro bd w_d hl_ hX_ h_; have q_a_d : ba < bd := Nat.lt_of_lt_of_le Oa.out.bx.lt hl_; have Od := Kpt.mk (F.out.new hl_ hX_); replace Oa := Kpt.mk (Oa.out.below h_); replace IV := Kpt.mk (IV.out.below h_); replace F := Kpt.mk (F.out.below h_); clear hl_ hX_ h_; clear hm m5; have m6 : Kpt True := ⟨trivial⟩)
      | (go_at_call 11; have hm := m4; go_must (refine (HVs.out _ _ _ _ _ F.out.dv IV.out.rd).mono ?_; rintro e wB ⟨rfl, tagB, hW_, s_⟩; replace Oa := Kpt.mk (Oa.out.call s_); replace IV := Kpt.mk (IV.out.call s_); replace F := Kpt.mk (F.out.call hW_ s_); clear hW_ s_; clear hm m4; have m5 : Kpt True := ⟨trivial⟩))
      | (go_at_call 17; have hm := m3; go_must (refine (HWt.out _ _ _ _ F.out.dv.wd hwl.out).mono ?_; rintro e wW ⟨rfl, rfl⟩; clear hm m3; have m4 : Kpt True := ⟨trivial⟩))
      | (have hm := m2; refine wpList_store_bx rfl 34 _ _ rfl ba _ (resV 0 noS (.slice none 0 0)) rfl rfl Oa.out.bx rfl infoR (resV_one _ _ _ _ _) rfl ?_; intro w3 hX_ hg_; replace IV := Kpt.mk (IV.out.other hg_ Oa.out.lo); replace F := Kpt.mk (F.out.own Oa.out hg_ hSl hDl); replace Oa := Kpt.mk (Oa.out.set hX_); clear hX_ hg_; clear hm m2; have m3 : Kpt True := ⟨trivial⟩)
      | (have hm := m1; refine wpList_var rfl 34 rfl zeroR zeroRi ?_; intro ba w_a hl_ hX_ h_; have Oa := Kpt.mk (F.out.new hl_ hX_); replace IV := Kpt.mk (IV.out.below h_); replace F := Kpt.mk (F.out.below h_); clear hl_ hX_ h_; clear hm m1; have m2 : Kpt True := ⟨trivial⟩)
      | (go_at_call 11; go_must (refine (HW.out _ _ _ _ _ F.out.dv IV.out.rd).mono ?_; rintro e wA ⟨rfl, tagA, hW_, s_⟩; replace IV := Kpt.mk (IV.out.call s_); replace F := Kpt.mk (F.out.call hW_ s_); clear hW_ s_; have m1 : Kpt True := ⟨trivial⟩))
      | (go_at_call 10; go_must (go_must (refine (HD.out _).mono ?_; rintro e w2 ⟨D, B, S, tag, rfl, hdv, hb2, ht2⟩; have F := Kpt.mk hdv.fx; have hSl := hdv.sto.lt; have hDl := hdv.bx.lt; have hbT := Kpt.mk (And.intro (hb1.out.trans (hb2.mono hb1.out.size)) (fun i (hi : i < w.heap.size) => ht2 i (Nat.lt_of_lt_of_le hi hb1.out.size))); have IV : Kpt (Yi w2 w2 tag (some ⟨ga, oa, none⟩) L cap Z) := ⟨rd_below hrd.out hbT.out.1, fun g o e => by cases e; exact ⟨Nat.lt_of_lt_of_le hga hbT.out.1.size, hbT.out.2 _ hga⟩, Nat.le_refl _⟩; have m0 : Kpt True := ⟨trivial⟩; clear hdv hb2 ht2)))
      | (go_at_call 9; go_must (go_must (refine HA.out.mono ?_; rintro e w1 ⟨rfl, hb1⟩; replace hb1 := Kpt.mk hb1)))
      | fail)
    refine wp_region_any (by kernel_rfl) ?_
    refine wpAny_of_C (C := fun W => Bx W bf (resV 2 (nuS 14 7424 i) (.slice none 0 0))) _ _ _ _ ?_
    refine wpAnyC_take 0 (.agg (resV 2 (nuS 14 7424 i) (.slice none 0 0))) rfl (by kernel_rfl) (by kernel_rfl) (by kernel_rfl) (fun _ _ _ h => h) (wanted_free rfl _) (fun W hW => exec_load_bxG 34 (.tmp 19) rfl bf _ rfl hW _ Try.underlying34 rfl infoR) ?_
    try simp only [Act.put, List.getElem_toArray, List.getElem_cons_succ, List.getElem_cons_zero, List.setIfInBounds_toArray, List.set_cons_succ, List.set_cons_zero]
    refine wpAnyC_take 1 (.int .i64 i) rfl (by kernel_rfl) (by kernel_rfl) (by kernel_rfl) (fun _ _ _ h => h) (wanted_free rfl _) (fun W hW => by go_simp) ?_
    try simp only [Act.put, List.getElem_toArray, List.getElem_cons_succ, List.getElem_cons_zero, List.setIfInBounds_toArray, List.set_cons_succ, List.set_cons_zero]
    refine wpAnyC_take 2 (.int .u64 i) rfl (by kernel_rfl) (by kernel_rfl) (by kernel_rfl) (fun _ _ _ h => h) (wanted_free rfl _) (fun W hW => by go_simp) ?_
    try simp only [Act.put, List.getElem_toArray, List.getElem_cons_succ, List.getElem_cons_zero, List.setIfInBounds_toArray, List.set_cons_succ, List.set_cons_zero]
    refine wpAnyC_one 3 (Of.out.bx.drew) rfl (by kernel_rfl) (wanted_free rfl _) (fun KA hKA => ?_)
    go_simp
    refine (HAt.out _ _).mono ?_
    rintro e wE ⟨rfl, hE⟩
    have h_ := below_undrew hE
    replace Oa := Kpt.mk (Oa.out.below h_)
    replace Od := Kpt.mk (Od.out.below h_)
    replace Oe := Kpt.mk (Oe.out.below h_)
    replace Of := Kpt.mk (Of.out.below h_)
    replace Rq := Kpt.mk (Rq.out.below h_)
    replace IV := Kpt.mk (IV.out.below h_)
    replace F := Kpt.mk (F.out.below h_)
    refine hKA _ _ ?_
    clear hKA KA
    try simp only [Act.put, List.getElem_toArray, List.getElem_cons_succ, List.getElem_cons_zero, List.setIfInBounds_toArray, List.set_cons_succ, List.set_cons_zero]
    refine wpAnyC_one 4 (Of.out.bx) rfl (by kernel_rfl) (wanted_free rfl _) (fun KA hKA => ?_)
    go_simp
    refine (HSm.out _ _).mono ?_
    rintro e wG ⟨rfl, h2_⟩
    replace Oa := Kpt.mk (Oa.out.below h2_)
    replace Od := Kpt.mk (Od.out.below h2_)
    replace Oe := Kpt.mk (Oe.out.below h2_)
    replace Of := Kpt.mk (Of.out.below h2_)
    replace Rq := Kpt.mk (Rq.out.below h2_)
    replace IV := Kpt.mk (IV.out.below h2_)
    replace F := Kpt.mk (F.out.below h2_)
    refine hKA _ _ ?_
    clear hKA KA
    try simp only [Act.put, List.getElem_toArray, List.getElem_cons_succ, List.getElem_cons_zero, List.setIfInBounds_toArray, List.set_cons_succ, List.set_cons_zero]
    refine wpAnyC_take 5 (.bool true) rfl (by kernel_rfl) (by kernel_rfl) (by kernel_rfl) (fun _ _ _ h => h) (wanted_free rfl _) (fun W hW => by go_simp) ?_
    try simp only [Act.put, List.getElem_toArray, List.getElem_cons_succ, List.getElem_cons_zero, List.setIfInBounds_toArray, List.set_cons_succ, List.set_cons_zero]
    refine wpAnyC_take 6 (.pointer (some ⟨B, 0, none⟩)) rfl (by kernel_rfl) (by kernel_rfl) (by kernel_rfl) (fun _ _ _ h => h) (wanted_at true rfl rfl rfl rfl) (fun W hW => by go_simp) ?_
    try simp only [Act.put, List.getElem_toArray, List.getElem_cons_succ, List.getElem_cons_zero, List.setIfInBounds_toArray, List.set_cons_succ, List.set_cons_zero]
    refine wpAnyC_take 8 (.int .i64 0) rfl (by kernel_rfl) (by kernel_rfl) (by kernel_rfl) (fun _ _ _ h => h) (wanted_at true rfl rfl rfl rfl) (fun W hW => by go_simp) ?_
    try simp only [Act.put, List.getElem_toArray, List.getElem_cons_succ, List.getElem_cons_zero, List.setIfInBounds_toArray, List.set_cons_succ, List.set_cons_zero]
    refine wpAnyC_one 7 (Of.out.bx) rfl (by kernel_rfl) (wanted_at true rfl rfl rfl rfl) (fun KA hKA => ?_)
    go_simp
    refine (HWt.out _ _ _ _ F.out.dv.wd hwl.out).mono ?_
    rintro e wH ⟨rfl, rfl⟩
    refine hKA _ _ ?_
    clear hKA KA
    try simp only [Act.put, List.getElem_toArray, List.getElem_cons_succ, List.getElem_cons_zero, List.setIfInBounds_toArray, List.set_cons_succ, List.set_cons_zero]
    refine wpAnyC_take 9 (.bool true) rfl (by kernel_rfl) (by kernel_rfl) (by kernel_rfl) (fun _ _ _ h => h) (wanted_at true rfl rfl rfl rfl) (fun W hW => by go_simp) ?_
    try simp only [Act.put, List.getElem_toArray, List.getElem_cons_succ, List.getElem_cons_zero, List.setIfInBounds_toArray, List.set_cons_succ, List.set_cons_zero]
    refine wpAnyC_take 10 (.bool true) rfl (by kernel_rfl) (by kernel_rfl) (by kernel_rfl) (fun _ _ _ h => h) (wanted_free rfl _) (fun W hW => by go_simp) ?_
    try simp only [Act.put, List.getElem_toArray, List.getElem_cons_succ, List.getElem_cons_zero, List.setIfInBounds_toArray, List.set_cons_succ, List.set_cons_zero]
    refine wpAnyC_take 11 (.bool true) rfl (by kernel_rfl) (by kernel_rfl) (by kernel_rfl) (fun _ _ _ h => h) (wanted_free rfl _) (fun W hW => by go_simp) ?_
    try simp only [Act.put, List.getElem_toArray, List.getElem_cons_succ, List.getElem_cons_zero, List.setIfInBounds_toArray, List.set_cons_succ, List.set_cons_zero]
    refine wpAnyC_done (Of.out.bx) (by kernel_rfl) ?_
    go_wp2
    go_ret
    exact ⟨rfl, hbT.out.1.trans (F.out.st.belowT hbT.out.1.size hbT.out.2).1⟩
end Go.Proofs.Ytklboieemljmiaa

namespace Go.Proofs.Ytklboieemljmiaa
open Go.RowKit
set_option linter.unusedVariables false
set_option linter.unusedSimpArgs false
set_option maxRecDepth 100000 in
set_option maxHeartbeats 6000000 in
theorem verifies_6 (a : Option Addr) (len cap l : Nat) (zs : List Int) (at_ by_ lb : Int) (w : World) (hI : Inp w a len cap zs) (hn6 : (6 : Nat) ≤ 6) (hnl : 96 ≤ len) (hn7 : 112 ≤ len) (hl : lb % 10 = l) (hl9 : l ≤ 9) (ha : 0 ≤ at_ ∧ at_ ≤ 65535) (hb : 0 ≤ by_ ∧ by_ ≤ 255) (hlb : 0 ≤ lb ∧ lb ≤ 255) :
    Calls Try.prog 8 #[.slice a len cap, .int .u16 at_, .int .u8 by_, .int .u8 lb] w fun e w' => e = .returned (.bool true) ∧ Below w.heap.size w w' := by
  obtain ⟨Z, hZ⟩ : ∃ Z, Z = zs.take (96) := ⟨_, rfl⟩
  have hrd : Kpt (RdAt w (.slice a (96) cap) Z) := ⟨by rw [hZ]; exact hI.rd _ hnl⟩
  have hZl : Z.length = 96 := by rw [hZ, List.length_take]; have := hI.hz; omega
  have hZb : Bytes Z := by rw [hZ]; exact take_bytes hI.byt _
  obtain ⟨ga, oa, rfl, hga⟩ := hI.shape (by omega)
  have hcap := hI.hl
  have HA := Kpt.mk (awake_any w)
  have HD := Kpt.mk (fun W => device_any 16 0 true W (by decide) (by decide))
  have hF := fineV Z l 6 hZb hZl hn6
  have hrv := rdV Z l 6 hZb hZl
  have hwv := waitsV Z l 6 (by omega)
  have HW : Kpt (∀ W B tag S D, Dv W B tag st0 nmF S D 16 0 true → RdAt W (.slice (some ⟨ga, oa, none⟩) (96) cap) Z → Calls Try.prog 11 #[.pointer (some ⟨D, 0, none⟩), .agg (Cm.vals ⟨9, false, ((l : Nat) : Int), (6 : Int), 0, false, 0, false, false, 0, 0, false, 0, 0, false⟩), .slice (some ⟨ga, oa, none⟩) (96) cap] W fun e w' => e = .returned (.agg (resV 0 noS (.slice none 0 0))) ∧ Aft W w' B tag (stV Z l 6)) :=
    ⟨fun W B tag S D h hr => doWrite_9 W B tag st0 nmF S D 16 0 true l 6 (96) cap _ Z ⟨9, false, ((l : Nat) : Int), (6 : Int), 0, false, 0, false, false, 0, 0, false, 0, 0, false⟩ h (by decide) (by decide) (by decide) (by decide) (by decide) (fun _ => rfl) (fun c hc => by cases hc) (by decide) (by decide) rfl rfl rfl (by omega) hr hZl hZb rfl rfl⟩
  obtain ⟨sV, hsV⟩ : ∃ sV, sV = stV Z l 6 := ⟨_, rfl⟩
  rw [← hsV] at HW hF hrv hwv
  have HVs : Kpt (∀ W B tag S D, Dv W B tag sV nmF S D 16 0 true → RdAt W (.slice (some ⟨ga, oa, none⟩) (96) cap) Z → Calls Try.prog 11 #[.pointer (some ⟨D, 0, none⟩), .agg (Cm.vals ⟨10, false, ((l : Nat) : Int), (6 : Int), 0, false, 0, false, false, 0, 0, false, 0, 0, true⟩), .slice (some ⟨ga, oa, none⟩) (96) cap] W fun e w' => e = .returned (.agg (resV 0 noS (.slice none 0 0))) ∧ Aft W w' B tag (rdSt sV 6)) :=
    ⟨fun W B tag S D h hr => doVerify_same W B tag sV nmF S D 16 0 true l 6 (96) cap _ Z ⟨10, false, ((l : Nat) : Int), (6 : Int), 0, false, 0, false, false, 0, 0, false, 0, 0, true⟩ h (by decide) (by decide) (by decide) (by have := hF.cnt; omega) hF.fails hF.good (by decide) (by decide) rfl rfl rfl rfl (by omega) (look_k0 _ _ _) rfl hr hZl hZb rfl (by rw [hrv]; exact pr_same 0 l Z 6)⟩
  have HVp : Kpt (∀ W B tag S D, Dv W B tag (rdSt sV 6) nmF S D 16 0 true → Calls Try.prog 11 #[.pointer (some ⟨D, 0, none⟩), .agg (Cm.vals ⟨10, false, ((l : Nat) : Int), (6 : Int), 0, false, 0, false, false, 0, 0, false, 0, 0, false⟩), .slice none 0 0] W fun e w' => e = .returned (.agg (resV 0 noS (.slice none 0 0))) ∧ Aft W w' B tag (rdSt (rdSt sV 6) 6)) :=
    ⟨fun W B tag S D h => doVerify_plain W B tag (rdSt sV 6) nmF S D 16 0 true l 6 ⟨10, false, ((l : Nat) : Int), (6 : Int), 0, false, 0, false, false, 0, 0, false, 0, 0, false⟩ (.slice none 0 0) h (by decide) (by decide) (by decide) (by have := hF.cnt; simp only [rdSt]; omega) hF.fails hF.good (by decide) (by decide) rfl rfl rfl rfl (by omega) (look_k0 _ _ _) rfl⟩
  have HVd : Kpt (∀ W B tag S D g cp i v, Dv W B tag (rdSt (rdSt sV 6) 6) nmF S D 16 0 true → i < 96 → v ≠ Z.getD i 0 → 0 ≤ v ∧ v ≤ 255 → RdAt W (.slice (some ⟨g, 0, none⟩) (96) cp) (Z.set i v) → Calls Try.prog 11 #[.pointer (some ⟨D, 0, none⟩), .agg (Cm.vals ⟨10, false, ((l : Nat) : Int), (6 : Int), 0, false, 0, false, false, 0, 0, false, 0, 0, true⟩), .slice (some ⟨g, 0, none⟩) (96) cp] W fun e w' => e = .returned (.agg (resV 2 (nuS 14 7424 i) (.slice none 0 0))) ∧ Aft W w' B tag (rdSt (rdSt (rdSt sV 6) 6) 6)) :=
    ⟨fun W B tag S D g cp i v h hi hv hvb hr => doVerify_dif W B tag (rdSt (rdSt sV 6) 6) nmF S D 16 0 true l 6 (96) cp _ (Z.set i v) ⟨10, false, ((l : Nat) : Int), (6 : Int), 0, false, 0, false, false, 0, 0, false, 0, 0, true⟩ h (by decide) (by decide) (by decide) (by have := hF.cnt; simp only [rdSt]; omega) hF.fails hF.good (by decide) (by decide) rfl rfl rfl rfl (by omega) (look_k0 _ _ _) rfl hr (by rw [List.length_set]; exact hZl) (set_bytes hZb i hvb) rfl i (by omega) (by show Dif (rdL (sV.seen nmF) l 6) _ i; rw [hrv]; exact dif_set Z 6 i v 0 l hZl hi hv)⟩
  simp only [Cm.vals] at HW HVs HVp HVd
  have eL : (16 : Int) * (6 : Int) = (96 : Int) := by omega
  have hlm : len < 9223372036854775808 := by have := hI.hc; have := hI.hl; unfold maxLen at *; omega
  have eLw : wrap64 (16 * (6 : Int)) = (96 : Int) := by unfold wrap64; omega
  have hq6 : (6 : Int) < (len : Int) / 16 := by omega
  have en : IntKind.u64.wrap (6 : Int) = (6 : Int) := by rw [IntKind.wrap_u64]; omega
  have eb : IntKind.u64.wrap lb = lb := by rw [IntKind.wrap_u64]; omega
  have hn0 : ¬ (6 : Int) = 0 := by omega
  have bn0 : ((6 : Int) == 0) = false := beq_eq_false_iff_ne.mpr hn0
  have hwl : Kpt (sV.waits.length = 0) := ⟨by rw [hwv]; rfl⟩
  have hLK : Kpt (96 = 6 * 16) := ⟨by omega⟩
  replace hF := Kpt.mk hF
  replace hZb := Kpt.mk hZb
  replace hZlK := Kpt.mk hZl
  clear hZ hsV hrv hwv hI hZl
  have HWt : Kpt (∀ W B tag st, Wd W B tag st → st.waits.length = 0 → Calls Try.prog 17 #[.pointer (some ⟨B, 0, none⟩)] W fun e w' => e = .returned (.int .i64 0) ∧ w' = W) := ⟨fun W B tag st h h0 => by have := waits_any W B tag st h; rw [h0] at this; exact this⟩
  have HAt := Kpt.mk (fun W n => at_any 14 7424 n W)
  have HSm := Kpt.mk (fun W s => same_nil 2 s W)
  by_cases hb0 : by_ = 0
  · subst hb0
    clear HVd HAt HSm
    go_enter Try.func8, Try.ntmps8
    go_wp2_with (first
      | (have hm := m9; refine wpList_store_bx rfl 34 _ _ rfl be _ (resV 0 noS (.slice none 0 0)) rfl rfl Oe.out.bx rfl infoR (resV_one _ _ _ _ _) rfl ?_; intro w10 hX_ hg_; replace Oa := Kpt.mk (Oa.out.other hg_ (by omega)); replace Od := Kpt.mk (Od.out.other hg_ (by omega)); replace IV := Kpt.mk (IV.out.other hg_ Oe.out.lo); replace F := Kpt.mk (F.out.own Oe.out hg_ hSl hDl); replace Oe := Kpt.mk (Oe.out.set hX_); clear hX_ hg_; clear hm m9; have m10 : Kpt True := ⟨trivial⟩; have ra := (resV_at Oa.out.bx).1; have rd_ := (resV_at Od.out.bx).1; have re := (resV_at Oe.out.bx).1; have la := Oa.out.bx.lt; have ld := Od.out.bx.lt; have le := Oe.out.bx.lt)
      | (have hm := m8; refine wpList_var rfl 34 rfl zeroR zeroRi ?_; intro be w_e hl_ hX_ h_; have q_a_e : ba < be := Nat.lt_of_lt_of_le Oa.out.bx.lt hl_; have q_d_e : bd < be := Nat.lt_of_lt_of_le Od.out.bx.lt hl_; have Oe := Kpt.mk (F.out.new hl_ hX_); replace Oa := Kpt.mk (Oa.out.below h_); replace Od := Kpt.mk (Od.out.below h_); replace IV := Kpt.mk (IV.out.below h_); replace F := Kpt.mk (F.out.below h_); clear hl_ hX_ h_; clear hm m8; have m9 : Kpt True := ⟨trivial⟩)
      | (go_at_call 11; have hm := m7; go_must (refine (HVp.out _ _ _ _ _ F.out.dv).mono ?_; rintro e wC ⟨rfl, tagC, hW_, s_⟩; replace Oa := Kpt.mk (Oa.out.call s_); replace Od := Kpt.mk (Od.out.call s_); replace IV := Kpt.mk (IV.out.call s_); replace F := Kpt.mk (F.out.call hW_ s_); clear hW_ s_; clear hm m7; have m8 : Kpt True := ⟨trivial⟩))
      | (have hm := m6; refine wpList_store_bx rfl 34 _ _ rfl bd _ (resV 0 noS (.slice none 0 0)) rfl rfl Od.out.bx rfl infoR (resV_one _ _ _ _ _) rfl ?_; intro w7 hX_ hg_; replace Oa := Kpt.mk (Oa.out.other hg_ (by omega)); replace IV := Kpt.mk (IV.out.other hg_ Od.out.lo); replace F := Kpt.mk (F.out.own Od.out hg_ hSl hDl); replace Od := Kpt.mk (Od.out.set hX_); clear hX_ hg_; clear hm m6; have m7 : Kpt True := ⟨trivial⟩)
      | (have hm := m5; refine wpList_var rfl 34 rfl zeroR zeroRi ?_; intro bd w_d hl_ hX_ h_; have q_a_d : ba < bd := Nat.lt_of_lt_of_le Oa.out.bx.lt hl_; have Od := Kpt.mk (F.out.new hl_ hX_); replace Oa := Kpt.mk (Oa.out.below h_); replace IV := Kpt.mk (IV.out.below h_); replace F := Kpt.mk (F.out.below h_); clear hl_ hX_ h_; clear hm m5; have m6 : Kpt True := ⟨trivial⟩)
      | (go_at_call 11; have hm := m4; go_must (refine (HVs.out _ _ _ _ _ F.out.dv IV.out.rd).mono ?_; rintro e wB ⟨rfl, tagB, hW_, s_⟩; replace Oa := Kpt.mk (Oa.out.call s_); replace IV := Kpt.mk (IV.out.call s_); replace F := Kpt.mk (F.out.call hW_ s_); clear hW_ s_; clear hm m4; have m5 : Kpt True := ⟨trivial⟩))
      | (go_at_call 17; have hm := m3; go_must (refine (HWt.out _ _ _ _ F.out.dv.wd hwl.out).mono ?_; rintro e wW ⟨rfl, rfl⟩; clear hm m3; have m4 : Kpt True := ⟨trivial⟩))
      | (have hm := m2; refine wpList_store_bx rfl 34 _ _ rfl ba _ (resV 0 noS (.slice none 0 0)) rfl rfl Oa.out.bx rfl infoR (resV_one _ _ _ _ _) rfl ?_; intro w3 hX_ hg_; replace IV := Kpt.mk (IV.out.other hg_ Oa.out.lo); replace F := Kpt.mk (F.out.own Oa.out hg_ hSl hDl); replace Oa := Kpt.mk (Oa.out.set hX_); clear hX_ hg_; clear hm m2; have m3 : Kpt True := ⟨trivial⟩)
      | (have hm := m1; refine wpList_var rfl 34 rfl zeroR zeroRi ?_; intro ba w_a hl_ hX_ h_; have Oa := Kpt.mk (F.out.new hl_ hX_); replace IV := Kpt.mk (IV.out.below h_); replace F := Kpt.mk (F.out.below h_); clear hl_ hX_ h_; clear hm m1; have m2 : Kpt True := ⟨trivial⟩)
      | (go_at_call 11; go_must (refine (HW.out _ _ _ _ _ F.out.dv IV.out.rd).mono ?_; rintro e wA ⟨rfl, tagA, hW_, s_⟩; replace IV := Kpt.mk (IV.out.call s_); replace F := Kpt.mk (F.out.call hW_ s_); clear hW_ s_; have m1 : Kpt True := ⟨trivial⟩))
      | (go_at_call 10; go_must (go_must (refine (HD.out _).mono ?_; rintro e w2 ⟨D, B, S, tag, rfl, hdv, hb2, ht2⟩; have F := Kpt.mk hdv.fx; have hSl := hdv.sto.lt; have hDl := hdv.bx.lt; have hbT := Kpt.mk (And.intro (hb1.out.trans (hb2.mono hb1.out.size)) (fun i (hi : i < w.heap.size) => ht2 i (Nat.lt_of_lt_of_le hi hb1.out.size))); have IV : Kpt (Yi w2 w2 tag (some ⟨ga, oa, none⟩) 96 cap Z) := ⟨rd_below hrd.out hbT.out.1, fun g o e => by cases e; exact ⟨Nat.lt_of_lt_of_le hga hbT.out.1.size, hbT.out.2 _ hga⟩, Nat.le_refl _⟩; have m0 : Kpt True := ⟨trivial⟩; clear hdv hb2 ht2)))
      | (go_at_call 9; go_must (go_must (refine HA.out.mono ?_; rintro e w1 ⟨rfl, hb1⟩; replace hb1 := Kpt.mk hb1)))
      | fail)
    go_ret
    exact ⟨rfl, hbT.out.1.trans (F.out.st.belowT hbT.out.1.size hbT.out.2).1⟩
  · have bb0 : (by_ == 0) = false := by simpa using hb0
    obtain ⟨i, hi⟩ : ∃ i : Nat, at_ % (96 : Int) = i := ⟨(at_ % (96 : Int)).toNat, by have : 0 ≤ at_ % (96 : Int) := Int.emod_nonneg _ (by omega); omega⟩
    have hiL : i < 96 := by have : at_ % (96 : Int) < 96 := Int.emod_lt_of_pos _ (by omega); omega
    have hi65 : (i : Int) ≤ 65535 := by have := hLK.out; omega
    obtain ⟨x, hx⟩ : ∃ x, x = Z.getD i 0 := ⟨_, rfl⟩
    have hxb : 0 ≤ x ∧ x ≤ 255 := by rw [hx]; exact hZb.out i
    obtain ⟨xv, hxv⟩ : ∃ xv, xv = bits .xor .u8 x by_ := ⟨_, rfl⟩
    have hxn := xor_ne x by_ hxb hb hb0
    rw [← hxv] at hxn
    have hVd := fun W B tag S D g cp h hr => HVd.out W B tag S D g cp i xv h hiL (by rw [← hx]; exact hxn.1) hxn.2 hr
    replace hVd := Kpt.mk hVd
    replace hxn := Kpt.mk hxn
    replace hx := Kpt.mk hx
    have hxv' : bits .xor .u8 x by_ = xv := hxv.symm
    have eix : IntKind.u64.wrap (i : Int) = i := by rw [IntKind.wrap_u64]; omega
    clear HVd hxv
    go_enter Try.func8, Try.ntmps8
    go_wp2_with (first
      | (have hm := m13; refine wpList_store_bx rfl 34 _ _ rfl bf _ (resV 2 (nuS 14 7424 i) (.slice none 0 0)) rfl rfl Of.out.bx rfl infoR (resV_one _ _ _ _ _) rfl ?_; intro w14 hX_ hg_; replace Oa := Kpt.mk (Oa.out.other hg_ (by omega)); replace Od := Kpt.mk (Od.out.other hg_ (by omega)); replace Oe := Kpt.mk (Oe.out.other hg_ (by omega)); replace Rq := Kpt.mk (Rq.out.other hg_ (by omega)); replace IV := Kpt.mk (IV.out.other hg_ Of.out.lo); replace F := Kpt.mk (F.out.own Of.out hg_ hSl hDl); replace Of := Kpt.mk (Of.out.set hX_); clear hX_ hg_; clear hm m13; have m14 : Kpt True := ⟨trivial⟩)
      | (have hm := m12; refine wpList_var rfl 34 rfl zeroR zeroRi ?_; intro bf w_f hl_ hX_ h_; have q_a_f : ba < bf := Nat.lt_of_lt_of_le Oa.out.bx.lt hl_; have q_d_f : bd < bf := Nat.lt_of_lt_of_le Od.out.bx.lt hl_; have q_e_f : be < bf := Nat.lt_of_lt_of_le Oe.out.bx.lt hl_; have q_q_f : gq < bf := Nat.lt_of_lt_of_le Rq.out.lt hl_; have Of := Kpt.mk (F.out.new hl_ hX_); replace Oa := Kpt.mk (Oa.out.below h_); replace Od := Kpt.mk (Od.out.below h_); replace Oe := Kpt.mk (Oe.out.below h_); replace Rq := Kpt.mk (Rq.out.below h_); replace IV := Kpt.mk (IV.out.below h_); replace F := Kpt.mk (F.out.below h_); clear hl_ hX_ h_; clear hm m12; have m13 : Kpt True := ⟨trivial⟩)
      | (go_at_call 11; have hm := m11; go_must (have hg_ := grown_setCellK w20 ⟨gq, i, none⟩ (.int .u8 xv); clear cellq frq ltq; replace Oa := Kpt.mk (Oa.out.other hg_ (by show gq ≠ ba; omega)); replace Od := Kpt.mk (Od.out.other hg_ (by show gq ≠ bd; omega)); replace Oe := Kpt.mk (Oe.out.other hg_ (by show gq ≠ be; omega)); replace IV := Kpt.mk (IV.out.other hg_ Rq.out.lo); replace F := Kpt.mk (F.out.turnB Rq.out hg_ hSl hDl); replace Rq := Kpt.mk (Rq.out.setB i xv); refine (hVd.out _ _ _ _ _ _ _ F.out.dv (own_rd Rq.out.own)).mono ?_; rintro e wD ⟨rfl, tagD, hW_, s_⟩; replace Oa := Kpt.mk (Oa.out.call s_); replace Od := Kpt.mk (Od.out.call s_); replace Oe := Kpt.mk (Oe.out.call s_); replace Rq := Kpt.mk (Rq.out.call s_); replace IV := Kpt.mk (IV.out.call s_); replace F := Kpt.mk (F.out.call hW_ s_); clear hW_ s_ hg_; clear hm m11; have m12 : Kpt True := ⟨trivial⟩))
      | (at_builtin; have hm := m10; refine wpList_append_new rfl (.tmp 93) (.tmp 97) rfl w10.heap.size _ _ [] Z 0 96 rfl rfl (nil_own _ _) IV.out.rd (by have := hZlK.out; omega) rfl (by have := hZlK.out; omega) (by omega) (Nat.le_refl _) ?_; intro gq cq w20 ho20 hl20 hg20; have h_ := belowN hg20.out; have hgo : w10.heap.size ≤ gq := hl20.out.1; have q_a_q : ba < gq := Nat.lt_of_lt_of_le Oa.out.bx.lt hgo; have q_d_q : bd < gq := Nat.lt_of_lt_of_le Od.out.bx.lt hgo; have q_e_q : be < gq := Nat.lt_of_lt_of_le Oe.out.bx.lt hgo; have Rq : Kpt (Ob w2 w20 tagC gq 96 cq Z) := ⟨⟨own_base ho20.out F.out.st.size, wd_none F.out.dv.wd hgo⟩⟩; replace Oa := Kpt.mk (Oa.out.below h_); replace Od := Kpt.mk (Od.out.below h_); replace Oe := Kpt.mk (Oe.out.below h_); replace IV := Kpt.mk (IV.out.below h_); replace F := Kpt.mk (F.out.below h_); have cellq : w20.cell? ⟨gq, i, none⟩ = some (.int .u8 x) := (own_facts Rq.out.own i hiL).trans (by rw [hx.out]); have frq := Rq.out.own.frozenAt i; have ltq := Rq.out.lt; clear h_ ho20 hl20 hg20 ra rd_ re la ld le; clear hm m10; have m11 : Kpt True := ⟨trivial⟩)
      | (have hm := m9; refine wpList_store_bx rfl 34 _ _ rfl be _ (resV 0 noS (.slice none 0 0)) rfl rfl Oe.out.bx rfl infoR (resV_one _ _ _ _ _) rfl ?_; intro w10 hX_ hg_; replace Oa := Kpt.mk (Oa.out.other hg_ (by omega)); replace Od := Kpt.mk (Od.out.other hg_ (by omega)); replace IV := Kpt.mk (IV.out.other hg_ Oe.out.lo); replace F := Kpt.mk (F.out.own Oe.out hg_ hSl hDl); replace Oe := Kpt.mk (Oe.out.set hX_); clear hX_ hg_; clear hm m9; have m10 : Kpt True := ⟨trivial⟩; have ra := (resV_at Oa.out.bx).1; have rd_ := (resV_at Od.out.bx).1; have re := (resV_at Oe.out.bx).1; have la := Oa.out.bx.lt; have ld := Od.out.bx.lt; have le := Oe.out.bx.lt)
      | (have hm := m8; refine wpList_var rfl 34 rfl zeroR zeroRi ?_; intro be w_e hl_ hX_ h_; have q_a_e : ba < be := Nat.lt_of_lt_of_le Oa.out.bx.lt hl_; have q_d_e : bd < be := Nat.lt_of_lt_of_le Od.out.bx.lt hl_; have Oe := Kpt.mk (F.out.new hl_ hX_); replace Oa := Kpt.mk (Oa.out.below h_); replace Od := Kpt.mk (Od.out.below h_); replace IV := Kpt.mk (IV.out.below h_); replace F := Kpt.mk (F.out.below h_); clear hl_ hX_ h_; clear hm m8; have m9 : Kpt True := ⟨trivial⟩)
      | (go_at_call 11; have hm := m7; go_must (refine (HVp.out _ _ _ _ _ F.out.dv).mono ?_; rintro e wC ⟨rfl, tagC, hW_, s_⟩; replace Oa := Kpt.mk (Oa.out.call s_); replace Od := Kpt.mk (Od.out.call s_); replace IV := Kpt.mk (IV.out.call s_); replace F := Kpt.mk (F.out.call hW_ s_); clear hW_ s_; clear hm m7; have m8 : Kpt True := ⟨trivial⟩))
      | (have hm := m6; refine wpList_store_bx rfl 34 _ _ rfl bd _ (resV 0 noS (.slice none 0 0)) rfl rfl Od.out.bx rfl infoR (resV_one _ _ _ _ _) rfl ?_; intro w7 hX_ hg_; replace Oa := Kpt.mk (Oa.out.other hg_ (by omega)); replace IV := Kpt.mk (IV.out.other hg_ Od.out.lo); replace F := Kpt.mk (F.out.own Od.out hg_ hSl hDl); replace Od := Kpt.mk (Od.out.set hX_); clear hX_ hg_; clear hm m6; have m7 : Kpt True := ⟨trivial⟩)
      | (have hm := m5; refine wpList_var rfl 34 rfl zeroR zeroRi ?_; intro bd w_d hl_ hX_ h_; have q_a_d : ba < bd := Nat.lt_of_lt_of_le Oa.out.bx.lt hl_; have Od := Kpt.mk (F.out.new hl_ hX_); replace Oa := Kpt.mk (Oa.out.below h_); replace IV := Kpt.mk (IV.out.below h_); replace F := Kpt.mk (F.out.below h_); clear hl_ hX_ h_; clear hm m5; have m6 : Kpt True := ⟨trivial⟩)
      | (go_at_call 11; have hm := m4; go_must (refine (HVs.out _ _ _ _ _ F.out.dv IV.out.rd).mono ?_; rintro e wB ⟨rfl, tagB, hW_, s_⟩; replace Oa := Kpt.mk (Oa.out.call s_); replace IV := Kpt.mk (IV.out.call s_); replace F := Kpt.mk (F.out.call hW_ s_); clear hW_ s_; clear hm m4; have m5 : Kpt True := ⟨trivial⟩))
      | (go_at_call 17; have hm := m3; go_must (refine (HWt.out _ _ _ _ F.out.dv.wd hwl.out).mono ?_; rintro e wW ⟨rfl, rfl⟩; clear hm m3; have m4 : Kpt True := ⟨trivial⟩))
      | (have hm := m2; refine wpList_store_bx rfl 34 _ _ rfl ba _ (resV 0 noS (.slice none 0 0)) rfl rfl Oa.out.bx rfl infoR (resV_one _ _ _ _ _) rfl ?_; intro w3 hX_ hg_; replace IV := Kpt.mk (IV.out.other hg_ Oa.out.lo); replace F := Kpt.mk (F.out.own Oa.out hg_ hSl hDl); replace Oa := Kpt.mk (Oa.out.set hX_); clear hX_ hg_; clear hm m2; have m3 : Kpt True := ⟨trivial⟩)
      | (have hm := m1; refine wpList_var rfl 34 rfl zeroR zeroRi ?_; intro ba w_a hl_ hX_ h_; have Oa := Kpt.mk (F.out.new hl_ hX_); replace IV := Kpt.mk (IV.out.below h_); replace F := Kpt.mk (F.out.below h_); clear hl_ hX_ h_; clear hm m1; have m2 : Kpt True := ⟨trivial⟩)
      | (go_at_call 11; go_must (refine (HW.out _ _ _ _ _ F.out.dv IV.out.rd).mono ?_; rintro e wA ⟨rfl, tagA, hW_, s_⟩; replace IV := Kpt.mk (IV.out.call s_); replace F := Kpt.mk (F.out.call hW_ s_); clear hW_ s_; have m1 : Kpt True := ⟨trivial⟩))
      | (go_at_call 10; go_must (go_must (refine (HD.out _).mono ?_; rintro e w2 ⟨D, B, S, tag, rfl, hdv, hb2, ht2⟩; have F := Kpt.mk hdv.fx; have hSl := hdv.sto.lt; have hDl := hdv.bx.lt; have hbT := Kpt.mk (And.intro (hb1.out.trans (hb2.mono hb1.out.size)) (fun i (hi : i < w.heap.size) => ht2 i (Nat.lt_of_lt_of_le hi hb1.out.size))); have IV : Kpt (Yi w2 w2 tag (some ⟨ga, oa, none⟩) 96 cap Z) := ⟨rd_below hrd.out hbT.out.1, fun g o e => by cases e; exact ⟨Nat.lt_of_lt_of_le hga hbT.out.1.size, hbT.out.2 _ hga⟩, Nat.le_refl _⟩; have m0 : Kpt True := ⟨trivial⟩; clear hdv hb2 ht2)))
      | (go_at_call 9; go_must (go_must (refine HA.out.mono ?_; rintro e w1 ⟨rfl, hb1⟩; replace hb1 := Kpt.mk hb1)))
      | fail)
    refine wp_region_any (by kernel_rfl) ?_
    refine wpAny_of_C (C := fun W => Bx W bf (resV 2 (nuS 14 7424 i) (.slice none 0 0))) _ _ _ _ ?_
    refine wpAnyC_take 0 (.agg (resV 2 (nuS 14 7424 i) (.slice none 0 0))) rfl (by kernel_rfl) (by kernel_rfl) (by kernel_rfl) (fun _ _ _ h => h) (wanted_free rfl _) (fun W hW => exec_load_bxG 34 (.tmp 19) rfl bf _ rfl hW _ Try.underlying34 rfl infoR) ?_
    try simp only [Act.put, List.getElem_toArray, List.getElem_cons_succ, List.getElem_cons_zero, List.setIfInBounds_toArray, List.set_cons_succ, List.set_cons_zero]
    refine wpAnyC_take 1 (.int .i64 i) rfl (by kernel_rfl) (by kernel_rfl) (by kernel_rfl) (fun _ _ _ h => h) (wanted_free rfl _) (fun W hW => by go_simp) ?_
    try simp only [Act.put, List.getElem_toArray, List.getElem_cons_succ, List.getElem_cons_zero, List.setIfInBounds_toArray, List.set_cons_succ, List.set_cons_zero]
    refine wpAnyC_take 2 (.int .u64 i) rfl (by kernel_rfl) (by kernel_rfl) (by kernel_rfl) (fun _ _ _ h => h) (wanted_free rfl _) (fun W hW => by go_simp) ?_
    try simp only [Act.put, List.getElem_toArray, List.getElem_cons_succ, List.getElem_cons_zero, List.setIfInBounds_toArray, List.set_cons_succ, List.set_cons_zero]
    refine wpAnyC_one 3 (Of.out.bx.drew) rfl (by kernel_rfl) (wanted_free rfl _) (fun KA hKA => ?_)
    go_simp
    refine (HAt.out _ _).mono ?_
    rintro e wE ⟨rfl, hE⟩
    have h_ := below_undrew hE
    replace Oa := Kpt.mk (Oa.out.below h_)
    replace Od := Kpt.mk (Od.out.below h_)
    replace Oe := Kpt.mk (Oe.out.below h_)
    replace Of := Kpt.mk (Of.out.below h_)
    replace Rq := Kpt.mk (Rq.out.below h_)
    replace IV := Kpt.mk (IV.out.below h_)
    replace F := Kpt.mk (F.out.below h_)
    refine hKA _ _ ?_
    clear hKA KA
    try simp only [Act.put, List.getElem_toArray, List.getElem_cons_succ, List.getElem_cons_zero, List.setIfInBounds_toArray, List.set_cons_succ, List.set_cons_zero]
    refine wpAnyC_one 4 (Of.out.bx) rfl (by kernel_rfl) (wanted_free rfl _) (fun KA hKA => ?_)
    go_simp
    refine (HSm.out _ _).mono ?_
    rintro e wG ⟨rfl, h2_⟩
    replace Oa := Kpt.mk (Oa.out.below h2_)
    replace Od := Kpt.mk (Od.out.below h2_)
    replace Oe := Kpt.mk (Oe.out.below h2_)
    replace Of := Kpt.mk (Of.out.below h2_)
    replace Rq := Kpt.mk (Rq.out.below h2_)
    replace IV := Kpt.mk (IV.out.below h2_)
    replace F := Kpt.mk (F.out.below h2_)
    refine hKA _ _ ?_
    clear hKA KA
    try simp only [Act.put, List.getElem_toArray, List.getElem_cons_succ, List.getElem_cons_zero, List.setIfInBounds_toArray, List.set_cons_succ, List.set_cons_zero]
    refine wpAnyC_take 5 (.bool true) rfl (by kernel_rfl) (by kernel_rfl) (by kernel_rfl) (fun _ _ _ h => h) (wanted_free rfl _) (fun W hW => by go_simp) ?_
    try simp only [Act.put, List.getElem_toArray, List.getElem_cons_succ, List.getElem_cons_zero, List.setIfInBounds_toArray, List.set_cons_succ, List.set_cons_zero]
    refine wpAnyC_take 6 (.pointer (some ⟨B, 0, none⟩)) rfl (by kernel_rfl) (by kernel_rfl) (by kernel_rfl) (fun _ _ _ h => h) (wanted_at true rfl rfl rfl rfl) (fun W hW => by go_simp) ?_
    try simp only [Act.put, List.getElem_toArray, List.getElem_cons_succ, List.getElem_cons_zero, List.setIfInBounds_toArray, List.set_cons_succ, List.set_cons_zero]
    refine wpAnyC_take 8 (.int .i64 0) rfl (by kernel_rfl) (by kernel_rfl) (by kernel_rfl) (fun _ _ _ h => h) (wanted_at true rfl rfl rfl rfl) (fun W hW => by go_simp) ?_
    try simp only [Act.put, List.getElem_toArray, List.getElem_cons_succ, List.getElem_cons_zero, List.setIfInBounds_toArray, List.set_cons_succ, List.set_cons_zero]
    refine wpAnyC_one 7 (Of.out.bx) rfl (by kernel_rfl) (wanted_at true rfl rfl rfl rfl) (fun KA hKA => ?_)
    go_simp
    refine (HWt.out _ _ _ _ F.out.dv.wd hwl.out).mono ?_
    rintro e wH ⟨rfl, rfl⟩
    refine hKA _ _ ?_
    clear hKA KA
    try simp only [Act.put, List.getElem_toArray, List.getElem_cons_succ, List.getElem_cons_zero, List.setIfInBounds_toArray, List.set_cons_succ, List.set_cons_zero]
    refine wpAnyC_take 9 (.bool true) rfl (by kernel_rfl) (by kernel_rfl) (by kernel_rfl) (fun _ _ _ h => h) (wanted_at true rfl rfl rfl rfl) (fun W hW => by go_simp) ?_
    try simp only [Act.put, List.getElem_toArray, List.getElem_cons_succ, List.getElem_cons_zero, List.setIfInBounds_toArray, List.set_cons_succ, List.set_cons_zero]
    refine wpAnyC_take 10 (.bool true) rfl (by kernel_rfl) (by kernel_rfl) (by kernel_rfl) (fun _ _ _ h => h) (wanted_free rfl _) (fun W hW => by go_simp) ?_
    try simp only [Act.put, List.getElem_toArray, List.getElem_cons_succ, List.getElem_cons_zero, List.setIfInBounds_toArray, List.set_cons_succ, List.set_cons_zero]
    refine wpAnyC_take 11 (.bool true) rfl (by kernel_rfl) (by kernel_rfl) (by kernel_rfl) (fun _ _ _ h => h) (wanted_free rfl _) (fun W hW => by go_simp) ?_
    try simp only [Act.put, List.getElem_toArray, List.getElem_cons_succ, List.getElem_cons_zero, List.setIfInBounds_toArray, List.set_cons_succ, List.set_cons_zero]
    refine wpAnyC_done (Of.out.bx) (by kernel_rfl) ?_
    go_wp2
    go_ret
    exact ⟨rfl, hbT.out.1.trans (F.out.st.belowT hbT.out.1.size hbT.out.2).1⟩
end Go.Proofs.Ytklboieemljmiaa
