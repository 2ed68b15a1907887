/-
  pdu: the document's Decode of any bytes.
-/
import Derived.Test.YtigfoldobkigeaaUDecA
import Derived.Test.YtigfoldobkigeaaURDa
import Derived.Test.YtigfoldobkigeaaURDff
import Derived.Test.YtigfoldobkigeaaURDft
import Derived.Test.YtigfoldobkigeaaURDcf
import Derived.Test.YtigfoldobkigeaaURDct
import Derived.Test.YtigfoldobkigeaaURDsf
import Derived.Test.YtigfoldobkigeaaURDst
import Derived.Test.YtigfoldobkigeaaURDpf
import Derived.Test.YtigfoldobkigeaaURDpt
import Derived.Test.YtigfoldobkigeaaURDofF
import Derived.Test.YtigfoldobkigeaaURDofz
import Derived.Test.YtigfoldobkigeaaURDofp
import Derived.Test.YtigfoldobkigeaaURDotF
import Derived.Test.YtigfoldobkigeaaURDotz
import Derived.Test.YtigfoldobkigeaaURDotp
namespace Go.Proofs.Ytigfoldobkigeaa
open Go.RowKit
set_option linter.unusedVariables false
set_option linter.unusedSimpArgs false

theorem first_bad (f : Nat → Int) : ∀ n, (∃ q, q < n ∧ f q ≠ 0) → ∃ q, q < n ∧ f q ≠ 0 ∧ ∀ j, j < q → f j = 0
  | 0, ⟨q, h, _⟩ => absurd h (by omega)
  | n + 1, ⟨q, h, hq⟩ => by
    by_cases h1 : ∃ q, q < n ∧ f q ≠ 0
    · obtain ⟨r, h2, h3, h4⟩ := first_bad f n h1
      exact ⟨r, by omega, h3, h4⟩
    · refine ⟨q, h, hq, fun j hj => ?_⟩
      by_cases h5 : f j = 0
      · exact h5
      · exact absurd ⟨j, by omega, h5⟩ h1
theorem pads_iff (zs : List Int) (E L p : Nat) (h : E + L + p ≤ zs.length) : zeroB (((zs.drop E).take (L + p)).drop L) = true ↔ ∀ j, j < p → zs.getD (E + L + j) 0 = 0 := by
  rw [zeroB_iff]
  have hlen : (((zs.drop E).take (L + p)).drop L).length = p := by simp; omega
  have hg : ∀ j, j < p → (((zs.drop E).take (L + p)).drop L).getD j 0 = zs.getD (E + L + j) 0 := fun j hj => by rw [drop_getD, take_getD _ _ _ (by omega), drop_getD, Nat.add_assoc]
  exact ⟨fun H j hj => by rw [← hg j hj]; exact H j (by omega), fun H j hj => by rw [hg j (by omega)]; exact H j (by omega)⟩

theorem rdecode_f (a : Option Addr) (n c : Nat) (zs : List Int) (d : Bool) (w : World) (hr : RdAt w (.slice a n c) zs) (hn : n ≤ 140737488355328) (hc : c ≤ maxLen) (hb : Bytes zs) :
    Calls Try.prog 14 #[.slice a n c, .bool false, .bool d] w (DecOut zs false d w) := by
  have hzl := (rd_row hr).1
  have hsz : 48 + sz false = 48 := rfl
  by_cases c1 : zs.length < 48 + sz false
  · have e : decE zs false d = 8 := by unfold decE; rw [if_pos c1]
    refine (rdec_none_f a n c d w hn (by omega)).mono ?_
    rintro e' w' ⟨rfl, hb'⟩
    exact ⟨hb', .inl ⟨by rw [e]; decide, by rw [e]⟩⟩
  obtain ⟨b, off, rfl⟩ : ∃ b off, a = some ⟨b, off, none⟩ := by
    obtain ⟨a', c', hv, h1, h2, h3⟩ := id hr
    simp only [Value.slice.injEq] at hv
    obtain ⟨rfl, -, -⟩ := hv
    rcases h3 with h3 | ⟨b, off, rfl, -⟩
    · omega
    · exact ⟨b, off, rfl⟩
  have hs : 48 ≤ n := by omega
  by_cases c2 : false = true ∧ ¬ B.num zs 48 4 = (sumL (zs.take 48) : Int)
  · exact absurd c2.1 (by decide)
  have hfp := form_plain zs hb (by omega)
  by_cases c3 : formB (zs.take 48) = false
  · have e : decE zs false d = 3 := by unfold decE; rw [if_neg c1, if_neg c2, if_pos c3]
    by_cases f1 : (8192 : Int) < B.num zs 5 3
    · refine (rdec_form_fa b off n c zs w hr hn hc hb d hs f1).mono ?_
      rintro e' w' ⟨rfl, hb'⟩
      exact ⟨hb', .inl ⟨by rw [e]; decide, by rw [e]⟩⟩
    · by_cases f2 : zs.getD 4 0 = 0
      · by_cases f3 : zs.getD 8 0 = 0
        · have f4 : B.num zs 10 6 ≠ 0 := fun f4 => by
            rw [hfp.2 ⟨by omega, f2, f3, f4⟩] at c3
            cases c3
          refine (rdec_form_fd b off n c zs w hr hn hc hb d hs f1 f2 f3 f4).mono ?_
          rintro e' w' ⟨rfl, hb'⟩
          exact ⟨hb', .inl ⟨by rw [e]; decide, by rw [e]⟩⟩
        · refine (rdec_form_fc b off n c zs w hr hn hc hb d hs f1 f2 f3).mono ?_
          rintro e' w' ⟨rfl, hb'⟩
          exact ⟨hb', .inl ⟨by rw [e]; decide, by rw [e]⟩⟩
      · refine (rdec_form_fb b off n c zs w hr hn hc hb d hs f1 f2).mono ?_
        rintro e' w' ⟨rfl, hb'⟩
        exact ⟨hb', .inl ⟨by rw [e]; decide, by rw [e]⟩⟩
  have hf : formB (zs.take 48) = true := by cases hh : formB (zs.take 48) <;> simp_all
  obtain ⟨f1, f2, f3, f4⟩ := hfp.1 hf
  have hL : B.num zs 5 3 = (lenD (zs.take 48) : Int) := by rw [← num_take zs 48 5 3 (by omega)]; exact lenD_eq _ (Bytes.take hb 48)
  have hL8 : lenD (zs.take 48) ≤ 8192 := by omega
  obtain ⟨L, hLe⟩ : ∃ L, L = lenD (zs.take 48) := ⟨_, rfl⟩
  obtain ⟨M, hMe⟩ : ∃ M, M = bodyM zs := ⟨_, rfl⟩
  have hM : M = L + padN L := by rw [hMe, hLe]; rfl
  rw [← hLe] at hL hL8
  have hnd : B.num (zs.drop 48) M 4 = B.num zs (48 + M) 4 := num_drop zs 48 M 4
  have hE : ∀ d, decE zs false d = (if zs.length - 48 < M + sz (s2B d M) then 8 else if s2B d M = true ∧ ¬ B.num zs (48 + M) 4 = (sumL ((zs.drop 48).take M) : Int) then 5 else if zeroB (((zs.drop 48).take M).drop L) = false then 3 else 0) := fun d => by
    unfold decE
    rw [if_neg c1, if_neg c2, if_neg c3, hsz, ← hMe, ← hLe, hnd]
  have hN : ∀ d, decN zs false d = 48 + M + sz (s2B d M) := fun d => by unfold decN; rw [hsz, ← hMe]
  have hP : decP zs false = headK (zs.take 48) ((zs.drop 48).take L) 7 := by unfold decP; rw [hsz, ← hLe]
  cases d with
  | false =>
    have hs2 : s2B false M = false := by rfl
    have hE' := hE false
    have hN' := hN false
    rw [hs2] at hE' hN'
    simp only [sz, Bool.false_eq_true, if_false, Nat.add_zero, false_and] at hE' hN'
    by_cases c4 : zs.length - 48 < M
    · have e : decE zs false false = 8 := by rw [hE', if_pos c4]
      refine (rdec_cut_fF b off n c zs w hr hn hc hb hs L M hL hL8 f2 f3 f4 hM (by omega)).mono ?_
      rintro e' w' ⟨rfl, hb'⟩
      exact ⟨hb', .inl ⟨by rw [e]; decide, by rw [e]⟩⟩
    rw [if_neg c4] at hE'
    have hpi := pads_iff zs 48 L (padN L) (by omega)
    rw [← hM] at hpi
    by_cases c6 : zeroB (((zs.drop 48).take M).drop L) = false
    · have e : decE zs false false = 3 := by rw [hE', if_pos c6]
      obtain ⟨q, hqP, hzq, hz0⟩ := first_bad (fun j => zs.getD (48 + L + j) 0) (padN L) (Classical.byContradiction fun hno => by
        rw [hpi.2 (fun j hj => Classical.byContradiction fun h9 => hno ⟨j, hj, h9⟩)] at c6
        cases c6)
      refine (rdec_pad_fF b off n c zs w hr hn hc hb hs L M hL hL8 f2 f3 f4 hM (by omega) q hqP hzq hz0).mono ?_
      rintro e' w' ⟨rfl, hb'⟩
      exact ⟨hb', .inl ⟨by rw [e]; decide, by rw [e]⟩⟩
    rw [if_neg c6] at hE'
    have hz : zeroB (((zs.drop 48).take M).drop L) = true := eq_true_of_ne_false c6
    refine (rdec_ok_fF b off n c zs w hr hn hc hb hs L M hL hL8 f2 f3 f4 hM (by omega) (hpi.1 hz)).mono ?_
    rintro e' w' ⟨v, rfl, h1, h2, hb'⟩
    refine ⟨hb', .inr ⟨hE', v, ?_, ?_, h2⟩⟩
    · rw [hP, hN']
    · rw [hP]; exact h1
  | true =>
    by_cases h0 : M = 0
    · have hs2 : s2B true M = false := by simp [s2B]; omega
      have hE' := hE true
      have hN' := hN true
      rw [hs2] at hE' hN'
      simp only [sz, Bool.false_eq_true, if_false, Nat.add_zero, false_and] at hE' hN'
      by_cases c4 : zs.length - 48 < M
      · have e : decE zs false true = 8 := by rw [hE', if_pos c4]
        refine (rdec_cut_fz b off n c zs w hr hn hc hb hs L M hL hL8 f2 f3 f4 hM h0 (by omega)).mono ?_
        rintro e' w' ⟨rfl, hb'⟩
        exact ⟨hb', .inl ⟨by rw [e]; decide, by rw [e]⟩⟩
      rw [if_neg c4] at hE'
      have hpi := pads_iff zs 48 L (padN L) (by omega)
      rw [← hM] at hpi
      by_cases c6 : zeroB (((zs.drop 48).take M).drop L) = false
      · have e : decE zs false true = 3 := by rw [hE', if_pos c6]
        obtain ⟨q, hqP, hzq, hz0⟩ := first_bad (fun j => zs.getD (48 + L + j) 0) (padN L) (Classical.byContradiction fun hno => by
          rw [hpi.2 (fun j hj => Classical.byContradiction fun h9 => hno ⟨j, hj, h9⟩)] at c6
          cases c6)
        refine (rdec_pad_fz b off n c zs w hr hn hc hb hs L M hL hL8 f2 f3 f4 hM h0 (by omega) q hqP hzq hz0).mono ?_
        rintro e' w' ⟨rfl, hb'⟩
        exact ⟨hb', .inl ⟨by rw [e]; decide, by rw [e]⟩⟩
      rw [if_neg c6] at hE'
      have hz : zeroB (((zs.drop 48).take M).drop L) = true := eq_true_of_ne_false c6
      refine (rdec_ok_fz b off n c zs w hr hn hc hb hs L M hL hL8 f2 f3 f4 hM h0 (by omega) (hpi.1 hz)).mono ?_
      rintro e' w' ⟨v, rfl, h1, h2, hb'⟩
      refine ⟨hb', .inr ⟨hE', v, ?_, ?_, h2⟩⟩
      · rw [hP, hN']
      · rw [hP]; exact h1
    · have h0 : 0 < M := by omega
      have hs2 : s2B true M = true := by simp [s2B]; omega
      have hE' := hE true
      have hN' := hN true
      rw [hs2] at hE' hN'
      simp only [sz, if_true, true_and] at hE' hN'
      by_cases c4 : zs.length - 48 < M + 4
      · have e : decE zs false true = 8 := by rw [hE', if_pos c4]
        refine (rdec_cut_fp b off n c zs w hr hn hc hb hs L M hL hL8 f2 f3 f4 hM h0 (by omega)).mono ?_
        rintro e' w' ⟨rfl, hb'⟩
        exact ⟨hb', .inl ⟨by rw [e]; decide, by rw [e]⟩⟩
      rw [if_neg c4] at hE'
      by_cases c5 : ¬ B.num zs (48 + M) 4 = (sumL ((zs.drop 48).take M) : Int)
      · have e : decE zs false true = 5 := by rw [hE', if_pos c5]
        refine (rdec_sum2_f b off n c zs w hr hn hc hb hs L M hL hL8 f2 f3 f4 hM h0 (by omega) c5).mono ?_
        rintro e' w' ⟨rfl, hb'⟩
        exact ⟨hb', .inl ⟨by rw [e]; decide, by rw [e]⟩⟩
      rw [if_neg c5] at hE'
      have hq2 : B.num zs (48 + M) 4 = (sumL ((zs.drop 48).take M) : Int) := Classical.byContradiction c5
      have hpi := pads_iff zs 48 L (padN L) (by omega)
      rw [← hM] at hpi
      by_cases c6 : zeroB (((zs.drop 48).take M).drop L) = false
      · have e : decE zs false true = 3 := by rw [hE', if_pos c6]
        obtain ⟨q, hqP, hzq, hz0⟩ := first_bad (fun j => zs.getD (48 + L + j) 0) (padN L) (Classical.byContradiction fun hno => by
          rw [hpi.2 (fun j hj => Classical.byContradiction fun h9 => hno ⟨j, hj, h9⟩)] at c6
          cases c6)
        refine (rdec_pad_fp b off n c zs w hr hn hc hb hs L M hL hL8 f2 f3 f4 hM h0 (by omega) hq2 q hqP hzq hz0).mono ?_
        rintro e' w' ⟨rfl, hb'⟩
        exact ⟨hb', .inl ⟨by rw [e]; decide, by rw [e]⟩⟩
      rw [if_neg c6] at hE'
      have hz : zeroB (((zs.drop 48).take M).drop L) = true := eq_true_of_ne_false c6
      refine (rdec_ok_fp b off n c zs w hr hn hc hb hs L M hL hL8 f2 f3 f4 hM h0 (by omega) hq2 (hpi.1 hz)).mono ?_
      rintro e' w' ⟨v, rfl, h1, h2, hb'⟩
      refine ⟨hb', .inr ⟨hE', v, ?_, ?_, h2⟩⟩
      · rw [hP, hN']
      · rw [hP]; exact h1

theorem rdecode_t (a : Option Addr) (n c : Nat) (zs : List Int) (d : Bool) (w : World) (hr : RdAt w (.slice a n c) zs) (hn : n ≤ 140737488355328) (hc : c ≤ maxLen) (hb : Bytes zs) :
    Calls Try.prog 14 #[.slice a n c, .bool true, .bool d] w (DecOut zs true d w) := by
  have hzl := (rd_row hr).1
  have hsz : 48 + sz true = 52 := rfl
  by_cases c1 : zs.length < 48 + sz true
  · have e : decE zs true d = 8 := by unfold decE; rw [if_pos c1]
    refine (rdec_none_t a n c d w hn (by omega)).mono ?_
    rintro e' w' ⟨rfl, hb'⟩
    exact ⟨hb', .inl ⟨by rw [e]; decide, by rw [e]⟩⟩
  obtain ⟨b, off, rfl⟩ : ∃ b off, a = some ⟨b, off, none⟩ := by
    obtain ⟨a', c', hv, h1, h2, h3⟩ := id hr
    simp only [Value.slice.injEq] at hv
    obtain ⟨rfl, -, -⟩ := hv
    rcases h3 with h3 | ⟨b, off, rfl, -⟩
    · omega
    · exact ⟨b, off, rfl⟩
  have hs : 52 ≤ n := by omega
  by_cases c2 : true = true ∧ ¬ B.num zs 48 4 = (sumL (zs.take 48) : Int)
  · have e : decE zs true d = 5 := by unfold decE; rw [if_neg c1, if_pos c2]
    refine (rdec_sum b off n c zs w hr hn hc hb d hs c2.2).mono ?_
    rintro e' w' ⟨rfl, hb'⟩
    exact ⟨hb', .inl ⟨by rw [e]; decide, by rw [e]⟩⟩
  have hq : B.num zs 48 4 = (sumL (zs.take 48) : Int) := Classical.byContradiction fun h2 => c2 ⟨rfl, h2⟩
  have hfp := form_plain zs hb (by omega)
  by_cases c3 : formB (zs.take 48) = false
  · have e : decE zs true d = 3 := by unfold decE; rw [if_neg c1, if_neg c2, if_pos c3]
    by_cases f1 : (8192 : Int) < B.num zs 5 3
    · refine (rdec_form_ta b off n c zs w hr hn hc hb d hs hq f1).mono ?_
      rintro e' w' ⟨rfl, hb'⟩
      exact ⟨hb', .inl ⟨by rw [e]; decide, by rw [e]⟩⟩
    · by_cases f2 : zs.getD 4 0 = 0
      · by_cases f3 : zs.getD 8 0 = 0
        · have f4 : B.num zs 10 6 ≠ 0 := fun f4 => by
            rw [hfp.2 ⟨by omega, f2, f3, f4⟩] at c3
            cases c3
          refine (rdec_form_td b off n c zs w hr hn hc hb d hs hq f1 f2 f3 f4).mono ?_
          rintro e' w' ⟨rfl, hb'⟩
          exact ⟨hb', .inl ⟨by rw [e]; decide, by rw [e]⟩⟩
        · refine (rdec_form_tc b off n c zs w hr hn hc hb d hs hq f1 f2 f3).mono ?_
          rintro e' w' ⟨rfl, hb'⟩
          exact ⟨hb', .inl ⟨by rw [e]; decide, by rw [e]⟩⟩
      · refine (rdec_form_tb b off n c zs w hr hn hc hb d hs hq f1 f2).mono ?_
        rintro e' w' ⟨rfl, hb'⟩
        exact ⟨hb', .inl ⟨by rw [e]; decide, by rw [e]⟩⟩
  have hf : formB (zs.take 48) = true := by cases hh : formB (zs.take 48) <;> simp_all
  obtain ⟨f1, f2, f3, f4⟩ := hfp.1 hf
  have hL : B.num zs 5 3 = (lenD (zs.take 48) : Int) := by rw [← num_take zs 48 5 3 (by omega)]; exact lenD_eq _ (Bytes.take hb 48)
  have hL8 : lenD (zs.take 48) ≤ 8192 := by omega
  obtain ⟨L, hLe⟩ : ∃ L, L = lenD (zs.take 48) := ⟨_, rfl⟩
  obtain ⟨M, hMe⟩ : ∃ M, M = bodyM zs := ⟨_, rfl⟩
  have hM : M = L + padN L := by rw [hMe, hLe]; rfl
  rw [← hLe] at hL hL8
  have hnd : B.num (zs.drop 52) M 4 = B.num zs (52 + M) 4 := num_drop zs 52 M 4
  have hE : ∀ d, decE zs true d = (if zs.length - 52 < M + sz (s2B d M) then 8 else if s2B d M = true ∧ ¬ B.num zs (52 + M) 4 = (sumL ((zs.drop 52).take M) : Int) then 5 else if zeroB (((zs.drop 52).take M).drop L) = false then 3 else 0) := fun d => by
    unfold decE
    rw [if_neg c1, if_neg c2, if_neg c3, hsz, ← hMe, ← hLe, hnd]
  have hN : ∀ d, decN zs true d = 52 + M + sz (s2B d M) := fun d => by unfold decN; rw [hsz, ← hMe]
  have hP : decP zs true = headK (zs.take 48) ((zs.drop 52).take L) 7 := by unfold decP; rw [hsz, ← hLe]
  cases d with
  | false =>
    have hs2 : s2B false M = false := by rfl
    have hE' := hE false
    have hN' := hN false
    rw [hs2] at hE' hN'
    simp only [sz, Bool.false_eq_true, if_false, Nat.add_zero, false_and] at hE' hN'
    by_cases c4 : zs.length - 52 < M
    · have e : decE zs true false = 8 := by rw [hE', if_pos c4]
      refine (rdec_cut_tF b off n c zs w hr hn hc hb hs hq L M hL hL8 f2 f3 f4 hM (by omega)).mono ?_
      rintro e' w' ⟨rfl, hb'⟩
      exact ⟨hb', .inl ⟨by rw [e]; decide, by rw [e]⟩⟩
    rw [if_neg c4] at hE'
    have hpi := pads_iff zs 52 L (padN L) (by omega)
    rw [← hM] at hpi
    by_cases c6 : zeroB (((zs.drop 52).take M).drop L) = false
    · have e : decE zs true false = 3 := by rw [hE', if_pos c6]
      obtain ⟨q, hqP, hzq, hz0⟩ := first_bad (fun j => zs.getD (52 + L + j) 0) (padN L) (Classical.byContradiction fun hno => by
        rw [hpi.2 (fun j hj => Classical.byContradiction fun h9 => hno ⟨j, hj, h9⟩)] at c6
        cases c6)
      refine (rdec_pad_tF b off n c zs w hr hn hc hb hs hq L M hL hL8 f2 f3 f4 hM (by omega) q hqP hzq hz0).mono ?_
      rintro e' w' ⟨rfl, hb'⟩
      exact ⟨hb', .inl ⟨by rw [e]; decide, by rw [e]⟩⟩
    rw [if_neg c6] at hE'
    have hz : zeroB (((zs.drop 52).take M).drop L) = true := eq_true_of_ne_false c6
    refine (rdec_ok_tF b off n c zs w hr hn hc hb hs hq L M hL hL8 f2 f3 f4 hM (by omega) (hpi.1 hz)).mono ?_
    rintro e' w' ⟨v, rfl, h1, h2, hb'⟩
    refine ⟨hb', .inr ⟨hE', v, ?_, ?_, h2⟩⟩
    · rw [hP, hN']
    · rw [hP]; exact h1
  | true =>
    by_cases h0 : M = 0
    · have hs2 : s2B true M = false := by simp [s2B]; omega
      have hE' := hE true
      have hN' := hN true
      rw [hs2] at hE' hN'
      simp only [sz, Bool.false_eq_true, if_false, Nat.add_zero, false_and] at hE' hN'
      by_cases c4 : zs.length - 52 < M
      · have e : decE zs true true = 8 := by rw [hE', if_pos c4]
        refine (rdec_cut_tz b off n c zs w hr hn hc hb hs hq L M hL hL8 f2 f3 f4 hM h0 (by omega)).mono ?_
        rintro e' w' ⟨rfl, hb'⟩
        exact ⟨hb', .inl ⟨by rw [e]; decide, by rw [e]⟩⟩
      rw [if_neg c4] at hE'
      have hpi := pads_iff zs 52 L (padN L) (by omega)
      rw [← hM] at hpi
      by_cases c6 : zeroB (((zs.drop 52).take M).drop L) = false
      · have e : decE zs true true = 3 := by rw [hE', if_pos c6]
        obtain ⟨q, hqP, hzq, hz0⟩ := first_bad (fun j => zs.getD (52 + L + j) 0) (padN L) (Classical.byContradiction fun hno => by
          rw [hpi.2 (fun j hj => Classical.byContradiction fun h9 => hno ⟨j, hj, h9⟩)] at c6
          cases c6)
        refine (rdec_pad_tz b off n c zs w hr hn hc hb hs hq L M hL hL8 f2 f3 f4 hM h0 (by omega) q hqP hzq hz0).mono ?_
        rintro e' w' ⟨rfl, hb'⟩
        exact ⟨hb', .inl ⟨by rw [e]; decide, by rw [e]⟩⟩
      rw [if_neg c6] at hE'
      have hz : zeroB (((zs.drop 52).take M).drop L) = true := eq_true_of_ne_false c6
      refine (rdec_ok_tz b off n c zs w hr hn hc hb hs hq L M hL hL8 f2 f3 f4 hM h0 (by omega) (hpi.1 hz)).mono ?_
      rintro e' w' ⟨v, rfl, h1, h2, hb'⟩
      refine ⟨hb', .inr ⟨hE', v, ?_, ?_, h2⟩⟩
      · rw [hP, hN']
      · rw [hP]; exact h1
    · have h0 : 0 < M := by omega
      have hs2 : s2B true M = true := by simp [s2B]; omega
      have hE' := hE true
      have hN' := hN true
      rw [hs2] at hE' hN'
      simp only [sz, if_true, true_and] at hE' hN'
      by_cases c4 : zs.length - 52 < M + 4
      · have e : decE zs true true = 8 := by rw [hE', if_pos c4]
        refine (rdec_cut_tp b off n c zs w hr hn hc hb hs hq L M hL hL8 f2 f3 f4 hM h0 (by omega)).mono ?_
        rintro e' w' ⟨rfl, hb'⟩
        exact ⟨hb', .inl ⟨by rw [e]; decide, by rw [e]⟩⟩
      rw [if_neg c4] at hE'
      by_cases c5 : ¬ B.num zs (52 + M) 4 = (sumL ((zs.drop 52).take M) : Int)
      · have e : decE zs true true = 5 := by rw [hE', if_pos c5]
        refine (rdec_sum2_t b off n c zs w hr hn hc hb hs hq L M hL hL8 f2 f3 f4 hM h0 (by omega) c5).mono ?_
        rintro e' w' ⟨rfl, hb'⟩
        exact ⟨hb', .inl ⟨by rw [e]; decide, by rw [e]⟩⟩
      rw [if_neg c5] at hE'
      have hq2 : B.num zs (52 + M) 4 = (sumL ((zs.drop 52).take M) : Int) := Classical.byContradiction c5
      have hpi := pads_iff zs 52 L (padN L) (by omega)
      rw [← hM] at hpi
      by_cases c6 : zeroB (((zs.drop 52).take M).drop L) = false
      · have e : decE zs true true = 3 := by rw [hE', if_pos c6]
        obtain ⟨q, hqP, hzq, hz0⟩ := first_bad (fun j => zs.getD (52 + L + j) 0) (padN L) (Classical.byContradiction fun hno => by
          rw [hpi.2 (fun j hj => Classical.byContradiction fun h9 => hno ⟨j, hj, h9⟩)] at c6
          cases c6)
        refine (rdec_pad_tp b off n c zs w hr hn hc hb hs hq L M hL hL8 f2 f3 f4 hM h0 (by omega) hq2 q hqP hzq hz0).mono ?_
        rintro e' w' ⟨rfl, hb'⟩
        exact ⟨hb', .inl ⟨by rw [e]; decide, by rw [e]⟩⟩
      rw [if_neg c6] at hE'
      have hz : zeroB (((zs.drop 52).take M).drop L) = true := eq_true_of_ne_false c6
      refine (rdec_ok_tp b off n c zs w hr hn hc hb hs hq L M hL hL8 f2 f3 f4 hM h0 (by omega) hq2 (hpi.1 hz)).mono ?_
      rintro e' w' ⟨v, rfl, h1, h2, hb'⟩
      refine ⟨hb', .inr ⟨hE', v, ?_, ?_, h2⟩⟩
      · rw [hP, hN']
      · rw [hP]; exact h1

theorem rdecode_any (a : Option Addr) (n c : Nat) (zs : List Int) (h d : Bool) (w : World) (hr : RdAt w (.slice a n c) zs) (hn : n ≤ 140737488355328) (hc : c ≤ maxLen) (hb : Bytes zs) :
    Calls Try.prog 14 #[.slice a n c, .bool h, .bool d] w (DecOut zs h d w) := by
  cases h with
  | false => exact rdecode_f a n c zs d w hr hn hc hb
  | true => exact rdecode_t a n c zs d w hr hn hc hb
end Go.Proofs.Ytigfoldobkigeaa
