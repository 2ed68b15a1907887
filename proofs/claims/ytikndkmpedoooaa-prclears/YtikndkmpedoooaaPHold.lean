/-
  PrHolders.
-/
import Derived.Test.YtikndkmpedoooaaPPlay
namespace Go.Proofs.Ytikndkmpedoooaa.prHolders
open Go.Proofs.Ytikndkmpedoooaa
open Go.RowKit
set_option linter.unusedVariables false
set_option linter.unusedSimpArgs false

/-- What a look at one nexus can tell. -/
def Look (r1 r2 : Int) (n : Nat) (kn hd cr cw al : Bool) : Prop :=
  (r1 = 0 ∧ al = false ∧ hd = false ∧ cr = false ∧ cw = false) ∨
  (r1 ≠ 0 ∧ al = true ∧ kn = true ∧ hd = true ∧ cr = false ∧ cw = false) ∨
  (r1 ≠ 0 ∧ al = true ∧ kn = false ∧ hd = false ∧ cw = true) ∨
  (r1 ≠ 0 ∧ al = false ∧ ((n : Int) == r2) = true ∧ hd = true ∧ kn = true ∧ cr = false ∧ cw = false) ∨
  (r1 ≠ 0 ∧ al = false ∧ ((n : Int) == r2) = false ∧ hd = false ∧ kn = true ∧ cr = false) ∨
  (r1 ≠ 0 ∧ al = false ∧ ((n : Int) == r2) = false ∧ hd = false ∧ kn = true ∧ cr = true ∧ cw = true) ∨
  (r1 ≠ 0 ∧ al = false ∧ ((n : Int) == r2) = false ∧ hd = false ∧ kn = false ∧ cw = true)

theorem reg_nat (t : Tb) (n : Nat) (hn : n < 8) : t.reg n = decide (t.ks n ≠ 0) := by unfold Tb.reg; simp; omega
theorem look_of (t : Tb) (hg : t.good) (n : Nat) (hn : n < 8) : Look t.res.1 t.res.2 n (decide (t.ks n ≠ 0)) (t.holds n) (t.conf n 1) (t.conf n 2) (isAll t.res.1) := by
  have hr := reg_nat t n hn
  by_cases h0 : t.kd = 0
  · left
    have hh : t.holds n = false := by simp [Tb.holds, h0]
    simp [Tb.res, h0, Tb.conf, hh, isAll]
  · have hty : isTy t.kd = true := by rcases hg.ty with e | e; exact absurd e h0; exact e
    cases hal : isAll t.kd with
    | true =>
      have h1 : t.res.1 = t.kd := by simp [Tb.res, h0, hal]
      have hh : t.holds n = decide (t.ks n ≠ 0) := by simp [Tb.holds, h0, hal, hr]
      have h78 : t.kd = 7 ∨ t.kd = 8 := by simpa [isAll] using hal
      right
      by_cases hk : t.ks n = 0
      · right; left
        refine ⟨by rw [h1]; exact h0, by rw [h1]; exact hal, by simp [hk], by simp [hh, hk], ?_⟩
        rcases h78 with e | e <;> simp [Tb.conf, hh, hk, hr, e]
      · left
        refine ⟨by rw [h1]; exact h0, by rw [h1]; exact hal, by simp [hk], by simp [hh, hk], ?_, ?_⟩ <;> simp [Tb.conf, hh, hk]
    | false =>
      have h1 : t.res.1 = t.kd := by simp [Tb.res, h0, hal]
      have h2 : t.res.2 = t.ho := by simp [Tb.res, h0, hal]
      have hh : t.holds n = decide (t.ho = n) := by simp [Tb.holds, h0, hal]
      have h1356 : t.kd = 1 ∨ t.kd = 3 ∨ t.kd = 5 ∨ t.kd = 6 := by
        simp [isTy] at hty
        simp [isAll] at hal
        omega
      obtain ⟨o1, o2, o3⟩ := hg.one h0 hal
      right; right; right
      rw [h1, h2]
      by_cases he : t.ho = n
      · left
        have hkn : t.ks n ≠ 0 := by rw [he] at o3; simpa using o3
        refine ⟨h0, hal, by simp [he], by simp [hh, he], by simp [hkn], ?_, ?_⟩ <;> simp [Tb.conf, hh, he]
      · right
        have hf : t.holds n = false := by rw [hh]; simp [he]
        have hb : ((n : Int) == t.ho) = false := by simp; omega
        by_cases hk : t.ks n = 0
        · right; right
          refine ⟨h0, hal, hb, hf, by simp [hk], ?_⟩
          rcases h1356 with e | e | e | e <;> simp [Tb.conf, hf, hk, hr, e]
        · by_cases hc : t.conf n 1 = true
          · right; left
            refine ⟨h0, hal, hb, hf, by simp [hk], hc, ?_⟩
            rcases h1356 with e | e | e | e <;> simp [Tb.conf, hf, hk, hr, e] at hc ⊢
          · left
            exact ⟨h0, hal, hb, hf, by simp [hk], by simpa using hc⟩
theorem conf_free (t : Tb) (n : Int) : t.conf n 0 = false := by simp [Tb.conf]
theorem regs_pos (t : Tb) (hg : t.good) (h0 : t.res.1 ≠ 0) : isTy t.res.1 = true ∧ 0 < t.regs.length := by
  have hk : t.kd ≠ 0 := fun e => h0 (by simp [Tb.res, e])
  have h1 : t.res.1 = t.kd := by unfold Tb.res; rw [if_neg hk]; split <;> rfl
  refine ⟨by rw [h1]; rcases hg.ty with e | e; exact absurd e hk; exact e, ?_⟩
  obtain ⟨j, hj, hkj⟩ : ∃ j, j < 8 ∧ t.ks j ≠ 0 := by
    cases hal : isAll t.kd with
    | true => exact hg.all hal
    | false =>
      obtain ⟨a, b, c⟩ := hg.one hk hal
      exact ⟨t.ho.toNat, by omega, c⟩
  have := (regs_mem t _).2 ⟨j, hj, rfl, hkj⟩
  exact List.length_pos_of_mem this
theorem known_iff (t : Tb) (n : Nat) (hn : n < 8) : t.regs.any (fun r => decide (r.1 = (n : Int))) = decide (t.ks n ≠ 0) := by
  by_cases h : t.ks n = 0
  · rw [show decide (t.ks n ≠ 0) = false from by simp [h]]
    rw [List.any_eq_false]
    intro r hr
    obtain ⟨m, hm, rfl, hk⟩ := (regs_mem t r).1 hr
    simp
    intro e
    have : m = n := by omega
    subst this
    exact hk h
  · rw [show decide (t.ks n ≠ 0) = true from by simp [h]]
    rw [List.any_eq_true]
    exact ⟨_, (regs_mem t _).2 ⟨n, hn, rfl, h⟩, by simp⟩

set_option maxRecDepth 100000 in
set_option maxHeartbeats 8000000 in
theorem hold_walk (a0 : Option Addr) (l0 c0 : Nat) (w : World) (hA : Acts w a0 l0) :
    Calls Try.prog 6 #[.slice a0 l0 c0] w fun e w' => e = .returned (.bool true) ∧ Below w.heap.size w w' := by
  replace hA := Kpt.mk hA
  go_enter Try.func6, Try.ntmps6
  go_wp2_with fail
  refine (awake_any _).mono ?_
  rintro e w1 ⟨rfl, hb1⟩
  replace hb1 := Kpt.mk hb1
  go_wp2_with fail
  refine (play_any a0 l0 c0 w w1 hA.out hb1.out).mono ?_
  rintro e w2 ⟨B, t, rfl, hS⟩
  replace hS := Kpt.mk hS
  clear hA hb1
  go_wp2_with fail
  refine (regs_any B t w2 hS.out.tab).mono ?_
  rintro e w3 ⟨v, rfl, hO, hb3⟩
  have hS3 := Kpt.mk (hS.out.below hb3)
  obtain ⟨a, cp, hv, hs⟩ := hO.shape
  subst hv
  replace hs := Kpt.mk hs
  clear hS hb3 hO
  go_wp2_with fail
  refine (reserved_any B t w3 hS3.out.tab).mono ?_
  rintro e w4 ⟨rfl, q, hq⟩
  have hS4 : Kpt (Ss w w4 B t) := ⟨by rw [hq]; exact hS3.out.drewN q⟩
  have hs4 : Kpt ((a = none ∧ cp = 0 ∧ t.regs.length = 0) ∨ ∃ g, a = some ⟨g, 0, none⟩ ∧ w2.heap.size ≤ g ∧ g < w4.heap.size ∧ t.regs.length ≤ cp ∧ cp ≤ maxLen ∧ ∀ j r, t.regs[j]? = some r → w4.rangeAt g (j * 2) (pv .u64 r).toList) := ⟨by rw [hq]; exact hs.out⟩
  clear hs hS3 hq
  have HL := Kpt.mk (look_of t hS4.out.good)
  have HP := Kpt.mk (regs_pos t hS4.out.good)
  have HK := Kpt.mk (known_iff t)
  have H0 : Kpt (∀ n : Nat, Calls Try.prog 23 #[.pointer (some ⟨B, 0, none⟩), .int .i64 n, .int .u8 0] w4 fun e w' => e = .returned (.bool (t.conf n 0)) ∧ w' = w4) := ⟨fun n => conflict_any B t n 0 w4 hS4.out.tab⟩
  have H1 : Kpt (∀ n : Nat, Calls Try.prog 23 #[.pointer (some ⟨B, 0, none⟩), .int .i64 n, .int .u8 1] w4 fun e w' => e = .returned (.bool (t.conf n 1)) ∧ w' = w4) := ⟨fun n => conflict_any B t n 1 w4 hS4.out.tab⟩
  have H2 : Kpt (∀ n : Nat, Calls Try.prog 23 #[.pointer (some ⟨B, 0, none⟩), .int .i64 n, .int .u8 2] w4 fun e w' => e = .returned (.bool (t.conf n 2)) ∧ w' = w4) := ⟨fun n => conflict_any B t n 2 w4 hS4.out.tab⟩
  have HH : Kpt (∀ n : Nat, Calls Try.prog 22 #[.pointer (some ⟨B, 0, none⟩), .int .i64 n] w4 fun e w' => e = .returned (.bool (t.holds n)) ∧ w' = w4) := ⟨fun n => holds_any B t n w4 hS4.out.tab⟩
  have HAl : Kpt (Calls Try.prog 24 #[.int .u8 t.res.1] w4 fun e w' => e = .returned (.bool (isAll t.res.1)) ∧ w' = w4) := ⟨all_any _ w4⟩
  have HTy : Kpt (Calls Try.prog 25 #[.int .u8 t.res.1] w4 fun e w' => e = .returned (.bool (isTy t.res.1)) ∧ w' = w4) := ⟨types_any _ w4⟩
  have hbl := Kpt.mk hS4.out.bel
  have hl8 := regs_len t
  obtain ⟨m, hm⟩ : ∃ m, m = t.regs.length := ⟨_, rfl⟩
  rw [← hm] at hs4 hl8 HP ⊢
  replace hm := Kpt.mk hm
  generalize t.res.1 = r1 at *
  generalize t.res.2 = r2 at *
  clear hS4
  go_wp2_with fail
  go_loopw [7] (fun r wr => ∃ k : Nat, k ≤ 8 ∧ r = .int .i64 k ∧ Kpt (wr = w4)) (fun r _ => 8 - (intOf r).toNat)
  case atStart => exact ⟨0, by omega, rfl, ⟨rfl⟩⟩
  case round =>
    obtain ⟨k, hk8, rfl, hw⟩ := hrel
    have := hw.out
    subst this
    by_cases hlt : k < 8
    · have e1 : (k : Int) < 8 := by omega
      go_wp2_with fail
      go_loopw [8, 9] (fun r s wr2 => ∃ i : Nat, i ≤ m ∧ r = .bool ((t.regs.take i).any (fun r => decide (r.1 = (k : Int)))) ∧ s = .int .i64 i ∧ Kpt (wr2 = wr)) (fun _ s _ => m - (intOf s).toNat)
      case atStart => exact ⟨0, by omega, by simp, rfl, ⟨rfl⟩⟩
      case round =>
        obtain ⟨i, hi, rfl, rfl, hw2⟩ := hrel
        have := hw2.out
        subst this
        by_cases hlt2 : i < m
        · have e5 : (i : Int) < m := by omega
          have hiz : i < t.regs.length := by rw [← hm.out]; exact hlt2
          obtain ⟨r, hr⟩ : ∃ r, t.regs[i]? = some r := ⟨_, List.getElem?_eq_getElem hiz⟩
          rcases hs4.out with ⟨_, _, hz⟩ | ⟨g, rfl, hbg, hg, hc1, hc2, hrr⟩
          · omega
          obtain ⟨r0, r1'⟩ := range2 (hrr i r hr)
          have hst : Kpt ((t.regs.take (i + 1)).any (fun r => decide (r.1 = (k : Int))) = ((t.regs.take i).any (fun r => decide (r.1 = (k : Int))) || decide (r.1 = (k : Int)))) := ⟨by rw [List.take_add_one, hr]; simp⟩
          obtain ⟨x1, x2⟩ := r
          simp only at r0 r1' hst
          generalize (t.regs.take i).any (fun r => decide (r.1 = (k : Int))) = kn at *
          clear hrr hr hs4 HL HP HK H0 H1 H2 HH HAl HTy
          by_cases he : x1 = k
          · subst he
            go_wp2
            go_roundw
            case rel => exact ⟨i + 1, by omega, by rw [hst.out]; simp, by go_num, by first | exact ⟨rfl⟩ | exact ⟨trivial⟩⟩
            case measure => simp [intOf]; omega
          · have heb : ((x1 : Int) == k) = false := by simp [he]
            go_wp2
            go_roundw
            case rel => exact ⟨i + 1, by omega, by rw [hst.out]; simp [he], by go_num, by first | exact ⟨rfl⟩ | exact ⟨trivial⟩⟩
            case measure => simp [intOf]; omega
        · have e5 : ¬ (i : Int) < m := by omega
          have hkn : (t.regs.take i).any (fun r => decide (r.1 = (k : Int))) = decide (t.ks k ≠ 0) := by
            rw [List.take_of_length_le (by rw [← hm.out]; omega)]
            exact HK.out k hlt
          rw [hkn]
          have HLk := HL.out k hlt
          have hC0 := Kpt.mk (H0.out k)
          rw [conf_free] at hC0
          have hC1 := Kpt.mk (H1.out k)
          have hC2 := Kpt.mk (H2.out k)
          have hHk := Kpt.mk (HH.out k)
          generalize decide (t.ks k ≠ 0) = kn at *
          generalize t.holds k = hd at *
          generalize t.conf k 1 = cr at *
          generalize t.conf k 2 = cw at *
          generalize isAll r1 = al at *
          clear hkn HL HP HK H0 H1 H2 HH hs4 HTy
          unfold Look at HLk
          rcases HLk with ⟨rfl, rfl, rfl, rfl, rfl⟩ | ⟨h0, rfl, rfl, rfl, rfl, rfl⟩ | ⟨h0, rfl, rfl, rfl, rfl⟩ | ⟨h0, rfl, he, rfl, rfl, rfl, rfl⟩ | ⟨h0, rfl, he, rfl, rfl, rfl⟩ | ⟨h0, rfl, he, rfl, rfl, rfl, rfl⟩ | ⟨h0, rfl, he, rfl, rfl, rfl⟩
          case inl =>
            (go_wp2_with (first
              | (go_at_call_of 23 (Value.int .u8 0); refine hC0.out.mono ?_; rintro e wr ⟨rfl, rfl⟩)
              | (go_at_call_of 23 (Value.int .u8 1); refine hC1.out.mono ?_; rintro e wr ⟨rfl, rfl⟩)
              | (go_at_call_of 23 (Value.int .u8 2); refine hC2.out.mono ?_; rintro e wr ⟨rfl, rfl⟩)
              | (go_at_call 22; refine hHk.out.mono ?_; rintro e wr ⟨rfl, rfl⟩)
              | (go_at_call 24; refine HAl.out.mono ?_; rintro e wr ⟨rfl, rfl⟩)); (go_roundw; case rel => exact ⟨k + 1, by omega, by go_num, by first | exact ⟨rfl⟩ | exact ⟨trivial⟩⟩); (case measure => simp [intOf]; omega))
          case inr.inl => 
            have hz1 : ((r1 : Int) == 0) = false := by simp [h0]
            have hz2 : ((r1 : Int) != 0) = true := by simp [h0]
            (go_wp2_with (first
              | (go_at_call_of 23 (Value.int .u8 0); refine hC0.out.mono ?_; rintro e wr ⟨rfl, rfl⟩)
              | (go_at_call_of 23 (Value.int .u8 1); refine hC1.out.mono ?_; rintro e wr ⟨rfl, rfl⟩)
              | (go_at_call_of 23 (Value.int .u8 2); refine hC2.out.mono ?_; rintro e wr ⟨rfl, rfl⟩)
              | (go_at_call 22; refine hHk.out.mono ?_; rintro e wr ⟨rfl, rfl⟩)
              | (go_at_call 24; refine HAl.out.mono ?_; rintro e wr ⟨rfl, rfl⟩)); (go_roundw; case rel => exact ⟨k + 1, by omega, by go_num, by first | exact ⟨rfl⟩ | exact ⟨trivial⟩⟩); (case measure => simp [intOf]; omega))
          case inr.inr.inl => 
            have hz1 : ((r1 : Int) == 0) = false := by simp [h0]
            have hz2 : ((r1 : Int) != 0) = true := by simp [h0]
            cases cr
            all_goals (go_wp2_with (first
              | (go_at_call_of 23 (Value.int .u8 0); refine hC0.out.mono ?_; rintro e wr ⟨rfl, rfl⟩)
              | (go_at_call_of 23 (Value.int .u8 1); refine hC1.out.mono ?_; rintro e wr ⟨rfl, rfl⟩)
              | (go_at_call_of 23 (Value.int .u8 2); refine hC2.out.mono ?_; rintro e wr ⟨rfl, rfl⟩)
              | (go_at_call 22; refine hHk.out.mono ?_; rintro e wr ⟨rfl, rfl⟩)
              | (go_at_call 24; refine HAl.out.mono ?_; rintro e wr ⟨rfl, rfl⟩)); (go_roundw; case rel => exact ⟨k + 1, by omega, by go_num, by first | exact ⟨rfl⟩ | exact ⟨trivial⟩⟩); (case measure => simp [intOf]; omega))
          case inr.inr.inr.inl => 
            have hz1 : ((r1 : Int) == 0) = false := by simp [h0]
            have hz2 : ((r1 : Int) != 0) = true := by simp [h0]
            (go_wp2_with (first
              | (go_at_call_of 23 (Value.int .u8 0); refine hC0.out.mono ?_; rintro e wr ⟨rfl, rfl⟩)
              | (go_at_call_of 23 (Value.int .u8 1); refine hC1.out.mono ?_; rintro e wr ⟨rfl, rfl⟩)
              | (go_at_call_of 23 (Value.int .u8 2); refine hC2.out.mono ?_; rintro e wr ⟨rfl, rfl⟩)
              | (go_at_call 22; refine hHk.out.mono ?_; rintro e wr ⟨rfl, rfl⟩)
              | (go_at_call 24; refine HAl.out.mono ?_; rintro e wr ⟨rfl, rfl⟩)); (go_roundw; case rel => exact ⟨k + 1, by omega, by go_num, by first | exact ⟨rfl⟩ | exact ⟨trivial⟩⟩); (case measure => simp [intOf]; omega))
          case inr.inr.inr.inr.inl => 
            have hz1 : ((r1 : Int) == 0) = false := by simp [h0]
            have hz2 : ((r1 : Int) != 0) = true := by simp [h0]
            cases cw
            all_goals (go_wp2_with (first
              | (go_at_call_of 23 (Value.int .u8 0); refine hC0.out.mono ?_; rintro e wr ⟨rfl, rfl⟩)
              | (go_at_call_of 23 (Value.int .u8 1); refine hC1.out.mono ?_; rintro e wr ⟨rfl, rfl⟩)
              | (go_at_call_of 23 (Value.int .u8 2); refine hC2.out.mono ?_; rintro e wr ⟨rfl, rfl⟩)
              | (go_at_call 22; refine hHk.out.mono ?_; rintro e wr ⟨rfl, rfl⟩)
              | (go_at_call 24; refine HAl.out.mono ?_; rintro e wr ⟨rfl, rfl⟩)); (go_roundw; case rel => exact ⟨k + 1, by omega, by go_num, by first | exact ⟨rfl⟩ | exact ⟨trivial⟩⟩); (case measure => simp [intOf]; omega))
          case inr.inr.inr.inr.inr.inl => 
            have hz1 : ((r1 : Int) == 0) = false := by simp [h0]
            have hz2 : ((r1 : Int) != 0) = true := by simp [h0]
            (go_wp2_with (first
              | (go_at_call_of 23 (Value.int .u8 0); refine hC0.out.mono ?_; rintro e wr ⟨rfl, rfl⟩)
              | (go_at_call_of 23 (Value.int .u8 1); refine hC1.out.mono ?_; rintro e wr ⟨rfl, rfl⟩)
              | (go_at_call_of 23 (Value.int .u8 2); refine hC2.out.mono ?_; rintro e wr ⟨rfl, rfl⟩)
              | (go_at_call 22; refine hHk.out.mono ?_; rintro e wr ⟨rfl, rfl⟩)
              | (go_at_call 24; refine HAl.out.mono ?_; rintro e wr ⟨rfl, rfl⟩)); (go_roundw; case rel => exact ⟨k + 1, by omega, by go_num, by first | exact ⟨rfl⟩ | exact ⟨trivial⟩⟩); (case measure => simp [intOf]; omega))
          case inr.inr.inr.inr.inr.inr => 
            have hz1 : ((r1 : Int) == 0) = false := by simp [h0]
            have hz2 : ((r1 : Int) != 0) = true := by simp [h0]
            cases cr
            all_goals (go_wp2_with (first
              | (go_at_call_of 23 (Value.int .u8 0); refine hC0.out.mono ?_; rintro e wr ⟨rfl, rfl⟩)
              | (go_at_call_of 23 (Value.int .u8 1); refine hC1.out.mono ?_; rintro e wr ⟨rfl, rfl⟩)
              | (go_at_call_of 23 (Value.int .u8 2); refine hC2.out.mono ?_; rintro e wr ⟨rfl, rfl⟩)
              | (go_at_call 22; refine hHk.out.mono ?_; rintro e wr ⟨rfl, rfl⟩)
              | (go_at_call 24; refine HAl.out.mono ?_; rintro e wr ⟨rfl, rfl⟩)); (go_roundw; case rel => exact ⟨k + 1, by omega, by go_num, by first | exact ⟨rfl⟩ | exact ⟨trivial⟩⟩); (case measure => simp [intOf]; omega))
    · have e1 : ¬ (k : Int) < 8 := by omega
      clear HL HK H0 H1 H2 HH hs4 HAl
      by_cases h0 : r1 = 0
      · subst h0
        clear HTy HP
        go_wp2
        go_ret
        exact ⟨rfl, hbl.out⟩
      · obtain ⟨p1, p2⟩ := HP.out h0
        have hz1 : ((r1 : Int) == 0) = false := by simp [h0]
        have p3 : (0 : Int) < m := by omega
        rw [p1] at HTy
        clear HP p1
        go_wp2_with (go_at_call 25; go_must (refine HTy.out.mono ?_; rintro e wr ⟨rfl, rfl⟩))
        go_ret
        exact ⟨rfl, hbl.out⟩
end Go.Proofs.Ytikndkmpedoooaa.prHolders
