/-
  text: Number of any text; Least.
-/
import Derived.Test.YtplifodddfjhdaaGreatDoorXLsts
namespace Go.Proofs.YtplifodddfjhdaaGreatDoor
open Go.RowKit
set_option linter.unusedVariables false
set_option linter.unusedSimpArgs false

set_option maxRecDepth 100000 in
set_option maxHeartbeats 1000000 in
theorem pu_empty (b : Int) (w : World) : Calls Tryz.prog 94 #[.string ⟨#[]⟩, .int .i64 b, .int .i64 64] w fun e w' => BadP e ∧ Below w.heap.size w w' := by
  go_enter Tryz.func94, Tryz.ntmps94
  go_wp2
  go_ret2
  exact ⟨⟨0, 2, rfl, by omega, by omega, .inr rfl⟩, Below.refl _ _⟩
theorem empty_of {S : ByteArray} (h : S.size = 0) : S = ⟨#[]⟩ := by
  apply nums_inj
  rw [show nums ⟨#[]⟩ = [] from rfl]
  exact List.length_eq_zero_iff.1 (by rw [nums_len]; exact h)
theorem bad16 (S : ByteArray) (w : World) (hS : S.size ≤ 281474976710656) (h : S.size = 0 ∨ numP 16 0 (nums S) = none) : Calls Tryz.prog 94 #[.string S, .int .i64 16, .int .i64 64] w fun e w' => BadP e ∧ Below w.heap.size w w' := by
  by_cases h0 : S.size = 0
  · rw [empty_of h0]; exact pu_empty 16 w
  · have hn : numP 16 0 (nums S) = none := h.resolve_left h0
    refine (pu16_any S w (by unfold maxLen; omega) (by omega)).mono ?_
    rintro e w' ⟨hr | hr, hb⟩
    · obtain ⟨v, h1, -⟩ := hr
      rw [hn] at h1; cases h1
    · exact ⟨hr.2, hb⟩
theorem bad10 (S : ByteArray) (w : World) (hS : S.size ≤ 281474976710656) (h : S.size = 0 ∨ numP 10 0 (nums S) = none) : Calls Tryz.prog 94 #[.string S, .int .i64 10, .int .i64 64] w fun e w' => BadP e ∧ Below w.heap.size w w' := by
  by_cases h0 : S.size = 0
  · rw [empty_of h0]; exact pu_empty 10 w
  · have hn : numP 10 0 (nums S) = none := h.resolve_left h0
    refine (pu10_any S w (by unfold maxLen; omega) (by omega)).mono ?_
    rintro e w' ⟨hr | hr, hb⟩
    · obtain ⟨v, h1, -⟩ := hr
      rw [hn] at h1; cases h1
    · exact ⟨hr.2, hb⟩

set_option maxHeartbeats 1000000 in
theorem number_bad (S : ByteArray) (w : World) (hS : S.size ≤ 281474976710656) (h : numS (nums S) = none) (hG : Gl w) :
    Calls Tryz.prog 71 #[.string S] w fun e w' => e = .returned (.tuple #[.int .u64 0, .bool false]) ∧ Below w.heap.size w w' := by
  have hcp := Kpt.mk (cutp_any S w)
  by_cases hx : hexB (nums S) = true
  · have hx2 := of_decide_eq_true hx
    rw [nums_len] at hx2
    have hv : cutX S = S.extract 2 S.size := by unfold cutX; rw [if_pos hx]
    have hsz : (S.extract 2 S.size).size = S.size - 2 := by simp
    have hnx : nums (S.extract 2 S.size) = (nums S).drop 2 := by rw [nums_ext, List.take_of_length_le (by rw [nums_len]; exact Nat.le_refl _)]
    have hor : (S.extract 2 S.size).size = 0 ∨ numP 16 0 (nums (S.extract 2 S.size)) = none := by
      unfold numS at h
      rw [if_pos ⟨by rw [nums_len]; exact hx2.1, hx2.2.1⟩, if_pos hx2.2.2] at h
      split at h
      · left; rw [nums_len] at *; omega
      · right; rw [hnx]; exact h
    have hp := Kpt.mk (pu_bad 16 (S.extract 2 S.size) w hG (by omega) (bad16 _ w (by omega) hor))
    rw [hv, hx] at hcp
    obtain ⟨T, hT⟩ : ∃ T, T = S.extract 2 S.size := ⟨_, rfl⟩
    rw [← hT] at hcp hp
    clear hT h hx hv hsz hnx hS hor hx2 hG
    go_enter Tryz.func71, Tryz.ntmps71
    go_wp2_with (first
      | (go_at_call 80; go_must (refine hp.out.mono ?_; rintro e w1 ⟨⟨v, N, rfl⟩, hb1⟩; replace hb1 := Kpt.mk hb1))
      | (go_at_call 79; go_must (refine hcp.out.mono ?_; rintro e w1 ⟨rfl, rfl⟩)))
    go_ret2
    exact ⟨rfl, hb1.out⟩
  · have hx' : hexB (nums S) = false := by simpa using hx
    have hxx := of_decide_eq_false hx'
    rw [nums_len] at hxx
    have hv : cutX S = S := by unfold cutX; rw [if_neg hx]
    rw [hv, hx'] at hcp
    by_cases hs : 1 < S.size
    · have hsI : (1 : Int) < S.size := by omega
      have hn0 := nums_at S 0 (by omega)
      by_cases h48 : S[0].toNat = 48
      · have h48' : ((S[0].toNat : Nat) : Int) = 48 := by omega
        clear hxx hn0 h hx hx' hv hG
        go_enter Tryz.func71, Tryz.ntmps71
        go_wp2_with (go_at_call 79; go_must (refine hcp.out.mono ?_; rintro e w1 ⟨rfl, rfl⟩))
        go_ret2
        exact ⟨rfl, Below.refl _ _⟩
      · have hne : ¬ ((S[0].toNat : Int) = 48) := fun e => h48 (by omega)
        have hor : S.size = 0 ∨ numP 10 0 (nums S) = none := by
          unfold numS at h
          rw [if_neg (fun hc => hne (by rw [← hn0]; exact hc.2)), nums_len, if_neg (by omega)] at h
          exact .inr h
        have hp := Kpt.mk (pu_bad 10 S w hG (by omega) (bad10 _ w (by omega) hor))
        clear hxx hn0 h hx hx' hv hG hor
        go_enter Tryz.func71, Tryz.ntmps71
        go_wp2_with (first
      | (go_at_call 80; go_must (refine hp.out.mono ?_; rintro e w1 ⟨⟨v, N, rfl⟩, hb1⟩; replace hb1 := Kpt.mk hb1))
      | (go_at_call 79; go_must (refine hcp.out.mono ?_; rintro e w1 ⟨rfl, rfl⟩)))
        go_ret2
        exact ⟨rfl, hb1.out⟩
    · have hsI : ¬ (1 : Int) < S.size := by omega
      have hor : S.size = 0 ∨ numP 10 0 (nums S) = none := by
        unfold numS at h
        rw [nums_len, if_neg (fun hc => hs hc.1)] at h
        split at h
        · exact .inl (by assumption)
        · exact .inr h
      have hp := Kpt.mk (pu_bad 10 S w hG (by omega) (bad10 _ w (by omega) hor))
      clear hxx h hx hx' hv hG hor
      go_enter Tryz.func71, Tryz.ntmps71
      go_wp2_with (first
      | (go_at_call 80; go_must (refine hp.out.mono ?_; rintro e w1 ⟨⟨v, N, rfl⟩, hb1⟩; replace hb1 := Kpt.mk hb1))
      | (go_at_call 79; go_must (refine hcp.out.mono ?_; rintro e w1 ⟨rfl, rfl⟩)))
      go_ret2
      exact ⟨rfl, hb1.out⟩
theorem number_any (S : ByteArray) (w : World) (hS : S.size ≤ 281474976710656) (hG : Gl w) :
    Calls Tryz.prog 71 #[.string S] w fun e w' => e = .returned (.tuple #[.int .u64 (numV (numS (nums S))), .bool (numS (nums S)).isSome]) ∧ Below w.heap.size w w' := by
  cases h : numS (nums S) with
  | none => exact number_bad S w hS h hG
  | some v => exact number_ok S v w (by unfold maxLen; omega) h
/-- The lesser number, as a text. -/
def leastS (o : Option Nat) (own low high : Nat) : ByteArray := match o with
  | none => ⟨#[82, 101, 106, 101, 99, 116]⟩
  | some v => if v < low ∨ high < v then ⟨#[82, 101, 106, 101, 99, 116]⟩ else decS (min v own)

set_option maxHeartbeats 1000000 in
theorem least_any (S : ByteArray) (own low high : Nat) (w : World) (hS : S.size ≤ 281474976710656) (hG : Gl w) (hown : own < 18446744073709551616) (hlow : low < 18446744073709551616) (hhigh : high < 18446744073709551616) :
    Calls Tryz.prog 63 #[.string S, .int .u64 (own : Nat), .int .u64 (low : Nat), .int .u64 (high : Nat)] w fun e w' => e = .returned (.string (leastS (numS (nums S)) own low high)) ∧ Below w.heap.size w w' := by
  have hn := Kpt.mk (number_any S w hS hG)
  cases h : numS (nums S) with
  | none =>
    rw [h] at hn
    clear h hG
    replace hn : Kpt (Calls Tryz.prog 71 #[.string S] w fun e w' => e = .returned (.tuple #[.int .u64 0, .bool false]) ∧ Below w.heap.size w w') := hn
    go_enter Tryz.func63, Tryz.ntmps63
    go_wp2_with (go_at_call 71; go_must (refine hn.out.mono ?_; rintro e w1 ⟨rfl, hb1⟩; replace hb1 := Kpt.mk hb1))
    go_ret
    exact ⟨rfl, hb1.out⟩
  | some v =>
    have hv := numS_lt _ _ h
    rw [h] at hn
    replace hn : Kpt (Calls Tryz.prog 71 #[.string S] w fun e w' => e = .returned (.tuple #[.int .u64 (v : Nat), .bool true]) ∧ Below w.heap.size w w') := hn
    by_cases c : v < low ∨ high < v
    · have hr : Kpt (leastS (some v) own low high = ⟨#[82, 101, 106, 101, 99, 116]⟩) := ⟨by unfold leastS; simp only; rw [if_pos c]⟩
      by_cases c1 : v < low
      · have c2 : (v : Int) < low := by omega
        clear h hG c
        go_enter Tryz.func63, Tryz.ntmps63
        go_wp2_with (go_at_call 71; go_must (refine hn.out.mono ?_; rintro e w1 ⟨rfl, hb1⟩; replace hb1 := Kpt.mk hb1))
        go_ret
        exact ⟨by rw [hr.out]; rfl, hb1.out⟩
      · have c2 : ¬ (v : Int) < low := by omega
        have c3 : (high : Int) < v := by omega
        clear h hG c
        go_enter Tryz.func63, Tryz.ntmps63
        go_wp2_with (go_at_call 71; go_must (refine hn.out.mono ?_; rintro e w1 ⟨rfl, hb1⟩; replace hb1 := Kpt.mk hb1))
        go_ret
        exact ⟨by rw [hr.out]; rfl, hb1.out⟩
    · have hr : Kpt (leastS (some v) own low high = decS (min v own)) := ⟨by unfold leastS; simp only; rw [if_neg c]⟩
      have c2 : ¬ (v : Int) < low := by omega
      have c3 : ¬ (high : Int) < v := by omega
      have hf : Kpt (∀ W, Gl W → Calls Tryz.prog 73 #[.int .u64 ((min v own : Nat) : Int), .int .i64 10] W fun e w' => e = .returned (.string (decS (min v own))) ∧ Below W.heap.size W w') := ⟨fun W hW => fmt_any _ W (by omega) hW⟩
      have hm : (((min v own : Nat) : Nat) : Int) = min (v : Int) (own : Int) := by omega
      rw [hm] at hf
      replace hG := Kpt.mk hG
      clear h c hm
      go_enter Tryz.func63, Tryz.ntmps63
      go_wp2_with (first
        | (go_at_call 73; go_must (refine (hf.out _ (hG.out.below hb1.out)).mono ?_; rintro e w2 ⟨rfl, hb2⟩; replace hb2 : Kpt (Below w.heap.size w w2) := ⟨hb1.out.trans (hb2.mono hb1.out.size)⟩))
        | (go_at_call 71; go_must (refine hn.out.mono ?_; rintro e w1 ⟨rfl, hb1⟩; replace hb1 := Kpt.mk hb1)))
      go_ret
      exact ⟨by rw [hr.out]; rfl, hb2.out⟩
end Go.Proofs.YtplifodddfjhdaaGreatDoor
