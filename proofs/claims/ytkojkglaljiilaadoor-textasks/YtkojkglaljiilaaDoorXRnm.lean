/-
  text: the document's Number and Least of any text.
-/
import Derived.Test.YtkojkglaljiilaaDoorXRnA
import Derived.Test.YtkojkglaljiilaaDoorXRnB
import Derived.Test.YtkojkglaljiilaaDoorXAg0
namespace Go.Proofs.YtkojkglaljiilaaDoor
open Go.RowKit
set_option linter.unusedVariables false
set_option linter.unusedSimpArgs false

set_option maxRecDepth 100000 in
set_option maxHeartbeats 1000000 in
theorem rnumber_any (S : ByteArray) (w : World) (hS : S.size ≤ maxLen) :
    Calls Tryd.prog 9 #[.string S] w fun e w' => e = .returned (.tuple #[.int .u64 (numV (numS (nums S))), .bool (numS (nums S)).isSome]) ∧ w' = w := by
  by_cases h0 : S.size = 0
  · have hno : Kpt (numS (nums S) = none) := ⟨by unfold numS; rw [nums_len, if_neg (by omega), if_pos h0]⟩
    have h0I : (S.size : Int) = 0 := by omega
    have h1I : ¬ (1 : Int) < S.size := by omega
    unfold maxLen at hS
    go_enter Tryd.func9, Tryd.ntmps9
    go_wp2
    go_ret2
    exact ⟨by rw [hno.out]; rfl, rfl⟩
  · by_cases h1 : S.size = 1
    · exact rnum10_one S S w hS rfl h1 (by omega) (Nat.le_refl _) (by unfold numS; rw [nums_len, if_neg (by omega), if_neg h0])
    · have hs : 1 < S.size := by omega
      have n0 := nums_at S 0 (by omega)
      have n1 := nums_at S 1 (by omega)
      by_cases h48 : S[0].toNat = 48
      · by_cases h120 : S[1].toNat = 120
        · have hsz : (S.extract 2 S.size).size = S.size - 2 := by simp
          have hnx : nums (S.extract 2 S.size) = (nums S).drop 2 := by rw [nums_ext, List.take_of_length_le (by rw [nums_len]; exact Nat.le_refl _)]
          by_cases h2 : S.size = 2
          · have hno : Kpt (numS (nums S) = none) := ⟨by unfold numS; rw [nums_len, if_pos ⟨hs, by rw [n0]; omega⟩, if_pos (by rw [n1]; omega), if_pos h2]⟩
            have h1I : (1 : Int) < S.size := by omega
            have h2I : (2 : Int) ≤ S.size := by omega
            have h48I : ((S[0].toNat : Nat) : Int) = 48 := by omega
            have h120I : ((S[1].toNat : Nat) : Int) = 120 := by omega
            have hzI : (((S.extract 2 S.size).size : Nat) : Int) = 0 := by omega
            have hz2 : S.size - 2 = 0 := by omega
            unfold maxLen at hS
            clear hnx n0 n1
            go_enter Tryd.func9, Tryd.ntmps9
            go_wp2
            go_ret2
            exact ⟨by rw [hno.out]; rfl, rfl⟩
          · exact rnum16 S (S.extract 2 S.size) w hS rfl hs h48 h120 (by omega) (by omega) (by unfold numS; rw [nums_len, if_pos ⟨hs, by rw [n0]; omega⟩, if_pos (by rw [n1]; omega), if_neg h2, hnx])
        · have hno : Kpt (numS (nums S) = none) := ⟨by unfold numS; rw [nums_len, if_pos ⟨hs, by rw [n0]; omega⟩, if_neg (by rw [n1]; omega)]⟩
          have h1I : (1 : Int) < S.size := by omega
          have h48I : ((S[0].toNat : Nat) : Int) = 48 := by omega
          have h120I : ¬ ((S[1].toNat : Nat) : Int) = 120 := by omega
          unfold maxLen at hS
          clear n0 n1
          go_enter Tryd.func9, Tryd.ntmps9
          go_wp2
          go_ret2
          exact ⟨by rw [hno.out]; rfl, rfl⟩
      · exact rnum10_many S S w hS rfl hs h48 (by omega) (Nat.le_refl _) (by unfold numS; rw [nums_len, if_neg (fun hc => h48 (by have := hc.2; rw [n0] at this; omega)), if_neg h0])

set_option maxHeartbeats 1000000 in
theorem rleast_any (S : ByteArray) (own low high : Nat) (w : World) (hS : S.size ≤ maxLen) (hown : own < 18446744073709551616) (hlow : low < 18446744073709551616) (hhigh : high < 18446744073709551616) :
    Calls Tryd.prog 11 #[.string S, .int .u64 (own : Nat), .int .u64 (low : Nat), .int .u64 (high : Nat)] w fun e w' => e = .returned (.string (leastS (numS (nums S)) own low high)) ∧ Below w.heap.size w w' := by
  have hn := Kpt.mk (rnumber_any S w hS)
  cases h : numS (nums S) with
  | none =>
    rw [h] at hn
    clear h
    replace hn : Kpt (Calls Tryd.prog 9 #[.string S] w fun e w' => e = .returned (.tuple #[.int .u64 0, .bool false]) ∧ w' = w) := hn
    go_enter Tryd.func11, Tryd.ntmps11
    go_wp2_with (go_at_call 9; go_must (refine hn.out.mono ?_; rintro e w1 ⟨rfl, rfl⟩))
    go_ret
    exact ⟨rfl, Below.refl _ _⟩
  | some v =>
    have hv := numS_lt _ _ h
    rw [h] at hn
    replace hn : Kpt (Calls Tryd.prog 9 #[.string S] w fun e w' => e = .returned (.tuple #[.int .u64 (v : Nat), .bool true]) ∧ w' = w) := hn
    by_cases c : v < low ∨ high < v
    · have hr : Kpt (leastS (some v) own low high = ⟨#[82, 101, 106, 101, 99, 116]⟩) := ⟨by unfold leastS; simp only; rw [if_pos c]⟩
      by_cases c1 : v < low
      · have c2 : (v : Int) < low := by omega
        clear h c
        go_enter Tryd.func11, Tryd.ntmps11
        go_wp2_with (go_at_call 9; go_must (refine hn.out.mono ?_; rintro e w1 ⟨rfl, rfl⟩))
        go_ret
        exact ⟨by rw [hr.out]; rfl, Below.refl _ _⟩
      · have c2 : ¬ (v : Int) < low := by omega
        have c3 : (high : Int) < v := by omega
        clear h c
        go_enter Tryd.func11, Tryd.ntmps11
        go_wp2_with (go_at_call 9; go_must (refine hn.out.mono ?_; rintro e w1 ⟨rfl, rfl⟩))
        go_ret
        exact ⟨by rw [hr.out]; rfl, Below.refl _ _⟩
    · have hr : Kpt (leastS (some v) own low high = decS (min v own)) := ⟨by unfold leastS; simp only; rw [if_neg c]⟩
      have c2 : ¬ (v : Int) < low := by omega
      have c3 : ¬ (high : Int) < v := by omega
      clear h c
      by_cases ho : own < v
      · have hoI : (own : Int) < v := by omega
        rw [Nat.min_eq_right (by omega)] at hr
        have hd := Kpt.mk (dec_any own w hown)
        go_enter Tryd.func11, Tryd.ntmps11
        go_wp2_with (first
          | (go_at_call 18; go_must (refine hd.out.mono ?_; rintro e w2 ⟨rfl, hb2⟩; replace hb2 := Kpt.mk hb2))
          | (go_at_call 9; go_must (refine hn.out.mono ?_; rintro e w1 ⟨rfl, rfl⟩)))
        go_ret
        exact ⟨by rw [hr.out]; rfl, hb2.out⟩
      · have hoI : ¬ (own : Int) < v := by omega
        rw [Nat.min_eq_left (by omega)] at hr
        have hd := Kpt.mk (dec_any v w hv)
        go_enter Tryd.func11, Tryd.ntmps11
        go_wp2_with (first
          | (go_at_call 18; go_must (refine hd.out.mono ?_; rintro e w2 ⟨rfl, hb2⟩; replace hb2 := Kpt.mk hb2))
          | (go_at_call 9; go_must (refine hn.out.mono ?_; rintro e w1 ⟨rfl, rfl⟩)))
        go_ret
        exact ⟨by rw [hr.out]; rfl, hb2.out⟩
end Go.Proofs.YtkojkglaljiilaaDoor
