/-
  text: the document's Number, to the base 10. text: the document's Number, to the base 16. text: the document's Number.
-/
import Derived.Test.YtplifodddfjhdaaGreatDoorXNmBs
namespace Go.Proofs.YtplifodddfjhdaaGreatDoor
open Go.RowKit
set_option linter.unusedVariables false
set_option linter.unusedSimpArgs false

set_option maxRecDepth 100000 in
set_option maxHeartbeats 8000000 in
theorem rnum10_one (S T : ByteArray) (w : World) (hS : S.size ≤ maxLen) (hT : T = S) (h1 : S.size = 1) (hpos : 0 < T.size) (hTs : T.size ≤ S.size) (hres0 : numS (nums S) = numP 10 0 (nums T)) :
    Calls Tryz.prog 22 #[.string S] w fun e w' => e = .returned (.tuple #[.int .u64 (numV (numS (nums S))), .bool (numS (nums S)).isSome]) ∧ w' = w := by
  unfold maxLen at hS
  have hnl := Kpt.mk (nums_len T)
  have hres := Kpt.mk hres0
  clear hres0
  subst hT
  have h1I : ¬ (1 : Int) < T.size := by omega
  have hpI : ¬ (T.size : Int) = 0 := by omega
  go_enter Tryz.func22, Tryz.ntmps22
  go_wp2
  go_loop [5, 6] (fun tn t => ∃ k n : Nat, k ≤ T.size ∧ n < 18446744073709551616 ∧ tn = .int .u64 n ∧ t = .int .i64 k ∧ Kpt (numP 10 0 (nums T) = numP 10 n ((nums T).drop k))) (fun _ t => T.size - (intOf t).toNat)
  case atStart => exact ⟨0, 0, by omega, by omega, rfl, rfl, ⟨by simp⟩⟩
  case round =>
    obtain ⟨k, n, hk, hn, rfl, rfl, hq⟩ := hrel
    by_cases hlt : k < T.size
    · have hltI : (k : Int) < T.size := by omega
      have hst := Kpt.mk (numP_step (b := 10) (n := n) (zs := nums T) (k := k) (by rw [hnl.out]; exact hlt))
      have hx0 := nums_at T k hlt
      have hbx := T[k].toNat_lt
      obtain ⟨x, hx⟩ : ∃ x : Int, x = (T[k].toNat : Int) := ⟨_, rfl⟩
      rw [hx0, ← hx] at hst
      clear hx0
      have hcases : x < 48 ∨ (48 ≤ x ∧ x ≤ 57) ∨ (58 ≤ x ∧ x ≤ 64) ∨ (65 ≤ x ∧ x ≤ 70) ∨ (71 ≤ x ∧ x ≤ 96) ∨ (97 ≤ x ∧ x ≤ 102) ∨ 103 ≤ x := by omega
      rcases hcases with hr | hr | hr | hr | hr | hr | hr
      · have k0 : ¬ 48 ≤ (T[k].toNat : Int) := by omega
        have k1 : ¬ 97 ≤ (T[k].toNat : Int) := by omega
        have k2 : ¬ 65 ≤ (T[k].toNat : Int) := by omega
        have hdig : Kpt (digC x = ((99 : Int)).toNat) := ⟨by unfold digC; rw [if_neg (by omega), if_neg (by omega), if_neg (by omega)]; rfl⟩
        have hno : Kpt (numP 10 0 (nums T) = none) := ⟨by rw [hq.out, hst.out, hdig.out, if_pos (.inl (by omega))]⟩
        have hD : (10 : Int) ≤ (99 : Int) := by omega
        have hD2 := decide_eq_true hD
        clear hdig hst hq hx
        go_wp2
        go_ret2
        exact ⟨by rw [hres.out, hno.out]; rfl, rfl⟩
      · have k0 : 48 ≤ (T[k].toNat : Int) := by omega
        have k1 : (T[k].toNat : Int) ≤ 57 := by omega
        have hdig : Kpt (digC x = (((T[k].toNat : Int) - 48)).toNat) := ⟨by unfold digC; rw [if_pos (by omega)]; omega⟩
        have hE : ¬ (10 : Int) ≤ ((T[k].toNat : Int) - 48) := by omega
        have hE2 := decide_eq_false hE
        have hP : 0 ≤ ((T[k].toNat : Int) - 48) ∧ ((T[k].toNat : Int) - 48) ≤ 15 := by omega
        have hw0 : IntKind.u64.wrap (18446744073709551615 - ((T[k].toNat : Int) - 48)) = 18446744073709551615 - ((T[k].toNat : Int) - 48) := IntWalk.u64_in _ (by omega)
        have hw1 : IntKind.u64.wrap ((18446744073709551615 - ((T[k].toNat : Int) - 48)).tdiv 10) = (18446744073709551615 - ((T[k].toNat : Int) - 48)) / 10 := IntWalk.u64_quo _ _ (by omega)
        by_cases hov : n * 10 + (((T[k].toNat : Int) - 48)).toNat < 18446744073709551616
        · have hq2 : Kpt (numP 10 0 (nums T) = numP 10 (n * 10 + (((T[k].toNat : Int) - 48)).toNat) ((nums T).drop (k + 1))) := ⟨by rw [hq.out, hst.out, hdig.out, if_neg (by omega)]⟩
          have e1 : ¬ ((18446744073709551615 - ((T[k].toNat : Int) - 48)) / 10 < (n : Int)) := by omega
          have e2 := decide_eq_false e1
          have o1 : (n : Int) * 10 ≤ 18446744073709551615 := by omega
          have o2 : (n : Int) * 10 + ((T[k].toNat : Int) - 48) ≤ 18446744073709551615 := by omega
          have hov := Kpt.mk hov
          clear hdig hst hq hx
          go_wp2
          go_round
          case rel => exact ⟨k + 1, n * 10 + (((T[k].toNat : Int) - 48)).toNat, by omega, hov.out, by go_num, by go_num, hq2⟩
          case measure => simp [intOf]; omega
        · have hno : Kpt (numP 10 0 (nums T) = none) := ⟨by rw [hq.out, hst.out, hdig.out, if_pos (by omega)]⟩
          have e1 : (18446744073709551615 - ((T[k].toNat : Int) - 48)) / 10 < (n : Int) := by omega
          have e2 := decide_eq_true e1
          have hov := Kpt.mk hov
          clear hdig hst hq hx
          go_wp2
          go_ret2
          exact ⟨by rw [hres.out, hno.out]; rfl, rfl⟩
      · have k0 : 48 ≤ (T[k].toNat : Int) := by omega
        have k1 : ¬ (T[k].toNat : Int) ≤ 57 := by omega
        have k2 : ¬ 97 ≤ (T[k].toNat : Int) := by omega
        have k3 : ¬ 65 ≤ (T[k].toNat : Int) := by omega
        have hdig : Kpt (digC x = ((99 : Int)).toNat) := ⟨by unfold digC; rw [if_neg (by omega), if_neg (by omega), if_neg (by omega)]; rfl⟩
        have hno : Kpt (numP 10 0 (nums T) = none) := ⟨by rw [hq.out, hst.out, hdig.out, if_pos (.inl (by omega))]⟩
        have hD : (10 : Int) ≤ (99 : Int) := by omega
        have hD2 := decide_eq_true hD
        clear hdig hst hq hx
        go_wp2
        go_ret2
        exact ⟨by rw [hres.out, hno.out]; rfl, rfl⟩
      · have k0 : 48 ≤ (T[k].toNat : Int) := by omega
        have k1 : ¬ (T[k].toNat : Int) ≤ 57 := by omega
        have k2 : ¬ 97 ≤ (T[k].toNat : Int) := by omega
        have k3 : 65 ≤ (T[k].toNat : Int) := by omega
        have k4 : (T[k].toNat : Int) ≤ 70 := by omega
        have hdig : Kpt (digC x = (((T[k].toNat : Int) - 65 + 10)).toNat) := ⟨by unfold digC; rw [if_neg (by omega), if_neg (by omega), if_pos (by omega)]; omega⟩
        have hno : Kpt (numP 10 0 (nums T) = none) := ⟨by rw [hq.out, hst.out, hdig.out, if_pos (.inl (by omega))]⟩
        have hD : (10 : Int) ≤ ((T[k].toNat : Int) - 65 + 10) := by omega
        have hD2 := decide_eq_true hD
        clear hdig hst hq hx
        go_wp2
        go_ret2
        exact ⟨by rw [hres.out, hno.out]; rfl, rfl⟩
      · have k0 : 48 ≤ (T[k].toNat : Int) := by omega
        have k1 : ¬ (T[k].toNat : Int) ≤ 57 := by omega
        have k2 : ¬ 97 ≤ (T[k].toNat : Int) := by omega
        have k3 : 65 ≤ (T[k].toNat : Int) := by omega
        have k4 : ¬ (T[k].toNat : Int) ≤ 70 := by omega
        have hdig : Kpt (digC x = ((99 : Int)).toNat) := ⟨by unfold digC; rw [if_neg (by omega), if_neg (by omega), if_neg (by omega)]; rfl⟩
        have hno : Kpt (numP 10 0 (nums T) = none) := ⟨by rw [hq.out, hst.out, hdig.out, if_pos (.inl (by omega))]⟩
        have hD : (10 : Int) ≤ (99 : Int) := by omega
        have hD2 := decide_eq_true hD
        clear hdig hst hq hx
        go_wp2
        go_ret2
        exact ⟨by rw [hres.out, hno.out]; rfl, rfl⟩
      · have k0 : 48 ≤ (T[k].toNat : Int) := by omega
        have k1 : ¬ (T[k].toNat : Int) ≤ 57 := by omega
        have k2 : 97 ≤ (T[k].toNat : Int) := by omega
        have k3 : (T[k].toNat : Int) ≤ 102 := by omega
        have hdig : Kpt (digC x = (((T[k].toNat : Int) - 97 + 10)).toNat) := ⟨by unfold digC; rw [if_neg (by omega), if_pos (by omega)]; omega⟩
        have hno : Kpt (numP 10 0 (nums T) = none) := ⟨by rw [hq.out, hst.out, hdig.out, if_pos (.inl (by omega))]⟩
        have hD : (10 : Int) ≤ ((T[k].toNat : Int) - 97 + 10) := by omega
        have hD2 := decide_eq_true hD
        clear hdig hst hq hx
        go_wp2
        go_ret2
        exact ⟨by rw [hres.out, hno.out]; rfl, rfl⟩
      · have k0 : 48 ≤ (T[k].toNat : Int) := by omega
        have k1 : ¬ (T[k].toNat : Int) ≤ 57 := by omega
        have k2 : 97 ≤ (T[k].toNat : Int) := by omega
        have k3 : ¬ (T[k].toNat : Int) ≤ 102 := by omega
        have k4 : 65 ≤ (T[k].toNat : Int) := by omega
        have k5 : ¬ (T[k].toNat : Int) ≤ 70 := by omega
        have hdig : Kpt (digC x = ((99 : Int)).toNat) := ⟨by unfold digC; rw [if_neg (by omega), if_neg (by omega), if_neg (by omega)]; rfl⟩
        have hno : Kpt (numP 10 0 (nums T) = none) := ⟨by rw [hq.out, hst.out, hdig.out, if_pos (.inl (by omega))]⟩
        have hD : (10 : Int) ≤ (99 : Int) := by omega
        have hD2 := decide_eq_true hD
        clear hdig hst hq hx
        go_wp2
        go_ret2
        exact ⟨by rw [hres.out, hno.out]; rfl, rfl⟩
    · have hltI : ¬ (k : Int) < T.size := by omega
      obtain rfl : k = T.size := by omega
      have hok : Kpt (numP 10 0 (nums T) = some n) := ⟨by rw [hq.out, List.drop_of_length_le (by rw [hnl.out]; exact Nat.le_refl _)]; rfl⟩
      go_wp2
      go_ret2
      exact ⟨by rw [hres.out, hok.out]; rfl, rfl⟩

set_option maxRecDepth 100000 in
set_option maxHeartbeats 8000000 in
theorem rnum10_many (S T : ByteArray) (w : World) (hS : S.size ≤ maxLen) (hT : T = S) (h1 : 1 < S.size) (h48 : ¬ S[0].toNat = 48) (hpos : 0 < T.size) (hTs : T.size ≤ S.size) (hres0 : numS (nums S) = numP 10 0 (nums T)) :
    Calls Tryz.prog 22 #[.string S] w fun e w' => e = .returned (.tuple #[.int .u64 (numV (numS (nums S))), .bool (numS (nums S)).isSome]) ∧ w' = w := by
  unfold maxLen at hS
  have hnl := Kpt.mk (nums_len T)
  have hres := Kpt.mk hres0
  clear hres0
  subst hT
  have h1I : (1 : Int) < T.size := by omega
  have hpI : ¬ (T.size : Int) = 0 := by omega
  have h48I : ¬ ((T[0].toNat : Nat) : Int) = 48 := by omega
  go_enter Tryz.func22, Tryz.ntmps22
  go_wp2
  go_loop [5, 6] (fun tn t => ∃ k n : Nat, k ≤ T.size ∧ n < 18446744073709551616 ∧ tn = .int .u64 n ∧ t = .int .i64 k ∧ Kpt (numP 10 0 (nums T) = numP 10 n ((nums T).drop k))) (fun _ t => T.size - (intOf t).toNat)
  case atStart => exact ⟨0, 0, by omega, by omega, rfl, rfl, ⟨by simp⟩⟩
  case round =>
    obtain ⟨k, n, hk, hn, rfl, rfl, hq⟩ := hrel
    by_cases hlt : k < T.size
    · have hltI : (k : Int) < T.size := by omega
      have hst := Kpt.mk (numP_step (b := 10) (n := n) (zs := nums T) (k := k) (by rw [hnl.out]; exact hlt))
      have hx0 := nums_at T k hlt
      have hbx := T[k].toNat_lt
      obtain ⟨x, hx⟩ : ∃ x : Int, x = (T[k].toNat : Int) := ⟨_, rfl⟩
      rw [hx0, ← hx] at hst
      clear hx0
      have hcases : x < 48 ∨ (48 ≤ x ∧ x ≤ 57) ∨ (58 ≤ x ∧ x ≤ 64) ∨ (65 ≤ x ∧ x ≤ 70) ∨ (71 ≤ x ∧ x ≤ 96) ∨ (97 ≤ x ∧ x ≤ 102) ∨ 103 ≤ x := by omega
      rcases hcases with hr | hr | hr | hr | hr | hr | hr
      · have k0 : ¬ 48 ≤ (T[k].toNat : Int) := by omega
        have k1 : ¬ 97 ≤ (T[k].toNat : Int) := by omega
        have k2 : ¬ 65 ≤ (T[k].toNat : Int) := by omega
        have hdig : Kpt (digC x = ((99 : Int)).toNat) := ⟨by unfold digC; rw [if_neg (by omega), if_neg (by omega), if_neg (by omega)]; rfl⟩
        have hno : Kpt (numP 10 0 (nums T) = none) := ⟨by rw [hq.out, hst.out, hdig.out, if_pos (.inl (by omega))]⟩
        have hD : (10 : Int) ≤ (99 : Int) := by omega
        have hD2 := decide_eq_true hD
        clear hdig hst hq hx
        go_wp2
        go_ret2
        exact ⟨by rw [hres.out, hno.out]; rfl, rfl⟩
      · have k0 : 48 ≤ (T[k].toNat : Int) := by omega
        have k1 : (T[k].toNat : Int) ≤ 57 := by omega
        have hdig : Kpt (digC x = (((T[k].toNat : Int) - 48)).toNat) := ⟨by unfold digC; rw [if_pos (by omega)]; omega⟩
        have hE : ¬ (10 : Int) ≤ ((T[k].toNat : Int) - 48) := by omega
        have hE2 := decide_eq_false hE
        have hP : 0 ≤ ((T[k].toNat : Int) - 48) ∧ ((T[k].toNat : Int) - 48) ≤ 15 := by omega
        have hw0 : IntKind.u64.wrap (18446744073709551615 - ((T[k].toNat : Int) - 48)) = 18446744073709551615 - ((T[k].toNat : Int) - 48) := IntWalk.u64_in _ (by omega)
        have hw1 : IntKind.u64.wrap ((18446744073709551615 - ((T[k].toNat : Int) - 48)).tdiv 10) = (18446744073709551615 - ((T[k].toNat : Int) - 48)) / 10 := IntWalk.u64_quo _ _ (by omega)
        by_cases hov : n * 10 + (((T[k].toNat : Int) - 48)).toNat < 18446744073709551616
        · have hq2 : Kpt (numP 10 0 (nums T) = numP 10 (n * 10 + (((T[k].toNat : Int) - 48)).toNat) ((nums T).drop (k + 1))) := ⟨by rw [hq.out, hst.out, hdig.out, if_neg (by omega)]⟩
          have e1 : ¬ ((18446744073709551615 - ((T[k].toNat : Int) - 48)) / 10 < (n : Int)) := by omega
          have e2 := decide_eq_false e1
          have o1 : (n : Int) * 10 ≤ 18446744073709551615 := by omega
          have o2 : (n : Int) * 10 + ((T[k].toNat : Int) - 48) ≤ 18446744073709551615 := by omega
          have hov := Kpt.mk hov
          clear hdig hst hq hx
          go_wp2
          go_round
          case rel => exact ⟨k + 1, n * 10 + (((T[k].toNat : Int) - 48)).toNat, by omega, hov.out, by go_num, by go_num, hq2⟩
          case measure => simp [intOf]; omega
        · have hno : Kpt (numP 10 0 (nums T) = none) := ⟨by rw [hq.out, hst.out, hdig.out, if_pos (by omega)]⟩
          have e1 : (18446744073709551615 - ((T[k].toNat : Int) - 48)) / 10 < (n : Int) := by omega
          have e2 := decide_eq_true e1
          have hov := Kpt.mk hov
          clear hdig hst hq hx
          go_wp2
          go_ret2
          exact ⟨by rw [hres.out, hno.out]; rfl, rfl⟩
      · have k0 : 48 ≤ (T[k].toNat : Int) := by omega
        have k1 : ¬ (T[k].toNat : Int) ≤ 57 := by omega
        have k2 : ¬ 97 ≤ (T[k].toNat : Int) := by omega
        have k3 : ¬ 65 ≤ (T[k].toNat : Int) := by omega
        have hdig : Kpt (digC x = ((99 : Int)).toNat) := ⟨by unfold digC; rw [if_neg (by omega), if_neg (by omega), if_neg (by omega)]; rfl⟩
        have hno : Kpt (numP 10 0 (nums T) = none) := ⟨by rw [hq.out, hst.out, hdig.out, if_pos (.inl (by omega))]⟩
        have hD : (10 : Int) ≤ (99 : Int) := by omega
        have hD2 := decide_eq_true hD
        clear hdig hst hq hx
        go_wp2
        go_ret2
        exact ⟨by rw [hres.out, hno.out]; rfl, rfl⟩
      · have k0 : 48 ≤ (T[k].toNat : Int) := by omega
        have k1 : ¬ (T[k].toNat : Int) ≤ 57 := by omega
        have k2 : ¬ 97 ≤ (T[k].toNat : Int) := by omega
        have k3 : 65 ≤ (T[k].toNat : Int) := by omega
        have k4 : (T[k].toNat : Int) ≤ 70 := by omega
        have hdig : Kpt (digC x = (((T[k].toNat : Int) - 65 + 10)).toNat) := ⟨by unfold digC; rw [if_neg (by omega), if_neg (by omega), if_pos (by omega)]; omega⟩
        have hno : Kpt (numP 10 0 (nums T) = none) := ⟨by rw [hq.out, hst.out, hdig.out, if_pos (.inl (by omega))]⟩
        have hD : (10 : Int) ≤ ((T[k].toNat : Int) - 65 + 10) := by omega
        have hD2 := decide_eq_true hD
        clear hdig hst hq hx
        go_wp2
        go_ret2
        exact ⟨by rw [hres.out, hno.out]; rfl, rfl⟩
      · have k0 : 48 ≤ (T[k].toNat : Int) := by omega
        have k1 : ¬ (T[k].toNat : Int) ≤ 57 := by omega
        have k2 : ¬ 97 ≤ (T[k].toNat : Int) := by omega
        have k3 : 65 ≤ (T[k].toNat : Int) := by omega
        have k4 : ¬ (T[k].toNat : Int) ≤ 70 := by omega
        have hdig : Kpt (digC x = ((99 : Int)).toNat) := ⟨by unfold digC; rw [if_neg (by omega), if_neg (by omega), if_neg (by omega)]; rfl⟩
        have hno : Kpt (numP 10 0 (nums T) = none) := ⟨by rw [hq.out, hst.out, hdig.out, if_pos (.inl (by omega))]⟩
        have hD : (10 : Int) ≤ (99 : Int) := by omega
        have hD2 := decide_eq_true hD
        clear hdig hst hq hx
        go_wp2
        go_ret2
        exact ⟨by rw [hres.out, hno.out]; rfl, rfl⟩
      · have k0 : 48 ≤ (T[k].toNat : Int) := by omega
        have k1 : ¬ (T[k].toNat : Int) ≤ 57 := by omega
        have k2 : 97 ≤ (T[k].toNat : Int) := by omega
        have k3 : (T[k].toNat : Int) ≤ 102 := by omega
        have hdig : Kpt (digC x = (((T[k].toNat : Int) - 97 + 10)).toNat) := ⟨by unfold digC; rw [if_neg (by omega), if_pos (by omega)]; omega⟩
        have hno : Kpt (numP 10 0 (nums T) = none) := ⟨by rw [hq.out, hst.out, hdig.out, if_pos (.inl (by omega))]⟩
        have hD : (10 : Int) ≤ ((T[k].toNat : Int) - 97 + 10) := by omega
        have hD2 := decide_eq_true hD
        clear hdig hst hq hx
        go_wp2
        go_ret2
        exact ⟨by rw [hres.out, hno.out]; rfl, rfl⟩
      · have k0 : 48 ≤ (T[k].toNat : Int) := by omega
        have k1 : ¬ (T[k].toNat : Int) ≤ 57 := by omega
        have k2 : 97 ≤ (T[k].toNat : Int) := by omega
        have k3 : ¬ (T[k].toNat : Int) ≤ 102 := by omega
        have k4 : 65 ≤ (T[k].toNat : Int) := by omega
        have k5 : ¬ (T[k].toNat : Int) ≤ 70 := by omega
        have hdig : Kpt (digC x = ((99 : Int)).toNat) := ⟨by unfold digC; rw [if_neg (by omega), if_neg (by omega), if_neg (by omega)]; rfl⟩
        have hno : Kpt (numP 10 0 (nums T) = none) := ⟨by rw [hq.out, hst.out, hdig.out, if_pos (.inl (by omega))]⟩
        have hD : (10 : Int) ≤ (99 : Int) := by omega
        have hD2 := decide_eq_true hD
        clear hdig hst hq hx
        go_wp2
        go_ret2
        exact ⟨by rw [hres.out, hno.out]; rfl, rfl⟩
    · have hltI : ¬ (k : Int) < T.size := by omega
      obtain rfl : k = T.size := by omega
      have hok : Kpt (numP 10 0 (nums T) = some n) := ⟨by rw [hq.out, List.drop_of_length_le (by rw [hnl.out]; exact Nat.le_refl _)]; rfl⟩
      go_wp2
      go_ret2
      exact ⟨by rw [hres.out, hok.out]; rfl, rfl⟩
end Go.Proofs.YtplifodddfjhdaaGreatDoor

namespace Go.Proofs.YtplifodddfjhdaaGreatDoor
open Go.RowKit
set_option linter.unusedVariables false
set_option linter.unusedSimpArgs false

set_option maxRecDepth 100000 in
set_option maxHeartbeats 8000000 in
theorem rnum16 (S T : ByteArray) (w : World) (hS : S.size ≤ maxLen) (hT : T = S.extract 2 S.size) (h1 : 1 < S.size) (h48 : S[0].toNat = 48) (h120 : S[1].toNat = 120) (hpos : 0 < T.size) (hTs : T.size ≤ S.size) (hres0 : numS (nums S) = numP 16 0 (nums T)) :
    Calls Tryz.prog 22 #[.string S] w fun e w' => e = .returned (.tuple #[.int .u64 (numV (numS (nums S))), .bool (numS (nums S)).isSome]) ∧ w' = w := by
  unfold maxLen at hS
  have hnl := Kpt.mk (nums_len T)
  have hres := Kpt.mk hres0
  clear hres0
  have hsz : T.size = S.size - 2 := by rw [hT]; simp
  have h1I : (1 : Int) < S.size := by omega
  have h2I : (2 : Int) ≤ S.size := by omega
  have hpI : ¬ (T.size : Int) = 0 := by omega
  have h48I : ((S[0].toNat : Nat) : Int) = 48 := by omega
  have h120I : ((S[1].toNat : Nat) : Int) = 120 := by omega
  replace hT := hT.symm
  go_enter Tryz.func22, Tryz.ntmps22
  go_wp2
  go_loop [5, 6] (fun tn t => ∃ k n : Nat, k ≤ T.size ∧ n < 18446744073709551616 ∧ tn = .int .u64 n ∧ t = .int .i64 k ∧ Kpt (numP 16 0 (nums T) = numP 16 n ((nums T).drop k))) (fun _ t => T.size - (intOf t).toNat)
  case atStart => exact ⟨0, 0, by omega, by omega, rfl, rfl, ⟨by simp⟩⟩
  case round =>
    obtain ⟨k, n, hk, hn, rfl, rfl, hq⟩ := hrel
    by_cases hlt : k < T.size
    · have hltI : (k : Int) < T.size := by omega
      have hst := Kpt.mk (numP_step (b := 16) (n := n) (zs := nums T) (k := k) (by rw [hnl.out]; exact hlt))
      have hx0 := nums_at T k hlt
      have hbx := T[k].toNat_lt
      obtain ⟨x, hx⟩ : ∃ x : Int, x = (T[k].toNat : Int) := ⟨_, rfl⟩
      rw [hx0, ← hx] at hst
      clear hx0
      have hcases : x < 48 ∨ (48 ≤ x ∧ x ≤ 57) ∨ (58 ≤ x ∧ x ≤ 64) ∨ (65 ≤ x ∧ x ≤ 70) ∨ (71 ≤ x ∧ x ≤ 96) ∨ (97 ≤ x ∧ x ≤ 102) ∨ 103 ≤ x := by omega
      rcases hcases with hr | hr | hr | hr | hr | hr | hr
      · have k0 : ¬ 48 ≤ (T[k].toNat : Int) := by omega
        have k1 : ¬ 97 ≤ (T[k].toNat : Int) := by omega
        have k2 : ¬ 65 ≤ (T[k].toNat : Int) := by omega
        have hdig : Kpt (digC x = ((99 : Int)).toNat) := ⟨by unfold digC; rw [if_neg (by omega), if_neg (by omega), if_neg (by omega)]; rfl⟩
        have hno : Kpt (numP 16 0 (nums T) = none) := ⟨by rw [hq.out, hst.out, hdig.out, if_pos (.inl (by omega))]⟩
        have hD : (16 : Int) ≤ (99 : Int) := by omega
        have hD2 := decide_eq_true hD
        clear hdig hst hq hx
        go_wp2
        go_ret2
        exact ⟨by rw [hres.out, hno.out]; rfl, rfl⟩
      · have k0 : 48 ≤ (T[k].toNat : Int) := by omega
        have k1 : (T[k].toNat : Int) ≤ 57 := by omega
        have hdig : Kpt (digC x = (((T[k].toNat : Int) - 48)).toNat) := ⟨by unfold digC; rw [if_pos (by omega)]; omega⟩
        have hE : ¬ (16 : Int) ≤ ((T[k].toNat : Int) - 48) := by omega
        have hE2 := decide_eq_false hE
        have hP : 0 ≤ ((T[k].toNat : Int) - 48) ∧ ((T[k].toNat : Int) - 48) ≤ 15 := by omega
        have hw0 : IntKind.u64.wrap (18446744073709551615 - ((T[k].toNat : Int) - 48)) = 18446744073709551615 - ((T[k].toNat : Int) - 48) := IntWalk.u64_in _ (by omega)
        have hw1 : IntKind.u64.wrap ((18446744073709551615 - ((T[k].toNat : Int) - 48)).tdiv 16) = (18446744073709551615 - ((T[k].toNat : Int) - 48)) / 16 := IntWalk.u64_quo _ _ (by omega)
        by_cases hov : n * 16 + (((T[k].toNat : Int) - 48)).toNat < 18446744073709551616
        · have hq2 : Kpt (numP 16 0 (nums T) = numP 16 (n * 16 + (((T[k].toNat : Int) - 48)).toNat) ((nums T).drop (k + 1))) := ⟨by rw [hq.out, hst.out, hdig.out, if_neg (by omega)]⟩
          have e1 : ¬ ((18446744073709551615 - ((T[k].toNat : Int) - 48)) / 16 < (n : Int)) := by omega
          have e2 := decide_eq_false e1
          have o1 : (n : Int) * 16 ≤ 18446744073709551615 := by omega
          have o2 : (n : Int) * 16 + ((T[k].toNat : Int) - 48) ≤ 18446744073709551615 := by omega
          have hov := Kpt.mk hov
          clear hdig hst hq hx
          go_wp2
          go_round
          case rel => exact ⟨k + 1, n * 16 + (((T[k].toNat : Int) - 48)).toNat, by omega, hov.out, by go_num, by go_num, hq2⟩
          case measure => simp [intOf]; omega
        · have hno : Kpt (numP 16 0 (nums T) = none) := ⟨by rw [hq.out, hst.out, hdig.out, if_pos (by omega)]⟩
          have e1 : (18446744073709551615 - ((T[k].toNat : Int) - 48)) / 16 < (n : Int) := by omega
          have e2 := decide_eq_true e1
          have hov := Kpt.mk hov
          clear hdig hst hq hx
          go_wp2
          go_ret2
          exact ⟨by rw [hres.out, hno.out]; rfl, rfl⟩
      · have k0 : 48 ≤ (T[k].toNat : Int) := by omega
        have k1 : ¬ (T[k].toNat : Int) ≤ 57 := by omega
        have k2 : ¬ 97 ≤ (T[k].toNat : Int) := by omega
        have k3 : ¬ 65 ≤ (T[k].toNat : Int) := by omega
        have hdig : Kpt (digC x = ((99 : Int)).toNat) := ⟨by unfold digC; rw [if_neg (by omega), if_neg (by omega), if_neg (by omega)]; rfl⟩
        have hno : Kpt (numP 16 0 (nums T) = none) := ⟨by rw [hq.out, hst.out, hdig.out, if_pos (.inl (by omega))]⟩
        have hD : (16 : Int) ≤ (99 : Int) := by omega
        have hD2 := decide_eq_true hD
        clear hdig hst hq hx
        go_wp2
        go_ret2
        exact ⟨by rw [hres.out, hno.out]; rfl, rfl⟩
      · have k0 : 48 ≤ (T[k].toNat : Int) := by omega
        have k1 : ¬ (T[k].toNat : Int) ≤ 57 := by omega
        have k2 : ¬ 97 ≤ (T[k].toNat : Int) := by omega
        have k3 : 65 ≤ (T[k].toNat : Int) := by omega
        have k4 : (T[k].toNat : Int) ≤ 70 := by omega
        have hdig : Kpt (digC x = (((T[k].toNat : Int) - 65 + 10)).toNat) := ⟨by unfold digC; rw [if_neg (by omega), if_neg (by omega), if_pos (by omega)]; omega⟩
        have hE : ¬ (16 : Int) ≤ ((T[k].toNat : Int) - 65 + 10) := by omega
        have hE2 := decide_eq_false hE
        have hP : 0 ≤ ((T[k].toNat : Int) - 65 + 10) ∧ ((T[k].toNat : Int) - 65 + 10) ≤ 15 := by omega
        have hw0 : IntKind.u64.wrap (18446744073709551615 - ((T[k].toNat : Int) - 65 + 10)) = 18446744073709551615 - ((T[k].toNat : Int) - 65 + 10) := IntWalk.u64_in _ (by omega)
        have hw1 : IntKind.u64.wrap ((18446744073709551615 - ((T[k].toNat : Int) - 65 + 10)).tdiv 16) = (18446744073709551615 - ((T[k].toNat : Int) - 65 + 10)) / 16 := IntWalk.u64_quo _ _ (by omega)
        by_cases hov : n * 16 + (((T[k].toNat : Int) - 65 + 10)).toNat < 18446744073709551616
        · have hq2 : Kpt (numP 16 0 (nums T) = numP 16 (n * 16 + (((T[k].toNat : Int) - 65 + 10)).toNat) ((nums T).drop (k + 1))) := ⟨by rw [hq.out, hst.out, hdig.out, if_neg (by omega)]⟩
          have e1 : ¬ ((18446744073709551615 - ((T[k].toNat : Int) - 65 + 10)) / 16 < (n : Int)) := by omega
          have e2 := decide_eq_false e1
          have o1 : (n : Int) * 16 ≤ 18446744073709551615 := by omega
          have o2 : (n : Int) * 16 + ((T[k].toNat : Int) - 65 + 10) ≤ 18446744073709551615 := by omega
          have hov := Kpt.mk hov
          clear hdig hst hq hx
          go_wp2
          go_round
          case rel => exact ⟨k + 1, n * 16 + (((T[k].toNat : Int) - 65 + 10)).toNat, by omega, hov.out, by go_num, by go_num, hq2⟩
          case measure => simp [intOf]; omega
        · have hno : Kpt (numP 16 0 (nums T) = none) := ⟨by rw [hq.out, hst.out, hdig.out, if_pos (by omega)]⟩
          have e1 : (18446744073709551615 - ((T[k].toNat : Int) - 65 + 10)) / 16 < (n : Int) := by omega
          have e2 := decide_eq_true e1
          have hov := Kpt.mk hov
          clear hdig hst hq hx
          go_wp2
          go_ret2
          exact ⟨by rw [hres.out, hno.out]; rfl, rfl⟩
      · have k0 : 48 ≤ (T[k].toNat : Int) := by omega
        have k1 : ¬ (T[k].toNat : Int) ≤ 57 := by omega
        have k2 : ¬ 97 ≤ (T[k].toNat : Int) := by omega
        have k3 : 65 ≤ (T[k].toNat : Int) := by omega
        have k4 : ¬ (T[k].toNat : Int) ≤ 70 := by omega
        have hdig : Kpt (digC x = ((99 : Int)).toNat) := ⟨by unfold digC; rw [if_neg (by omega), if_neg (by omega), if_neg (by omega)]; rfl⟩
        have hno : Kpt (numP 16 0 (nums T) = none) := ⟨by rw [hq.out, hst.out, hdig.out, if_pos (.inl (by omega))]⟩
        have hD : (16 : Int) ≤ (99 : Int) := by omega
        have hD2 := decide_eq_true hD
        clear hdig hst hq hx
        go_wp2
        go_ret2
        exact ⟨by rw [hres.out, hno.out]; rfl, rfl⟩
      · have k0 : 48 ≤ (T[k].toNat : Int) := by omega
        have k1 : ¬ (T[k].toNat : Int) ≤ 57 := by omega
        have k2 : 97 ≤ (T[k].toNat : Int) := by omega
        have k3 : (T[k].toNat : Int) ≤ 102 := by omega
        have hdig : Kpt (digC x = (((T[k].toNat : Int) - 97 + 10)).toNat) := ⟨by unfold digC; rw [if_neg (by omega), if_pos (by omega)]; omega⟩
        have hE : ¬ (16 : Int) ≤ ((T[k].toNat : Int) - 97 + 10) := by omega
        have hE2 := decide_eq_false hE
        have hP : 0 ≤ ((T[k].toNat : Int) - 97 + 10) ∧ ((T[k].toNat : Int) - 97 + 10) ≤ 15 := by omega
        have hw0 : IntKind.u64.wrap (18446744073709551615 - ((T[k].toNat : Int) - 97 + 10)) = 18446744073709551615 - ((T[k].toNat : Int) - 97 + 10) := IntWalk.u64_in _ (by omega)
        have hw1 : IntKind.u64.wrap ((18446744073709551615 - ((T[k].toNat : Int) - 97 + 10)).tdiv 16) = (18446744073709551615 - ((T[k].toNat : Int) - 97 + 10)) / 16 := IntWalk.u64_quo _ _ (by omega)
        by_cases hov : n * 16 + (((T[k].toNat : Int) - 97 + 10)).toNat < 18446744073709551616
        · have hq2 : Kpt (numP 16 0 (nums T) = numP 16 (n * 16 + (((T[k].toNat : Int) - 97 + 10)).toNat) ((nums T).drop (k + 1))) := ⟨by rw [hq.out, hst.out, hdig.out, if_neg (by omega)]⟩
          have e1 : ¬ ((18446744073709551615 - ((T[k].toNat : Int) - 97 + 10)) / 16 < (n : Int)) := by omega
          have e2 := decide_eq_false e1
          have o1 : (n : Int) * 16 ≤ 18446744073709551615 := by omega
          have o2 : (n : Int) * 16 + ((T[k].toNat : Int) - 97 + 10) ≤ 18446744073709551615 := by omega
          have hov := Kpt.mk hov
          clear hdig hst hq hx
          go_wp2
          go_round
          case rel => exact ⟨k + 1, n * 16 + (((T[k].toNat : Int) - 97 + 10)).toNat, by omega, hov.out, by go_num, by go_num, hq2⟩
          case measure => simp [intOf]; omega
        · have hno : Kpt (numP 16 0 (nums T) = none) := ⟨by rw [hq.out, hst.out, hdig.out, if_pos (by omega)]⟩
          have e1 : (18446744073709551615 - ((T[k].toNat : Int) - 97 + 10)) / 16 < (n : Int) := by omega
          have e2 := decide_eq_true e1
          have hov := Kpt.mk hov
          clear hdig hst hq hx
          go_wp2
          go_ret2
          exact ⟨by rw [hres.out, hno.out]; rfl, rfl⟩
      · have k0 : 48 ≤ (T[k].toNat : Int) := by omega
        have k1 : ¬ (T[k].toNat : Int) ≤ 57 := by omega
        have k2 : 97 ≤ (T[k].toNat : Int) := by omega
        have k3 : ¬ (T[k].toNat : Int) ≤ 102 := by omega
        have k4 : 65 ≤ (T[k].toNat : Int) := by omega
        have k5 : ¬ (T[k].toNat : Int) ≤ 70 := by omega
        have hdig : Kpt (digC x = ((99 : Int)).toNat) := ⟨by unfold digC; rw [if_neg (by omega), if_neg (by omega), if_neg (by omega)]; rfl⟩
        have hno : Kpt (numP 16 0 (nums T) = none) := ⟨by rw [hq.out, hst.out, hdig.out, if_pos (.inl (by omega))]⟩
        have hD : (16 : Int) ≤ (99 : Int) := by omega
        have hD2 := decide_eq_true hD
        clear hdig hst hq hx
        go_wp2
        go_ret2
        exact ⟨by rw [hres.out, hno.out]; rfl, rfl⟩
    · have hltI : ¬ (k : Int) < T.size := by omega
      obtain rfl : k = T.size := by omega
      have hok : Kpt (numP 16 0 (nums T) = some n) := ⟨by rw [hq.out, List.drop_of_length_le (by rw [hnl.out]; exact Nat.le_refl _)]; rfl⟩
      go_wp2
      go_ret2
      exact ⟨by rw [hres.out, hok.out]; rfl, rfl⟩
end Go.Proofs.YtplifodddfjhdaaGreatDoor

namespace Go.Proofs.YtplifodddfjhdaaGreatDoor
open Go.RowKit
set_option linter.unusedVariables false
set_option linter.unusedSimpArgs false

set_option maxRecDepth 100000 in
set_option maxHeartbeats 1000000 in
theorem rnumber_any (S : ByteArray) (w : World) (hS : S.size ≤ maxLen) :
    Calls Tryz.prog 22 #[.string S] w fun e w' => e = .returned (.tuple #[.int .u64 (numV (numS (nums S))), .bool (numS (nums S)).isSome]) ∧ w' = w := by
  by_cases h0 : S.size = 0
  · have hno : Kpt (numS (nums S) = none) := ⟨by unfold numS; rw [nums_len, if_neg (by omega), if_pos h0]⟩
    have h0I : (S.size : Int) = 0 := by omega
    have h1I : ¬ (1 : Int) < S.size := by omega
    unfold maxLen at hS
    go_enter Tryz.func22, Tryz.ntmps22
    go_wp2
    go_ret2
    exact ⟨by rw [hno.out]; rfl, rfl⟩
  · by_cases h1 : S.size = 1
    · exact rnum10_one S S w hS rfl h1 (by omega) (Nat.le_refl _) (by unfold numS; rw [nums_len, if_neg (by omega), if_neg h0])
    · have hs : 1 < S.size := by omega
      have n0 := nums_at S 0 (by omega)
      have n1 := nums_at S 1 (by omega)
      by_cases h48 : S[0].toNat = 48
      · by_cases h120 : S[1].toNat = 120
        · have hsz : (S.extract 2 S.size).size = S.size - 2 := by simp
          have hnx : nums (S.extract 2 S.size) = (nums S).drop 2 := by rw [nums_ext, List.take_of_length_le (by rw [nums_len]; exact Nat.le_refl _)]
          by_cases h2 : S.size = 2
          · have hno : Kpt (numS (nums S) = none) := ⟨by unfold numS; rw [nums_len, if_pos ⟨hs, by rw [n0]; omega⟩, if_pos (by rw [n1]; omega), if_pos h2]⟩
            have h1I : (1 : Int) < S.size := by omega
            have h2I : (2 : Int) ≤ S.size := by omega
            have h48I : ((S[0].toNat : Nat) : Int) = 48 := by omega
            have h120I : ((S[1].toNat : Nat) : Int) = 120 := by omega
            have hzI : (((S.extract 2 S.size).size : Nat) : Int) = 0 := by omega
            have hz2 : S.size - 2 = 0 := by omega
            unfold maxLen at hS
            clear hnx n0 n1
            go_enter Tryz.func22, Tryz.ntmps22
            go_wp2
            go_ret2
            exact ⟨by rw [hno.out]; rfl, rfl⟩
          · exact rnum16 S (S.extract 2 S.size) w hS rfl hs h48 h120 (by omega) (by omega) (by unfold numS; rw [nums_len, if_pos ⟨hs, by rw [n0]; omega⟩, if_pos (by rw [n1]; omega), if_neg h2, hnx])
        · have hno : Kpt (numS (nums S) = none) := ⟨by unfold numS; rw [nums_len, if_pos ⟨hs, by rw [n0]; omega⟩, if_neg (by rw [n1]; omega)]⟩
          have h1I : (1 : Int) < S.size := by omega
          have h48I : ((S[0].toNat : Nat) : Int) = 48 := by omega
          have h120I : ¬ ((S[1].toNat : Nat) : Int) = 120 := by omega
          unfold maxLen at hS
          clear n0 n1
          go_enter Tryz.func22, Tryz.ntmps22
          go_wp2
          go_ret2
          exact ⟨by rw [hno.out]; rfl, rfl⟩
      · exact rnum10_many S S w hS rfl hs h48 (by omega) (Nat.le_refl _) (by unfold numS; rw [nums_len, if_neg (fun hc => h48 (by have := hc.2; rw [n0] at this; omega)), if_neg h0])

end Go.Proofs.YtplifodddfjhdaaGreatDoor
