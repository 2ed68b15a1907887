/-
  text: the document's keys and values.
-/
import Derived.Test.YtdplndlmdhpfaabXParM
namespace Go.Proofs.Ytdplndlmdhpfaab
open Go.RowKit
set_option linter.unusedVariables false
set_option linter.unusedSimpArgs false

set_option maxHeartbeats 1000000 in
theorem rkey_any (S : ByteArray) (w : World) (hS : S.size ≤ maxLen) :
    Calls Try.prog 17 #[.string S] w fun e w' => e = .returned (.bool (keyB (nums S))) ∧ w' = w := by
  unfold maxLen at hS
  have hnl := nums_len S
  go_enter Try.func17, Try.ntmps17
  go_wp2
  go_loop [3] (fun t => ∃ k : Nat, k ≤ S.size ∧ t = .int .i64 k ∧ Kpt (∀ j, j < k → keyC ((nums S).getD j 0) = true)) (fun t => S.size - (intOf t).toNat)
  case atStart => exact ⟨0, by omega, rfl, ⟨fun j hj => by omega⟩⟩
  case round =>
    obtain ⟨k, hk, rfl, hh⟩ := hrel
    by_cases hlt : k < S.size
    · have e1 : (k : Int) < S.size := by omega
      have hx := nums_at S k hlt
      have hbx := S[k].toNat_lt
      obtain ⟨x, hxx⟩ : ∃ x : Int, x = (S[k].toNat : Int) := ⟨_, rfl⟩
      rw [← hxx] at hx
      by_cases h1 : keyC x = true
      · have hnext : Kpt (∀ j, j < k + 1 → keyC ((nums S).getD j 0) = true) := ⟨fun j hj => by
          by_cases hjk : j < k
          · exact hh.out j hjk
          · obtain rfl : j = k := by omega
            rw [hx]; exact h1⟩
        replace hx := Kpt.mk hx
        have hcs : (65 ≤ x ∧ x ≤ 90) ∨ (97 ≤ x ∧ x ≤ 122) ∨ (48 ≤ x ∧ x ≤ 57) ∨ (x = 46) ∨ (x = 45) ∨ (x = 43) ∨ (x = 95) := by
          simp only [keyC, Bool.or_eq_true, decide_eq_true_eq] at h1
          omega
        clear h1 hbx
        rcases hcs with hcs | hcs | hcs | hcs | hcs | hcs | hcs
        · have q0 : 65 ≤ (S[k].toNat : Int) := by omega
          have q1 : (S[k].toNat : Int) ≤ 90 := by omega
          clear hcs hxx
          go_wp2
          go_round
          case rel => exact ⟨k + 1, by omega, by go_num, hnext⟩
          case measure => simp [intOf]; omega
        · have q0 : 65 ≤ (S[k].toNat : Int) := by omega
          have q1 : ¬ (S[k].toNat : Int) ≤ 90 := by omega
          have q2 : 97 ≤ (S[k].toNat : Int) := by omega
          have q3 : (S[k].toNat : Int) ≤ 122 := by omega
          clear hcs hxx
          go_wp2
          go_round
          case rel => exact ⟨k + 1, by omega, by go_num, hnext⟩
          case measure => simp [intOf]; omega
        · have q0 : ¬ 65 ≤ (S[k].toNat : Int) := by omega
          have q1 : ¬ 97 ≤ (S[k].toNat : Int) := by omega
          have q2 : 48 ≤ (S[k].toNat : Int) := by omega
          have q3 : (S[k].toNat : Int) ≤ 57 := by omega
          clear hcs hxx
          go_wp2
          go_round
          case rel => exact ⟨k + 1, by omega, by go_num, hnext⟩
          case measure => simp [intOf]; omega
        · have q0 : ¬ 65 ≤ (S[k].toNat : Int) := by omega
          have q1 : ¬ 97 ≤ (S[k].toNat : Int) := by omega
          have q2 : ¬ 48 ≤ (S[k].toNat : Int) := by omega
          have z0 : ((S[k].toNat : Int) == 46) = true := by simp; omega
          clear hcs hxx
          go_wp2
          go_round
          case rel => exact ⟨k + 1, by omega, by go_num, hnext⟩
          case measure => simp [intOf]; omega
        · have q0 : ¬ 65 ≤ (S[k].toNat : Int) := by omega
          have q1 : ¬ 97 ≤ (S[k].toNat : Int) := by omega
          have q2 : ¬ 48 ≤ (S[k].toNat : Int) := by omega
          have z0 : ((S[k].toNat : Int) == 46) = false := by simp; omega
          have z1 : ((S[k].toNat : Int) == 45) = true := by simp; omega
          clear hcs hxx
          go_wp2
          go_round
          case rel => exact ⟨k + 1, by omega, by go_num, hnext⟩
          case measure => simp [intOf]; omega
        · have q0 : ¬ 65 ≤ (S[k].toNat : Int) := by omega
          have q1 : ¬ 97 ≤ (S[k].toNat : Int) := by omega
          have q2 : ¬ 48 ≤ (S[k].toNat : Int) := by omega
          have z0 : ((S[k].toNat : Int) == 46) = false := by simp; omega
          have z1 : ((S[k].toNat : Int) == 45) = false := by simp; omega
          have z2 : ((S[k].toNat : Int) == 43) = true := by simp; omega
          clear hcs hxx
          go_wp2
          go_round
          case rel => exact ⟨k + 1, by omega, by go_num, hnext⟩
          case measure => simp [intOf]; omega
        · have q0 : 65 ≤ (S[k].toNat : Int) := by omega
          have q1 : ¬ (S[k].toNat : Int) ≤ 90 := by omega
          have q2 : ¬ 97 ≤ (S[k].toNat : Int) := by omega
          have q3 : 48 ≤ (S[k].toNat : Int) := by omega
          have q4 : ¬ (S[k].toNat : Int) ≤ 57 := by omega
          have z0 : ((S[k].toNat : Int) == 46) = false := by simp; omega
          have z1 : ((S[k].toNat : Int) == 45) = false := by simp; omega
          have z2 : ((S[k].toNat : Int) == 43) = false := by simp; omega
          have z3 : ((S[k].toNat : Int) == 95) = true := by simp; omega
          clear hcs hxx
          go_wp2
          go_round
          case rel => exact ⟨k + 1, by omega, by go_num, hnext⟩
          case measure => simp [intOf]; omega
      · have h1' : keyC x = false := by simpa using h1
        have hno : keyB (nums S) = false := by
          have := all_no (nums S) keyC k (by omega) (by rw [hx]; exact h1')
          unfold keyB
          rw [this]
          rfl
        replace hno := Kpt.mk hno
        replace hx := Kpt.mk hx
        clear h1
        have hcs : ((x < 48) ∨ (58 ≤ x ∧ x ≤ 64) ∨ (91 ≤ x ∧ x ≤ 96) ∨ (123 ≤ x)) ∧ ¬ (x = 46 ∨ x = 45 ∨ x = 43 ∨ x = 95) := by
          simp only [keyC, Bool.or_eq_false_iff, decide_eq_false_iff_not] at h1'
          omega
        clear h1' hbx
        obtain ⟨hcs, hcn⟩ := hcs
        rcases hcs with hcs | hcs | hcs | hcs
        · have q0 : ¬ 65 ≤ (S[k].toNat : Int) := by omega
          have q1 : ¬ 97 ≤ (S[k].toNat : Int) := by omega
          have q2 : ¬ 48 ≤ (S[k].toNat : Int) := by omega
          have z0 : ((S[k].toNat : Int) == 46) = false := by simp; omega
          have z1 : ((S[k].toNat : Int) == 45) = false := by simp; omega
          have z2 : ((S[k].toNat : Int) == 43) = false := by simp; omega
          have z3 : ((S[k].toNat : Int) == 95) = false := by simp; omega
          clear hcs hcn hxx
          go_wp2
          go_ret
          exact ⟨ret_bool hno.out.symm, rfl⟩
        · have q0 : ¬ 65 ≤ (S[k].toNat : Int) := by omega
          have q1 : ¬ 97 ≤ (S[k].toNat : Int) := by omega
          have q2 : 48 ≤ (S[k].toNat : Int) := by omega
          have q3 : ¬ (S[k].toNat : Int) ≤ 57 := by omega
          have z0 : ((S[k].toNat : Int) == 46) = false := by simp; omega
          have z1 : ((S[k].toNat : Int) == 45) = false := by simp; omega
          have z2 : ((S[k].toNat : Int) == 43) = false := by simp; omega
          have z3 : ((S[k].toNat : Int) == 95) = false := by simp; omega
          clear hcs hcn hxx
          go_wp2
          go_ret
          exact ⟨ret_bool hno.out.symm, rfl⟩
        · have q0 : 65 ≤ (S[k].toNat : Int) := by omega
          have q1 : ¬ (S[k].toNat : Int) ≤ 90 := by omega
          have q2 : ¬ 97 ≤ (S[k].toNat : Int) := by omega
          have q3 : 48 ≤ (S[k].toNat : Int) := by omega
          have q4 : ¬ (S[k].toNat : Int) ≤ 57 := by omega
          have z0 : ((S[k].toNat : Int) == 46) = false := by simp; omega
          have z1 : ((S[k].toNat : Int) == 45) = false := by simp; omega
          have z2 : ((S[k].toNat : Int) == 43) = false := by simp; omega
          have z3 : ((S[k].toNat : Int) == 95) = false := by simp; omega
          clear hcs hcn hxx
          go_wp2
          go_ret
          exact ⟨ret_bool hno.out.symm, rfl⟩
        · have q0 : 65 ≤ (S[k].toNat : Int) := by omega
          have q1 : ¬ (S[k].toNat : Int) ≤ 90 := by omega
          have q2 : 97 ≤ (S[k].toNat : Int) := by omega
          have q3 : ¬ (S[k].toNat : Int) ≤ 122 := by omega
          have q4 : 48 ≤ (S[k].toNat : Int) := by omega
          have q5 : ¬ (S[k].toNat : Int) ≤ 57 := by omega
          have z0 : ((S[k].toNat : Int) == 46) = false := by simp; omega
          have z1 : ((S[k].toNat : Int) == 45) = false := by simp; omega
          have z2 : ((S[k].toNat : Int) == 43) = false := by simp; omega
          have z3 : ((S[k].toNat : Int) == 95) = false := by simp; omega
          clear hcs hcn hxx
          go_wp2
          go_ret
          exact ⟨ret_bool hno.out.symm, rfl⟩
    · have e1 : ¬ (k : Int) < S.size := by omega
      obtain rfl : k = S.size := by omega
      have hall : (nums S).all keyC = true := all_yes _ _ (fun j hj => hh.out j (by omega))
      have hp : keyB (nums S) = decide (1 ≤ S.size ∧ S.size ≤ 63) := by unfold keyB; rw [hall, hnl]; simp
      replace hp := Kpt.mk hp
      clear hall hnl
      by_cases hs1 : 1 ≤ S.size
      · have hs2 : (1 : Int) ≤ S.size := by omega
        go_wp2
        go_ret
        exact ⟨ret_bool (by rw [hp.out]; first | (simp [hs1]; done) | (simp [hs1]; omega) | (simp; omega)), rfl⟩
      · have hs2 : ¬ (1 : Int) ≤ S.size := by omega
        go_wp2
        go_ret
        exact ⟨ret_bool (by rw [hp.out]; first | (simp [hs1]; done) | (simp [hs1]; omega) | (simp; omega)), rfl⟩

set_option maxHeartbeats 1000000 in
theorem rval_any (S : ByteArray) (w : World) (hS : S.size ≤ maxLen) :
    Calls Try.prog 18 #[.string S] w fun e w' => e = .returned (.bool (valB (nums S))) ∧ w' = w := by
  unfold maxLen at hS
  have hnl := nums_len S
  go_enter Try.func18, Try.ntmps18
  go_wp2
  go_loop [3] (fun t => ∃ k : Nat, k ≤ S.size ∧ t = .int .i64 k ∧ Kpt (∀ j, j < k → valC ((nums S).getD j 0) = true)) (fun t => S.size - (intOf t).toNat)
  case atStart => exact ⟨0, by omega, rfl, ⟨fun j hj => by omega⟩⟩
  case round =>
    obtain ⟨k, hk, rfl, hh⟩ := hrel
    by_cases hlt : k < S.size
    · have e1 : (k : Int) < S.size := by omega
      have hx := nums_at S k hlt
      have hbx := S[k].toNat_lt
      obtain ⟨x, hxx⟩ : ∃ x : Int, x = (S[k].toNat : Int) := ⟨_, rfl⟩
      rw [← hxx] at hx
      by_cases h1 : valC x = true
      · have hnext : Kpt (∀ j, j < k + 1 → valC ((nums S).getD j 0) = true) := ⟨fun j hj => by
          by_cases hjk : j < k
          · exact hh.out j hjk
          · obtain rfl : j = k := by omega
            rw [hx]; exact h1⟩
        replace hx := Kpt.mk hx
        have hx1 : 32 ≤ x ∧ x ≤ 126 := by simpa [valC] using h1
        have k1 : ¬ (S[k].toNat : Int) < 32 := by omega
        have k2 : ¬ (126 : Int) < (S[k].toNat : Int) := by omega
        clear h1 hxx hbx hx1
        go_wp2
        go_round
        case rel => exact ⟨k + 1, by omega, by go_num, hnext⟩
        case measure => simp [intOf]; omega
      · have h1' : valC x = false := by simpa using h1
        have hno : valB (nums S) = false := by
          have := all_no (nums S) valC k (by omega) (by rw [hx]; exact h1')
          rw [valB_eq, this]
          rfl
        replace hno := Kpt.mk hno
        replace hx := Kpt.mk hx
        clear h1
        have hx1 : ¬ (32 ≤ x ∧ x ≤ 126) := by simpa [valC] using h1'
        by_cases k1 : (S[k].toNat : Int) < 32
        · clear h1' hxx hbx hx1
          go_wp2
          go_ret
          exact ⟨ret_bool hno.out.symm, rfl⟩
        · have k2 : (126 : Int) < (S[k].toNat : Int) := by omega
          have k1' : (32 : Int) ≤ (S[k].toNat : Int) := by omega
          clear h1' hxx hbx hx1 k1
          go_wp2
          go_ret
          exact ⟨ret_bool hno.out.symm, rfl⟩
    · have e1 : ¬ (k : Int) < S.size := by omega
      obtain rfl : k = S.size := by omega
      have hall : (nums S).all valC = true := all_yes _ _ (fun j hj => hh.out j (by omega))
      have hp : valB (nums S) = decide (S.size ≤ 255) := by rw [valB_eq, hall, hnl]; simp
      replace hp := Kpt.mk hp
      clear hall hnl
      by_cases hs1 : 1 ≤ S.size
      · have hs2 : (1 : Int) ≤ S.size := by omega
        go_wp2
        go_ret
        exact ⟨ret_bool (by rw [hp.out]; have e9 : ((S.size : Int) < 256) = (S.size ≤ 255) := propext (by omega); simp only [e9]), rfl⟩
      · have hs2 : ¬ (1 : Int) ≤ S.size := by omega
        go_wp2
        go_ret
        exact ⟨ret_bool (by rw [hp.out]; have e9 : ((S.size : Int) < 256) = (S.size ≤ 255) := propext (by omega); simp only [e9]), rfl⟩
end Go.Proofs.Ytdplndlmdhpfaab
