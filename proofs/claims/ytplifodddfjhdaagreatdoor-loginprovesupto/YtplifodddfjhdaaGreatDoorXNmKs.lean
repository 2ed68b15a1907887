/-
  text: Number of a text that is one.
-/
import Derived.Test.YtplifodddfjhdaaGreatDoorXPuBs
import Derived.Test.YtplifodddfjhdaaGreatDoorXPuCs
namespace Go.Proofs.YtplifodddfjhdaaGreatDoor
open Go.RowKit
set_option linter.unusedVariables false
set_option linter.unusedSimpArgs false

set_option maxHeartbeats 1000000 in
theorem pu_ok (b : Int) (S : ByteArray) (v : Nat) (w : World) (hc : Calls Tryz.prog 94 #[.string S, .int .i64 b, .int .i64 64] w fun e w' => e = .returned (.tuple #[.int .u64 (v : Nat), .nilIface]) ∧ Below w.heap.size w w') :
    Calls Tryz.prog 80 #[.string S, .int .i64 b, .int .i64 64] w fun e w' => e = .returned (.tuple #[.int .u64 (v : Nat), .nilIface]) ∧ Below w.heap.size w w' := by
  replace hc := Kpt.mk hc
  go_enter Tryz.func80, Tryz.ntmps80
  go_wp2_with (go_at_call 94; go_must (refine hc.out.mono ?_; rintro e w1 ⟨rfl, hb1⟩; replace hb1 := Kpt.mk hb1))
  go_ret2
  exact ⟨rfl, hb1.out⟩
theorem numS_hex {zs : List Int} {v : Nat} (h : numS zs = some v) (hx : hexB zs = true) : 2 < zs.length ∧ numP 16 0 (zs.drop 2) = some v := by
  have hx := of_decide_eq_true hx
  unfold numS at h
  rw [if_pos ⟨hx.1, hx.2.1⟩, if_pos hx.2.2] at h
  split at h
  · cases h
  · exact ⟨by omega, h⟩
theorem numS_dec10 {zs : List Int} {v : Nat} (h : numS zs = some v) (hx : hexB zs = false) : 0 < zs.length ∧ ¬ (1 < zs.length ∧ zs.getD 0 0 = 48) ∧ numP 10 0 zs = some v := by
  have hx := of_decide_eq_false hx
  unfold numS at h
  split at h
  · rename_i hc
    split at h
    · exact absurd ⟨hc.1, hc.2, by assumption⟩ hx
    · cases h
  · split at h
    · cases h
    · exact ⟨by omega, by assumption, h⟩

set_option maxHeartbeats 1000000 in
theorem number_ok (S : ByteArray) (v : Nat) (w : World) (hS : S.size ≤ maxLen) (h : numS (nums S) = some v) :
    Calls Tryz.prog 71 #[.string S] w fun e w' => e = .returned (.tuple #[.int .u64 (v : Nat), .bool true]) ∧ Below w.heap.size w w' := by
  have hcp := Kpt.mk (cutp_any S w)
  by_cases hx : hexB (nums S) = true
  · obtain ⟨h1, h2⟩ := numS_hex h hx
    rw [nums_len] at h1
    have hv : cutX S = S.extract 2 S.size := by unfold cutX; rw [if_pos hx]
    have hsz : (S.extract 2 S.size).size = S.size - 2 := by simp
    have hnx : nums (S.extract 2 S.size) = (nums S).drop 2 := by rw [nums_ext, List.take_of_length_le (by rw [nums_len]; exact Nat.le_refl _)]
    have hp : Kpt (Calls Tryz.prog 80 #[.string (S.extract 2 S.size), .int .i64 16, .int .i64 64] w fun e w' => e = .returned (.tuple #[.int .u64 (v : Nat), .nilIface]) ∧ Below w.heap.size w w') := ⟨by
      refine pu_ok 16 _ v w ((pu16_any _ w (by omega) (by omega)).mono ?_)
      rintro e w1 ⟨hr | hr, hb⟩
      · obtain ⟨u, h3, rfl⟩ := hr
        rw [hnx, h2] at h3
        cases h3
        exact ⟨rfl, hb⟩
      · rw [hnx, h2] at hr
        cases hr.1⟩
    rw [hv, hx] at hcp
    obtain ⟨T, hT⟩ : ∃ T, T = S.extract 2 S.size := ⟨_, rfl⟩
    rw [← hT] at hcp hp
    clear hT h hx hv hsz hnx h2 hS h1
    go_enter Tryz.func71, Tryz.ntmps71
    go_wp2_with (first
      | (go_at_call 80; go_must (refine hp.out.mono ?_; rintro e w1 ⟨rfl, hb1⟩; replace hb1 := Kpt.mk hb1))
      | (go_at_call 79; go_must (refine hcp.out.mono ?_; rintro e w1 ⟨rfl, rfl⟩)))
    go_ret2
    exact ⟨rfl, hb1.out⟩
  · have hx' : hexB (nums S) = false := by simpa using hx
    obtain ⟨h1, h0, h2⟩ := numS_dec10 h hx'
    rw [nums_len] at h1 h0
    have hv : cutX S = S := by unfold cutX; rw [if_neg hx]
    have hp : Kpt (Calls Tryz.prog 80 #[.string S, .int .i64 10, .int .i64 64] w fun e w' => e = .returned (.tuple #[.int .u64 (v : Nat), .nilIface]) ∧ Below w.heap.size w w') := ⟨by
      refine pu_ok 10 _ v w ((pu10_any _ w (by omega) (by omega)).mono ?_)
      rintro e w1 ⟨hr | hr, hb⟩
      · obtain ⟨u, h3, rfl⟩ := hr
        rw [h2] at h3
        cases h3
        exact ⟨rfl, hb⟩
      · rw [h2] at hr
        cases hr.1⟩
    rw [hv, hx'] at hcp
    have hn0 := nums_at S 0 h1
    clear h hx hx' hv hS h2
    by_cases hs : 1 < S.size
    · have hsI : (1 : Int) < S.size := by omega
      have hne : ¬ ((S[0].toNat : Int) = 48) := fun e => h0 ⟨hs, hn0.trans e⟩
      have hne2 : ¬ (S[0].toNat = 48) := fun e => hne (by omega)
      clear h0 hn0
      go_enter Tryz.func71, Tryz.ntmps71
      go_wp2_with (first
        | (go_at_call 80; go_must (refine hp.out.mono ?_; rintro e w1 ⟨rfl, hb1⟩; replace hb1 := Kpt.mk hb1))
        | (go_at_call 79; go_must (refine hcp.out.mono ?_; rintro e w1 ⟨rfl, rfl⟩)))
      go_ret2
      exact ⟨rfl, hb1.out⟩
    · have hsI : ¬ (1 : Int) < S.size := by omega
      clear h0 hn0
      go_enter Tryz.func71, Tryz.ntmps71
      go_wp2_with (first
        | (go_at_call 80; go_must (refine hp.out.mono ?_; rintro e w1 ⟨rfl, hb1⟩; replace hb1 := Kpt.mk hb1))
        | (go_at_call 79; go_must (refine hcp.out.mono ?_; rintro e w1 ⟨rfl, rfl⟩)))
      go_ret2
      exact ⟨rfl, hb1.out⟩
end Go.Proofs.YtplifodddfjhdaaGreatDoor
