/-
  text: a text that begins with 0x.
-/
import Derived.Test.YtplifodddfjhdaaGreatDoorXNm0s
namespace Go.Proofs.YtplifodddfjhdaaGreatDoor
open Go.RowKit
set_option linter.unusedVariables false
set_option linter.unusedSimpArgs false

theorem toList_neX {a b : ByteArray} (h : ¬ a = b) : (a.toList == b.toList) = false := beq_eq_false_iff_ne.2 fun e => h (by
  rw [ByteArray.toList_eq, ByteArray.toList_eq] at e
  obtain ⟨d1⟩ := a
  obtain ⟨d2⟩ := b
  congr
  exact Array.toList_inj.1 e)
/-- A text begins with 0x. -/
def hexB (zs : List Int) : Bool := decide (1 < zs.length ∧ zs.getD 0 0 = 48 ∧ zs.getD 1 0 = 120)
theorem two_list {zs : List Int} (h : 2 ≤ zs.length) : zs.take 2 = [zs.getD 0 0, zs.getD 1 0] := by
  match zs, h with
  | a :: b :: r, _ => simp
theorem pre_eq (S : ByteArray) (h : 2 ≤ S.size) : ((S.extract 0 2).toList == [48, 120]) = hexB (nums S) := by
  have e : (S.extract 0 2 = ⟨#[48, 120]⟩) ↔ hexB (nums S) = true := by
    unfold hexB
    have hl : 2 ≤ (nums S).length := by rw [nums_len]; exact h
    have ht := two_list hl
    constructor
    · intro he
      have := congrArg nums he
      rw [nums_ext, List.drop_zero, ht] at this
      have e2 : nums ⟨#[48, 120]⟩ = [48, 120] := by decide +kernel
      rw [e2] at this
      simp only [List.cons.injEq, and_true] at this
      exact decide_eq_true ⟨by omega, this.1, this.2⟩
    · intro he
      have he := of_decide_eq_true he
      apply nums_inj
      rw [nums_ext, List.drop_zero, ht, he.2.1, he.2.2]
      decide +kernel
  by_cases hx : hexB (nums S) = true
  · rw [hx, e.2 hx]
    decide +kernel
  · have h1 := toList_neX (fun he => hx (e.1 he))
    rw [show hexB (nums S) = false by simpa using hx, ← h1]
    rw [show (⟨#[48, 120]⟩ : ByteArray).toList = [48, 120] from by rw [ByteArray.toList_eq]]

set_option maxHeartbeats 1000000 in
theorem hasp_any (S : ByteArray) (w : World) : Calls Tryz.prog 87 #[.string S, .string ⟨#[48, 120]⟩] w fun e w' => e = .returned (.bool (hexB (nums S))) ∧ w' = w := by
  by_cases h : 2 ≤ S.size
  · have hI : (2 : Int) ≤ S.size := by omega
    have hp := pre_eq S h
    obtain ⟨x, hx⟩ : ∃ x, x = hexB (nums S) := ⟨_, rfl⟩
    rw [← hx] at hp ⊢
    clear hx
    go_enter Tryz.func87, Tryz.ntmps87
    go_wp2
    go_ret
    exact ⟨rfl, rfl⟩
  · have hI : ¬ (2 : Int) ≤ S.size := by omega
    have hx : hexB (nums S) = false := by unfold hexB; rw [nums_len]; exact decide_eq_false (by omega)
    rw [hx]
    clear hx
    go_enter Tryz.func87, Tryz.ntmps87
    go_wp2
    go_ret
    exact ⟨rfl, rfl⟩

def cutX (S : ByteArray) : ByteArray := if hexB (nums S) = true then S.extract 2 S.size else S
set_option maxHeartbeats 1000000 in
theorem slcutp_any (S : ByteArray) (w : World) : Calls Tryz.prog 93 #[.string S, .string ⟨#[48, 120]⟩] w fun e w' => e = .returned (.tuple #[.string (cutX S), .bool (hexB (nums S))]) ∧ w' = w := by
  have hc := Kpt.mk (hasp_any S w)
  by_cases h : hexB (nums S) = true
  · have hl : 2 ≤ S.size := by have := (of_decide_eq_true h).1; rw [nums_len] at this; exact this
    have hI : (2 : Int) ≤ S.size := by omega
    have hv : cutX S = S.extract 2 S.size := by unfold cutX; rw [if_pos h]
    rw [h] at hc ⊢
    rw [hv]
    clear h hv
    go_enter Tryz.func93, Tryz.ntmps93
    go_wp2_with (go_at_call 87; go_must (refine hc.out.mono ?_; rintro e w ⟨rfl, rfl⟩))
    go_ret2
    exact ⟨rfl, rfl⟩
  · have h' : hexB (nums S) = false := by simpa using h
    have hv : cutX S = S := by unfold cutX; rw [if_neg h]
    rw [h'] at hc ⊢
    rw [hv]
    clear h h' hv
    go_enter Tryz.func93, Tryz.ntmps93
    go_wp2_with (go_at_call 87; go_must (refine hc.out.mono ?_; rintro e w ⟨rfl, rfl⟩))
    go_ret2
    exact ⟨rfl, rfl⟩
theorem cutp_any (S : ByteArray) (w : World) : Calls Tryz.prog 79 #[.string S, .string ⟨#[48, 120]⟩] w fun e w' => e = .returned (.tuple #[.string (cutX S), .bool (hexB (nums S))]) ∧ w' = w := by
  have hc := Kpt.mk (slcutp_any S w)
  go_enter Tryz.func79, Tryz.ntmps79
  go_wp2_with (go_at_call 93; go_must (refine hc.out.mono ?_; rintro e w ⟨rfl, rfl⟩))
  go_ret2
  exact ⟨rfl, rfl⟩
end Go.Proofs.YtplifodddfjhdaaGreatDoor
