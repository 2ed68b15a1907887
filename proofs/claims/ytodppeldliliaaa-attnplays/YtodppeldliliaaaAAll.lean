/-
  The contract of AddAll.
-/
import Derived.Test.YtodppeldliliaaaAClear
namespace Go.Proofs.Ytodppeldliliaaa
open Go.RowKit
set_option linter.unusedVariables false
set_option linter.unusedSimpArgs false

def allL (L : Nat → List Int) (but c : Int) (i : Nat) : Nat → List Int := fun k => if k < i ∧ (k : Int) ≠ but then addL (L k) c else L k

theorem allL_step (L : Nat → List Int) (but c : Int) (i : Nat) (h : (i : Int) ≠ but) : upd (allL L but c i) i (addL (allL L but c i i) c) = allL L but c (i + 1) := by
  funext k
  unfold upd allL
  by_cases e : k = i
  · subst e; simp [h]
  · have : (k < i + 1) = (k < i) := by apply propext; omega
    simp [e, this]
theorem allL_skip (L : Nat → List Int) (but c : Int) (i : Nat) (h : (i : Int) = but) : allL L but c i = allL L but c (i + 1) := by
  funext k
  unfold allL
  by_cases e : k = i
  · subst e; simp [h]
  · have : (k < i + 1) = (k < i) := by apply propext; omega
    simp [this]
theorem allL_zero (L : Nat → List Int) (but c : Int) : allL L but c 0 = L := by funext k; simp [allL]

set_option maxHeartbeats 2000000 in
theorem addAll_any (base B : Nat) (but : Int) (L : Nat → List Int) (S : Nat → Value) (c : Int) (w : World) (h : Qu base w B L S) (hc : 0 ≤ c ∧ c ≤ 65535) (hbut : -9223372036854775808 ≤ but ∧ but ≤ 9223372036854775807) :
    Calls Try.prog 11 #[.pointer (some ⟨B, 0, none⟩), .int .i64 but, .int .u16 c] w fun e w' => e = .returned (.tuple #[]) ∧ (∃ S', Qu base w' B (allL L but c 8) S' ∧ Turned w w' B S S') ∧ Below base w w' := by
  replace h := Kpt.mk h
  go_enter Try.func11, Try.ntmps11
  go_wp2
  go_loopw [7] (fun t wr => ∃ (k : Nat), k ≤ 8 ∧ t = .int .i64 k ∧ Kpt (∃ S', Qu base wr B (allL L but c k) S' ∧ Turned w wr B S S') ∧ Kpt (Below base w wr)) (fun t _ => 8 - (intOf t).toNat)
  case atStart => exact ⟨0, Nat.zero_le _, rfl, ⟨S, by rw [allL_zero]; exact h.out, Turned.refl _ _ _⟩, ⟨Below.refl _ _⟩⟩
  case round =>
    obtain ⟨k, hk, rfl, hI, hW⟩ := hrel
    by_cases hlt : k < 8
    · have e1 : (k : Int) < 8 := by omega
      by_cases hb : (k : Int) = but
      · have hR : Kpt (∃ S', Qu base wr B (allL L but c (k + 1)) S' ∧ Turned w wr B S S') := ⟨by rw [← allL_skip L but c k hb]; exact hI.out⟩
        clear hI h
        subst hb
        go_wp2
        go_roundw
        case rel => exact ⟨k + 1, by omega, by go_num, hR, hW⟩
        case measure => simp [intOf]; omega
      · obtain ⟨S1, hS1, hT1⟩ := hI.out
        replace hT1 := Kpt.mk hT1
        have HA := Kpt.mk (add_any base B k (allL L but c k) S1 c wr hS1 hlt hc)
        rw [allL_step L but c k hb] at HA
        clear hS1 hI h
        go_wp2_with (go_at_call 9; refine HA.out.mono ?_; rintro e w2 ⟨rfl, hq2, hb2⟩; have hq3 : Kpt (∃ S', Qu base w2 B (allL L but c (k + 1)) S' ∧ Turned w w2 B S S') := ⟨by obtain ⟨S2, h2, t2⟩ := hq2; exact ⟨S2, h2, hT1.out.trans t2⟩⟩; clear hq2; have hW2 := Kpt.mk (hW.out.trans hb2); clear hb2)
        go_roundw
        case rel => exact ⟨k + 1, by omega, by go_num, hq3, hW2⟩
        case measure => simp [intOf]; omega
    · have e8 : k = 8 := by omega
      subst e8
      go_wp2
      refine bodyPost_end (results_none rfl _ _ _) rfl ?_
      exact ⟨rfl, hI.out, hW.out⟩
end Go.Proofs.Ytodppeldliliaaa
