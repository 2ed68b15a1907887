/-
  The look whether the program is awake; the document's Known and the program's; passedOver.
-/
import Derived.Test.YtcnjnebhidfogaaGRMake
namespace Go.Proofs.Ytcnjnebhidfogaa
open Go.RowKit
set_option linter.unusedVariables false
set_option linter.unusedSimpArgs false

theorem zero16 : reg16 0 (List.replicate 16 0) = 0 := by decide +kernel

theorem awake_any (w : World) : Calls Try.prog 8 #[] w fun e w' => e = .returned (.bool true) ∧ Below w.heap.size w w' := by
  have km := make_any 1 5 7 (List.replicate 16 0) w (by simp) (by simp) (by decide) (by decide) (by decide) (by decide)
  rw [zero16] at km
  replace km : Calls Try.prog 9 #[.int .u8 1, .int .u64 5, .agg #[.int .u8 0, .int .u8 0, .int .u8 0, .int .u8 0, .int .u8 0, .int .u8 0, .int .u8 0, .int .u8 0, .int .u8 0, .int .u8 0, .int .u8 0, .int .u8 0, .int .u8 0, .int .u8 0, .int .u8 0, .int .u8 0], .int .u16 7] w fun e w' => e = .returned (.agg #[.int .u16 0, .int .u16 7, .int .u32 5]) ∧ Below w.heap.size w w' := km
  go_enter Try.func8, Try.ntmps8
  go_wp2_with (go_at_call 9; refine km.mono ?_; rintro e w' ⟨rfl, hb⟩)
  go_ret
  exact ⟨rfl, hb⟩

def knownB (k p : Int) : Bool := decide (k ≤ 3 ∧ (p = 0 ∨ (k ≠ 0 ∧ p ≤ 4)))
theorem known_any (k p : Int) (w : World) (h0 : 0 ≤ k) (p0 : 0 ≤ p) :
    Calls Try.prog 13 #[.int .u8 k, .int .u8 p] w fun e w' => e = .returned (.bool (knownB k p)) ∧ w' = w := by
  have hc : (¬ k ≤ 3) ∨ (k ≤ 3 ∧ p = 0) ∨ (k ≤ 3 ∧ p ≠ 0 ∧ k = 0) ∨ (k ≤ 3 ∧ p ≠ 0 ∧ k ≠ 0 ∧ p ≤ 4) ∨ (k ≤ 3 ∧ p ≠ 0 ∧ k ≠ 0 ∧ ¬ p ≤ 4) := by omega
  rcases hc with h | ⟨h1, h2⟩ | ⟨h1, h2, h3⟩ | ⟨h1, h2, h3, h4⟩ | ⟨h1, h2, h3, h4⟩
  · have e : knownB k p = false := by unfold knownB; rw [decide_eq_false (by omega)]
    rw [e]; clear e
    go_enter Try.func13, Try.ntmps13
    go_wp2
    go_ret
    exact ⟨rfl, rfl⟩
  · subst h2
    have e : knownB k 0 = true := by unfold knownB; rw [decide_eq_true (by omega)]
    rw [e]; clear e
    go_enter Try.func13, Try.ntmps13
    go_wp2
    go_ret
    exact ⟨rfl, rfl⟩
  · subst h3
    have e : knownB 0 p = false := by unfold knownB; rw [decide_eq_false (by omega)]
    have e2 : (p == 0) = false := by simpa using h2
    rw [e]; clear e h2
    go_enter Try.func13, Try.ntmps13
    go_wp2
    go_ret
    exact ⟨rfl, rfl⟩
  · have e : knownB k p = true := by unfold knownB; rw [decide_eq_true (by omega)]
    have e2 : (p == 0) = false := by simpa using h2
    have e3 : (k != 0) = true := by simpa using h3
    rw [e]; clear e h2 h3
    go_enter Try.func13, Try.ntmps13
    go_wp2
    go_ret
    exact ⟨rfl, rfl⟩
  · have e : knownB k p = false := by unfold knownB; rw [decide_eq_false (by omega)]
    have e2 : (p == 0) = false := by simpa using h2
    have e3 : (k != 0) = true := by simpa using h3
    rw [e]; clear e h2 h3
    go_enter Try.func13, Try.ntmps13
    go_wp2
    go_ret
    exact ⟨rfl, rfl⟩
theorem rknown_any (k p : Int) (w : World) (h0 : 0 ≤ k) (p0 : 0 ≤ p) :
    Calls Try.prog 14 #[.int .i64 k, .int .i64 p] w fun e w' => e = .returned (.bool (knownB k p)) ∧ w' = w := by
  have hc : (¬ k ≤ 3) ∨ (k ≤ 3 ∧ p = 0) ∨ (k ≤ 3 ∧ p ≠ 0 ∧ k = 0) ∨ (k ≤ 3 ∧ p ≠ 0 ∧ k ≠ 0 ∧ p ≤ 4) ∨ (k ≤ 3 ∧ p ≠ 0 ∧ k ≠ 0 ∧ ¬ p ≤ 4) := by omega
  rcases hc with h | ⟨h1, h2⟩ | ⟨h1, h2, h3⟩ | ⟨h1, h2, h3, h4⟩ | ⟨h1, h2, h3, h4⟩
  · have e : knownB k p = false := by unfold knownB; rw [decide_eq_false (by omega)]
    rw [e]; clear e
    have e1 : 3 < k := by omega
    go_enter Try.func14, Try.ntmps14
    go_wp2
    go_ret
    exact ⟨rfl, rfl⟩
  · subst h2
    have e : knownB k 0 = true := by unfold knownB; rw [decide_eq_true (by omega)]
    rw [e]; clear e
    have e1 : ¬ 3 < k := by omega
    go_enter Try.func14, Try.ntmps14
    go_wp2
    go_ret
    exact ⟨rfl, rfl⟩
  · subst h3
    have e : knownB 0 p = false := by unfold knownB; rw [decide_eq_false (by omega)]
    have e2 : (p == 0) = false := by simpa using h2
    rw [e]; clear e h2
    go_enter Try.func14, Try.ntmps14
    go_wp2
    go_ret
    exact ⟨rfl, rfl⟩
  · have e : knownB k p = true := by unfold knownB; rw [decide_eq_true (by omega)]
    have e2 : (p == 0) = false := by simpa using h2
    have e3 : (k != 0) = true := by simpa using h3
    have e1 : ¬ 3 < k := by omega
    rw [e]; clear e h2 h3
    go_enter Try.func14, Try.ntmps14
    go_wp2
    go_ret
    exact ⟨rfl, rfl⟩
  · have e : knownB k p = false := by unfold knownB; rw [decide_eq_false (by omega)]
    have e2 : (p == 0) = false := by simpa using h2
    have e3 : (k != 0) = true := by simpa using h3
    have e1 : ¬ 3 < k := by omega
    rw [e]; clear e h2 h3
    go_enter Try.func14, Try.ntmps14
    go_wp2
    go_ret
    exact ⟨rfl, rfl⟩

/-- Not looked at. -/
def passB (k a r : Int) : Bool := decide (a = 65535 ∧ (k ≠ 3 ∨ r = 4294967295))
theorem passed_any (k g a r : Int) (w : World) :
    Calls Try.prog 25 #[.int .u8 k, .agg #[.int .u16 g, .int .u16 a, .int .u32 r]] w fun e w' => e = .returned (.bool (passB k a r)) ∧ Below w.heap.size w w' := by
  by_cases h1 : a = 65535
  · subst h1
    by_cases h2 : k = 3
    · subst h2
      by_cases h3 : r = 4294967295
      · subst h3
        go_enter Try.func25, Try.ntmps25
        go_wp2
        go_ret
        exact ⟨rfl, (Below.refl _ _).alloc (Nat.le_refl _) _⟩
      · have e : passB 3 65535 r = false := by unfold passB; rw [decide_eq_false (by omega)]
        have e1 : (r == 4294967295) = false := by simpa using h3
        rw [e]; clear e h3
        go_enter Try.func25, Try.ntmps25
        go_wp2
        go_ret
        exact ⟨rfl, (Below.refl _ _).alloc (Nat.le_refl _) _⟩
    · have e : passB k 65535 r = true := by unfold passB; rw [decide_eq_true (by omega)]
      have e1 : (k != 3) = true := by simpa using h2
      rw [e]; clear e h2
      go_enter Try.func25, Try.ntmps25
      go_wp2
      go_ret
      exact ⟨rfl, (Below.refl _ _).alloc (Nat.le_refl _) _⟩
  · have e : passB k a r = false := by unfold passB; rw [decide_eq_false (by omega)]
    have e1 : (a == 65535) = false := by simpa using h1
    rw [e]; clear e h1
    go_enter Try.func25, Try.ntmps25
    go_wp2
    go_ret
    exact ⟨rfl, (Below.refl _ _).alloc (Nat.le_refl _) _⟩
end Go.Proofs.Ytcnjnebhidfogaa
