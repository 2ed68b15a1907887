/-
  ModeBack: what is brought back.
-/
import Derived.Test.YtdojhgapdocngaaMKeepB
namespace Go.Proofs.Ytdojhgapdocngaa
open Go.RowKit
set_option linter.unusedVariables false
set_option linter.unusedSimpArgs false

/-- What was told, with its first two bytes 0. -/
def backL (v : Vs) (lg : Bool) : List Int := ((senL lg 63 0 v v).set 0 0).set 1 0
theorem back_read : ∀ a b c a' b' c' lg : Bool, readL ⟨a', b', c'⟩ lg (backL ⟨a, b, c⟩ lg) = (⟨a, b, c⟩, none) := by
  intro a b c a' b' c' lg
  cases a <;> cases b <;> cases c <;> cases a' <;> cases b' <;> cases c' <;> cases lg <;> rfl
theorem back_len (v : Vs) (lg : Bool) : (backL v lg).length = if lg then 40 else 36 := by cases lg <;> rfl
theorem back_bytes (v : Vs) (lg : Bool) (j : Nat) : 0 ≤ (backL v lg).getD j 0 ∧ (backL v lg).getD j 0 ≤ 255 := by
  by_cases hj : j < 40
  · have key : ∀ a b c lg : Bool, ∀ j : Fin 40, 0 ≤ (backL ⟨a, b, c⟩ lg).getD j.val 0 ∧ (backL ⟨a, b, c⟩ lg).getD j.val 0 ≤ 255 := by decide +kernel
    obtain ⟨a, b, c⟩ := v
    exact key a b c lg ⟨j, hj⟩
  · rw [List.getD_eq_getElem?_getD, List.getElem?_eq_none (by rw [back_len]; cases lg <;> simp <;> omega)]; simp
end Go.Proofs.Ytdojhgapdocngaa
