/-
  Contracts of the small functions that look whether a number's bytes are there, and of Get.
-/
import Derived.Test.YtdplndlmdhpfaabRows
import Derived.WalkKit
import Derived.Below
namespace Go.Proofs.Ytdplndlmdhpfaab.B
open Go.RowKit

def widB (n : Int) : Bool := decide (1 ≤ n ∧ n ≤ 8)
def insB (len : Nat) (at' n : Int) : Bool := decide (0 ≤ at' ∧ at' ≤ (len : Int) - n)

theorem ret_bool {a b : Bool} (h : a = b) : Ending.returned (.bool a) = .returned (.bool b) := by rw [h]

theorem width_any (n : Int) (w : World) :
    Calls Try.prog 98 #[.int .i64 n] w fun e w' => e = .returned (.bool (widB n)) ∧ w' = w := by
  by_cases h1 : 1 ≤ n
  · by_cases h2 : n ≤ 8
    · go_enter Try.func98, Try.ntmps98
      go_wp2
      go_ret
      exact ⟨ret_bool (by simp [widB, h1, h2]), rfl⟩
    · go_enter Try.func98, Try.ntmps98
      go_wp2
      go_ret
      exact ⟨ret_bool (by simp [widB, h1, h2]), rfl⟩
  · go_enter Try.func98, Try.ntmps98
    go_wp2
    go_ret
    exact ⟨ret_bool (by simp [widB]; omega), rfl⟩

theorem inside_any (a : Option Addr) (len cap : Nat) (i n : Int) (w : World) (hl : len ≤ maxLen) (hn1 : 1 ≤ n) (hn2 : n ≤ 8) :
    Calls Try.prog 99 #[.slice a len cap, .int .i64 i, .int .i64 n] w fun e w' => e = .returned (.bool (insB len i n)) ∧ w' = w := by
  unfold maxLen at hl
  by_cases h1 : 0 ≤ i
  · by_cases h2 : i ≤ (len : Int) - n
    · go_enter Try.func99, Try.ntmps99
      go_wp2
      go_ret
      exact ⟨ret_bool (by simp [insB, h1, h2]), rfl⟩
    · go_enter Try.func99, Try.ntmps99
      go_wp2
      go_ret
      exact ⟨ret_bool (by simp [insB, h1, h2]), rfl⟩
  · go_enter Try.func99, Try.ntmps99
    go_wp2
    go_ret
    exact ⟨ret_bool (by simp [insB]; omega), rfl⟩
end Go.Proofs.Ytdplndlmdhpfaab.B
