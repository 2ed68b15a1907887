/-
  Contracts of the small functions that look whether a number's bytes are there, and of Get.
-/
import Derived.Test.YtigfoldobkigeaaRows
import Derived.WalkKit
import Derived.Below
namespace Go.Proofs.Ytigfoldobkigeaa.B
open Go.RowKit

def widB (n : Int) : Bool := decide (1 ≤ n ∧ n ≤ 8)
def insB (len : Nat) (at' n : Int) : Bool := decide (0 ≤ at' ∧ at' ≤ (len : Int) - n)

theorem ret_bool {a b : Bool} (h : a = b) : Ending.returned (.bool a) = .returned (.bool b) := by rw [h]

theorem width_any (n : Int) (w : World) :
    Calls Try.prog 44 #[.int .i64 n] w fun e w' => e = .returned (.bool (widB n)) ∧ w' = w := by
  by_cases h1 : 1 ≤ n
  · by_cases h2 : n ≤ 8
    · go_enter Try.func44, Try.ntmps44
      go_wp2
      go_ret
      exact ⟨ret_bool (by simp [widB, h1, h2]), rfl⟩
    · go_enter Try.func44, Try.ntmps44
      go_wp2
      go_ret
      exact ⟨ret_bool (by simp [widB, h1, h2]), rfl⟩
  · go_enter Try.func44, Try.ntmps44
    go_wp2
    go_ret
    exact ⟨ret_bool (by simp [widB]; omega), rfl⟩

theorem inside_any (a : Option Addr) (len cap : Nat) (i n : Int) (w : World) (hl : len ≤ maxLen) (hn1 : 1 ≤ n) (hn2 : n ≤ 8) :
    Calls Try.prog 45 #[.slice a len cap, .int .i64 i, .int .i64 n] w fun e w' => e = .returned (.bool (insB len i n)) ∧ w' = w := by
  unfold maxLen at hl
  by_cases h1 : 0 ≤ i
  · by_cases h2 : i ≤ (len : Int) - n
    · go_enter Try.func45, Try.ntmps45
      go_wp2
      go_ret
      exact ⟨ret_bool (by simp [insB, h1, h2]), rfl⟩
    · go_enter Try.func45, Try.ntmps45
      go_wp2
      go_ret
      exact ⟨ret_bool (by simp [insB, h1, h2]), rfl⟩
  · go_enter Try.func45, Try.ntmps45
    go_wp2
    go_ret
    exact ⟨ret_bool (by simp [insB]; omega), rfl⟩

theorem field_arg (len : Nat) (i n : Int) (w : World) (h : n < 1 ∨ 8 < n) :
    Calls Try.prog 43 #[.int .i64 len, .int .i64 i, .int .i64 n] w fun e w' => e = .returned (.int .i64 1) ∧ w' = w := by
  by_cases h1 : n < 1
  · go_enter Try.func43, Try.ntmps43
    go_wp2
    go_ret
    exact ⟨rfl, rfl⟩
  · have h2 : 8 < n := by omega
    clear h
    go_enter Try.func43, Try.ntmps43
    go_wp2
    go_ret
    exact ⟨rfl, rfl⟩

theorem field_ok (len : Nat) (i n : Int) (w : World) (hl : len ≤ maxLen) (hn1 : 1 ≤ n) (hn2 : n ≤ 8) (h0 : 0 ≤ i) (h1 : i ≤ (len : Int) - n) :
    Calls Try.prog 43 #[.int .i64 len, .int .i64 i, .int .i64 n] w fun e w' => e = .returned (.int .i64 0) ∧ w' = w := by
  unfold maxLen at hl
  have h2 : i < len := by omega
  have h3 : ¬ (len : Int) ≤ i := by omega
  have h4 : ¬ (len : Int) - i < n := by omega
  go_enter Try.func43, Try.ntmps43
  go_wp2
  go_ret
  exact ⟨rfl, rfl⟩

theorem field_range (len : Nat) (i n : Int) (w : World) (_hl : len ≤ maxLen) (hn1 : 1 ≤ n) (hn2 : n ≤ 8) (h : ¬ (0 ≤ i ∧ i ≤ (len : Int) - n)) :
    Calls Try.prog 43 #[.int .i64 len, .int .i64 i, .int .i64 n] w fun e w' => e = .returned (.int .i64 4) ∧ w' = w := by
  unfold maxLen at _hl
  by_cases h0 : i < 0
  · clear h
    go_enter Try.func43, Try.ntmps43
    go_wp2
    go_ret
    exact ⟨rfl, rfl⟩
  · by_cases h2 : (len : Int) ≤ i
    · clear h
      go_enter Try.func43, Try.ntmps43
      go_wp2
      go_ret
      exact ⟨rfl, rfl⟩
    · have h4 : (len : Int) - i < n := by omega
      clear h
      go_enter Try.func43, Try.ntmps43
      go_wp2
      go_ret
      exact ⟨rfl, rfl⟩

end Go.Proofs.Ytigfoldobkigeaa.B
