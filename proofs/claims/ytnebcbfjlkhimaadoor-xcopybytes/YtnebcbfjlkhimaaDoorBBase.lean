/-
  Contracts of the small functions that look whether a number's bytes are there, and of Get.
-/
import Derived.Test.YtnebcbfjlkhimaaDoorRows
import Derived.WalkKit
import Derived.Below
namespace Go.Proofs.YtnebcbfjlkhimaaDoor.B
open Go.RowKit

def widB (n : Int) : Bool := decide (1 ≤ n ∧ n ≤ 8)
def insB (len : Nat) (at' n : Int) : Bool := decide (0 ≤ at' ∧ at' ≤ (len : Int) - n)

theorem ret_bool {a b : Bool} (h : a = b) : Ending.returned (.bool a) = .returned (.bool b) := by rw [h]

theorem width_any (n : Int) (w : World) :
    Calls Tryd.prog 43 #[.int .i64 n] w fun e w' => e = .returned (.bool (widB n)) ∧ w' = w := by
  by_cases h1 : 1 ≤ n
  · by_cases h2 : n ≤ 8
    · go_enter Tryd.func43, Tryd.ntmps43
      go_wp2
      go_ret
      exact ⟨ret_bool (by simp [widB, h1, h2]), rfl⟩
    · go_enter Tryd.func43, Tryd.ntmps43
      go_wp2
      go_ret
      exact ⟨ret_bool (by simp [widB, h1, h2]), rfl⟩
  · go_enter Tryd.func43, Tryd.ntmps43
    go_wp2
    go_ret
    exact ⟨ret_bool (by simp [widB]; omega), rfl⟩

theorem inside_any (a : Option Addr) (len cap : Nat) (i n : Int) (w : World) (hl : len ≤ maxLen) (hn1 : 1 ≤ n) (hn2 : n ≤ 8) :
    Calls Tryd.prog 44 #[.slice a len cap, .int .i64 i, .int .i64 n] w fun e w' => e = .returned (.bool (insB len i n)) ∧ w' = w := by
  unfold maxLen at hl
  by_cases h1 : 0 ≤ i
  · by_cases h2 : i ≤ (len : Int) - n
    · go_enter Tryd.func44, Tryd.ntmps44
      go_wp2
      go_ret
      exact ⟨ret_bool (by simp [insB, h1, h2]), rfl⟩
    · go_enter Tryd.func44, Tryd.ntmps44
      go_wp2
      go_ret
      exact ⟨ret_bool (by simp [insB, h1, h2]), rfl⟩
  · go_enter Tryd.func44, Tryd.ntmps44
    go_wp2
    go_ret
    exact ⟨ret_bool (by simp [insB]; omega), rfl⟩

theorem field_arg (len : Nat) (i n : Int) (w : World) (h : n < 1 ∨ 8 < n) :
    Calls Tryd.prog 41 #[.int .i64 len, .int .i64 i, .int .i64 n] w fun e w' => e = .returned (.int .i64 1) ∧ w' = w := by
  by_cases h1 : n < 1
  · go_enter Tryd.func41, Tryd.ntmps41
    go_wp2
    go_ret
    exact ⟨rfl, rfl⟩
  · have h2 : 8 < n := by omega
    clear h
    go_enter Tryd.func41, Tryd.ntmps41
    go_wp2
    go_ret
    exact ⟨rfl, rfl⟩

theorem field_ok (len : Nat) (i n : Int) (w : World) (hl : len ≤ maxLen) (hn1 : 1 ≤ n) (hn2 : n ≤ 8) (h0 : 0 ≤ i) (h1 : i ≤ (len : Int) - n) :
    Calls Tryd.prog 41 #[.int .i64 len, .int .i64 i, .int .i64 n] w fun e w' => e = .returned (.int .i64 0) ∧ w' = w := by
  unfold maxLen at hl
  have h2 : i < len := by omega
  have h3 : ¬ (len : Int) ≤ i := by omega
  have h4 : ¬ (len : Int) - i < n := by omega
  go_enter Tryd.func41, Tryd.ntmps41
  go_wp2
  go_ret
  exact ⟨rfl, rfl⟩

theorem field_range (len : Nat) (i n : Int) (w : World) (_hl : len ≤ maxLen) (hn1 : 1 ≤ n) (hn2 : n ≤ 8) (h : ¬ (0 ≤ i ∧ i ≤ (len : Int) - n)) :
    Calls Tryd.prog 41 #[.int .i64 len, .int .i64 i, .int .i64 n] w fun e w' => e = .returned (.int .i64 4) ∧ w' = w := by
  unfold maxLen at _hl
  by_cases h0 : i < 0
  · clear h
    go_enter Tryd.func41, Tryd.ntmps41
    go_wp2
    go_ret
    exact ⟨rfl, rfl⟩
  · by_cases h2 : (len : Int) ≤ i
    · clear h
      go_enter Tryd.func41, Tryd.ntmps41
      go_wp2
      go_ret
      exact ⟨rfl, rfl⟩
    · have h4 : (len : Int) - i < n := by omega
      clear h
      go_enter Tryd.func41, Tryd.ntmps41
      go_wp2
      go_ret
      exact ⟨rfl, rfl⟩

end Go.Proofs.YtnebcbfjlkhimaaDoor.B
