/-
  Contracts of Pad, of the program and of the document's answer.
-/
import Derived.Test.YteegienlkffejaaRows
import Derived.WalkKit
import Derived.Below
namespace Go.Proofs.Yteegienlkffejaa
open Go.RowKit

/-- How many bytes lack to a multiple of four. -/
def padOf (n : Int) : Int := if n < 0 then 0 else (4 - n % 4) % 4

theorem ret_int {k : IntKind} {a b : Int} (h : a = b) : Ending.returned (.int k a) = .returned (.int k b) := by rw [h]

theorem pad_neg (n : Int) (w : World) (h : n < 0) :
    Calls Try.prog 21 #[.int .i64 n] w fun e w' => e = .returned (.int .i64 (padOf n)) ∧ w' = w := by
  go_enter Try.func21, Try.ntmps21
  go_wp2
  go_ret
  exact ⟨ret_int (by unfold padOf; simp [h]), rfl⟩

theorem pad_pos (n : Int) (w : World) (h : 0 ≤ n) :
    Calls Try.prog 21 #[.int .i64 n] w fun e w' => e = .returned (.int .i64 (padOf n)) ∧ w' = w := by
  go_enter Try.func21, Try.ntmps21
  go_wp2
  go_ret
  exact ⟨ret_int (by unfold padOf; rw [if_neg (by omega)]), rfl⟩

theorem rpad_neg (n : Int) (w : World) (h : n < 0) :
    Calls Try.prog 22 #[.int .i64 n] w fun e w' => e = .returned (.int .i64 (padOf n)) ∧ w' = w := by
  go_enter Try.func22, Try.ntmps22
  go_wp2
  go_ret
  exact ⟨ret_int (by unfold padOf; simp [h]), rfl⟩

theorem rpad_pos (n : Int) (w : World) (h : 0 ≤ n) :
    Calls Try.prog 22 #[.int .i64 n] w fun e w' => e = .returned (.int .i64 (padOf n)) ∧ w' = w := by
  go_enter Try.func22, Try.ntmps22
  go_wp2
  go_loop [3] (fun t => ∃ k : Nat, (k : Int) ≤ padOf n ∧ t = .int .i64 k) (fun t => 4 - (intOf t).toNat)
  case atStart => exact ⟨0, by unfold padOf; rw [if_neg (by omega)]; omega, rfl⟩
  case round =>
    obtain ⟨k, hk, rfl⟩ := hrel
    have hp : padOf n = (4 - n % 4) % 4 := by unfold padOf; rw [if_neg (by omega)]
    by_cases hlt : (k : Int) < padOf n
    · have h1 : (k : Int) < 4 := by omega
      have h2 : ((n % 4 + k) % 4 == 0) = false := by simp; omega
      go_wp2
      go_round
      case rel => exact ⟨k + 1, by omega, by go_num⟩
      case measure => simp [intOf]; omega
    · have h1 : (k : Int) < 4 := by omega
      have h2 : ((n % 4 + k) % 4 == 0) = true := by simp; omega
      have HP : Hid (padOf n = k) := by unfold Hid; omega
      clear hp hk hlt
      go_wp2
      go_ret
      exact ⟨ret_int HP.out.symm, rfl⟩

end Go.Proofs.Yteegienlkffejaa
