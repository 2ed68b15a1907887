/-
  Contracts of the program's two steps: a byte's eight bits.
-/
import Derived.Test.YtcnjnebhidfogaaRows
import Derived.Test.YtcnjnebhidfogaaGNum
import Derived.WalkKit
import Derived.Below
import Derived.OpenShut
import Derived.Outline
namespace Go.Proofs.Ytcnjnebhidfogaa
open Go.RowKit
set_option linter.unusedVariables false

theorem ret_int {k : IntKind} {a b : Int} (h : a = b) : Ending.returned (.int k a) = .returned (.int k b) := by rw [h]

theorem step16_any (r : Nat) (w : World) (hr : r < 65536) :
    Calls Try.prog 33 #[.int .u16 (r : Int)] w fun e w' => e = .returned (.int .u16 (it16 8 r : Int)) ∧ w' = w := by
  go_enter Try.func33, Try.ntmps33
  go_wp2
  go_loop [0, 4] (fun x t => ∃ k : Nat, k ≤ 8 ∧ x = .int .u16 (it16 k r : Int) ∧ t = .int .i64 k) (fun _ t => 8 - (intOf t).toNat)
  case atStart => exact ⟨0, by omega, rfl, rfl⟩
  case round =>
    obtain ⟨k, hk, rfl, rfl⟩ := hrel
    have hR := it16_lt k r hr
    obtain ⟨R, hRe⟩ : ∃ R, R = it16 k r := ⟨_, rfl⟩
    have HR : Hid (R = it16 k r) := hRe
    rw [← hRe]
    rw [← hRe] at hR
    clear hRe
    by_cases hlt : k < 8
    · go_wp2
      · have ht : ((R : Int) / 32768 == 1) = true := by assumption
        go_round
        case rel => exact ⟨k + 1, by omega, by rw [w16_yes R ht, it16, ← HR.out], by go_num⟩
        case measure => simp [intOf]; omega
      · have ht : ((R : Int) / 32768 == 1) = false := by assumption
        go_round
        case rel => exact ⟨k + 1, by omega, by rw [w16_no R ht, it16, ← HR.out], by go_num⟩
        case measure => simp [intOf]; omega
    · obtain rfl : k = 8 := by omega
      go_wp2
      go_ret
      exact ⟨ret_int (by rw [HR.out]), rfl⟩

end Go.Proofs.Ytcnjnebhidfogaa
