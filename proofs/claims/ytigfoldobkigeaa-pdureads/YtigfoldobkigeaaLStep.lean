/-
  Contracts of the program's two steps: a byte's eight bits.
-/
import Derived.Test.YtigfoldobkigeaaRows
import Derived.Test.YtigfoldobkigeaaLNum
import Derived.WalkKit
import Derived.Below
import Derived.OpenShut
import Derived.Outline
namespace Go.Proofs.Ytigfoldobkigeaa
open Go.RowKit
set_option linter.unusedVariables false

theorem ret_int {k : IntKind} {a b : Int} (h : a = b) : Ending.returned (.int k a) = .returned (.int k b) := by rw [h]

theorem step32_any (r : Nat) (w : World) (hr : r < 4294967296) :
    Calls Try.prog 46 #[.int .u32 (r : Int)] w fun e w' => e = .returned (.int .u32 (it32 8 r : Int)) ∧ w' = w := by
  go_enter Try.func46, Try.ntmps46
  go_wp2
  go_loop [0, 4] (fun x t => ∃ k : Nat, k ≤ 8 ∧ x = .int .u32 (it32 k r : Int) ∧ t = .int .i64 k) (fun _ t => 8 - (intOf t).toNat)
  case atStart => exact ⟨0, by omega, rfl, rfl⟩
  case round =>
    obtain ⟨k, hk, rfl, rfl⟩ := hrel
    have hR := it32_lt k r hr
    obtain ⟨R, hRe⟩ : ∃ R, R = it32 k r := ⟨_, rfl⟩
    have HR : Hid (R = it32 k r) := hRe
    rw [← hRe]
    rw [← hRe] at hR
    clear hRe
    by_cases hlt : k < 8
    · go_wp2
      · have ht : (bits BinOp.and IntKind.u32 (R : Int) 1 == 1) = true := by assumption
        go_round
        case rel => exact ⟨k + 1, by omega, by rw [w32_yes R hR ht, it32, ← HR.out], by go_num⟩
        case measure => simp [intOf]; omega
      · have ht : (bits BinOp.and IntKind.u32 (R : Int) 1 == 1) = false := by assumption
        go_round
        case rel => exact ⟨k + 1, by omega, by rw [w32_no R hR ht, it32, ← HR.out], by go_num⟩
        case measure => simp [intOf]; omega
    · obtain rfl : k = 8 := by omega
      go_wp2
      go_ret
      exact ⟨ret_int (by rw [HR.out]), rfl⟩

end Go.Proofs.Ytigfoldobkigeaa
