/-
  The look whether the program is awake: the sums of nine digits.
-/
import Derived.Test.YteegienlkffejabAdd
import Derived.Lib.SlBytesConst
namespace Go.Proofs.Yteegienlkffejab
open Go.RowKit
set_option linter.unusedVariables false

theorem digits_bytes : Bytes digits := by
  intro j
  rw [List.getD_eq_getElem?_getD]
  by_cases h : j < 9
  · have hj : j = 0 ∨ j = 1 ∨ j = 2 ∨ j = 3 ∨ j = 4 ∨ j = 5 ∨ j = 6 ∨ j = 7 ∨ j = 8 := by omega
    rcases hj with rfl | rfl | rfl | rfl | rfl | rfl | rfl | rfl | rfl <;> decide
  · rw [List.getElem?_eq_none (by show 9 ≤ j; omega)]; decide

theorem digits_row (w : World) (fr : Nat × Nat) :
    RowAt (w.alloc (.cells #[.int .u8 49, .int .u8 50, .int .u8 51, .int .u8 52, .int .u8 53, .int .u8 54, .int .u8 55, .int .u8 56, .int .u8 57] 5 fr)) (some ⟨w.heap.size, 0, none⟩) 9 digits := by
  refine .inr ⟨w.heap.size, 0, rfl, fun j hj => ?_⟩
  rw [Nat.zero_add, World.cell?_alloc_mark]
  have hj : j = 0 ∨ j = 1 ∨ j = 2 ∨ j = 3 ∨ j = 4 ∨ j = 5 ∨ j = 6 ∨ j = 7 ∨ j = 8 := by omega
  rcases hj with rfl | rfl | rfl | rfl | rfl | rfl | rfl | rfl | rfl <;> rfl

theorem c32_digits (w : World) (fr : Nat × Nat) :
    Calls Try.prog 8 #[.slice (some ⟨w.heap.size, 0, none⟩) 9 9] (w.alloc (.cells #[.int .u8 49, .int .u8 50, .int .u8 51, .int .u8 52, .int .u8 53, .int .u8 54, .int .u8 55, .int .u8 56, .int .u8 57] 5 fr)) fun e w' =>
      e = .returned (.int .u32 3808858755) ∧ (w.alloc (.cells #[.int .u8 49, .int .u8 50, .int .u8 51, .int .u8 52, .int .u8 53, .int .u8 54, .int .u8 55, .int .u8 56, .int .u8 57] 5 fr)) = w' := by
  refine (c32_any _ 9 9 digits _ rfl (by unfold maxLen; omega) digits_bytes (digits_row w fr)).mono ?_
  rintro e w' ⟨rfl, rfl⟩
  exact ⟨by rw [digits32]; rfl, rfl⟩

theorem c16_digits (w : World) (fr : Nat × Nat) :
    Calls Try.prog 10 #[.slice (some ⟨w.heap.size, 0, none⟩) 9 9] (w.alloc (.cells #[.int .u8 49, .int .u8 50, .int .u8 51, .int .u8 52, .int .u8 53, .int .u8 54, .int .u8 55, .int .u8 56, .int .u8 57] 5 fr)) fun e w' =>
      e = .returned (.int .u16 53467) ∧ (w.alloc (.cells #[.int .u8 49, .int .u8 50, .int .u8 51, .int .u8 52, .int .u8 53, .int .u8 54, .int .u8 55, .int .u8 56, .int .u8 57] 5 fr)) = w' := by
  refine (c16_any _ 9 9 digits _ rfl (by unfold maxLen; omega) digits_bytes (digits_row w fr)).mono ?_
  rintro e w' ⟨rfl, rfl⟩
  exact ⟨by rw [digits16]; rfl, rfl⟩

theorem awake_any (w : World) : Calls Try.prog 7 #[] w fun e w' => e = .returned (.bool true) ∧ Below w.heap.size w w' := by
  have kc := fun (w : World) (C : Array Value) (n c : Nat) => Lib.run_convert_bytes_const (P := Try.prog) w 22 5 C n c Try.underlying22 Try.underlying5
  go_enter Try.func7, Try.ntmps7
  go_wp2_with (first | (go_at_call 8; refine (c32_digits _ _).mono ?_; rintro e w' ⟨rfl, rfl⟩) | (go_at_call 10; refine (c16_digits _ _).mono ?_; rintro e w' ⟨rfl, rfl⟩))
  go_ret
  exact ⟨rfl, (Below.refl _ _).alloc (Nat.le_refl _) _⟩

end Go.Proofs.Yteegienlkffejab
