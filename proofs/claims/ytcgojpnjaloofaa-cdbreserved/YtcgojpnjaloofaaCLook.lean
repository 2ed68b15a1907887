/-
  The contracts of looked and kind.
-/
import Derived.Test.YtcgojpnjaloofaaCSmall
namespace Go.Proofs.Ytcgojpnjaloofaa
open Go.RowKit
set_option linter.unusedVariables false
set_option linter.unusedSimpArgs false

theorem blocks10_any (op f : Int) (w : World) : Calls Try.prog 38 #[.int .u8 op, .int .u8 f] w fun e w' => e = .returned (.slice (some ⟨w.heap.size, 0, none⟩) 10 10) ∧ w' = w.alloc (.cells (cels [op, f, 255, 255, 255, 255, 0, 255, 255, 0]).toArray 5) := by
  go_enter Try.func38, Try.ntmps38
  go_wp2
  go_ret
  exact ⟨rfl, rfl⟩
theorem alloc10_any (op f s : Int) (w : World) : Calls Try.prog 39 #[.int .u8 op, .int .u8 f, .int .u8 s] w fun e w' => e = .returned (.slice (some ⟨w.heap.size, 0, none⟩) 10 10) ∧ w' = w.alloc (.cells (cels [op, f, s, 0, 0, 0, 0, 255, 255, 0]).toArray 5) := by
  go_enter Try.func39, Try.ntmps39
  go_wp2
  go_ret
  exact ⟨rfl, rfl⟩
theorem blocks16_any (op f : Int) (w : World) : Calls Try.prog 40 #[.int .u8 op, .int .u8 f] w fun e w' => e = .returned (.slice (some ⟨w.heap.size, 0, none⟩) 16 16) ∧ w' = w.alloc (.cells (cels [op, f, 255, 255, 255, 255, 255, 255, 255, 255, 255, 255, 255, 255, 0, 0]).toArray 5) := by
  go_enter Try.func40, Try.ntmps40
  go_wp2
  go_ret
  exact ⟨rfl, rfl⟩

set_option maxRecDepth 100000 in
theorem looked_0 (w : World) : Calls Try.prog 25 #[.int .u8 0] w fun e w' => e = .returned (.slice (some ⟨w.heap.size, 0, none⟩) 6 6) ∧ w' = w.alloc (.cells (cels [0, 0, 0, 0, 0, 0]).toArray 5) := by
  go_enter Try.func25, Try.ntmps25
  go_wp2_with (first | (go_at_call 38; refine (blocks10_any _ _ _).mono ?_; rintro e w' ⟨rfl, rfl⟩) | (go_at_call 39; refine (alloc10_any _ _ _ _).mono ?_; rintro e w' ⟨rfl, rfl⟩) | (go_at_call 40; refine (blocks16_any _ _ _).mono ?_; rintro e w' ⟨rfl, rfl⟩))
  go_ret
  exact ⟨rfl, rfl⟩
theorem kind_0 (w : World) : Calls Try.prog 30 #[.int .u8 0] w fun e w' => e = .returned (.int .u8 1) ∧ w' = w := by
  go_enter Try.func30, Try.ntmps30
  go_wp2
  go_ret
  exact ⟨rfl, rfl⟩

set_option maxRecDepth 100000 in
theorem looked_3 (w : World) : Calls Try.prog 25 #[.int .u8 3] w fun e w' => e = .returned (.slice (some ⟨w.heap.size, 0, none⟩) 6 6) ∧ w' = w.alloc (.cells (cels [3, 1, 0, 0, 255, 0]).toArray 5) := by
  go_enter Try.func25, Try.ntmps25
  go_wp2_with (first | (go_at_call 38; refine (blocks10_any _ _ _).mono ?_; rintro e w' ⟨rfl, rfl⟩) | (go_at_call 39; refine (alloc10_any _ _ _ _).mono ?_; rintro e w' ⟨rfl, rfl⟩) | (go_at_call 40; refine (blocks16_any _ _ _).mono ?_; rintro e w' ⟨rfl, rfl⟩))
  go_ret
  exact ⟨rfl, rfl⟩
theorem kind_3 (w : World) : Calls Try.prog 30 #[.int .u8 3] w fun e w' => e = .returned (.int .u8 2) ∧ w' = w := by
  go_enter Try.func30, Try.ntmps30
  go_wp2
  go_ret
  exact ⟨rfl, rfl⟩

set_option maxRecDepth 100000 in
theorem looked_8 (w : World) : Calls Try.prog 25 #[.int .u8 8] w fun e w' => e = .returned (.slice (some ⟨w.heap.size, 0, none⟩) 6 6) ∧ w' = w.alloc (.cells (cels [8, 31, 255, 255, 255, 0]).toArray 5) := by
  go_enter Try.func25, Try.ntmps25
  go_wp2_with (first | (go_at_call 38; refine (blocks10_any _ _ _).mono ?_; rintro e w' ⟨rfl, rfl⟩) | (go_at_call 39; refine (alloc10_any _ _ _ _).mono ?_; rintro e w' ⟨rfl, rfl⟩) | (go_at_call 40; refine (blocks16_any _ _ _).mono ?_; rintro e w' ⟨rfl, rfl⟩))
  go_ret
  exact ⟨rfl, rfl⟩
theorem kind_8 (w : World) : Calls Try.prog 30 #[.int .u8 8] w fun e w' => e = .returned (.int .u8 7) ∧ w' = w := by
  go_enter Try.func30, Try.ntmps30
  go_wp2
  go_ret
  exact ⟨rfl, rfl⟩

set_option maxRecDepth 100000 in
theorem looked_10 (w : World) : Calls Try.prog 25 #[.int .u8 10] w fun e w' => e = .returned (.slice (some ⟨w.heap.size, 0, none⟩) 6 6) ∧ w' = w.alloc (.cells (cels [10, 31, 255, 255, 255, 0]).toArray 5) := by
  go_enter Try.func25, Try.ntmps25
  go_wp2_with (first | (go_at_call 38; refine (blocks10_any _ _ _).mono ?_; rintro e w' ⟨rfl, rfl⟩) | (go_at_call 39; refine (alloc10_any _ _ _ _).mono ?_; rintro e w' ⟨rfl, rfl⟩) | (go_at_call 40; refine (blocks16_any _ _ _).mono ?_; rintro e w' ⟨rfl, rfl⟩))
  go_ret
  exact ⟨rfl, rfl⟩
theorem kind_10 (w : World) : Calls Try.prog 30 #[.int .u8 10] w fun e w' => e = .returned (.int .u8 8) ∧ w' = w := by
  go_enter Try.func30, Try.ntmps30
  go_wp2
  go_ret
  exact ⟨rfl, rfl⟩

set_option maxRecDepth 100000 in
theorem looked_18 (w : World) : Calls Try.prog 25 #[.int .u8 18] w fun e w' => e = .returned (.slice (some ⟨w.heap.size, 0, none⟩) 6 6) ∧ w' = w.alloc (.cells (cels [18, 1, 255, 255, 255, 0]).toArray 5) := by
  go_enter Try.func25, Try.ntmps25
  go_wp2_with (first | (go_at_call 38; refine (blocks10_any _ _ _).mono ?_; rintro e w' ⟨rfl, rfl⟩) | (go_at_call 39; refine (alloc10_any _ _ _ _).mono ?_; rintro e w' ⟨rfl, rfl⟩) | (go_at_call 40; refine (blocks16_any _ _ _).mono ?_; rintro e w' ⟨rfl, rfl⟩))
  go_ret
  exact ⟨rfl, rfl⟩
theorem kind_18 (w : World) : Calls Try.prog 30 #[.int .u8 18] w fun e w' => e = .returned (.int .u8 3) ∧ w' = w := by
  go_enter Try.func30, Try.ntmps30
  go_wp2
  go_ret
  exact ⟨rfl, rfl⟩

set_option maxRecDepth 100000 in
theorem looked_21 (w : World) : Calls Try.prog 25 #[.int .u8 21] w fun e w' => e = .returned (.slice (some ⟨w.heap.size, 0, none⟩) 6 6) ∧ w' = w.alloc (.cells (cels [21, 17, 0, 0, 255, 0]).toArray 5) := by
  go_enter Try.func25, Try.ntmps25
  go_wp2_with (first | (go_at_call 38; refine (blocks10_any _ _ _).mono ?_; rintro e w' ⟨rfl, rfl⟩) | (go_at_call 39; refine (alloc10_any _ _ _ _).mono ?_; rintro e w' ⟨rfl, rfl⟩) | (go_at_call 40; refine (blocks16_any _ _ _).mono ?_; rintro e w' ⟨rfl, rfl⟩))
  go_ret
  exact ⟨rfl, rfl⟩
theorem kind_21 (w : World) : Calls Try.prog 30 #[.int .u8 21] w fun e w' => e = .returned (.int .u8 4) ∧ w' = w := by
  go_enter Try.func30, Try.ntmps30
  go_wp2
  go_ret
  exact ⟨rfl, rfl⟩

set_option maxRecDepth 100000 in
theorem looked_26 (w : World) : Calls Try.prog 25 #[.int .u8 26] w fun e w' => e = .returned (.slice (some ⟨w.heap.size, 0, none⟩) 6 6) ∧ w' = w.alloc (.cells (cels [26, 8, 255, 0, 255, 0]).toArray 5) := by
  go_enter Try.func25, Try.ntmps25
  go_wp2_with (first | (go_at_call 38; refine (blocks10_any _ _ _).mono ?_; rintro e w' ⟨rfl, rfl⟩) | (go_at_call 39; refine (alloc10_any _ _ _ _).mono ?_; rintro e w' ⟨rfl, rfl⟩) | (go_at_call 40; refine (blocks16_any _ _ _).mono ?_; rintro e w' ⟨rfl, rfl⟩))
  go_ret
  exact ⟨rfl, rfl⟩
theorem kind_26 (w : World) : Calls Try.prog 30 #[.int .u8 26] w fun e w' => e = .returned (.int .u8 5) ∧ w' = w := by
  go_enter Try.func30, Try.ntmps30
  go_wp2
  go_ret
  exact ⟨rfl, rfl⟩

set_option maxRecDepth 100000 in
theorem looked_37 (w : World) : Calls Try.prog 25 #[.int .u8 37] w fun e w' => e = .returned (.slice (some ⟨w.heap.size, 0, none⟩) 10 10) ∧ w' = w.alloc (.cells (cels [37, 0, 0, 0, 0, 0, 0, 0, 0, 0]).toArray 5) := by
  go_enter Try.func25, Try.ntmps25
  go_wp2_with (first | (go_at_call 38; refine (blocks10_any _ _ _).mono ?_; rintro e w' ⟨rfl, rfl⟩) | (go_at_call 39; refine (alloc10_any _ _ _ _).mono ?_; rintro e w' ⟨rfl, rfl⟩) | (go_at_call 40; refine (blocks16_any _ _ _).mono ?_; rintro e w' ⟨rfl, rfl⟩))
  go_ret
  exact ⟨rfl, rfl⟩
theorem kind_37 (w : World) : Calls Try.prog 30 #[.int .u8 37] w fun e w' => e = .returned (.int .u8 6) ∧ w' = w := by
  go_enter Try.func30, Try.ntmps30
  go_wp2
  go_ret
  exact ⟨rfl, rfl⟩

set_option maxRecDepth 100000 in
theorem looked_40 (w : World) : Calls Try.prog 25 #[.int .u8 40] w fun e w' => e = .returned (.slice (some ⟨w.heap.size, 0, none⟩) 10 10) ∧ w' = w.alloc (.cells (cels [40, 248, 255, 255, 255, 255, 0, 255, 255, 0]).toArray 5) := by
  go_enter Try.func25, Try.ntmps25
  go_wp2_with (first | (go_at_call 38; refine (blocks10_any _ _ _).mono ?_; rintro e w' ⟨rfl, rfl⟩) | (go_at_call 39; refine (alloc10_any _ _ _ _).mono ?_; rintro e w' ⟨rfl, rfl⟩) | (go_at_call 40; refine (blocks16_any _ _ _).mono ?_; rintro e w' ⟨rfl, rfl⟩))
  go_ret
  exact ⟨rfl, rfl⟩
theorem kind_40 (w : World) : Calls Try.prog 30 #[.int .u8 40] w fun e w' => e = .returned (.int .u8 7) ∧ w' = w := by
  go_enter Try.func30, Try.ntmps30
  go_wp2
  go_ret
  exact ⟨rfl, rfl⟩

set_option maxRecDepth 100000 in
theorem looked_42 (w : World) : Calls Try.prog 25 #[.int .u8 42] w fun e w' => e = .returned (.slice (some ⟨w.heap.size, 0, none⟩) 10 10) ∧ w' = w.alloc (.cells (cels [42, 248, 255, 255, 255, 255, 0, 255, 255, 0]).toArray 5) := by
  go_enter Try.func25, Try.ntmps25
  go_wp2_with (first | (go_at_call 38; refine (blocks10_any _ _ _).mono ?_; rintro e w' ⟨rfl, rfl⟩) | (go_at_call 39; refine (alloc10_any _ _ _ _).mono ?_; rintro e w' ⟨rfl, rfl⟩) | (go_at_call 40; refine (blocks16_any _ _ _).mono ?_; rintro e w' ⟨rfl, rfl⟩))
  go_ret
  exact ⟨rfl, rfl⟩
theorem kind_42 (w : World) : Calls Try.prog 30 #[.int .u8 42] w fun e w' => e = .returned (.int .u8 8) ∧ w' = w := by
  go_enter Try.func30, Try.ntmps30
  go_wp2
  go_ret
  exact ⟨rfl, rfl⟩

set_option maxRecDepth 100000 in
theorem looked_46 (w : World) : Calls Try.prog 25 #[.int .u8 46] w fun e w' => e = .returned (.slice (some ⟨w.heap.size, 0, none⟩) 10 10) ∧ w' = w.alloc (.cells (cels [46, 240, 255, 255, 255, 255, 0, 255, 255, 0]).toArray 5) := by
  go_enter Try.func25, Try.ntmps25
  go_wp2_with (first | (go_at_call 38; refine (blocks10_any _ _ _).mono ?_; rintro e w' ⟨rfl, rfl⟩) | (go_at_call 39; refine (alloc10_any _ _ _ _).mono ?_; rintro e w' ⟨rfl, rfl⟩) | (go_at_call 40; refine (blocks16_any _ _ _).mono ?_; rintro e w' ⟨rfl, rfl⟩))
  go_ret
  exact ⟨rfl, rfl⟩
theorem kind_46 (w : World) : Calls Try.prog 30 #[.int .u8 46] w fun e w' => e = .returned (.int .u8 9) ∧ w' = w := by
  go_enter Try.func30, Try.ntmps30
  go_wp2
  go_ret
  exact ⟨rfl, rfl⟩

set_option maxRecDepth 100000 in
theorem looked_47 (w : World) : Calls Try.prog 25 #[.int .u8 47] w fun e w' => e = .returned (.slice (some ⟨w.heap.size, 0, none⟩) 10 10) ∧ w' = w.alloc (.cells (cels [47, 242, 255, 255, 255, 255, 0, 255, 255, 0]).toArray 5) := by
  go_enter Try.func25, Try.ntmps25
  go_wp2_with (first | (go_at_call 38; refine (blocks10_any _ _ _).mono ?_; rintro e w' ⟨rfl, rfl⟩) | (go_at_call 39; refine (alloc10_any _ _ _ _).mono ?_; rintro e w' ⟨rfl, rfl⟩) | (go_at_call 40; refine (blocks16_any _ _ _).mono ?_; rintro e w' ⟨rfl, rfl⟩))
  go_ret
  exact ⟨rfl, rfl⟩
theorem kind_47 (w : World) : Calls Try.prog 30 #[.int .u8 47] w fun e w' => e = .returned (.int .u8 10) ∧ w' = w := by
  go_enter Try.func30, Try.ntmps30
  go_wp2
  go_ret
  exact ⟨rfl, rfl⟩

set_option maxRecDepth 100000 in
theorem looked_53 (w : World) : Calls Try.prog 25 #[.int .u8 53] w fun e w' => e = .returned (.slice (some ⟨w.heap.size, 0, none⟩) 10 10) ∧ w' = w.alloc (.cells (cels [53, 0, 255, 255, 255, 255, 0, 255, 255, 0]).toArray 5) := by
  go_enter Try.func25, Try.ntmps25
  go_wp2_with (first | (go_at_call 38; refine (blocks10_any _ _ _).mono ?_; rintro e w' ⟨rfl, rfl⟩) | (go_at_call 39; refine (alloc10_any _ _ _ _).mono ?_; rintro e w' ⟨rfl, rfl⟩) | (go_at_call 40; refine (blocks16_any _ _ _).mono ?_; rintro e w' ⟨rfl, rfl⟩))
  go_ret
  exact ⟨rfl, rfl⟩
theorem kind_53 (w : World) : Calls Try.prog 30 #[.int .u8 53] w fun e w' => e = .returned (.int .u8 11) ∧ w' = w := by
  go_enter Try.func30, Try.ntmps30
  go_wp2
  go_ret
  exact ⟨rfl, rfl⟩

set_option maxRecDepth 100000 in
theorem looked_65 (w : World) : Calls Try.prog 25 #[.int .u8 65] w fun e w' => e = .returned (.slice (some ⟨w.heap.size, 0, none⟩) 10 10) ∧ w' = w.alloc (.cells (cels [65, 232, 255, 255, 255, 255, 0, 255, 255, 0]).toArray 5) := by
  go_enter Try.func25, Try.ntmps25
  go_wp2_with (first | (go_at_call 38; refine (blocks10_any _ _ _).mono ?_; rintro e w' ⟨rfl, rfl⟩) | (go_at_call 39; refine (alloc10_any _ _ _ _).mono ?_; rintro e w' ⟨rfl, rfl⟩) | (go_at_call 40; refine (blocks16_any _ _ _).mono ?_; rintro e w' ⟨rfl, rfl⟩))
  go_ret
  exact ⟨rfl, rfl⟩
theorem kind_65 (w : World) : Calls Try.prog 30 #[.int .u8 65] w fun e w' => e = .returned (.int .u8 12) ∧ w' = w := by
  go_enter Try.func30, Try.ntmps30
  go_wp2
  go_ret
  exact ⟨rfl, rfl⟩

set_option maxRecDepth 100000 in
theorem looked_66 (w : World) : Calls Try.prog 25 #[.int .u8 66] w fun e w' => e = .returned (.slice (some ⟨w.heap.size, 0, none⟩) 10 10) ∧ w' = w.alloc (.cells (cels [66, 0, 0, 0, 0, 0, 0, 255, 255, 0]).toArray 5) := by
  go_enter Try.func25, Try.ntmps25
  go_wp2_with (first | (go_at_call 38; refine (blocks10_any _ _ _).mono ?_; rintro e w' ⟨rfl, rfl⟩) | (go_at_call 39; refine (alloc10_any _ _ _ _).mono ?_; rintro e w' ⟨rfl, rfl⟩) | (go_at_call 40; refine (blocks16_any _ _ _).mono ?_; rintro e w' ⟨rfl, rfl⟩))
  go_ret
  exact ⟨rfl, rfl⟩
theorem kind_66 (w : World) : Calls Try.prog 30 #[.int .u8 66] w fun e w' => e = .returned (.int .u8 13) ∧ w' = w := by
  go_enter Try.func30, Try.ntmps30
  go_wp2
  go_ret
  exact ⟨rfl, rfl⟩

set_option maxRecDepth 100000 in
theorem looked_85 (w : World) : Calls Try.prog 25 #[.int .u8 85] w fun e w' => e = .returned (.slice (some ⟨w.heap.size, 0, none⟩) 10 10) ∧ w' = w.alloc (.cells (cels [85, 17, 0, 0, 0, 0, 0, 255, 255, 0]).toArray 5) := by
  go_enter Try.func25, Try.ntmps25
  go_wp2_with (first | (go_at_call 38; refine (blocks10_any _ _ _).mono ?_; rintro e w' ⟨rfl, rfl⟩) | (go_at_call 39; refine (alloc10_any _ _ _ _).mono ?_; rintro e w' ⟨rfl, rfl⟩) | (go_at_call 40; refine (blocks16_any _ _ _).mono ?_; rintro e w' ⟨rfl, rfl⟩))
  go_ret
  exact ⟨rfl, rfl⟩
theorem kind_85 (w : World) : Calls Try.prog 30 #[.int .u8 85] w fun e w' => e = .returned (.int .u8 4) ∧ w' = w := by
  go_enter Try.func30, Try.ntmps30
  go_wp2
  go_ret
  exact ⟨rfl, rfl⟩

set_option maxRecDepth 100000 in
theorem looked_90 (w : World) : Calls Try.prog 25 #[.int .u8 90] w fun e w' => e = .returned (.slice (some ⟨w.heap.size, 0, none⟩) 10 10) ∧ w' = w.alloc (.cells (cels [90, 8, 255, 0, 0, 0, 0, 255, 255, 0]).toArray 5) := by
  go_enter Try.func25, Try.ntmps25
  go_wp2_with (first | (go_at_call 38; refine (blocks10_any _ _ _).mono ?_; rintro e w' ⟨rfl, rfl⟩) | (go_at_call 39; refine (alloc10_any _ _ _ _).mono ?_; rintro e w' ⟨rfl, rfl⟩) | (go_at_call 40; refine (blocks16_any _ _ _).mono ?_; rintro e w' ⟨rfl, rfl⟩))
  go_ret
  exact ⟨rfl, rfl⟩
theorem kind_90 (w : World) : Calls Try.prog 30 #[.int .u8 90] w fun e w' => e = .returned (.int .u8 5) ∧ w' = w := by
  go_enter Try.func30, Try.ntmps30
  go_wp2
  go_ret
  exact ⟨rfl, rfl⟩

set_option maxRecDepth 100000 in
theorem looked_94 (w : World) : Calls Try.prog 25 #[.int .u8 94] w fun e w' => e = .returned (.slice (some ⟨w.heap.size, 0, none⟩) 10 10) ∧ w' = w.alloc (.cells (cels [94, 31, 0, 0, 0, 0, 0, 255, 255, 0]).toArray 5) := by
  go_enter Try.func25, Try.ntmps25
  go_wp2_with (first | (go_at_call 38; refine (blocks10_any _ _ _).mono ?_; rintro e w' ⟨rfl, rfl⟩) | (go_at_call 39; refine (alloc10_any _ _ _ _).mono ?_; rintro e w' ⟨rfl, rfl⟩) | (go_at_call 40; refine (blocks16_any _ _ _).mono ?_; rintro e w' ⟨rfl, rfl⟩))
  go_ret
  exact ⟨rfl, rfl⟩
theorem kind_94 (w : World) : Calls Try.prog 30 #[.int .u8 94] w fun e w' => e = .returned (.int .u8 15) ∧ w' = w := by
  go_enter Try.func30, Try.ntmps30
  go_wp2
  go_ret
  exact ⟨rfl, rfl⟩

set_option maxRecDepth 100000 in
theorem looked_95 (w : World) : Calls Try.prog 25 #[.int .u8 95] w fun e w' => e = .returned (.slice (some ⟨w.heap.size, 0, none⟩) 10 10) ∧ w' = w.alloc (.cells (cels [95, 31, 15, 0, 0, 255, 255, 255, 255, 0]).toArray 5) := by
  go_enter Try.func25, Try.ntmps25
  go_wp2_with (first | (go_at_call 38; refine (blocks10_any _ _ _).mono ?_; rintro e w' ⟨rfl, rfl⟩) | (go_at_call 39; refine (alloc10_any _ _ _ _).mono ?_; rintro e w' ⟨rfl, rfl⟩) | (go_at_call 40; refine (blocks16_any _ _ _).mono ?_; rintro e w' ⟨rfl, rfl⟩))
  go_ret
  exact ⟨rfl, rfl⟩
theorem kind_95 (w : World) : Calls Try.prog 30 #[.int .u8 95] w fun e w' => e = .returned (.int .u8 16) ∧ w' = w := by
  go_enter Try.func30, Try.ntmps30
  go_wp2
  go_ret
  exact ⟨rfl, rfl⟩

set_option maxRecDepth 100000 in
theorem looked_131 (w : World) : Calls Try.prog 25 #[.int .u8 131] w fun e w' => e = .returned (.slice (some ⟨w.heap.size, 0, none⟩) 16 16) ∧ w' = w.alloc (.cells (cels [131, 31, 0, 0, 0, 0, 0, 0, 0, 0, 255, 255, 255, 255, 0, 0]).toArray 5) := by
  go_enter Try.func25, Try.ntmps25
  go_wp2_with (first | (go_at_call 38; refine (blocks10_any _ _ _).mono ?_; rintro e w' ⟨rfl, rfl⟩) | (go_at_call 39; refine (alloc10_any _ _ _ _).mono ?_; rintro e w' ⟨rfl, rfl⟩) | (go_at_call 40; refine (blocks16_any _ _ _).mono ?_; rintro e w' ⟨rfl, rfl⟩))
  go_ret
  exact ⟨rfl, rfl⟩
theorem kind_131 (w : World) : Calls Try.prog 30 #[.int .u8 131] w fun e w' => e = .returned (.int .u8 18) ∧ w' = w := by
  go_enter Try.func30, Try.ntmps30
  go_wp2
  go_ret
  exact ⟨rfl, rfl⟩

set_option maxRecDepth 100000 in
theorem looked_136 (w : World) : Calls Try.prog 25 #[.int .u8 136] w fun e w' => e = .returned (.slice (some ⟨w.heap.size, 0, none⟩) 16 16) ∧ w' = w.alloc (.cells (cels [136, 248, 255, 255, 255, 255, 255, 255, 255, 255, 255, 255, 255, 255, 0, 0]).toArray 5) := by
  go_enter Try.func25, Try.ntmps25
  go_wp2_with (first | (go_at_call 38; refine (blocks10_any _ _ _).mono ?_; rintro e w' ⟨rfl, rfl⟩) | (go_at_call 39; refine (alloc10_any _ _ _ _).mono ?_; rintro e w' ⟨rfl, rfl⟩) | (go_at_call 40; refine (blocks16_any _ _ _).mono ?_; rintro e w' ⟨rfl, rfl⟩))
  go_ret
  exact ⟨rfl, rfl⟩
theorem kind_136 (w : World) : Calls Try.prog 30 #[.int .u8 136] w fun e w' => e = .returned (.int .u8 7) ∧ w' = w := by
  go_enter Try.func30, Try.ntmps30
  go_wp2
  go_ret
  exact ⟨rfl, rfl⟩

set_option maxRecDepth 100000 in
theorem looked_137 (w : World) : Calls Try.prog 25 #[.int .u8 137] w fun e w' => e = .returned (.slice (some ⟨w.heap.size, 0, none⟩) 16 16) ∧ w' = w.alloc (.cells (cels [137, 248, 255, 255, 255, 255, 255, 255, 255, 255, 0, 0, 0, 255, 0, 0]).toArray 5) := by
  go_enter Try.func25, Try.ntmps25
  go_wp2_with (first | (go_at_call 38; refine (blocks10_any _ _ _).mono ?_; rintro e w' ⟨rfl, rfl⟩) | (go_at_call 39; refine (alloc10_any _ _ _ _).mono ?_; rintro e w' ⟨rfl, rfl⟩) | (go_at_call 40; refine (blocks16_any _ _ _).mono ?_; rintro e w' ⟨rfl, rfl⟩))
  go_ret
  exact ⟨rfl, rfl⟩
theorem kind_137 (w : World) : Calls Try.prog 30 #[.int .u8 137] w fun e w' => e = .returned (.int .u8 14) ∧ w' = w := by
  go_enter Try.func30, Try.ntmps30
  go_wp2
  go_ret
  exact ⟨rfl, rfl⟩

set_option maxRecDepth 100000 in
theorem looked_138 (w : World) : Calls Try.prog 25 #[.int .u8 138] w fun e w' => e = .returned (.slice (some ⟨w.heap.size, 0, none⟩) 16 16) ∧ w' = w.alloc (.cells (cels [138, 248, 255, 255, 255, 255, 255, 255, 255, 255, 255, 255, 255, 255, 0, 0]).toArray 5) := by
  go_enter Try.func25, Try.ntmps25
  go_wp2_with (first | (go_at_call 38; refine (blocks10_any _ _ _).mono ?_; rintro e w' ⟨rfl, rfl⟩) | (go_at_call 39; refine (alloc10_any _ _ _ _).mono ?_; rintro e w' ⟨rfl, rfl⟩) | (go_at_call 40; refine (blocks16_any _ _ _).mono ?_; rintro e w' ⟨rfl, rfl⟩))
  go_ret
  exact ⟨rfl, rfl⟩
theorem kind_138 (w : World) : Calls Try.prog 30 #[.int .u8 138] w fun e w' => e = .returned (.int .u8 8) ∧ w' = w := by
  go_enter Try.func30, Try.ntmps30
  go_wp2
  go_ret
  exact ⟨rfl, rfl⟩

set_option maxRecDepth 100000 in
theorem looked_145 (w : World) : Calls Try.prog 25 #[.int .u8 145] w fun e w' => e = .returned (.slice (some ⟨w.heap.size, 0, none⟩) 16 16) ∧ w' = w.alloc (.cells (cels [145, 0, 255, 255, 255, 255, 255, 255, 255, 255, 255, 255, 255, 255, 0, 0]).toArray 5) := by
  go_enter Try.func25, Try.ntmps25
  go_wp2_with (first | (go_at_call 38; refine (blocks10_any _ _ _).mono ?_; rintro e w' ⟨rfl, rfl⟩) | (go_at_call 39; refine (alloc10_any _ _ _ _).mono ?_; rintro e w' ⟨rfl, rfl⟩) | (go_at_call 40; refine (blocks16_any _ _ _).mono ?_; rintro e w' ⟨rfl, rfl⟩))
  go_ret
  exact ⟨rfl, rfl⟩
theorem kind_145 (w : World) : Calls Try.prog 30 #[.int .u8 145] w fun e w' => e = .returned (.int .u8 11) ∧ w' = w := by
  go_enter Try.func30, Try.ntmps30
  go_wp2
  go_ret
  exact ⟨rfl, rfl⟩

set_option maxRecDepth 100000 in
theorem looked_147 (w : World) : Calls Try.prog 25 #[.int .u8 147] w fun e w' => e = .returned (.slice (some ⟨w.heap.size, 0, none⟩) 16 16) ∧ w' = w.alloc (.cells (cels [147, 232, 255, 255, 255, 255, 255, 255, 255, 255, 255, 255, 255, 255, 0, 0]).toArray 5) := by
  go_enter Try.func25, Try.ntmps25
  go_wp2_with (first | (go_at_call 38; refine (blocks10_any _ _ _).mono ?_; rintro e w' ⟨rfl, rfl⟩) | (go_at_call 39; refine (alloc10_any _ _ _ _).mono ?_; rintro e w' ⟨rfl, rfl⟩) | (go_at_call 40; refine (blocks16_any _ _ _).mono ?_; rintro e w' ⟨rfl, rfl⟩))
  go_ret
  exact ⟨rfl, rfl⟩
theorem kind_147 (w : World) : Calls Try.prog 30 #[.int .u8 147] w fun e w' => e = .returned (.int .u8 12) ∧ w' = w := by
  go_enter Try.func30, Try.ntmps30
  go_wp2
  go_ret
  exact ⟨rfl, rfl⟩

set_option maxRecDepth 100000 in
theorem looked_158 (w : World) : Calls Try.prog 25 #[.int .u8 158] w fun e w' => e = .returned (.slice (some ⟨w.heap.size, 0, none⟩) 16 16) ∧ w' = w.alloc (.cells (cels [158, 31, 0, 0, 0, 0, 0, 0, 0, 0, 255, 255, 255, 255, 0, 0]).toArray 5) := by
  go_enter Try.func25, Try.ntmps25
  go_wp2_with (first | (go_at_call 38; refine (blocks10_any _ _ _).mono ?_; rintro e w' ⟨rfl, rfl⟩) | (go_at_call 39; refine (alloc10_any _ _ _ _).mono ?_; rintro e w' ⟨rfl, rfl⟩) | (go_at_call 40; refine (blocks16_any _ _ _).mono ?_; rintro e w' ⟨rfl, rfl⟩))
  go_ret
  exact ⟨rfl, rfl⟩
theorem kind_158 (w : World) : Calls Try.prog 30 #[.int .u8 158] w fun e w' => e = .returned (.int .u8 6) ∧ w' = w := by
  go_enter Try.func30, Try.ntmps30
  go_wp2
  go_ret
  exact ⟨rfl, rfl⟩

set_option maxRecDepth 100000 in
theorem looked_160 (w : World) : Calls Try.prog 25 #[.int .u8 160] w fun e w' => e = .returned (.slice (some ⟨w.heap.size, 0, none⟩) 12 12) ∧ w' = w.alloc (.cells (cels [160, 0, 3, 0, 0, 0, 255, 255, 255, 255, 0, 0]).toArray 5) := by
  go_enter Try.func25, Try.ntmps25
  go_wp2_with (first | (go_at_call 38; refine (blocks10_any _ _ _).mono ?_; rintro e w' ⟨rfl, rfl⟩) | (go_at_call 39; refine (alloc10_any _ _ _ _).mono ?_; rintro e w' ⟨rfl, rfl⟩) | (go_at_call 40; refine (blocks16_any _ _ _).mono ?_; rintro e w' ⟨rfl, rfl⟩))
  go_ret
  exact ⟨rfl, rfl⟩
theorem kind_160 (w : World) : Calls Try.prog 30 #[.int .u8 160] w fun e w' => e = .returned (.int .u8 17) ∧ w' = w := by
  go_enter Try.func30, Try.ntmps30
  go_wp2
  go_ret
  exact ⟨rfl, rfl⟩

set_option maxHeartbeats 1000000 in
theorem looked_none (op : Int) (w : World) (h0 : op ≠ 0) (h3 : op ≠ 3) (h8 : op ≠ 8) (h10 : op ≠ 10) (h18 : op ≠ 18) (h21 : op ≠ 21) (h26 : op ≠ 26) (h37 : op ≠ 37) (h40 : op ≠ 40) (h42 : op ≠ 42) (h46 : op ≠ 46) (h47 : op ≠ 47) (h53 : op ≠ 53) (h65 : op ≠ 65) (h66 : op ≠ 66) (h85 : op ≠ 85) (h90 : op ≠ 90) (h94 : op ≠ 94) (h95 : op ≠ 95) (h131 : op ≠ 131) (h136 : op ≠ 136) (h137 : op ≠ 137) (h138 : op ≠ 138) (h145 : op ≠ 145) (h147 : op ≠ 147) (h158 : op ≠ 158) (h160 : op ≠ 160) : Calls Try.prog 25 #[.int .u8 op] w fun e w' => e = .returned (.slice none 0 0) ∧ w' = w := by
  go_enter Try.func25, Try.ntmps25
  go_wp2
  go_ret
  exact ⟨rfl, rfl⟩

theorem op_cases (op : Int) : op = 0 ∨ op = 3 ∨ op = 8 ∨ op = 10 ∨ op = 18 ∨ op = 21 ∨ op = 26 ∨ op = 37 ∨ op = 40 ∨ op = 42 ∨ op = 46 ∨ op = 47 ∨ op = 53 ∨ op = 65 ∨ op = 66 ∨ op = 85 ∨ op = 90 ∨ op = 94 ∨ op = 95 ∨ op = 131 ∨ op = 136 ∨ op = 137 ∨ op = 138 ∨ op = 145 ∨ op = 147 ∨ op = 158 ∨ op = 160 ∨ (op ≠ 0 ∧ op ≠ 3 ∧ op ≠ 8 ∧ op ≠ 10 ∧ op ≠ 18 ∧ op ≠ 21 ∧ op ≠ 26 ∧ op ≠ 37 ∧ op ≠ 40 ∧ op ≠ 42 ∧ op ≠ 46 ∧ op ≠ 47 ∧ op ≠ 53 ∧ op ≠ 65 ∧ op ≠ 66 ∧ op ≠ 85 ∧ op ≠ 90 ∧ op ≠ 94 ∧ op ≠ 95 ∧ op ≠ 131 ∧ op ≠ 136 ∧ op ≠ 137 ∧ op ≠ 138 ∧ op ≠ 145 ∧ op ≠ 147 ∧ op ≠ 158 ∧ op ≠ 160) := by omega

theorem mask_none (op : Int) (h0 : op ≠ 0) (h3 : op ≠ 3) (h8 : op ≠ 8) (h10 : op ≠ 10) (h18 : op ≠ 18) (h21 : op ≠ 21) (h26 : op ≠ 26) (h37 : op ≠ 37) (h40 : op ≠ 40) (h42 : op ≠ 42) (h46 : op ≠ 46) (h47 : op ≠ 47) (h53 : op ≠ 53) (h65 : op ≠ 65) (h66 : op ≠ 66) (h85 : op ≠ 85) (h90 : op ≠ 90) (h94 : op ≠ 94) (h95 : op ≠ 95) (h131 : op ≠ 131) (h136 : op ≠ 136) (h137 : op ≠ 137) (h138 : op ≠ 138) (h145 : op ≠ 145) (h147 : op ≠ 147) (h158 : op ≠ 158) (h160 : op ≠ 160) : maskL op = [] := by simp only [maskL, if_neg, h0, h3, h8, h10, h18, h21, h26, h37, h40, h42, h46, h47, h53, h65, h66, h85, h90, h94, h95, h131, h136, h137, h138, h145, h147, h158, h160, ite_false, not_false_eq_true]

theorem looked_any (op : Int) (w : World) (h : maskL op ≠ []) : Calls Try.prog 25 #[.int .u8 op] w fun e w' => e = .returned (.slice (some ⟨w.heap.size, 0, none⟩) (maskL op).length (maskL op).length) ∧ w' = w.alloc (.cells (cels (maskL op)).toArray 5) := by
  rcases op_cases op with rfl | rfl | rfl | rfl | rfl | rfl | rfl | rfl | rfl | rfl | rfl | rfl | rfl | rfl | rfl | rfl | rfl | rfl | rfl | rfl | rfl | rfl | rfl | rfl | rfl | rfl | rfl | ⟨h0, h3, h8, h10, h18, h21, h26, h37, h40, h42, h46, h47, h53, h65, h66, h85, h90, h94, h95, h131, h136, h137, h138, h145, h147, h158, h160⟩
  · exact looked_0 w
  · exact looked_3 w
  · exact looked_8 w
  · exact looked_10 w
  · exact looked_18 w
  · exact looked_21 w
  · exact looked_26 w
  · exact looked_37 w
  · exact looked_40 w
  · exact looked_42 w
  · exact looked_46 w
  · exact looked_47 w
  · exact looked_53 w
  · exact looked_65 w
  · exact looked_66 w
  · exact looked_85 w
  · exact looked_90 w
  · exact looked_94 w
  · exact looked_95 w
  · exact looked_131 w
  · exact looked_136 w
  · exact looked_137 w
  · exact looked_138 w
  · exact looked_145 w
  · exact looked_147 w
  · exact looked_158 w
  · exact looked_160 w
  · exact absurd (mask_none op h0 h3 h8 h10 h18 h21 h26 h37 h40 h42 h46 h47 h53 h65 h66 h85 h90 h94 h95 h131 h136 h137 h138 h145 h147 h158 h160) h

theorem looked_nil (op : Int) (w : World) (h : maskL op = []) : Calls Try.prog 25 #[.int .u8 op] w fun e w' => e = .returned (.slice none 0 0) ∧ w' = w := by
  rcases op_cases op with rfl | rfl | rfl | rfl | rfl | rfl | rfl | rfl | rfl | rfl | rfl | rfl | rfl | rfl | rfl | rfl | rfl | rfl | rfl | rfl | rfl | rfl | rfl | rfl | rfl | rfl | rfl | ⟨h0, h3, h8, h10, h18, h21, h26, h37, h40, h42, h46, h47, h53, h65, h66, h85, h90, h94, h95, h131, h136, h137, h138, h145, h147, h158, h160⟩
  · exact absurd h (by decide)
  · exact absurd h (by decide)
  · exact absurd h (by decide)
  · exact absurd h (by decide)
  · exact absurd h (by decide)
  · exact absurd h (by decide)
  · exact absurd h (by decide)
  · exact absurd h (by decide)
  · exact absurd h (by decide)
  · exact absurd h (by decide)
  · exact absurd h (by decide)
  · exact absurd h (by decide)
  · exact absurd h (by decide)
  · exact absurd h (by decide)
  · exact absurd h (by decide)
  · exact absurd h (by decide)
  · exact absurd h (by decide)
  · exact absurd h (by decide)
  · exact absurd h (by decide)
  · exact absurd h (by decide)
  · exact absurd h (by decide)
  · exact absurd h (by decide)
  · exact absurd h (by decide)
  · exact absurd h (by decide)
  · exact absurd h (by decide)
  · exact absurd h (by decide)
  · exact absurd h (by decide)
  · exact looked_none op w h0 h3 h8 h10 h18 h21 h26 h37 h40 h42 h46 h47 h53 h65 h66 h85 h90 h94 h95 h131 h136 h137 h138 h145 h147 h158 h160
end Go.Proofs.Ytcgojpnjaloofaa
