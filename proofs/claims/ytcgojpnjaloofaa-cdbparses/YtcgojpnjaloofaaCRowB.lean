/-
  The document's table: the contracts of ten and row.
-/
import Derived.Test.YtcgojpnjaloofaaCRow
namespace Go.Proofs.Ytcgojpnjaloofaa
open Go.RowKit
set_option linter.unusedVariables false
set_option linter.unusedSimpArgs false

set_option maxRecDepth 100000 in
set_option maxHeartbeats 1000000 in
theorem ten_any (b : Int) (w : World) : Calls Try.prog 42 #[.int .u8 b] w fun e w' => ∃ v', e = .returned v' ∧ Own w.heap.size w' v' [b, 255, 255, 255, 255, 0, 255, 255, 0] ∧ Below w.heap.size w w' := by

  have M0 : Kpt (∀ W v, w.heap.size ≤ W.heap.size → Own w.heap.size W v [b] → Calls Try.prog 41 #[.int .u8 255, .int .i64 4, v] W fun e w' => ∃ v', e = .returned v' ∧ Own w.heap.size w' v' [b, 255, 255, 255, 255] ∧ Below w.heap.size W w') := ⟨fun W v h1 h2 => many_any 255 4 v [b] w.heap.size W (by decide) (by simp) h1 h2⟩
  have M1 : Kpt (∀ W v, w.heap.size ≤ W.heap.size → Own w.heap.size W v [b, 255, 255, 255, 255] → Calls Try.prog 41 #[.int .u8 0, .int .i64 1, v] W fun e w' => ∃ v', e = .returned v' ∧ Own w.heap.size w' v' [b, 255, 255, 255, 255, 0] ∧ Below w.heap.size W w') := ⟨fun W v h1 h2 => many_any 0 1 v [b, 255, 255, 255, 255] w.heap.size W (by decide) (by simp) h1 h2⟩
  have M2 : Kpt (∀ W v, w.heap.size ≤ W.heap.size → Own w.heap.size W v [b, 255, 255, 255, 255, 0] → Calls Try.prog 41 #[.int .u8 255, .int .i64 2, v] W fun e w' => ∃ v', e = .returned v' ∧ Own w.heap.size w' v' [b, 255, 255, 255, 255, 0, 255, 255] ∧ Below w.heap.size W w') := ⟨fun W v h1 h2 => many_any 255 2 v [b, 255, 255, 255, 255, 0] w.heap.size W (by decide) (by simp) h1 h2⟩
  have M3 : Kpt (∀ W v, w.heap.size ≤ W.heap.size → Own w.heap.size W v [b, 255, 255, 255, 255, 0, 255, 255] → Calls Try.prog 41 #[.int .u8 0, .int .i64 1, v] W fun e w' => ∃ v', e = .returned v' ∧ Own w.heap.size w' v' [b, 255, 255, 255, 255, 0, 255, 255, 0] ∧ Below w.heap.size W w') := ⟨fun W v h1 h2 => many_any 0 1 v [b, 255, 255, 255, 255, 0, 255, 255] w.heap.size W (by decide) (by simp) h1 h2⟩
  go_enter Try.func42, Try.ntmps42
  go_wp2_with (first
    | (go_at_call 41; have hm := O2; refine (M3.out _ _ B2.out.size O2.out).mono ?_; rintro e w13 ⟨v3, rfl, hO, hB⟩; have O3 := Kpt.mk hO; have B3 : Kpt (Below w.heap.size w w13) := ⟨B2.out.trans hB⟩; clear hO hB)
    | (go_at_call 41; have hm := O1; refine (M2.out _ _ B1.out.size O1.out).mono ?_; rintro e w12 ⟨v2, rfl, hO, hB⟩; have O2 := Kpt.mk hO; have B2 : Kpt (Below w.heap.size w w12) := ⟨B1.out.trans hB⟩; clear hO hB)
    | (go_at_call 41; have hm := O0; refine (M1.out _ _ B0.out.size O0.out).mono ?_; rintro e w11 ⟨v1, rfl, hO, hB⟩; have O1 := Kpt.mk hO; have B1 : Kpt (Below w.heap.size w w11) := ⟨B0.out.trans hB⟩; clear hO hB)
    | (go_at_call 41; refine (M0.out _ _ (by simp) (own_alloc w w.heap.size 1 w.heap.size [b] rfl rfl (by decide) (Nat.le_refl _))).mono ?_; rintro e w10 ⟨v0, rfl, hO, hB⟩; have O0 := Kpt.mk hO; have B0 : Kpt (Below w.heap.size w w10) := ⟨((Below.refl _ _).alloc (Nat.le_refl _) _).trans hB⟩; clear hO hB))
  go_ret
  exact ⟨_, rfl, O3.out, B3.out⟩

set_option maxRecDepth 100000 in
set_option maxHeartbeats 1000000 in
theorem row_0 (w : World) : Calls Try.prog 26 #[.int .u8 0] w fun e w' => ∃ v', e = .returned v' ∧ Own w.heap.size w' v' [0, 0, 0, 0, 0] ∧ Below w.heap.size w w' := by
  have M0 : Kpt (∀ W v, w.heap.size ≤ W.heap.size → Own w.heap.size W v [] → Calls Try.prog 41 #[.int .u8 0, .int .i64 5, v] W fun e w' => ∃ v', e = .returned v' ∧ Own w.heap.size w' v' [0, 0, 0, 0, 0] ∧ Below w.heap.size W w') := ⟨fun W v h1 h2 => many_any 0 5 v [] w.heap.size W (by decide) (by decide) h1 h2⟩
  go_enter Try.func26, Try.ntmps26
  go_wp2_with (first
    | (go_at_call 41; refine (M0.out _ _ (Nat.le_refl _) (World.ownsRow_nil _ _ _ _)).mono ?_; rintro e w10 ⟨v0, rfl, hO, hB⟩; have O0 := Kpt.mk hO; have B0 : Kpt (Below w.heap.size w w10) := ⟨hB⟩; clear hO hB))
  go_ret
  exact ⟨_, rfl, O0.out, B0.out⟩

set_option maxRecDepth 100000 in
set_option maxHeartbeats 1000000 in
theorem row_3 (w : World) : Calls Try.prog 26 #[.int .u8 3] w fun e w' => ∃ v', e = .returned v' ∧ Own w.heap.size w' v' [1, 0, 0, 255, 0] ∧ Below w.heap.size w w' := by
  go_enter Try.func26, Try.ntmps26
  go_wp2
  go_ret
  exact ⟨_, rfl, own_alloc w w.heap.size 5 w.heap.size [1, 0, 0, 255, 0] rfl rfl (by decide) (Nat.le_refl _), (Below.refl _ _).alloc (Nat.le_refl _) _⟩

set_option maxRecDepth 100000 in
set_option maxHeartbeats 1000000 in
theorem row_8 (w : World) : Calls Try.prog 26 #[.int .u8 8] w fun e w' => ∃ v', e = .returned v' ∧ Own w.heap.size w' v' [31, 255, 255, 255, 0] ∧ Below w.heap.size w w' := by
  go_enter Try.func26, Try.ntmps26
  go_wp2
  go_ret
  exact ⟨_, rfl, own_alloc w w.heap.size 5 w.heap.size [31, 255, 255, 255, 0] rfl rfl (by decide) (Nat.le_refl _), (Below.refl _ _).alloc (Nat.le_refl _) _⟩

set_option maxRecDepth 100000 in
set_option maxHeartbeats 1000000 in
theorem row_10 (w : World) : Calls Try.prog 26 #[.int .u8 10] w fun e w' => ∃ v', e = .returned v' ∧ Own w.heap.size w' v' [31, 255, 255, 255, 0] ∧ Below w.heap.size w w' := by
  go_enter Try.func26, Try.ntmps26
  go_wp2
  go_ret
  exact ⟨_, rfl, own_alloc w w.heap.size 5 w.heap.size [31, 255, 255, 255, 0] rfl rfl (by decide) (Nat.le_refl _), (Below.refl _ _).alloc (Nat.le_refl _) _⟩

set_option maxRecDepth 100000 in
set_option maxHeartbeats 1000000 in
theorem row_18 (w : World) : Calls Try.prog 26 #[.int .u8 18] w fun e w' => ∃ v', e = .returned v' ∧ Own w.heap.size w' v' [1, 255, 255, 255, 0] ∧ Below w.heap.size w w' := by
  go_enter Try.func26, Try.ntmps26
  go_wp2
  go_ret
  exact ⟨_, rfl, own_alloc w w.heap.size 5 w.heap.size [1, 255, 255, 255, 0] rfl rfl (by decide) (Nat.le_refl _), (Below.refl _ _).alloc (Nat.le_refl _) _⟩

set_option maxRecDepth 100000 in
set_option maxHeartbeats 1000000 in
theorem row_21 (w : World) : Calls Try.prog 26 #[.int .u8 21] w fun e w' => ∃ v', e = .returned v' ∧ Own w.heap.size w' v' [17, 0, 0, 255, 0] ∧ Below w.heap.size w w' := by
  go_enter Try.func26, Try.ntmps26
  go_wp2
  go_ret
  exact ⟨_, rfl, own_alloc w w.heap.size 5 w.heap.size [17, 0, 0, 255, 0] rfl rfl (by decide) (Nat.le_refl _), (Below.refl _ _).alloc (Nat.le_refl _) _⟩

set_option maxRecDepth 100000 in
set_option maxHeartbeats 1000000 in
theorem row_26 (w : World) : Calls Try.prog 26 #[.int .u8 26] w fun e w' => ∃ v', e = .returned v' ∧ Own w.heap.size w' v' [8, 255, 0, 255, 0] ∧ Below w.heap.size w w' := by
  go_enter Try.func26, Try.ntmps26
  go_wp2
  go_ret
  exact ⟨_, rfl, own_alloc w w.heap.size 5 w.heap.size [8, 255, 0, 255, 0] rfl rfl (by decide) (Nat.le_refl _), (Below.refl _ _).alloc (Nat.le_refl _) _⟩

set_option maxRecDepth 100000 in
set_option maxHeartbeats 1000000 in
theorem row_37 (w : World) : Calls Try.prog 26 #[.int .u8 37] w fun e w' => ∃ v', e = .returned v' ∧ Own w.heap.size w' v' [0, 0, 0, 0, 0, 0, 0, 0, 0] ∧ Below w.heap.size w w' := by
  have M0 : Kpt (∀ W v, w.heap.size ≤ W.heap.size → Own w.heap.size W v [] → Calls Try.prog 41 #[.int .u8 0, .int .i64 9, v] W fun e w' => ∃ v', e = .returned v' ∧ Own w.heap.size w' v' [0, 0, 0, 0, 0, 0, 0, 0, 0] ∧ Below w.heap.size W w') := ⟨fun W v h1 h2 => many_any 0 9 v [] w.heap.size W (by decide) (by decide) h1 h2⟩
  go_enter Try.func26, Try.ntmps26
  go_wp2_with (first
    | (go_at_call 41; refine (M0.out _ _ (Nat.le_refl _) (World.ownsRow_nil _ _ _ _)).mono ?_; rintro e w10 ⟨v0, rfl, hO, hB⟩; have O0 := Kpt.mk hO; have B0 : Kpt (Below w.heap.size w w10) := ⟨hB⟩; clear hO hB))
  go_ret
  exact ⟨_, rfl, O0.out, B0.out⟩

set_option maxRecDepth 100000 in
set_option maxHeartbeats 1000000 in
theorem row_40 (w : World) : Calls Try.prog 26 #[.int .u8 40] w fun e w' => ∃ v', e = .returned v' ∧ Own w.heap.size w' v' [248, 255, 255, 255, 255, 0, 255, 255, 0] ∧ Below w.heap.size w w' := by
  have T := Kpt.mk (ten_any 248 w)
  go_enter Try.func26, Try.ntmps26
  go_wp2_with (go_at_call 42; refine T.out.mono ?_; rintro e w1 ⟨v, rfl, hO, hB⟩; replace hO := Kpt.mk hO; replace hB := Kpt.mk hB)
  go_ret
  exact ⟨_, rfl, hO.out, hB.out⟩

set_option maxRecDepth 100000 in
set_option maxHeartbeats 1000000 in
theorem row_42 (w : World) : Calls Try.prog 26 #[.int .u8 42] w fun e w' => ∃ v', e = .returned v' ∧ Own w.heap.size w' v' [248, 255, 255, 255, 255, 0, 255, 255, 0] ∧ Below w.heap.size w w' := by
  have T := Kpt.mk (ten_any 248 w)
  go_enter Try.func26, Try.ntmps26
  go_wp2_with (go_at_call 42; refine T.out.mono ?_; rintro e w1 ⟨v, rfl, hO, hB⟩; replace hO := Kpt.mk hO; replace hB := Kpt.mk hB)
  go_ret
  exact ⟨_, rfl, hO.out, hB.out⟩

set_option maxRecDepth 100000 in
set_option maxHeartbeats 1000000 in
theorem row_46 (w : World) : Calls Try.prog 26 #[.int .u8 46] w fun e w' => ∃ v', e = .returned v' ∧ Own w.heap.size w' v' [240, 255, 255, 255, 255, 0, 255, 255, 0] ∧ Below w.heap.size w w' := by
  have T := Kpt.mk (ten_any 240 w)
  go_enter Try.func26, Try.ntmps26
  go_wp2_with (go_at_call 42; refine T.out.mono ?_; rintro e w1 ⟨v, rfl, hO, hB⟩; replace hO := Kpt.mk hO; replace hB := Kpt.mk hB)
  go_ret
  exact ⟨_, rfl, hO.out, hB.out⟩

set_option maxRecDepth 100000 in
set_option maxHeartbeats 1000000 in
theorem row_47 (w : World) : Calls Try.prog 26 #[.int .u8 47] w fun e w' => ∃ v', e = .returned v' ∧ Own w.heap.size w' v' [242, 255, 255, 255, 255, 0, 255, 255, 0] ∧ Below w.heap.size w w' := by
  have T := Kpt.mk (ten_any 242 w)
  go_enter Try.func26, Try.ntmps26
  go_wp2_with (go_at_call 42; refine T.out.mono ?_; rintro e w1 ⟨v, rfl, hO, hB⟩; replace hO := Kpt.mk hO; replace hB := Kpt.mk hB)
  go_ret
  exact ⟨_, rfl, hO.out, hB.out⟩

set_option maxRecDepth 100000 in
set_option maxHeartbeats 1000000 in
theorem row_53 (w : World) : Calls Try.prog 26 #[.int .u8 53] w fun e w' => ∃ v', e = .returned v' ∧ Own w.heap.size w' v' [0, 255, 255, 255, 255, 0, 255, 255, 0] ∧ Below w.heap.size w w' := by
  have T := Kpt.mk (ten_any 0 w)
  go_enter Try.func26, Try.ntmps26
  go_wp2_with (go_at_call 42; refine T.out.mono ?_; rintro e w1 ⟨v, rfl, hO, hB⟩; replace hO := Kpt.mk hO; replace hB := Kpt.mk hB)
  go_ret
  exact ⟨_, rfl, hO.out, hB.out⟩

set_option maxRecDepth 100000 in
set_option maxHeartbeats 1000000 in
theorem row_65 (w : World) : Calls Try.prog 26 #[.int .u8 65] w fun e w' => ∃ v', e = .returned v' ∧ Own w.heap.size w' v' [232, 255, 255, 255, 255, 0, 255, 255, 0] ∧ Below w.heap.size w w' := by
  have T := Kpt.mk (ten_any 232 w)
  go_enter Try.func26, Try.ntmps26
  go_wp2_with (go_at_call 42; refine T.out.mono ?_; rintro e w1 ⟨v, rfl, hO, hB⟩; replace hO := Kpt.mk hO; replace hB := Kpt.mk hB)
  go_ret
  exact ⟨_, rfl, hO.out, hB.out⟩

set_option maxRecDepth 100000 in
set_option maxHeartbeats 1000000 in
theorem row_66 (w : World) : Calls Try.prog 26 #[.int .u8 66] w fun e w' => ∃ v', e = .returned v' ∧ Own w.heap.size w' v' [0, 0, 0, 0, 0, 0, 255, 255, 0] ∧ Below w.heap.size w w' := by
  go_enter Try.func26, Try.ntmps26
  go_wp2
  go_ret
  exact ⟨_, rfl, own_alloc w w.heap.size 9 w.heap.size [0, 0, 0, 0, 0, 0, 255, 255, 0] rfl rfl (by decide) (Nat.le_refl _), (Below.refl _ _).alloc (Nat.le_refl _) _⟩

set_option maxRecDepth 100000 in
set_option maxHeartbeats 1000000 in
theorem row_85 (w : World) : Calls Try.prog 26 #[.int .u8 85] w fun e w' => ∃ v', e = .returned v' ∧ Own w.heap.size w' v' [17, 0, 0, 0, 0, 0, 255, 255, 0] ∧ Below w.heap.size w w' := by
  go_enter Try.func26, Try.ntmps26
  go_wp2
  go_ret
  exact ⟨_, rfl, own_alloc w w.heap.size 9 w.heap.size [17, 0, 0, 0, 0, 0, 255, 255, 0] rfl rfl (by decide) (Nat.le_refl _), (Below.refl _ _).alloc (Nat.le_refl _) _⟩

set_option maxRecDepth 100000 in
set_option maxHeartbeats 1000000 in
theorem row_90 (w : World) : Calls Try.prog 26 #[.int .u8 90] w fun e w' => ∃ v', e = .returned v' ∧ Own w.heap.size w' v' [8, 255, 0, 0, 0, 0, 255, 255, 0] ∧ Below w.heap.size w w' := by
  go_enter Try.func26, Try.ntmps26
  go_wp2
  go_ret
  exact ⟨_, rfl, own_alloc w w.heap.size 9 w.heap.size [8, 255, 0, 0, 0, 0, 255, 255, 0] rfl rfl (by decide) (Nat.le_refl _), (Below.refl _ _).alloc (Nat.le_refl _) _⟩

set_option maxRecDepth 100000 in
set_option maxHeartbeats 1000000 in
theorem row_94 (w : World) : Calls Try.prog 26 #[.int .u8 94] w fun e w' => ∃ v', e = .returned v' ∧ Own w.heap.size w' v' [31, 0, 0, 0, 0, 0, 255, 255, 0] ∧ Below w.heap.size w w' := by
  go_enter Try.func26, Try.ntmps26
  go_wp2
  go_ret
  exact ⟨_, rfl, own_alloc w w.heap.size 9 w.heap.size [31, 0, 0, 0, 0, 0, 255, 255, 0] rfl rfl (by decide) (Nat.le_refl _), (Below.refl _ _).alloc (Nat.le_refl _) _⟩

set_option maxRecDepth 100000 in
set_option maxHeartbeats 1000000 in
theorem row_95 (w : World) : Calls Try.prog 26 #[.int .u8 95] w fun e w' => ∃ v', e = .returned v' ∧ Own w.heap.size w' v' [31, 15, 0, 0, 255, 255, 255, 255, 0] ∧ Below w.heap.size w w' := by
  go_enter Try.func26, Try.ntmps26
  go_wp2
  go_ret
  exact ⟨_, rfl, own_alloc w w.heap.size 9 w.heap.size [31, 15, 0, 0, 255, 255, 255, 255, 0] rfl rfl (by decide) (Nat.le_refl _), (Below.refl _ _).alloc (Nat.le_refl _) _⟩

set_option maxRecDepth 100000 in
set_option maxHeartbeats 1000000 in
theorem row_131 (w : World) : Calls Try.prog 26 #[.int .u8 131] w fun e w' => ∃ v', e = .returned v' ∧ Own w.heap.size w' v' [31, 0, 0, 0, 0, 0, 0, 0, 0, 255, 255, 255, 255, 0, 0] ∧ Below w.heap.size w w' := by
  have M0 : Kpt (∀ W v, w.heap.size ≤ W.heap.size → Own w.heap.size W v [31] → Calls Try.prog 41 #[.int .u8 0, .int .i64 8, v] W fun e w' => ∃ v', e = .returned v' ∧ Own w.heap.size w' v' [31, 0, 0, 0, 0, 0, 0, 0, 0] ∧ Below w.heap.size W w') := ⟨fun W v h1 h2 => many_any 0 8 v [31] w.heap.size W (by decide) (by decide) h1 h2⟩
  have M1 : Kpt (∀ W v, w.heap.size ≤ W.heap.size → Own w.heap.size W v [31, 0, 0, 0, 0, 0, 0, 0, 0] → Calls Try.prog 41 #[.int .u8 255, .int .i64 4, v] W fun e w' => ∃ v', e = .returned v' ∧ Own w.heap.size w' v' [31, 0, 0, 0, 0, 0, 0, 0, 0, 255, 255, 255, 255] ∧ Below w.heap.size W w') := ⟨fun W v h1 h2 => many_any 255 4 v [31, 0, 0, 0, 0, 0, 0, 0, 0] w.heap.size W (by decide) (by decide) h1 h2⟩
  have M2 : Kpt (∀ W v, w.heap.size ≤ W.heap.size → Own w.heap.size W v [31, 0, 0, 0, 0, 0, 0, 0, 0, 255, 255, 255, 255] → Calls Try.prog 41 #[.int .u8 0, .int .i64 2, v] W fun e w' => ∃ v', e = .returned v' ∧ Own w.heap.size w' v' [31, 0, 0, 0, 0, 0, 0, 0, 0, 255, 255, 255, 255, 0, 0] ∧ Below w.heap.size W w') := ⟨fun W v h1 h2 => many_any 0 2 v [31, 0, 0, 0, 0, 0, 0, 0, 0, 255, 255, 255, 255] w.heap.size W (by decide) (by decide) h1 h2⟩
  go_enter Try.func26, Try.ntmps26
  go_wp2_with (first
    | (go_at_call 41; have hm := O1; refine (M2.out _ _ B1.out.size O1.out).mono ?_; rintro e w12 ⟨v2, rfl, hO, hB⟩; have O2 := Kpt.mk hO; have B2 : Kpt (Below w.heap.size w w12) := ⟨B1.out.trans hB⟩; clear hO hB)
    | (go_at_call 41; have hm := O0; refine (M1.out _ _ B0.out.size O0.out).mono ?_; rintro e w11 ⟨v1, rfl, hO, hB⟩; have O1 := Kpt.mk hO; have B1 : Kpt (Below w.heap.size w w11) := ⟨B0.out.trans hB⟩; clear hO hB)
    | (go_at_call 41; refine (M0.out _ _ (by simp) (own_alloc w w.heap.size 1 w.heap.size [31] rfl rfl (by decide) (Nat.le_refl _))).mono ?_; rintro e w10 ⟨v0, rfl, hO, hB⟩; have O0 := Kpt.mk hO; have B0 : Kpt (Below w.heap.size w w10) := ⟨((Below.refl _ _).alloc (Nat.le_refl _) _).trans hB⟩; clear hO hB))
  go_ret
  exact ⟨_, rfl, O2.out, B2.out⟩

set_option maxRecDepth 100000 in
set_option maxHeartbeats 1000000 in
theorem row_136 (w : World) : Calls Try.prog 26 #[.int .u8 136] w fun e w' => ∃ v', e = .returned v' ∧ Own w.heap.size w' v' [248, 255, 255, 255, 255, 255, 255, 255, 255, 255, 255, 255, 255, 0, 0] ∧ Below w.heap.size w w' := by
  have M0 : Kpt (∀ W v, w.heap.size ≤ W.heap.size → Own w.heap.size W v [248] → Calls Try.prog 41 #[.int .u8 255, .int .i64 12, v] W fun e w' => ∃ v', e = .returned v' ∧ Own w.heap.size w' v' [248, 255, 255, 255, 255, 255, 255, 255, 255, 255, 255, 255, 255] ∧ Below w.heap.size W w') := ⟨fun W v h1 h2 => many_any 255 12 v [248] w.heap.size W (by decide) (by decide) h1 h2⟩
  have M1 : Kpt (∀ W v, w.heap.size ≤ W.heap.size → Own w.heap.size W v [248, 255, 255, 255, 255, 255, 255, 255, 255, 255, 255, 255, 255] → Calls Try.prog 41 #[.int .u8 0, .int .i64 2, v] W fun e w' => ∃ v', e = .returned v' ∧ Own w.heap.size w' v' [248, 255, 255, 255, 255, 255, 255, 255, 255, 255, 255, 255, 255, 0, 0] ∧ Below w.heap.size W w') := ⟨fun W v h1 h2 => many_any 0 2 v [248, 255, 255, 255, 255, 255, 255, 255, 255, 255, 255, 255, 255] w.heap.size W (by decide) (by decide) h1 h2⟩
  go_enter Try.func26, Try.ntmps26
  go_wp2_with (first
    | (go_at_call 41; have hm := O0; refine (M1.out _ _ B0.out.size O0.out).mono ?_; rintro e w11 ⟨v1, rfl, hO, hB⟩; have O1 := Kpt.mk hO; have B1 : Kpt (Below w.heap.size w w11) := ⟨B0.out.trans hB⟩; clear hO hB)
    | (go_at_call 41; refine (M0.out _ _ (by simp) (own_alloc w w.heap.size 1 w.heap.size [248] rfl rfl (by decide) (Nat.le_refl _))).mono ?_; rintro e w10 ⟨v0, rfl, hO, hB⟩; have O0 := Kpt.mk hO; have B0 : Kpt (Below w.heap.size w w10) := ⟨((Below.refl _ _).alloc (Nat.le_refl _) _).trans hB⟩; clear hO hB))
  go_ret
  exact ⟨_, rfl, O1.out, B1.out⟩

set_option maxRecDepth 100000 in
set_option maxHeartbeats 1000000 in
theorem row_137 (w : World) : Calls Try.prog 26 #[.int .u8 137] w fun e w' => ∃ v', e = .returned v' ∧ Own w.heap.size w' v' [248, 255, 255, 255, 255, 255, 255, 255, 255, 0, 0, 0, 255, 0, 0] ∧ Below w.heap.size w w' := by
  have M0 : Kpt (∀ W v, w.heap.size ≤ W.heap.size → Own w.heap.size W v [248] → Calls Try.prog 41 #[.int .u8 255, .int .i64 8, v] W fun e w' => ∃ v', e = .returned v' ∧ Own w.heap.size w' v' [248, 255, 255, 255, 255, 255, 255, 255, 255] ∧ Below w.heap.size W w') := ⟨fun W v h1 h2 => many_any 255 8 v [248] w.heap.size W (by decide) (by decide) h1 h2⟩
  have M1 : Kpt (∀ W v, w.heap.size ≤ W.heap.size → Own w.heap.size W v [248, 255, 255, 255, 255, 255, 255, 255, 255] → Calls Try.prog 41 #[.int .u8 0, .int .i64 3, v] W fun e w' => ∃ v', e = .returned v' ∧ Own w.heap.size w' v' [248, 255, 255, 255, 255, 255, 255, 255, 255, 0, 0, 0] ∧ Below w.heap.size W w') := ⟨fun W v h1 h2 => many_any 0 3 v [248, 255, 255, 255, 255, 255, 255, 255, 255] w.heap.size W (by decide) (by decide) h1 h2⟩
  have M2 : Kpt (∀ W v, w.heap.size ≤ W.heap.size → Own w.heap.size W v [248, 255, 255, 255, 255, 255, 255, 255, 255, 0, 0, 0] → Calls Try.prog 41 #[.int .u8 255, .int .i64 1, v] W fun e w' => ∃ v', e = .returned v' ∧ Own w.heap.size w' v' [248, 255, 255, 255, 255, 255, 255, 255, 255, 0, 0, 0, 255] ∧ Below w.heap.size W w') := ⟨fun W v h1 h2 => many_any 255 1 v [248, 255, 255, 255, 255, 255, 255, 255, 255, 0, 0, 0] w.heap.size W (by decide) (by decide) h1 h2⟩
  have M3 : Kpt (∀ W v, w.heap.size ≤ W.heap.size → Own w.heap.size W v [248, 255, 255, 255, 255, 255, 255, 255, 255, 0, 0, 0, 255] → Calls Try.prog 41 #[.int .u8 0, .int .i64 2, v] W fun e w' => ∃ v', e = .returned v' ∧ Own w.heap.size w' v' [248, 255, 255, 255, 255, 255, 255, 255, 255, 0, 0, 0, 255, 0, 0] ∧ Below w.heap.size W w') := ⟨fun W v h1 h2 => many_any 0 2 v [248, 255, 255, 255, 255, 255, 255, 255, 255, 0, 0, 0, 255] w.heap.size W (by decide) (by decide) h1 h2⟩
  go_enter Try.func26, Try.ntmps26
  go_wp2_with (first
    | (go_at_call 41; have hm := O2; refine (M3.out _ _ B2.out.size O2.out).mono ?_; rintro e w13 ⟨v3, rfl, hO, hB⟩; have O3 := Kpt.mk hO; have B3 : Kpt (Below w.heap.size w w13) := ⟨B2.out.trans hB⟩; clear hO hB)
    | (go_at_call 41; have hm := O1; refine (M2.out _ _ B1.out.size O1.out).mono ?_; rintro e w12 ⟨v2, rfl, hO, hB⟩; have O2 := Kpt.mk hO; have B2 : Kpt (Below w.heap.size w w12) := ⟨B1.out.trans hB⟩; clear hO hB)
    | (go_at_call 41; have hm := O0; refine (M1.out _ _ B0.out.size O0.out).mono ?_; rintro e w11 ⟨v1, rfl, hO, hB⟩; have O1 := Kpt.mk hO; have B1 : Kpt (Below w.heap.size w w11) := ⟨B0.out.trans hB⟩; clear hO hB)
    | (go_at_call 41; refine (M0.out _ _ (by simp) (own_alloc w w.heap.size 1 w.heap.size [248] rfl rfl (by decide) (Nat.le_refl _))).mono ?_; rintro e w10 ⟨v0, rfl, hO, hB⟩; have O0 := Kpt.mk hO; have B0 : Kpt (Below w.heap.size w w10) := ⟨((Below.refl _ _).alloc (Nat.le_refl _) _).trans hB⟩; clear hO hB))
  go_ret
  exact ⟨_, rfl, O3.out, B3.out⟩

set_option maxRecDepth 100000 in
set_option maxHeartbeats 1000000 in
theorem row_138 (w : World) : Calls Try.prog 26 #[.int .u8 138] w fun e w' => ∃ v', e = .returned v' ∧ Own w.heap.size w' v' [248, 255, 255, 255, 255, 255, 255, 255, 255, 255, 255, 255, 255, 0, 0] ∧ Below w.heap.size w w' := by
  have M0 : Kpt (∀ W v, w.heap.size ≤ W.heap.size → Own w.heap.size W v [248] → Calls Try.prog 41 #[.int .u8 255, .int .i64 12, v] W fun e w' => ∃ v', e = .returned v' ∧ Own w.heap.size w' v' [248, 255, 255, 255, 255, 255, 255, 255, 255, 255, 255, 255, 255] ∧ Below w.heap.size W w') := ⟨fun W v h1 h2 => many_any 255 12 v [248] w.heap.size W (by decide) (by decide) h1 h2⟩
  have M1 : Kpt (∀ W v, w.heap.size ≤ W.heap.size → Own w.heap.size W v [248, 255, 255, 255, 255, 255, 255, 255, 255, 255, 255, 255, 255] → Calls Try.prog 41 #[.int .u8 0, .int .i64 2, v] W fun e w' => ∃ v', e = .returned v' ∧ Own w.heap.size w' v' [248, 255, 255, 255, 255, 255, 255, 255, 255, 255, 255, 255, 255, 0, 0] ∧ Below w.heap.size W w') := ⟨fun W v h1 h2 => many_any 0 2 v [248, 255, 255, 255, 255, 255, 255, 255, 255, 255, 255, 255, 255] w.heap.size W (by decide) (by decide) h1 h2⟩
  go_enter Try.func26, Try.ntmps26
  go_wp2_with (first
    | (go_at_call 41; have hm := O0; refine (M1.out _ _ B0.out.size O0.out).mono ?_; rintro e w11 ⟨v1, rfl, hO, hB⟩; have O1 := Kpt.mk hO; have B1 : Kpt (Below w.heap.size w w11) := ⟨B0.out.trans hB⟩; clear hO hB)
    | (go_at_call 41; refine (M0.out _ _ (by simp) (own_alloc w w.heap.size 1 w.heap.size [248] rfl rfl (by decide) (Nat.le_refl _))).mono ?_; rintro e w10 ⟨v0, rfl, hO, hB⟩; have O0 := Kpt.mk hO; have B0 : Kpt (Below w.heap.size w w10) := ⟨((Below.refl _ _).alloc (Nat.le_refl _) _).trans hB⟩; clear hO hB))
  go_ret
  exact ⟨_, rfl, O1.out, B1.out⟩

set_option maxRecDepth 100000 in
set_option maxHeartbeats 1000000 in
theorem row_145 (w : World) : Calls Try.prog 26 #[.int .u8 145] w fun e w' => ∃ v', e = .returned v' ∧ Own w.heap.size w' v' [0, 255, 255, 255, 255, 255, 255, 255, 255, 255, 255, 255, 255, 0, 0] ∧ Below w.heap.size w w' := by
  have M0 : Kpt (∀ W v, w.heap.size ≤ W.heap.size → Own w.heap.size W v [0] → Calls Try.prog 41 #[.int .u8 255, .int .i64 12, v] W fun e w' => ∃ v', e = .returned v' ∧ Own w.heap.size w' v' [0, 255, 255, 255, 255, 255, 255, 255, 255, 255, 255, 255, 255] ∧ Below w.heap.size W w') := ⟨fun W v h1 h2 => many_any 255 12 v [0] w.heap.size W (by decide) (by decide) h1 h2⟩
  have M1 : Kpt (∀ W v, w.heap.size ≤ W.heap.size → Own w.heap.size W v [0, 255, 255, 255, 255, 255, 255, 255, 255, 255, 255, 255, 255] → Calls Try.prog 41 #[.int .u8 0, .int .i64 2, v] W fun e w' => ∃ v', e = .returned v' ∧ Own w.heap.size w' v' [0, 255, 255, 255, 255, 255, 255, 255, 255, 255, 255, 255, 255, 0, 0] ∧ Below w.heap.size W w') := ⟨fun W v h1 h2 => many_any 0 2 v [0, 255, 255, 255, 255, 255, 255, 255, 255, 255, 255, 255, 255] w.heap.size W (by decide) (by decide) h1 h2⟩
  go_enter Try.func26, Try.ntmps26
  go_wp2_with (first
    | (go_at_call 41; have hm := O0; refine (M1.out _ _ B0.out.size O0.out).mono ?_; rintro e w11 ⟨v1, rfl, hO, hB⟩; have O1 := Kpt.mk hO; have B1 : Kpt (Below w.heap.size w w11) := ⟨B0.out.trans hB⟩; clear hO hB)
    | (go_at_call 41; refine (M0.out _ _ (by simp) (own_alloc w w.heap.size 1 w.heap.size [0] rfl rfl (by decide) (Nat.le_refl _))).mono ?_; rintro e w10 ⟨v0, rfl, hO, hB⟩; have O0 := Kpt.mk hO; have B0 : Kpt (Below w.heap.size w w10) := ⟨((Below.refl _ _).alloc (Nat.le_refl _) _).trans hB⟩; clear hO hB))
  go_ret
  exact ⟨_, rfl, O1.out, B1.out⟩

set_option maxRecDepth 100000 in
set_option maxHeartbeats 1000000 in
theorem row_147 (w : World) : Calls Try.prog 26 #[.int .u8 147] w fun e w' => ∃ v', e = .returned v' ∧ Own w.heap.size w' v' [232, 255, 255, 255, 255, 255, 255, 255, 255, 255, 255, 255, 255, 0, 0] ∧ Below w.heap.size w w' := by
  have M0 : Kpt (∀ W v, w.heap.size ≤ W.heap.size → Own w.heap.size W v [232] → Calls Try.prog 41 #[.int .u8 255, .int .i64 12, v] W fun e w' => ∃ v', e = .returned v' ∧ Own w.heap.size w' v' [232, 255, 255, 255, 255, 255, 255, 255, 255, 255, 255, 255, 255] ∧ Below w.heap.size W w') := ⟨fun W v h1 h2 => many_any 255 12 v [232] w.heap.size W (by decide) (by decide) h1 h2⟩
  have M1 : Kpt (∀ W v, w.heap.size ≤ W.heap.size → Own w.heap.size W v [232, 255, 255, 255, 255, 255, 255, 255, 255, 255, 255, 255, 255] → Calls Try.prog 41 #[.int .u8 0, .int .i64 2, v] W fun e w' => ∃ v', e = .returned v' ∧ Own w.heap.size w' v' [232, 255, 255, 255, 255, 255, 255, 255, 255, 255, 255, 255, 255, 0, 0] ∧ Below w.heap.size W w') := ⟨fun W v h1 h2 => many_any 0 2 v [232, 255, 255, 255, 255, 255, 255, 255, 255, 255, 255, 255, 255] w.heap.size W (by decide) (by decide) h1 h2⟩
  go_enter Try.func26, Try.ntmps26
  go_wp2_with (first
    | (go_at_call 41; have hm := O0; refine (M1.out _ _ B0.out.size O0.out).mono ?_; rintro e w11 ⟨v1, rfl, hO, hB⟩; have O1 := Kpt.mk hO; have B1 : Kpt (Below w.heap.size w w11) := ⟨B0.out.trans hB⟩; clear hO hB)
    | (go_at_call 41; refine (M0.out _ _ (by simp) (own_alloc w w.heap.size 1 w.heap.size [232] rfl rfl (by decide) (Nat.le_refl _))).mono ?_; rintro e w10 ⟨v0, rfl, hO, hB⟩; have O0 := Kpt.mk hO; have B0 : Kpt (Below w.heap.size w w10) := ⟨((Below.refl _ _).alloc (Nat.le_refl _) _).trans hB⟩; clear hO hB))
  go_ret
  exact ⟨_, rfl, O1.out, B1.out⟩

set_option maxRecDepth 100000 in
set_option maxHeartbeats 1000000 in
theorem row_158 (w : World) : Calls Try.prog 26 #[.int .u8 158] w fun e w' => ∃ v', e = .returned v' ∧ Own w.heap.size w' v' [31, 0, 0, 0, 0, 0, 0, 0, 0, 255, 255, 255, 255, 0, 0] ∧ Below w.heap.size w w' := by
  have M0 : Kpt (∀ W v, w.heap.size ≤ W.heap.size → Own w.heap.size W v [31] → Calls Try.prog 41 #[.int .u8 0, .int .i64 8, v] W fun e w' => ∃ v', e = .returned v' ∧ Own w.heap.size w' v' [31, 0, 0, 0, 0, 0, 0, 0, 0] ∧ Below w.heap.size W w') := ⟨fun W v h1 h2 => many_any 0 8 v [31] w.heap.size W (by decide) (by decide) h1 h2⟩
  have M1 : Kpt (∀ W v, w.heap.size ≤ W.heap.size → Own w.heap.size W v [31, 0, 0, 0, 0, 0, 0, 0, 0] → Calls Try.prog 41 #[.int .u8 255, .int .i64 4, v] W fun e w' => ∃ v', e = .returned v' ∧ Own w.heap.size w' v' [31, 0, 0, 0, 0, 0, 0, 0, 0, 255, 255, 255, 255] ∧ Below w.heap.size W w') := ⟨fun W v h1 h2 => many_any 255 4 v [31, 0, 0, 0, 0, 0, 0, 0, 0] w.heap.size W (by decide) (by decide) h1 h2⟩
  have M2 : Kpt (∀ W v, w.heap.size ≤ W.heap.size → Own w.heap.size W v [31, 0, 0, 0, 0, 0, 0, 0, 0, 255, 255, 255, 255] → Calls Try.prog 41 #[.int .u8 0, .int .i64 2, v] W fun e w' => ∃ v', e = .returned v' ∧ Own w.heap.size w' v' [31, 0, 0, 0, 0, 0, 0, 0, 0, 255, 255, 255, 255, 0, 0] ∧ Below w.heap.size W w') := ⟨fun W v h1 h2 => many_any 0 2 v [31, 0, 0, 0, 0, 0, 0, 0, 0, 255, 255, 255, 255] w.heap.size W (by decide) (by decide) h1 h2⟩
  go_enter Try.func26, Try.ntmps26
  go_wp2_with (first
    | (go_at_call 41; have hm := O1; refine (M2.out _ _ B1.out.size O1.out).mono ?_; rintro e w12 ⟨v2, rfl, hO, hB⟩; have O2 := Kpt.mk hO; have B2 : Kpt (Below w.heap.size w w12) := ⟨B1.out.trans hB⟩; clear hO hB)
    | (go_at_call 41; have hm := O0; refine (M1.out _ _ B0.out.size O0.out).mono ?_; rintro e w11 ⟨v1, rfl, hO, hB⟩; have O1 := Kpt.mk hO; have B1 : Kpt (Below w.heap.size w w11) := ⟨B0.out.trans hB⟩; clear hO hB)
    | (go_at_call 41; refine (M0.out _ _ (by simp) (own_alloc w w.heap.size 1 w.heap.size [31] rfl rfl (by decide) (Nat.le_refl _))).mono ?_; rintro e w10 ⟨v0, rfl, hO, hB⟩; have O0 := Kpt.mk hO; have B0 : Kpt (Below w.heap.size w w10) := ⟨((Below.refl _ _).alloc (Nat.le_refl _) _).trans hB⟩; clear hO hB))
  go_ret
  exact ⟨_, rfl, O2.out, B2.out⟩

set_option maxRecDepth 100000 in
set_option maxHeartbeats 1000000 in
theorem row_160 (w : World) : Calls Try.prog 26 #[.int .u8 160] w fun e w' => ∃ v', e = .returned v' ∧ Own w.heap.size w' v' [0, 3, 0, 0, 0, 255, 255, 255, 255, 0, 0] ∧ Below w.heap.size w w' := by
  have M0 : Kpt (∀ W v, w.heap.size ≤ W.heap.size → Own w.heap.size W v [0, 3, 0, 0, 0] → Calls Try.prog 41 #[.int .u8 255, .int .i64 4, v] W fun e w' => ∃ v', e = .returned v' ∧ Own w.heap.size w' v' [0, 3, 0, 0, 0, 255, 255, 255, 255] ∧ Below w.heap.size W w') := ⟨fun W v h1 h2 => many_any 255 4 v [0, 3, 0, 0, 0] w.heap.size W (by decide) (by decide) h1 h2⟩
  have M1 : Kpt (∀ W v, w.heap.size ≤ W.heap.size → Own w.heap.size W v [0, 3, 0, 0, 0, 255, 255, 255, 255] → Calls Try.prog 41 #[.int .u8 0, .int .i64 2, v] W fun e w' => ∃ v', e = .returned v' ∧ Own w.heap.size w' v' [0, 3, 0, 0, 0, 255, 255, 255, 255, 0, 0] ∧ Below w.heap.size W w') := ⟨fun W v h1 h2 => many_any 0 2 v [0, 3, 0, 0, 0, 255, 255, 255, 255] w.heap.size W (by decide) (by decide) h1 h2⟩
  go_enter Try.func26, Try.ntmps26
  go_wp2_with (first
    | (go_at_call 41; have hm := O0; refine (M1.out _ _ B0.out.size O0.out).mono ?_; rintro e w11 ⟨v1, rfl, hO, hB⟩; have O1 := Kpt.mk hO; have B1 : Kpt (Below w.heap.size w w11) := ⟨B0.out.trans hB⟩; clear hO hB)
    | (go_at_call 41; refine (M0.out _ _ (by simp) (own_alloc w w.heap.size 5 w.heap.size [0, 3, 0, 0, 0] rfl rfl (by decide) (Nat.le_refl _))).mono ?_; rintro e w10 ⟨v0, rfl, hO, hB⟩; have O0 := Kpt.mk hO; have B0 : Kpt (Below w.heap.size w w10) := ⟨((Below.refl _ _).alloc (Nat.le_refl _) _).trans hB⟩; clear hO hB))
  go_ret
  exact ⟨_, rfl, O1.out, B1.out⟩

set_option maxHeartbeats 1000000 in
theorem row_none (op : Int) (w : World) (h0 : op ≠ 0) (h3 : op ≠ 3) (h8 : op ≠ 8) (h10 : op ≠ 10) (h18 : op ≠ 18) (h21 : op ≠ 21) (h26 : op ≠ 26) (h37 : op ≠ 37) (h40 : op ≠ 40) (h42 : op ≠ 42) (h46 : op ≠ 46) (h47 : op ≠ 47) (h53 : op ≠ 53) (h65 : op ≠ 65) (h66 : op ≠ 66) (h85 : op ≠ 85) (h90 : op ≠ 90) (h94 : op ≠ 94) (h95 : op ≠ 95) (h131 : op ≠ 131) (h136 : op ≠ 136) (h137 : op ≠ 137) (h138 : op ≠ 138) (h145 : op ≠ 145) (h147 : op ≠ 147) (h158 : op ≠ 158) (h160 : op ≠ 160) : Calls Try.prog 26 #[.int .u8 op] w fun e w' => e = .returned (.slice none 0 0) ∧ w' = w := by
  go_enter Try.func26, Try.ntmps26
  go_wp2
  go_ret
  exact ⟨rfl, rfl⟩

theorem row_any (op : Int) (w : World) (h : maskL op ≠ []) : Calls Try.prog 26 #[.int .u8 op] w fun e w' => ∃ v', e = .returned v' ∧ Own w.heap.size w' v' (maskL op).tail ∧ Below w.heap.size w w' := by
  rcases op_cases op with rfl | rfl | rfl | rfl | rfl | rfl | rfl | rfl | rfl | rfl | rfl | rfl | rfl | rfl | rfl | rfl | rfl | rfl | rfl | rfl | rfl | rfl | rfl | rfl | rfl | rfl | rfl | ⟨h0, h3, h8, h10, h18, h21, h26, h37, h40, h42, h46, h47, h53, h65, h66, h85, h90, h94, h95, h131, h136, h137, h138, h145, h147, h158, h160⟩
  · exact row_0 w
  · exact row_3 w
  · exact row_8 w
  · exact row_10 w
  · exact row_18 w
  · exact row_21 w
  · exact row_26 w
  · exact row_37 w
  · exact row_40 w
  · exact row_42 w
  · exact row_46 w
  · exact row_47 w
  · exact row_53 w
  · exact row_65 w
  · exact row_66 w
  · exact row_85 w
  · exact row_90 w
  · exact row_94 w
  · exact row_95 w
  · exact row_131 w
  · exact row_136 w
  · exact row_137 w
  · exact row_138 w
  · exact row_145 w
  · exact row_147 w
  · exact row_158 w
  · exact row_160 w
  · exact absurd (mask_none op h0 h3 h8 h10 h18 h21 h26 h37 h40 h42 h46 h47 h53 h65 h66 h85 h90 h94 h95 h131 h136 h137 h138 h145 h147 h158 h160) h

theorem row_nil' (op : Int) (w : World) (h : maskL op = []) : Calls Try.prog 26 #[.int .u8 op] w fun e w' => e = .returned (.slice none 0 0) ∧ w' = w := by
  rcases op_cases op with rfl | rfl | rfl | rfl | rfl | rfl | rfl | rfl | rfl | rfl | rfl | rfl | rfl | rfl | rfl | rfl | rfl | rfl | rfl | rfl | rfl | rfl | rfl | rfl | rfl | rfl | rfl | ⟨h0, h3, h8, h10, h18, h21, h26, h37, h40, h42, h46, h47, h53, h65, h66, h85, h90, h94, h95, h131, h136, h137, h138, h145, h147, h158, h160⟩
  · exact absurd h (by decide)
  · exact absurd h (by decide)
  · exact absurd h (by decide)
  · exact absurd h (by decide)
  · exact absurd h (by decide)
  · exact absurd h (by decide)
  · exact absurd h (by decide)
  · exact absurd h (by decide)
  · exact absurd h (by decide)
  · exact absurd h (by decide)
  · exact absurd h (by decide)
  · exact absurd h (by decide)
  · exact absurd h (by decide)
  · exact absurd h (by decide)
  · exact absurd h (by decide)
  · exact absurd h (by decide)
  · exact absurd h (by decide)
  · exact absurd h (by decide)
  · exact absurd h (by decide)
  · exact absurd h (by decide)
  · exact absurd h (by decide)
  · exact absurd h (by decide)
  · exact absurd h (by decide)
  · exact absurd h (by decide)
  · exact absurd h (by decide)
  · exact absurd h (by decide)
  · exact absurd h (by decide)
  · exact row_none op w h0 h3 h8 h10 h18 h21 h26 h37 h40 h42 h46 h47 h53 h65 h66 h85 h90 h94 h95 h131 h136 h137 h138 h145 h147 h158 h160

theorem mask_cons (op : Int) (h : maskL op ≠ []) : [op] ++ (maskL op).tail = maskL op := by
  rcases op_cases op with rfl | rfl | rfl | rfl | rfl | rfl | rfl | rfl | rfl | rfl | rfl | rfl | rfl | rfl | rfl | rfl | rfl | rfl | rfl | rfl | rfl | rfl | rfl | rfl | rfl | rfl | rfl | ⟨h0, h3, h8, h10, h18, h21, h26, h37, h40, h42, h46, h47, h53, h65, h66, h85, h90, h94, h95, h131, h136, h137, h138, h145, h147, h158, h160⟩
  · rfl
  · rfl
  · rfl
  · rfl
  · rfl
  · rfl
  · rfl
  · rfl
  · rfl
  · rfl
  · rfl
  · rfl
  · rfl
  · rfl
  · rfl
  · rfl
  · rfl
  · rfl
  · rfl
  · rfl
  · rfl
  · rfl
  · rfl
  · rfl
  · rfl
  · rfl
  · rfl
  · exact absurd (mask_none op h0 h3 h8 h10 h18 h21 h26 h37 h40 h42 h46 h47 h53 h65 h66 h85 h90 h94 h95 h131 h136 h137 h138 h145 h147 h158 h160) h

set_option maxRecDepth 100000 in
theorem rusage_any (op s : Int) (w : World) (h : maskL op ≠ []) :
    Calls Try.prog 13 #[.int .u8 op, .int .u8 s] w fun e w' => ∃ g cap, e = .returned (.tuple #[.slice (some ⟨g, 0, none⟩) (maskL op).length cap, .bool (servB op s)]) ∧ w'.ownsRow w.heap.size 5 1 (.slice (some ⟨g, 0, none⟩) (maskL op).length cap) (maskL op).length (cels (maskL op)) ∧ Below w.heap.size w w' := by
  obtain ⟨h2, h16, _⟩ := (mask_cases op).resolve_left h
  have HR : Kpt (Calls Try.prog 26 #[.int .u8 op] w fun e w' => ∃ g cap, e = .returned (.slice (some ⟨g, 0, none⟩) ((maskL op).length - 1) cap) ∧ RdAt w' (.slice (some ⟨g, 0, none⟩) ((maskL op).length - 1) cap) (maskL op).tail ∧ Below w.heap.size w w') := ⟨(row_any op w h).mono fun e w' ⟨v, h3, h4, h5⟩ => by
    have hl : (maskL op).tail.length = (maskL op).length - 1 := by simp
    unfold Own at h4
    rw [hl] at h4
    obtain ⟨g, cap, rfl, _, _⟩ := own_shape h4 (by omega)
    exact ⟨g, cap, h3, own_rd h4, h5⟩⟩
  have hc := mask_cons op h
  have hlt : (maskL op).tail.length = (maskL op).length - 1 := by simp
  obtain ⟨T, hT⟩ : ∃ T, T = (maskL op).tail := ⟨_, rfl⟩
  rw [← hT] at HR hc hlt
  rw [← hc]
  have hlen : (maskL op).length = 1 + T.length := by rw [← hc]; simp; omega
  rw [hlen, show 1 + T.length - 1 = T.length by omega] at HR
  rw [show ([op] ++ T).length = 1 + T.length by simp; omega]
  have hT0 : 0 < T.length := by omega
  have hT2 : T.length ≤ 16 := by omega
  clear hT hc h h2 h16 hlt hlen
  generalize hm : T.length = m at *
  have hm' := Kpt.mk hm
  clear hm
  have hnil := eq_nil
  go_enter Try.func13, Try.ntmps13
  go_wp2_with (first
    | (go_at_call 26; refine HR.out.mono ?_; rintro e w1 ⟨g, cap, rfl, hr, hb⟩; replace hr := Kpt.mk hr; replace hb := Kpt.mk hb)
    | (go_at_call 27; refine (rserves_any _ _ _).mono ?_; rintro e w3 ⟨rfl, rfl⟩)
    | (refine wpList_append_new rfl (.tmp 14) (.tmp 15) rfl w1.heap.size (.slice (some ⟨w1.heap.size, 0, none⟩) 1 1) (.slice (some ⟨g, 0, none⟩) m cap) [op] T 1 (1 + m) rfl rfl (own_alloc w1 w1.heap.size 1 w1.heap.size [op] rfl rfl (by decide) (Nat.le_refl _)) (hr.out.below ((Below.refl _ _).alloc (Nat.le_refl _) _)) (by have := hm'.out; omega) rfl (by rw [hm'.out]) (by omega) (by simp) ?_; intro g2 c2 w2 ho2 hg2 hgr2; have HB2 : Kpt (Below w.heap.size w w2) := ⟨(hb.out.alloc hb.out.size _).grown hgr2.out (by have := hb.out.size; simp; omega) (fun k h => by simp [Value.ownBlock] at h; have := hb.out.size; omega)⟩; clear hgr2))
  go_ret2
  exact ⟨_, _, rfl, own_base ho2.out hb.out.size, HB2.out⟩

set_option maxRecDepth 100000 in
theorem rusage_nil (op s : Int) (w : World) (h : maskL op = []) :
    Calls Try.prog 13 #[.int .u8 op, .int .u8 s] w fun e w' => e = .returned (.tuple #[.slice none 0 0, .bool false]) ∧ w' = w := by
  have HR := Kpt.mk (row_nil' op w h)
  have hnil := eq_nil
  go_enter Try.func13, Try.ntmps13
  go_wp2_with (go_at_call 26; refine HR.out.mono ?_; rintro e w1 ⟨rfl, rfl⟩)
  go_ret2
  exact ⟨rfl, rfl⟩
end Go.Proofs.Ytcgojpnjaloofaa
