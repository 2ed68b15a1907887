/-
  Slots: ending, Open, newer.
-/
import Derived.Test.YtndlpmnidpandaaLDec
import Derived.Test.YtndlpmnidpandaaLRecS
namespace Go.Proofs.Ytndlpmnidpandaa
open Go.RowKit
set_option linter.unusedVariables false
set_option linter.unusedSimpArgs false

/-- What stands behind the name. -/
def endB (i : Nat) : ByteArray := if i = 0 then ⟨#[46, 48]⟩ else ⟨#[46, 49]⟩
theorem ending_0 (w : World) : Calls Try.prog 32 #[.int .i64 0] w fun e w' => e = .returned (.string ⟨#[46, 48]⟩) ∧ w' = w := by
  go_enter Try.func32, Try.ntmps32
  go_wp2
  go_ret
  exact ⟨rfl, rfl⟩
theorem ending_1 (w : World) : Calls Try.prog 32 #[.int .i64 1] w fun e w' => e = .returned (.string ⟨#[46, 49]⟩) ∧ w' = w := by
  go_enter Try.func32, Try.ntmps32
  go_wp2
  go_ret
  exact ⟨rfl, rfl⟩

set_option maxRecDepth 100000 in
set_option maxHeartbeats 1000000 in
theorem open_any (B : Nat) (f : ByteArray) (w : World) (h1 : 1 ≤ f.size) (h2 : f.size ≤ 30) :
    Calls Try.prog 13 #[.pointer (some ⟨B, 0, none⟩), .string f] w fun e w' => e = .returned (.tuple #[.pointer (some ⟨w.heap.size, 0, none⟩), .int .i64 0]) ∧
      w' = w.alloc (.cells #[.pointer (some ⟨B, 0, none⟩), .string f, .bool false, .int .u64 0, .int .i64 0] 74) := by
  have e1 : ¬ (f.size : Int) < 1 := by omega
  have e2 : ¬ (30 : Int) < f.size := by omega
  have hE : Kpt (∀ W, Calls Try.prog 32 #[.int .i64 0] W fun e w' => e = .returned (.string ⟨#[46, 48]⟩) ∧ w' = W) := ⟨ending_0⟩
  go_enter Try.func13, Try.ntmps13
  go_wp2_with (go_at_call 32; refine (hE.out _).mono ?_; rintro e w1 ⟨rfl, h1⟩; have h2 := h1.symm; subst h2; clear hE)
  go_ret2
  exact ⟨rfl, rfl⟩

/-- A slot that was read, as a value. -/
def slV (t : Bool) (g : Int) (p : Value) : Value := .agg #[.bool t, .int .u64 g, p]

set_option maxRecDepth 100000 in
set_option maxHeartbeats 1000000 in
theorem newer_any (t1 t2 : Bool) (g1 g2 : Int) (a1 a2 : Option Addr) (n1 c1 n2 c2 : Nat) (w : World) :
    Calls Try.prog 39 #[.agg #[.bool t1, .int .u64 g1, .slice a1 n1 c1], .agg #[.bool t2, .int .u64 g2, .slice a2 n2 c2]] w fun e w' => e = .returned (.bool (t1 && (!t2 || decide (g2 < g1)))) ∧ Below w.heap.size w w' := by
  cases t1 with
  | false =>
    go_enter Try.func39, Try.ntmps39
    go_wp2
    go_ret
    exact ⟨rfl, by repeat (first | refine Below.setCell ?_ (by simp) _ | refine Below.alloc ?_ (by simp) _ | exact Below.refl _ _)⟩
  | true =>
    cases t2 with
    | false =>
      go_enter Try.func39, Try.ntmps39
      go_wp2
      go_ret
      exact ⟨rfl, by repeat (first | refine Below.setCell ?_ (by simp) _ | refine Below.alloc ?_ (by simp) _ | exact Below.refl _ _)⟩
    | true =>
      go_enter Try.func39, Try.ntmps39
      go_wp2
      go_ret
      exact ⟨by simp, by repeat (first | refine Below.setCell ?_ (by simp) _ | refine Below.alloc ?_ (by simp) _ | exact Below.refl _ _)⟩
end Go.Proofs.Ytndlpmnidpandaa
