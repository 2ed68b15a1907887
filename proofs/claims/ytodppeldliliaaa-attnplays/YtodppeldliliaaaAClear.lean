/-
  The contract of Clear.
-/
import Derived.Test.YtodppeldliliaaaANextM
namespace Go.Proofs.Ytodppeldliliaaa
open Go.RowKit
set_option linter.unusedVariables false
set_option linter.unusedSimpArgs false

set_option maxHeartbeats 2000000 in
theorem clear_any (base B n : Nat) (L : Nat → List Int) (S : Nat → Value) (w : World) (h : Qu base w B L S) (hn : n < 8) :
    Calls Try.prog 16 #[.pointer (some ⟨B, 0, none⟩), .int .i64 n] w fun e w' => e = .returned (.tuple #[]) ∧ (∃ S', Qu base w' B (upd L n []) S' ∧ Turned w w' B S S') ∧ Below base w w' := by
  have H := Kpt.mk (has_any B n w)
  rw [show hasB (n : Int) = true from by simp [hasB]; omega] at H
  have e1 : (0 : Int) ≤ (n : Int) := by omega
  have e2 : (n : Int) < 8 := by omega
  have hcell := h.cells n hn
  have hK := Kpt.mk h
  have hfr := h.free n
  clear h
  go_enter Try.func16, Try.ntmps16
  go_wp2_with (go_at_call 18; refine H.out.mono ?_; rintro e w' ⟨rfl, rfl⟩)
  have hg : w'.grownBy w' (S n).ownBlock := ⟨rfl, rfl, rfl, Nat.le_refl _, fun _ _ _ => rfl⟩
  refine bodyPost_end (results_none rfl _ _ _) rfl ?_
  exact ⟨rfl, ⟨_, hK.out.turn hn hg (World.ownsRow_nil w' base 31 1) (.inr (.inl rfl)) (by simp) (by simp), turned_turn hK.out hn hg (.inr (.inl rfl))⟩, below_turn hK.out hn hg⟩
end Go.Proofs.Ytodppeldliliaaa
