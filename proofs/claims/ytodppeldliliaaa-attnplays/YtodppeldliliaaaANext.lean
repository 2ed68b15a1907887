/-
  The contract of Next.
-/
import Derived.Test.YtodppeldliliaaaADelM
namespace Go.Proofs.Ytodppeldliliaaa
open Go.RowKit
set_option linter.unusedVariables false
set_option linter.unusedSimpArgs false

def bestAt (zs : List Int) : Nat := bestFrom zs zs.length 0 0

theorem next_none (base B n : Nat) (L : Nat → List Int) (S : Nat → Value) (w : World) (h : Qu base w B L S) (hn : n < 8) (h0 : L n = []) :
    Calls Try.prog 14 #[.pointer (some ⟨B, 0, none⟩), .int .i64 n] w fun e w' => e = .returned (.tuple #[.int .u16 0, .bool false]) ∧ w' = w := by
  have HC := Kpt.mk (codes_any base B n L S w h hn)
  obtain ⟨a, cap, hv, _⟩ := (h.own n hn).shape
  rw [hv, h0] at HC
  clear h hv h0
  simp only [List.length_nil] at HC
  go_enter Try.func14, Try.ntmps14
  go_wp2_with (go_at_call 20; refine HC.out.mono ?_; rintro e w' ⟨rfl, rfl⟩)
  go_ret2
  exact ⟨rfl, rfl⟩
end Go.Proofs.Ytodppeldliliaaa
