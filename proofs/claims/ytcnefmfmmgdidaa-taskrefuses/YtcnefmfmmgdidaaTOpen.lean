/-
  A task that came in.
-/
import Derived.Test.YtcnefmfmmgdidaaTFill
import Derived.Lib.SmallJoins
namespace Go.Proofs.Ytcnefmfmmgdidaa
open Go.ChangeShapes Go.WideShapes Go.ChangeAt Go.RowKit Go.Joins
set_option linter.unusedVariables false

theorem Try.cells48 : Try.prog.cellsOf 48 = 4 := by kernel_rfl

theorem open_task {H : Type} {enc : TypeId × Value → H} {W : World} {base b0 : Nat} {spare : Nat → Bool} {held : Bool} {r : Reach} {v : Value} {d : DataW H} {p : List MemPlace}
    (hv : Value.okWide Try.prog W r b0 48 v) (h : DataW.Trod enc Try.prog W base spare held 48 v d p) : ∃ t : Tk, v = .agg t.vals ∧ True := by
  obtain ⟨v0, v1, v2, v3, y0, y1, y2, y3, n, rfl, _, _, g0, g1, g2, g3⟩ := open_agg4 Try.underlying48 (by kernel_rfl) Try.cells48 hv h
  obtain ⟨a0, q0, _, w0⟩ := DataW.trod_int Try.underlying3 g0
  obtain ⟨a1, q1, _, w1⟩ := DataW.trod_int Try.underlying29 g1
  obtain ⟨a2, q2, _, w2⟩ := DataW.trod_int Try.underlying30 g2
  obtain ⟨a3, q3, _⟩ := DataW.trod_bool Try.underlying4 g3
  simp only [List.cons.injEq, and_true] at q0 q1 q2 q3
  subst q0 q1 q2 q3
  exact ⟨⟨a0, a1, a2, a3⟩, rfl, trivial⟩
end Go.Proofs.Ytcnefmfmmgdidaa
