/-
  Who a unit is, as it came in.
-/
import Derived.Test.YteoaadpilaljnaaIPlain
import Derived.Lib.SmallJoins
import Derived.OpenShut
namespace Go.Proofs.Yteoaadpilaljnaa
open Go.ChangeShapes Go.WideShapes Go.ChangeAt Go.RowKit Go.Joins
set_option linter.unusedVariables false

theorem wf_u8 {n : Int} (h : (Lit.int .u8 n).wf = true) : 0 ≤ n ∧ n ≤ 255 := by
  simp [Lit.wf, IntKind.min, IntKind.max, IntKind.bits, IntKind.signed] at h; omega
theorem cells5 : Try.prog.cellsOf 5 = 1 := by kernel_rfl
theorem cells9 : Try.prog.cellsOf 9 = 1 := by kernel_rfl

theorem array5 {α : Type} {cs : Array α} (h : cs.size = 5) : ∃ c0 c1 c2 c3 c4, cs = #[c0, c1, c2, c3, c4] := by
  obtain ⟨l⟩ := cs
  match l, h with
  | [c0, c1, c2, c3, c4], _ => exact ⟨c0, c1, c2, c3, c4, rfl⟩

set_option maxRecDepth 100000 in
theorem open_info {H : Type} {enc : TypeId × Value → H} {W : World} {base b0 : Nat} {spare : Nat → Bool} {held : Bool} {r : Reach} {v : Value} {d : DataW H} {p : List MemPlace}
    (hv : Value.okWide Try.prog W r b0 23 v) (h : DataW.Trod enc Try.prog W base spare held 23 v d p) : ∃ s : In, v = .agg s.vals ∧ s.wf := by
  obtain ⟨cs, rfl, hsz⟩ := okWide_struct Try.underlying23 hv
  obtain ⟨c0, c1, c2, c3, c4, rfl⟩ := array5 (hsz.trans (by kernel_rfl))
  obtain ⟨fuel, hf⟩ := h
  obtain ⟨xs, n, _, _, _, hlen, hfs⟩ := DataW.trod_struct Try.underlying23 hf
  have hl : xs.length = 5 := hlen.trans (by kernel_rfl)
  have g0 := hfs 0 _ rfl
  rw [List.getElem?_eq_getElem (show 0 < xs.length by omega)] at g0
  simp only [Value.cells] at g0
  have g1 := hfs 1 _ rfl
  rw [List.getElem?_eq_getElem (show 1 < xs.length by omega)] at g1
  simp only [Value.cells] at g1
  have g2 := hfs 2 _ rfl
  rw [List.getElem?_eq_getElem (show 2 < xs.length by omega)] at g2
  simp only [Value.cells] at g2
  have g3 := hfs 3 _ rfl
  rw [List.getElem?_eq_getElem (show 3 < xs.length by omega)] at g3
  simp only [Value.cells] at g3
  have g4 := hfs 4 _ rfl
  rw [List.getElem?_eq_getElem (show 4 < xs.length by omega)] at g4
  simp only [Value.cells] at g4
  obtain ⟨a0, q0, _, w0⟩ := DataW.trod_string Try.underlying9 g0
  obtain ⟨a1, q1, _, w1⟩ := DataW.trod_string Try.underlying9 g1
  obtain ⟨a2, q2, _, w2⟩ := DataW.trod_string Try.underlying9 g2
  obtain ⟨a3, q3, _, w3⟩ := DataW.trod_string Try.underlying9 g3
  obtain ⟨a4, q4, _, w4⟩ := DataW.trod_int Try.underlying5 g4
  simp [cells5, cells9] at q0 q1 q2 q3 q4
  subst q0 q1 q2 q3 q4
  exact ⟨⟨a0, a1, a2, a3, a4⟩, rfl, ⟨w0, w1, w2, w3, wf_u8 w4⟩⟩
end Go.Proofs.Yteoaadpilaljnaa
