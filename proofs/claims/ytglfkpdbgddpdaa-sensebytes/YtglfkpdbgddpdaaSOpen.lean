/-
  A sense that came in.
-/
import Derived.Test.YtglfkpdbgddpdaaSDef
import Derived.Lib.SmallJoins
import Derived.OpenShut
namespace Go.Proofs.Ytglfkpdbgddpdaa
open Go.ChangeShapes Go.WideShapes Go.ChangeAt Go.RowKit Go.Joins
set_option linter.unusedVariables false

theorem array8 {α : Type} {cs : Array α} (h : cs.size = 8) : ∃ c0 c1 c2 c3 c4 c5 c6 c7, cs = #[c0, c1, c2, c3, c4, c5, c6, c7] := by
  obtain ⟨l⟩ := cs
  match l, h with
  | [c0, c1, c2, c3, c4, c5, c6, c7], _ => exact ⟨c0, c1, c2, c3, c4, c5, c6, c7, rfl⟩

theorem wf_u8 {n : Int} (h : (Lit.int .u8 n).wf = true) : 0 ≤ n ∧ n ≤ 255 := by
  simp [Lit.wf, IntKind.min, IntKind.max, IntKind.bits, IntKind.signed] at h; omega
theorem wf_u16 {n : Int} (h : (Lit.int .u16 n).wf = true) : 0 ≤ n ∧ n ≤ 65535 := by
  simp [Lit.wf, IntKind.min, IntKind.max, IntKind.bits, IntKind.signed] at h; omega
theorem wf_u64 {n : Int} (h : (Lit.int .u64 n).wf = true) : 0 ≤ n ∧ n < 18446744073709551616 := by
  simp [Lit.wf, IntKind.min, IntKind.max, IntKind.bits, IntKind.signed] at h; omega
theorem wf_i64 {n : Int} (h : (Lit.int .i64 n).wf = true) : -9223372036854775808 ≤ n ∧ n < 9223372036854775808 := by
  simp [Lit.wf, IntKind.min, IntKind.max, IntKind.bits, IntKind.signed] at h; omega

theorem cells3 : Try.prog.cellsOf 3 = 1 := by kernel_rfl
theorem cells4 : Try.prog.cellsOf 4 = 1 := by kernel_rfl
theorem cells5 : Try.prog.cellsOf 5 = 1 := by kernel_rfl
theorem cells22 : Try.prog.cellsOf 22 = 1 := by kernel_rfl
theorem cells23 : Try.prog.cellsOf 23 = 1 := by kernel_rfl

theorem open_sense {H : Type} {enc : TypeId × Value → H} {W : World} {base b0 : Nat} {spare : Nat → Bool} {held : Bool} {r : Reach} {v : Value} {d : DataW H} {p : List MemPlace}
    (hv : Value.okWide Try.prog W r b0 25 v) (h : DataW.Trod enc Try.prog W base spare held 25 v d p) : ∃ s : Sn, v = .agg s.vals ∧ s.wf := by
  obtain ⟨cs, rfl, hsz⟩ := okWide_struct Try.underlying25 hv
  obtain ⟨c0, c1, c2, c3, c4, c5, c6, c7, rfl⟩ := array8 (hsz.trans (by kernel_rfl))
  obtain ⟨fuel, hf⟩ := h
  obtain ⟨xs, n, _, _, _, hlen, hfs⟩ := DataW.trod_struct Try.underlying25 hf
  have hl : xs.length = 8 := hlen.trans (by kernel_rfl)
  have g0 := hfs 0 _ rfl
  rw [List.getElem?_eq_getElem (show 0 < xs.length by omega)] at g0
  simp only [Value.cells] at g0
  have g1 := hfs 1 _ rfl
  rw [List.getElem?_eq_getElem (show 1 < xs.length by omega)] at g1
  simp only [Value.cells] at g1
  have g2 := hfs 2 _ rfl
  rw [List.getElem?_eq_getElem (show 2 < xs.length by omega)] at g2
  simp only [Value.cells] at g2
  have g3 := hfs 3 _ rfl
  rw [List.getElem?_eq_getElem (show 3 < xs.length by omega)] at g3
  simp only [Value.cells] at g3
  have g4 := hfs 4 _ rfl
  rw [List.getElem?_eq_getElem (show 4 < xs.length by omega)] at g4
  simp only [Value.cells] at g4
  have g5 := hfs 5 _ rfl
  rw [List.getElem?_eq_getElem (show 5 < xs.length by omega)] at g5
  simp only [Value.cells] at g5
  have g6 := hfs 6 _ rfl
  rw [List.getElem?_eq_getElem (show 6 < xs.length by omega)] at g6
  simp only [Value.cells] at g6
  have g7 := hfs 7 _ rfl
  rw [List.getElem?_eq_getElem (show 7 < xs.length by omega)] at g7
  simp only [Value.cells] at g7
  obtain ⟨a0, q0, _, w0⟩ := DataW.trod_int Try.underlying5 g0
  obtain ⟨a1, q1, _, w1⟩ := DataW.trod_int Try.underlying22 g1
  obtain ⟨a2, q2, _, w2⟩ := DataW.trod_int Try.underlying23 g2
  obtain ⟨a3, q3, _⟩ := DataW.trod_bool Try.underlying4 g3
  obtain ⟨a4, q4, _, w4⟩ := DataW.trod_int Try.underlying3 g4
  obtain ⟨a5, q5, _, w5⟩ := DataW.trod_int Try.underlying3 g5
  obtain ⟨a6, q6, _⟩ := DataW.trod_bool Try.underlying4 g6
  obtain ⟨a7, q7, _⟩ := DataW.trod_bool Try.underlying4 g7
  simp [cells3, cells4, cells5, cells22, cells23] at q0 q1 q2 q3 q4 q5 q6 q7
  subst q0 q1 q2 q3 q4 q5 q6 q7
  exact ⟨⟨a0, a1, a2, a3, a4, a5, a6, a7⟩, rfl, wf_u8 w0, wf_u16 w1, wf_u64 w2, wf_i64 w4, wf_i64 w5⟩
end Go.Proofs.Ytglfkpdbgddpdaa
