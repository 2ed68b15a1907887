/-
  Values and commands that came in.
-/
import Derived.Test.YtdojhgapdocngaaMSens
import Derived.Lib.SmallJoins
import Derived.OpenShut
namespace Go.Proofs.Ytdojhgapdocngaa
open Go.ChangeShapes Go.WideShapes Go.ChangeAt Go.RowKit Go.Joins
set_option linter.unusedVariables false

theorem wf_u8 {n : Int} (h : (Lit.int .u8 n).wf = true) : 0 ≤ n ∧ n ≤ 255 := by
  simp [Lit.wf, IntKind.min, IntKind.max, IntKind.bits, IntKind.signed] at h; omega
theorem cells3 : Try.prog.cellsOf 3 = 1 := by kernel_rfl
theorem cells4 : Try.prog.cellsOf 4 = 1 := by kernel_rfl
theorem cells5 : Try.prog.cellsOf 5 = 1 := by kernel_rfl
theorem cells33 : Try.prog.cellsOf 33 = 1 := by kernel_rfl
theorem cells34 : Try.prog.cellsOf 34 = 1 := by kernel_rfl

theorem array3 {α : Type} {cs : Array α} (h : cs.size = 3) : ∃ c0 c1 c2, cs = #[c0, c1, c2] := by
  obtain ⟨l⟩ := cs
  match l, h with
  | [c0, c1, c2], _ => exact ⟨c0, c1, c2, rfl⟩

theorem open_vals {H : Type} {enc : TypeId × Value → H} {W : World} {base b0 : Nat} {spare : Nat → Bool} {held : Bool} {r : Reach} {v : Value} {d : DataW H} {p : List MemPlace}
    (hv : Value.okWide Try.prog W r b0 23 v) (h : DataW.Trod enc Try.prog W base spare held 23 v d p) : ∃ s : Vs, v = .agg s.vals := by
  obtain ⟨cs, rfl, hsz⟩ := okWide_struct Try.underlying23 hv
  obtain ⟨c0, c1, c2, rfl⟩ := array3 (hsz.trans (by kernel_rfl))
  obtain ⟨fuel, hf⟩ := h
  obtain ⟨xs, n, _, _, _, hlen, hfs⟩ := DataW.trod_struct Try.underlying23 hf
  have hl : xs.length = 3 := hlen.trans (by kernel_rfl)
  have g0 := hfs 0 _ rfl
  rw [List.getElem?_eq_getElem (show 0 < xs.length by omega)] at g0
  simp only [Value.cells] at g0
  have g1 := hfs 1 _ rfl
  rw [List.getElem?_eq_getElem (show 1 < xs.length by omega)] at g1
  simp only [Value.cells] at g1
  have g2 := hfs 2 _ rfl
  rw [List.getElem?_eq_getElem (show 2 < xs.length by omega)] at g2
  simp only [Value.cells] at g2
  obtain ⟨a0, q0, _⟩ := DataW.trod_bool Try.underlying4 g0
  obtain ⟨a1, q1, _⟩ := DataW.trod_bool Try.underlying4 g1
  obtain ⟨a2, q2, _⟩ := DataW.trod_bool Try.underlying4 g2
  simp [cells4] at q0 q1 q2
  subst q0 q1 q2
  exact ⟨⟨a0, a1, a2⟩, rfl⟩

theorem array15 {α : Type} {cs : Array α} (h : cs.size = 15) : ∃ c0 c1 c2 c3 c4 c5 c6 c7 c8 c9 c10 c11 c12 c13 c14, cs = #[c0, c1, c2, c3, c4, c5, c6, c7, c8, c9, c10, c11, c12, c13, c14] := by
  obtain ⟨l⟩ := cs
  match l, h with
  | [c0, c1, c2, c3, c4, c5, c6, c7, c8, c9, c10, c11, c12, c13, c14], _ => exact ⟨c0, c1, c2, c3, c4, c5, c6, c7, c8, c9, c10, c11, c12, c13, c14, rfl⟩

theorem open_cmd {H : Type} {enc : TypeId × Value → H} {W : World} {base b0 : Nat} {spare : Nat → Bool} {held : Bool} {r : Reach} {v : Value} {d : DataW H} {p : List MemPlace}
    (hv : Value.okWide Try.prog W r b0 36 v) (h : DataW.Trod enc Try.prog W base spare held 36 v d p) : ∃ s : Cm, v = .agg s.vals ∧ (0 ≤ s.pg ∧ s.pg ≤ 255) ∧ (0 ≤ s.ct ∧ s.ct ≤ 255) := by
  obtain ⟨cs, rfl, hsz⟩ := okWide_struct Try.underlying36 hv
  obtain ⟨c0, c1, c2, c3, c4, c5, c6, c7, c8, c9, c10, c11, c12, c13, c14, rfl⟩ := array15 (hsz.trans (by kernel_rfl))
  obtain ⟨fuel, hf⟩ := h
  obtain ⟨xs, n, _, _, _, hlen, hfs⟩ := DataW.trod_struct Try.underlying36 hf
  have hl : xs.length = 15 := hlen.trans (by kernel_rfl)
  have g0 := hfs 0 _ rfl
  rw [List.getElem?_eq_getElem (show 0 < xs.length by omega)] at g0
  simp only [Value.cells] at g0
  have g1 := hfs 1 _ rfl
  rw [List.getElem?_eq_getElem (show 1 < xs.length by omega)] at g1
  simp only [Value.cells] at g1
  have g2 := hfs 2 _ rfl
  rw [List.getElem?_eq_getElem (show 2 < xs.length by omega)] at g2
  simp only [Value.cells] at g2
  have g3 := hfs 3 _ rfl
  rw [List.getElem?_eq_getElem (show 3 < xs.length by omega)] at g3
  simp only [Value.cells] at g3
  have g4 := hfs 4 _ rfl
  rw [List.getElem?_eq_getElem (show 4 < xs.length by omega)] at g4
  simp only [Value.cells] at g4
  have g5 := hfs 5 _ rfl
  rw [List.getElem?_eq_getElem (show 5 < xs.length by omega)] at g5
  simp only [Value.cells] at g5
  have g6 := hfs 6 _ rfl
  rw [List.getElem?_eq_getElem (show 6 < xs.length by omega)] at g6
  simp only [Value.cells] at g6
  have g7 := hfs 7 _ rfl
  rw [List.getElem?_eq_getElem (show 7 < xs.length by omega)] at g7
  simp only [Value.cells] at g7
  have g8 := hfs 8 _ rfl
  rw [List.getElem?_eq_getElem (show 8 < xs.length by omega)] at g8
  simp only [Value.cells] at g8
  have g9 := hfs 9 _ rfl
  rw [List.getElem?_eq_getElem (show 9 < xs.length by omega)] at g9
  simp only [Value.cells] at g9
  have g10 := hfs 10 _ rfl
  rw [List.getElem?_eq_getElem (show 10 < xs.length by omega)] at g10
  simp only [Value.cells] at g10
  have g11 := hfs 11 _ rfl
  rw [List.getElem?_eq_getElem (show 11 < xs.length by omega)] at g11
  simp only [Value.cells] at g11
  have g12 := hfs 12 _ rfl
  rw [List.getElem?_eq_getElem (show 12 < xs.length by omega)] at g12
  simp only [Value.cells] at g12
  have g13 := hfs 13 _ rfl
  rw [List.getElem?_eq_getElem (show 13 < xs.length by omega)] at g13
  simp only [Value.cells] at g13
  have g14 := hfs 14 _ rfl
  rw [List.getElem?_eq_getElem (show 14 < xs.length by omega)] at g14
  simp only [Value.cells] at g14
  obtain ⟨a0, q0, _, w0⟩ := DataW.trod_int Try.underlying33 g0
  obtain ⟨a1, q1, _⟩ := DataW.trod_bool Try.underlying4 g1
  obtain ⟨a2, q2, _, w2⟩ := DataW.trod_int Try.underlying34 g2
  obtain ⟨a3, q3, _, w3⟩ := DataW.trod_int Try.underlying34 g3
  obtain ⟨a4, q4, _, w4⟩ := DataW.trod_int Try.underlying3 g4
  obtain ⟨a5, q5, _⟩ := DataW.trod_bool Try.underlying4 g5
  obtain ⟨a6, q6, _, w6⟩ := DataW.trod_int Try.underlying5 g6
  obtain ⟨a7, q7, _⟩ := DataW.trod_bool Try.underlying4 g7
  obtain ⟨a8, q8, _⟩ := DataW.trod_bool Try.underlying4 g8
  obtain ⟨a9, q9, _, w9⟩ := DataW.trod_int Try.underlying5 g9
  obtain ⟨a10, q10, _, w10⟩ := DataW.trod_int Try.underlying5 g10
  obtain ⟨a11, q11, _⟩ := DataW.trod_bool Try.underlying4 g11
  obtain ⟨a12, q12, _, w12⟩ := DataW.trod_int Try.underlying5 g12
  obtain ⟨a13, q13, _, w13⟩ := DataW.trod_int Try.underlying5 g13
  obtain ⟨a14, q14, _⟩ := DataW.trod_bool Try.underlying4 g14
  simp [cells3, cells4, cells5, cells33, cells34] at q0 q1 q2 q3 q4 q5 q6 q7 q8 q9 q10 q11 q12 q13 q14
  subst q0 q1 q2 q3 q4 q5 q6 q7 q8 q9 q10 q11 q12 q13 q14
  exact ⟨⟨a0, a1, a2, a3, a4, a5, a6, a7, a8, a9, a10, a11, a12, a13, a14⟩, rfl, wf_u8 w9, wf_u8 w10⟩
end Go.Proofs.Ytdojhgapdocngaa
