/-
  A script of services that came in: seven cells an act.
-/
import Derived.Test.YtmnoolcffkjmhaaPGood
import Derived.Deep.Slices
import Derived.Lib.SmallJoins
namespace Go.Proofs.Ytmnoolcffkjmhaa
open Go.ChangeShapes Go.WideShapes Go.ChangeAt Go.RowKit Go.Joins Go.Deep
set_option linter.unusedVariables false
set_option linter.unusedSimpArgs false

/-- What a service's numbers can be. -/
structure Ou.wf (o : Ou) : Prop where
  sv : 0 ≤ o.sv ∧ o.sv ≤ 255
  ty : 0 ≤ o.ty ∧ o.ty ≤ 255
  ky : 0 ≤ o.ky ∧ o.ky < 18446744073709551616
  ac : 0 ≤ o.ac ∧ o.ac < 18446744073709551616
theorem wf_u8 {n : Int} (h : (Lit.int .u8 n).wf = true) : 0 ≤ n ∧ n ≤ 255 := by
  simp [Lit.wf, IntKind.min, IntKind.max, IntKind.bits, IntKind.signed] at h; omega
theorem wf_u64 {n : Int} (h : (Lit.int .u64 n).wf = true) : 0 ≤ n ∧ n < 18446744073709551616 := by
  simp [Lit.wf, IntKind.min, IntKind.max, IntKind.bits, IntKind.signed] at h; omega
theorem wf_i64 {n : Int} (h : (Lit.int .i64 n).wf = true) : -9223372036854775808 ≤ n ∧ n < 9223372036854775808 := by
  simp [Lit.wf, IntKind.min, IntKind.max, IntKind.bits, IntKind.signed] at h; omega

theorem cellsI : Try.prog.cellsOf 3 = 1 := by kernel_rfl
theorem cellsB : Try.prog.cellsOf 4 = 1 := by kernel_rfl
theorem cellsU8 : Try.prog.cellsOf 5 = 1 := by kernel_rfl
theorem cellsU64 : Try.prog.cellsOf 27 = 1 := by kernel_rfl
theorem cellsOU : Try.prog.cellsOf 33 = 5 := by kernel_rfl
theorem cellsACT : Try.prog.cellsOf 35 = 7 := by kernel_rfl

set_option maxRecDepth 100000 in
theorem out_of {H : Type} {enc : TypeId × Value → H} {w : World} {base : Nat} {sp : Nat → Bool} {hd : Bool} {fuel : Nat} {c0 c1 c2 c3 c4 : Value} {x : DataW H × List MemPlace}
    (hf : DataW.trod enc Try.prog w base sp hd fuel 33 [c0, c1, c2, c3, c4] = some x) : ∃ o : Ou, [c0, c1, c2, c3, c4] = o.vals.toList ∧ o.wf := by
  obtain ⟨xs, n, _, _, _, hlen, hfs⟩ := DataW.trod_struct Try.underlying33 hf
  have hl : xs.length = 5 := hlen.trans (by kernel_rfl)
  have g0 := hfs 0 _ rfl
  rw [List.getElem?_eq_getElem (show 0 < xs.length by omega)] at g0
  have g1 := hfs 1 _ rfl
  rw [List.getElem?_eq_getElem (show 1 < xs.length by omega)] at g1
  have g2 := hfs 2 _ rfl
  rw [List.getElem?_eq_getElem (show 2 < xs.length by omega)] at g2
  have g3 := hfs 3 _ rfl
  rw [List.getElem?_eq_getElem (show 3 < xs.length by omega)] at g3
  have g4 := hfs 4 _ rfl
  rw [List.getElem?_eq_getElem (show 4 < xs.length by omega)] at g4
  obtain ⟨a0, e0, _, r0⟩ := DataW.trod_int Try.underlying5 (show DataW.trod enc Try.prog w base sp hd n 5 [c0] = some _ from g0)
  obtain ⟨a1, e1, _, r1⟩ := DataW.trod_int Try.underlying5 (show DataW.trod enc Try.prog w base sp hd n 5 [c1] = some _ from g1)
  obtain ⟨a2, e2, _, r2⟩ := DataW.trod_int Try.underlying27 (show DataW.trod enc Try.prog w base sp hd n 27 [c2] = some _ from g2)
  obtain ⟨a3, e3, _, r3⟩ := DataW.trod_int Try.underlying27 (show DataW.trod enc Try.prog w base sp hd n 27 [c3] = some _ from g3)
  obtain ⟨a4, e4, _⟩ := DataW.trod_bool Try.underlying4 (show DataW.trod enc Try.prog w base sp hd n 4 [c4] = some _ from g4)
  simp only [List.cons.injEq, and_true] at e0 e1 e2 e3 e4
  subst e0 e1 e2 e3 e4
  exact ⟨⟨a0, a1, a2, a3, a4⟩, rfl, wf_u8 r0, wf_u8 r1, wf_u64 r2, wf_u64 r3⟩

abbrev actV (N : Int) (o : Ou) (A : Bool) : List Value := [.int .i64 N, .int .u8 o.sv, .int .u8 o.ty, .int .u64 o.ky, .int .u64 o.ac, .bool o.ap, .bool A]
set_option maxRecDepth 100000 in
theorem act_of {H : Type} {enc : TypeId × Value → H} {w : World} {base : Nat} {sp : Nat → Bool} {hd : Bool} {fuel : Nat} {c0 c1 c2 c3 c4 c5 c6 : Value} {x : DataW H × List MemPlace}
    (hf : DataW.trod enc Try.prog w base sp hd fuel 35 [c0, c1, c2, c3, c4, c5, c6] = some x) : ∃ N o A, [c0, c1, c2, c3, c4, c5, c6] = actV N o A ∧ o.wf ∧ (-9223372036854775808 ≤ N ∧ N < 9223372036854775808) := by
  obtain ⟨y0, y1, y2, n, _, _, g0, g1, g2⟩ := trod_struct3 Try.underlying35 hf
  obtain ⟨N, e0, _, r0⟩ := DataW.trod_int Try.underlying3 (show DataW.trod enc Try.prog w base sp hd n 3 [c0] = some _ from g0)
  obtain ⟨o, e1, ho⟩ := out_of (show DataW.trod enc Try.prog w base sp hd n 33 [c1, c2, c3, c4, c5] = some _ from g1)
  obtain ⟨A, e2, _⟩ := DataW.trod_bool Try.underlying4 (show DataW.trod enc Try.prog w base sp hd n 4 [c6] = some _ from g2)
  simp only [List.cons.injEq, and_true] at e0 e1 e2
  obtain ⟨rfl, rfl, rfl, rfl, rfl⟩ := e1
  subst e0 e2
  exact ⟨N, o, A, rfl, ho, wf_i64 r0⟩

/-- Acts that came in. -/
def Acts (w : World) (a : Option Addr) (len : Nat) : Prop :=
  len ≤ maxLen ∧ ∀ W, Below w.heap.size w W → ∀ j, j < len → ∃ b off, a = some ⟨b, off, none⟩ ∧ b < w.heap.size ∧ ∃ N o A, W.rangeAt b (off + j * 7) (actV N o A) ∧ o.wf ∧ (-9223372036854775808 ≤ N ∧ N < 9223372036854775808)

set_option maxRecDepth 100000 in
theorem acts_of {H : Type} {enc : TypeId × Value → H} {w : World} {sp : Nat → Bool} {hd : Bool} {a : Option Addr} {len cap : Nat} {d : DataW H} {p : List MemPlace}
    (h : DataW.Trod enc Try.prog w 0 sp hd 22 (.slice a len cap) d p) : Acts w a len := by
  obtain ⟨fuel, hf⟩ := h
  rcases open_slice Try.underlying22 hf with ⟨hcs, _⟩ | ⟨x, l, c, m, n, D, Pl, hcs, _, hl, hm, hmm, _, hx⟩
  · simp [Value.cells] at hcs
    obtain ⟨rfl, rfl, rfl⟩ := hcs
    exact ⟨Nat.zero_le _, fun W _ j hj => by omega⟩
  · simp [Value.cells] at hcs
    obtain ⟨rfl, rfl, rfl⟩ := hcs
    refine ⟨Nat.le_trans hl hm, fun W hb j hj => ?_⟩
    have hjm : j < m := by rw [hmm]; split <;> omega
    obtain ⟨b, off, spot⟩ := x
    have hspot : spot = none := by
      obtain ⟨cs, h1, _⟩ := hx 0 (by omega)
      rw [cellsACT] at h1
      obtain ⟨_, hlen, hcell⟩ := World.cells?_some h1
      have e0 := hcell 0 (by omega)
      match cs, hlen with
      | [c0, c1, c2, c3, c4, c5, c6], _ =>
        have e1 : w.cell? (((⟨b, off, spot⟩ : Addr).add (0 * 7)).add 0) = some c0 := e0
        simpa [Addr.add] using World.cell?_spot e1
    subst hspot
    obtain ⟨cs, h1, h2⟩ := hx j hjm
    rw [cellsACT] at h1
    obtain ⟨_, hlen, hcell⟩ := World.cells?_some h1
    match cs, hlen with
    | [c0, c1, c2, c3, c4, c5, c6], _ =>
      obtain ⟨N, o, A, e, ho, hN⟩ := act_of h2
      have e0 : w.cell? (((⟨b, off, none⟩ : Addr).add (j * 7)).add 0) = some c0 := hcell 0 (by omega)
      rw [Go.WideShapes.add_plain, Go.WideShapes.add_plain] at e0
      have hbl : b < w.heap.size := World.block_lt_of_cell? w _ e0
      refine ⟨b, off, rfl, hbl, N, o, A, fun i x hi => ?_, ho, hN⟩
      rw [hb.cell (p := ⟨b, off + j * 7 + i, none⟩) hbl]
      have hi7 : i < 7 := by have := (List.getElem?_eq_some_iff.1 hi).1; simpa using this
      have := hcell i (by omega)
      rw [Go.WideShapes.add_plain, Go.WideShapes.add_plain] at this
      rw [this, e]
      exact hi
end Go.Proofs.Ytmnoolcffkjmhaa
