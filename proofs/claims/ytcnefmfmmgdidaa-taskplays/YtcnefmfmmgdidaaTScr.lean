/-
  A script of calls that came in: four cells an act.
-/
import Derived.Test.YtcnefmfmmgdidaaTBothC
import Derived.Deep.Slices
import Derived.Lib.SmallJoins
namespace Go.Proofs.Ytcnefmfmmgdidaa
open Go.ChangeShapes Go.WideShapes Go.ChangeAt Go.RowKit Go.Joins Go.Deep
set_option linter.unusedVariables false
set_option linter.unusedSimpArgs false

/-- Acts that came in. -/
def Acts (w : World) (a : Option Addr) (len : Nat) : Prop :=
  len ≤ maxLen ∧ ∀ W, Below w.heap.size w W → ∀ j, j < len → ∃ b off, a = some ⟨b, off, none⟩ ∧ b < w.heap.size ∧ ∃ K N G A : Int, W.rangeAt b (off + j * 4) (actV K N G A) ∧ (0 ≤ K ∧ K ≤ 255) ∧ (0 ≤ G ∧ G ≤ 4294967295) ∧ (0 ≤ A ∧ A ≤ 255)

theorem Try.cells32 : Try.prog.cellsOf 32 = 4 := by kernel_rfl

theorem acts_of {H : Type} {enc : TypeId × Value → H} {w : World} {sp : Nat → Bool} {hd : Bool} {a : Option Addr} {len cap : Nat} {d : DataW H} {p : List MemPlace}
    (h : DataW.Trod enc Try.prog w 0 sp hd 22 (.slice a len cap) d p) : Acts w a len := by
  obtain ⟨fuel, hf⟩ := h
  rcases open_slice Try.underlying22 hf with ⟨hcs, _⟩ | ⟨x, l, c, m, n, D, Pl, hcs, _, hl, hm, hmm, _, hx⟩
  · simp [Value.cells] at hcs
    obtain ⟨rfl, rfl, rfl⟩ := hcs
    exact ⟨Nat.zero_le _, fun W _ j hj => by omega⟩
  · simp [Value.cells] at hcs
    obtain ⟨rfl, rfl, rfl⟩ := hcs
    refine ⟨Nat.le_trans hl hm, fun W hb j hj => ?_⟩
    have hjm : j < m := by rw [hmm]; split <;> omega
    obtain ⟨b, off, spot⟩ := x
    have hspot : spot = none := by
      obtain ⟨cs, h1, _⟩ := hx 0 (by omega)
      rw [Try.cells32] at h1
      obtain ⟨_, hlen, hcell⟩ := World.cells?_some h1
      have e0 := hcell 0 (by decide)
      match cs, hlen with
      | [c0, c1, c2, c3], _ =>
        have e1 : w.cell? (((⟨b, off, spot⟩ : Addr).add (0 * 4)).add 0) = some c0 := e0
        simpa [Addr.add] using World.cell?_spot e1
    subst hspot
    obtain ⟨cs, h1, h2⟩ := hx j hjm
    rw [Try.cells32] at h1
    obtain ⟨_, hlen, hcell⟩ := World.cells?_some h1
    obtain ⟨y0, y1, y2, y3, q, _, _, g0, g1, g2, g3⟩ := trod_struct4 Try.underlying32 h2
    match cs, hlen with
    | [c0, c1, c2, c3], _ =>
      have e0 : w.cell? (((⟨b, off, none⟩ : Addr).add (j * 4)).add 0) = some c0 := hcell 0 (by decide)
      have e1 : w.cell? (((⟨b, off, none⟩ : Addr).add (j * 4)).add 1) = some c1 := hcell 1 (by decide)
      have e2 : w.cell? (((⟨b, off, none⟩ : Addr).add (j * 4)).add 2) = some c2 := hcell 2 (by decide)
      have e3 : w.cell? (((⟨b, off, none⟩ : Addr).add (j * 4)).add 3) = some c3 := hcell 3 (by decide)
      rw [Go.WideShapes.add_plain, Go.WideShapes.add_plain] at e0 e1 e2 e3
      obtain ⟨K, k1, _, k2⟩ := DataW.trod_int Try.underlying5 (show DataW.trod enc Try.prog w 0 sp hd q 5 [c0] = some y0 from g0)
      obtain ⟨N, n1, _, n2⟩ := DataW.trod_int Try.underlying3 (show DataW.trod enc Try.prog w 0 sp hd q 3 [c1] = some y1 from g1)
      obtain ⟨G, c1', _, c2'⟩ := DataW.trod_int Try.underlying29 (show DataW.trod enc Try.prog w 0 sp hd q 29 [c2] = some y2 from g2)
      obtain ⟨A, a1', _, a2'⟩ := DataW.trod_int Try.underlying30 (show DataW.trod enc Try.prog w 0 sp hd q 30 [c3] = some y3 from g3)
      simp only [List.cons.injEq, and_true] at k1 n1 c1' a1'
      subst k1 n1 c1' a1'
      simp [Lit.wf, IntKind.min, IntKind.max, IntKind.bits, IntKind.signed] at k2 n2 c2' a2'
      have hbl : b < w.heap.size := World.block_lt_of_cell? w _ e0
      refine ⟨b, off, rfl, hbl, K, N, G, A, fun i x hi => ?_, by omega, by omega, by omega⟩
      rw [hb.cell (p := ⟨b, off + j * 4 + i, none⟩) hbl]
      have h4 : i < 4 := by have := (List.getElem?_eq_some_iff.1 hi).1; simpa using this
      have hcs : i = 0 ∨ i = 1 ∨ i = 2 ∨ i = 3 := by omega
      rcases hcs with rfl | rfl | rfl | rfl
      · simp at hi; subst hi; exact e0
      · simp at hi; subst hi; exact e1
      · simp at hi; subst hi; exact e2
      · simp at hi; subst hi; exact e3
end Go.Proofs.Ytcnefmfmmgdidaa
