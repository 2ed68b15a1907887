/-
  A script of calls that came in: three cells an act.
-/
import Derived.Test.YtodppeldliliaaaAQs
import Derived.Deep.Slices
import Derived.Lib.SmallJoins
namespace Go.Proofs.Ytodppeldliliaaa
open Go.ChangeShapes Go.WideShapes Go.ChangeAt Go.RowKit Go.Joins Go.Deep
set_option linter.unusedVariables false
set_option linter.unusedSimpArgs false

/-- Acts that came in. -/
def Acts (w : World) (a : Option Addr) (len : Nat) : Prop :=
  len ≤ maxLen ∧ ∀ W, Below w.heap.size w W → ∀ j, j < len → ∃ b off, a = some ⟨b, off, none⟩ ∧ ∃ K N C : Int, W.cell? ⟨b, off + j * 3, none⟩ = some (.int .u8 K) ∧ W.cell? ⟨b, off + j * 3 + 1, none⟩ = some (.int .i64 N) ∧ W.cell? ⟨b, off + j * 3 + 2, none⟩ = some (.int .u16 C) ∧
    (0 ≤ K ∧ K ≤ 255) ∧ (-9223372036854775808 ≤ N ∧ N ≤ 9223372036854775807) ∧ (0 ≤ C ∧ C ≤ 65535)

theorem Try.cells33 : Try.prog.cellsOf 33 = 3 := by kernel_rfl

theorem acts_of {H : Type} {enc : TypeId × Value → H} {w : World} {sp : Nat → Bool} {hd : Bool} {a : Option Addr} {len cap : Nat} {d : DataW H} {p : List MemPlace}
    (h : DataW.Trod enc Try.prog w 0 sp hd 22 (.slice a len cap) d p) : Acts w a len := by
  obtain ⟨fuel, hf⟩ := h
  rcases open_slice Try.underlying22 hf with ⟨hcs, _⟩ | ⟨x, l, c, m, n, D, Pl, hcs, _, hl, hm, hmm, _, hx⟩
  · simp [Value.cells] at hcs
    obtain ⟨rfl, rfl, rfl⟩ := hcs
    exact ⟨Nat.zero_le _, fun W _ j hj => by omega⟩
  · simp [Value.cells] at hcs
    obtain ⟨rfl, rfl, rfl⟩ := hcs
    refine ⟨Nat.le_trans hl hm, fun W hb j hj => ?_⟩
    have hjm : j < m := by rw [hmm]; split <;> omega
    obtain ⟨b, off, spot⟩ := x
    have hspot : spot = none := by
      obtain ⟨cs, h1, _⟩ := hx 0 (by omega)
      rw [Try.cells33] at h1
      obtain ⟨_, hlen, hcell⟩ := World.cells?_some h1
      have e0 := hcell 0 (by decide)
      match cs, hlen with
      | [c0, c1, c2], _ =>
        have e1 : w.cell? (((⟨b, off, spot⟩ : Addr).add (0 * 3)).add 0) = some c0 := e0
        simpa [Addr.add] using World.cell?_spot e1
    subst hspot
    refine ⟨b, off, rfl, ?_⟩
    obtain ⟨cs, h1, h2⟩ := hx j hjm
    rw [Try.cells33] at h1
    obtain ⟨_, hlen, hcell⟩ := World.cells?_some h1
    obtain ⟨y0, y1, y2, q, _, _, g0, g1, g2⟩ := trod_struct3 Try.underlying33 h2
    match cs, hlen with
    | [c0, c1, c2], _ =>
      have e0 : w.cell? (((⟨b, off, none⟩ : Addr).add (j * 3)).add 0) = some c0 := hcell 0 (by decide)
      have e1 : w.cell? (((⟨b, off, none⟩ : Addr).add (j * 3)).add 1) = some c1 := hcell 1 (by decide)
      have e2 : w.cell? (((⟨b, off, none⟩ : Addr).add (j * 3)).add 2) = some c2 := hcell 2 (by decide)
      rw [Go.WideShapes.add_plain, Go.WideShapes.add_plain] at e0 e1 e2
      obtain ⟨K, k1, _, k2⟩ := DataW.trod_int Try.underlying5 (show DataW.trod enc Try.prog w 0 sp hd q 5 [c0] = some y0 from g0)
      obtain ⟨N, n1, _, n2⟩ := DataW.trod_int Try.underlying3 (show DataW.trod enc Try.prog w 0 sp hd q 3 [c1] = some y1 from g1)
      obtain ⟨C, c1', _, c2'⟩ := DataW.trod_int Try.underlying31 (show DataW.trod enc Try.prog w 0 sp hd q 31 [c2] = some y2 from g2)
      simp only [List.cons.injEq, and_true] at k1 n1 c1'
      subst k1 n1 c1'
      simp [Lit.wf, IntKind.min, IntKind.max, IntKind.bits, IntKind.signed] at k2 n2 c2'
      refine ⟨K, N, C, (hb.cell (World.block_lt_of_cell? w _ e0)).trans e0, (hb.cell (World.block_lt_of_cell? w _ e1)).trans e1, (hb.cell (World.block_lt_of_cell? w _ e2)).trans e2, by omega, by omega, by omega⟩
end Go.Proofs.Ytodppeldliliaaa
