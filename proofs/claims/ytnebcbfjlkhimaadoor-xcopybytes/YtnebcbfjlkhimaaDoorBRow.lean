/-
  A list of bytes that came in, as a row of cells.
-/
import Derived.Test.YtnebcbfjlkhimaaDoorBBase
import Derived.Test.YtnebcbfjlkhimaaDoorBNum
import Derived.OpenShut
namespace Go.Proofs.YtnebcbfjlkhimaaDoor.B
open Go.RowKit

/-- A row of bytes is there (or it has none). -/
def RowAt (w : World) (a : Option Addr) (len : Nat) (zs : List Int) : Prop :=
  len = 0 ∨ ∃ b off, a = some ⟨b, off, none⟩ ∧ ∀ j, j < len → w.cell? ⟨b, off + j, none⟩ = some (.int .u8 (zs.getD j 0))

theorem RowAt.below {w w' : World} {a : Option Addr} {len : Nat} {zs : List Int} (h : RowAt w a len zs) (hb : Below w.heap.size w w') : RowAt w' a len zs := by
  rcases h with h | ⟨b, off, ha, hc⟩
  · exact .inl h
  · refine .inr ⟨b, off, ha, fun j hj => ?_⟩
    have h1 := hc j hj
    rw [hb.cell (p := ⟨b, off + j, none⟩) (World.block_lt_of_cell? w ⟨b, off + j, none⟩ h1)]
    exact h1

theorem rowAt_of {w : World} {a : Option Addr} {len cap : Nat} {zs : List Int}
    (h : (a = none ∧ len = 0 ∧ cap = 0 ∧ zs = []) ∨
      ∃ x, a = some x ∧ len ≤ cap ∧ cap ≤ maxLen ∧ zs.length = cap ∧ (∀ i, i < zs.length → w.cell? (x.add i) = some (.int .u8 (zs.getD i 0))) ∧ ∀ n ∈ zs, (Lit.int .u8 n).wf = true) :
    RowAt w a len zs ∧ Bytes zs ∧ len ≤ maxLen := by
  rcases h with ⟨_, h, _, hz⟩ | ⟨x, rfl, hlc, hm, hz, hcell, hwz⟩
  · refine ⟨.inl h, ?_, ?_⟩
    · intro j; rw [hz]; simp
    · rw [h]; exact Nat.zero_le _
  · refine ⟨?_, fun j => by rw [List.getD_eq_getElem?_getD]; exact range_u8 hwz j, by omega⟩
    by_cases h0 : len = 0
    · exact .inl h0
    · obtain ⟨b, off, rfl, hc⟩ := ints_at hcell (by omega)
      exact .inr ⟨b, off, rfl, fun j hj => hc j (by omega)⟩

theorem rowAt_of' {w : World} {a : Option Addr} {len cap : Nat} {zs : List Int}
    (h : (a = none ∧ len = 0 ∧ cap = 0 ∧ zs = []) ∨
      ∃ x, a = some x ∧ len ≤ cap ∧ cap ≤ 140737488351232 ∧ zs.length = cap ∧ (∀ i, i < zs.length → w.cell? (x.add i) = some (.int .u8 (zs.getD i 0))) ∧ ∀ n ∈ zs, (Lit.int .u8 n).wf = true) :
    RowAt w a len zs ∧ Bytes zs := by
  have h' := rowAt_of (w := w) (a := a) (len := len) (cap := cap) (zs := zs) (by
    rcases h with h | ⟨x, h1, h2, h3, h4⟩
    · exact .inl h
    · exact .inr ⟨x, h1, h2, by unfold maxLen; omega, h4⟩)
  exact ⟨h'.1, h'.2.1⟩

end Go.Proofs.YtnebcbfjlkhimaaDoor.B
