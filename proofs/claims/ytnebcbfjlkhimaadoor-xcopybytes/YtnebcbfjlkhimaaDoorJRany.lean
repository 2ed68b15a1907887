/-
  The document's Parse of any bytes.
-/
import Derived.Test.YtnebcbfjlkhimaaDoorJRpar
namespace Go.Proofs.YtnebcbfjlkhimaaDoor
open Go.RowKit
set_option linter.unusedVariables false
set_option linter.unusedSimpArgs false
theorem rpar_any (a : Option Addr) (n c : Nat) (zs : List Int) (w : World) (hr : RdAt w (.slice a n c) zs) (hb : Bytes zs) (hn : n ≤ 140737488351232) :
    Calls Tryd.prog 8 #[.slice a n c] w fun e w' => ∃ u s, e = .returned (.tuple #[.agg (lsV u s), .agg (parseX zs).s.vals, .bool (parseX zs).ok]) ∧ Prd 61 w w' u s (parseX zs) := by
  obtain ⟨a', c', hv, h1, h2, h3⟩ := id hr
  simp only [Value.slice.injEq] at hv
  obtain ⟨rfl, rfl, rfl⟩ := hv
  by_cases h0 : zs.length = 0
  · have e : parseX zs = ⟨[], [], noS, true⟩ := by unfold parseX; rw [if_pos h0]
    rw [h0]
    refine (rpar_empty a c w).mono ?_
    rintro e' w' ⟨rfl, hb⟩
    exact ⟨.slice none 0 0, .slice none 0 0, by rw [e]; rfl, by rw [e]; exact Prd.none hb _ _⟩
  · obtain ⟨b, off, rfl, _⟩ : ∃ b off, a = some ⟨b, off, none⟩ ∧ True := by
      rcases h3 with h3 | ⟨b, off, rfl, _⟩
      · exact absurd h3 h0
      · exact ⟨b, off, rfl, trivial⟩
    have hc := rd_cells hr
    have hcs : Cs w b off zs.length zs := ⟨World.block_lt_of_cell? w ⟨b, off + 0, none⟩ (hc.2 0 (by omega)), hc.2⟩
    cases hh : headX zs with
    | some x => exact rpar_bad b off zs.length c zs w hn h2 rfl hb hcs h0 x hh
    | none => exact rpar_ok b off zs.length c zs w hn h2 rfl hb hcs hh
end Go.Proofs.YtnebcbfjlkhimaaDoor
