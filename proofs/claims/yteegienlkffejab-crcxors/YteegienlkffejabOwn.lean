/-
  A list of bytes that the call itself has made.
-/
import Derived.Test.YteegienlkffejabRow
import Derived.Laws.AppendOwnNone
namespace Go.Proofs.Yteegienlkffejab
open Go.RowKit
set_option linter.unusedVariables false

theorem Try.info5 : (Try.prog.info? 5).map (fun i => (i.zero, i.size, i.bytes)) = some (some (.int .u8 0), 1, 1) := by kernel_rfl

theorem src_cells {w : World} {b off len : Nat} {Z : List Int} (hz : Z.length = len) (hc : ∀ j, j < len → w.cell? ⟨b, off + j, none⟩ = some (.int .u8 (Z.getD j 0))) :
    ∀ (j : Nat) (v : Value), (Z.map (Value.int .u8))[j]? = some v → w.cell? ((⟨b, off, none⟩ : Addr).add j) = some v := by
  intro j v hj
  rw [Go.WideShapes.add_plain]
  have hlt : j < Z.length := by
    by_cases h : j < Z.length
    · exact h
    · rw [List.getElem?_eq_none (by simp; omega)] at hj; simp at hj
  rw [hc j (by omega)]
  rw [List.getElem?_map, List.getElem?_eq_getElem hlt] at hj
  rw [List.getD_eq_getElem?_getD, List.getElem?_eq_getElem hlt]
  simpa using hj

theorem own_shape {w : World} {base n : Nat} {v : Value} {xs : List Value} (h : w.ownsRow base 5 1 v n xs) (h0 : 0 < n) : ∃ g cap, v = .slice (some ⟨g, 0, none⟩) n cap ∧ base ≤ g := by
  rcases h.2 with ⟨_, h'⟩ | ⟨g, cap, cur, h', hb, _⟩
  · omega
  · exact ⟨g, cap, h', hb⟩

theorem rowAt_own {w : World} {base g len cap : Nat} {L : List Int} (h : w.ownsRow base 5 1 (.slice (some ⟨g, 0, none⟩) len cap) len (L.map (Value.int .u8))) : RowAt w (some ⟨g, 0, none⟩) len L := by
  refine .inr ⟨g, 0, rfl, fun j hj => ?_⟩
  have hl : L.length = len := by have := h.1; simpa using this
  rw [Nat.zero_add, h.cellAt j (by omega), List.getElem?_map, List.getElem?_eq_getElem (by omega), List.getD_eq_getElem?_getD, List.getElem?_eq_getElem (by omega)]
  rfl

theorem own_at {w : World} {base g len cap : Nat} {L : List Int} (h : w.ownsRow base 5 1 (.slice (some ⟨g, 0, none⟩) len cap) len (L.map (Value.int .u8))) (i : Nat) (hi : i < len) (x : Int) (hx : L.getD i 0 = x) :
    w.cell? ⟨g, i, none⟩ = some (.int .u8 x) := by
  have hl : L.length = len := by have := h.1; simpa using this
  rw [h.cellAt i (by omega), List.getElem?_map, List.getElem?_eq_getElem (by omega), ← hx, List.getD_eq_getElem?_getD, List.getElem?_eq_getElem (by omega)]
  rfl

theorem rowAt_cells {w : World} {b off len : Nat} {Z : List Int} (h : ∀ j, j < len → w.cell? ⟨b, off + j, none⟩ = some (.int .u8 (Z.getD j 0))) : RowAt w (some ⟨b, off, none⟩) len Z :=
  .inr ⟨b, off, rfl, h⟩

theorem rowAt_set {w : World} {base g len cap : Nat} {Z L : List Int} (h : w.ownsRow base 5 1 (.slice (some ⟨g, 0, none⟩) len cap) len (Z.map (Value.int .u8))) (i y : Nat) (hL : L = Z.set i (y : Int)) :
    RowAt (w.setCell ⟨g, i, none⟩ (.int .u8 (y : Int))) (some ⟨g, 0, none⟩) len L := by
  rw [hL]
  refine rowAt_own (base := base) (cap := cap) ?_
  rw [List.map_set]
  exact (h.stored i _).1

/-- What is owned, whatever its value: a row of bytes. -/
theorem rowAt_owned {w : World} {base n : Nat} {v : Value} {L : List Int} (h : w.ownsRow base 5 1 v n (L.map (Value.int .u8))) : ∃ a cap, v = .slice a n cap ∧ RowAt w a n L := by
  rcases h.2 with ⟨h', h0⟩ | ⟨g, cap, cur, h', _⟩
  · exact ⟨none, 0, by rw [h', h0], .inl h0⟩
  · subst h'; exact ⟨some ⟨g, 0, none⟩, cap, rfl, rowAt_own h⟩

end Go.Proofs.Yteegienlkffejab
