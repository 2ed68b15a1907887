/-
  Texts that can be read.
-/
import Derived.Test.YtdplndlmdhpfaabXBox
namespace Go.Proofs.Ytdplndlmdhpfaab
open Go.RowKit
set_option linter.unusedVariables false
set_option linter.unusedSimpArgs false

/-- Texts that can be read. -/
def StAt (w : World) (v : Value) (os : List ByteArray) : Prop :=
  ∃ a c, v = .slice a os.length c ∧ os.length ≤ c ∧ (os.length = 0 ∨ ∃ b off, a = some ⟨b, off, none⟩ ∧ b < w.heap.size ∧ ∀ j, j < os.length → w.cell? ⟨b, off + j, none⟩ = some (.string (os.getD j ByteArray.empty)))
theorem StAt.of_block {w w' : World} {v : Value} {os : List ByteArray} (h : StAt w v os) (hs : w.heap.size ≤ w'.heap.size) (hb : ∀ b, v.ownBlock = some b → b < w.heap.size → w'.heap[b]? = w.heap[b]?) : StAt w' v os := by
  obtain ⟨a, c, rfl, h1, h2⟩ := h
  refine ⟨a, c, rfl, h1, ?_⟩
  rcases h2 with h2 | ⟨b, off, rfl, hlt, hc⟩
  · exact .inl h2
  · exact .inr ⟨b, off, rfl, Nat.lt_of_lt_of_le hlt hs, fun j hj => (World.cell?_of_block (w := w) (w' := w') (a := ⟨b, off + j, none⟩) (hb b rfl hlt)).trans (hc j hj)⟩
theorem StAt.bel {w w' : World} {v : Value} {os : List ByteArray} (h : StAt w v os) (hb : Below w.heap.size w w') : StAt w' v os :=
  h.of_block hb.size (fun b _ hlt => hb.block b hlt)
theorem StAt.cellAt {w : World} {a : Option Addr} {n c : Nat} {os : List ByteArray} (h : StAt w (.slice a n c) os) {j : Nat} (hj : j < n) : os.length = n ∧ n ≤ c ∧ ∃ b off, a = some ⟨b, off, none⟩ ∧ b < w.heap.size ∧ w.cell? ⟨b, off + j, none⟩ = some (.string (os.getD j ByteArray.empty)) := by
  obtain ⟨a', c', hv, h1, h2⟩ := h
  simp only [Value.slice.injEq] at hv
  obtain ⟨rfl, rfl, rfl⟩ := hv
  rcases h2 with h2 | ⟨b, off, rfl, hlt, hc⟩
  · omega
  · exact ⟨rfl, h1, b, off, rfl, hlt, hc j hj⟩
/-- Texts that a session does not turn. -/
structure StD (X : Nat → Prop) (w : World) (v : Value) (os : List ByteArray) : Prop where
  rd : StAt w v os
  off : ∀ g, v.ownBlock = some g → g < w.heap.size → ¬ X g
theorem StAt.void {w w' : World} {v : Value} {os : List ByteArray} (h : StAt w v os) (h0 : os.length = 0) : StAt w' v os := by
  obtain ⟨a, c, rfl, h1, _⟩ := h
  exact ⟨a, c, rfl, h1, .inl h0⟩
end Go.Proofs.Ytdplndlmdhpfaab
