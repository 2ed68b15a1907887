/-
  login: a loop over targets; keys that are made.
-/
import Derived.Test.YtplifodddfjhdaaDoorXLgM
namespace Go.Proofs.YtplifodddfjhdaaDoor
open Go.RowKit
set_option linter.unusedVariables false
set_option linter.unusedSimpArgs false

theorem own_two2 (w : World) (base : Nat) (hb : base ≤ w.heap.size) (p q : ByteArray × ByteArray) (o : Obj) : ((w.alloc (.cells #[.string p.1, .string p.2, .string q.1, .string q.2] 25)).alloc o).ownsRow base 25 2 (.slice (some ⟨w.heap.size, 0, none⟩) 2 2) 2 (cellsB [p, q]) := by
  refine ⟨by simp [cellsB], .inr ⟨w.heap.size, 2, #[.string p.1, .string p.2, .string q.1, .string q.2], rfl, hb, ?_, by omega, by unfold maxLen; omega, by simp, by simp [cellsB]⟩⟩
  show ((w.heap.push _).push _)[w.heap.size]? = _
  simp [Array.getElem?_push]
theorem has_iff (os : List ByteArray) (T : ByteArray) (hb : Bool) (h : hb = true ↔ ∃ j, j < os.length ∧ os.getD j ByteArray.empty = T) : hb = Lib.containsS os T := by
  have : hb = true ↔ Lib.containsS os T = true := by
    rw [h, Lib.containsS_iff]
    constructor
    · rintro ⟨j, hj, rfl⟩
      rw [List.getD_eq_getElem?_getD, List.getElem?_eq_getElem hj]
      exact List.getElem_mem hj
    · intro hm
      obtain ⟨j, hj, rfl⟩ := List.getElem_of_mem hm
      exact ⟨j, hj, by rw [List.getD_eq_getElem?_getD, List.getElem?_eq_getElem hj]; rfl⟩
  cases hb <;> cases hc : Lib.containsS os T <;> simp_all
theorem st_cells {w : World} {a : Option Addr} {n c : Nat} {os : List ByteArray} (h : StAt w (.slice a n c) os) (j : Nat) (hj : j < n) : ∃ b off, a = some ⟨b, off, none⟩ ∧ w.cell? ⟨b, off + j, none⟩ = some (.string (os.getD j ByteArray.empty)) := by
  obtain ⟨a', c', hv, h1, h2⟩ := h
  simp only [Value.slice.injEq] at hv
  obtain ⟨rfl, rfl, -⟩ := hv
  rcases h2 with h2 | ⟨b, off, rfl, hlt, hc⟩
  · omega
  · exact ⟨b, off, rfl, hc j hj⟩
end Go.Proofs.YtplifodddfjhdaaDoor
