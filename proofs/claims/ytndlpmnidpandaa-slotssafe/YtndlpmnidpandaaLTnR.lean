/-
  Slots: lists of lists of bytes, and of bools, that came in.
-/
import Derived.Test.YtndlpmnidpandaaLTn
import Derived.RowKit
import Derived.ChangeOld
namespace Go.Proofs.Ytndlpmnidpandaa
open Go.RowKit
set_option linter.unusedVariables false
set_option linter.unusedSimpArgs false

theorem ints_at {w : World} {x : Addr} {zs : List Int} (h : ∀ i, i < zs.length → w.cell? (x.add i) = some (.int .u8 (zs.getD i 0))) (h0 : 0 < zs.length) :
    ∃ b off, x = ⟨b, off, none⟩ ∧ ∀ i, i < zs.length → w.cell? ⟨b, off + i, none⟩ = some (.int .u8 (zs.getD i 0)) := by
  cases x with | mk b o s =>
  have hs : s = none := by
    cases s with
    | none => rfl
    | some t =>
      exfalso
      have h1 := h 0 h0
      unfold Addr.add World.cell? at h1
      simp only [if_true] at h1
      split at h1
      · simp at h1
      · cases h1
  subst hs
  refine ⟨b, o, rfl, fun i hi => ?_⟩
  rw [← Go.WideShapes.add_plain]
  exact h i hi
theorem plain_of_cell {w : World} {x : Addr} {u : Value} (h : w.cell? (x.add 0) = some u) : x = ⟨x.block, x.off, none⟩ := by
  cases x with | mk b o s =>
  cases s with
  | none => rfl
  | some t =>
    exfalso
    unfold Addr.add World.cell? at h
    simp only [if_true] at h
    split at h
    · simp at h
    · cases h
theorem wf_bytes {zs : List Int} (h : ∀ n ∈ zs, (Lit.int .u8 n).wf = true) : Bytes zs := by
  refine bytes_mem (fun x hx => ?_)
  have h2 := h x hx
  simp [Lit.wf, IntKind.min, IntKind.max, IntKind.signed, IntKind.bits] at h2
  omega
theorem rd_came {w : World} {a : Option Addr} {len cap : Nat} {zs : List Int}
    (h : (a = none ∧ len = 0 ∧ cap = 0 ∧ zs = []) ∨
      ∃ x, a = some x ∧ len ≤ cap ∧ cap ≤ maxLen ∧ zs.length = cap ∧ (∀ i, i < zs.length → w.cell? (x.add i) = some (.int .u8 (zs.getD i 0))) ∧ ∀ n ∈ zs, (Lit.int .u8 n).wf = true) :
    len = (zs.take len).length ∧ RdAt w (.slice a (zs.take len).length cap) (zs.take len) ∧ (zs.take len).length ≤ maxLen ∧ Bytes (zs.take len) := by
  rcases h with ⟨rfl, rfl, rfl, rfl⟩ | ⟨x, rfl, hl, hm, hz, hc, hw⟩
  · exact ⟨rfl, rd_nil w, Nat.zero_le _, fun j => by simp⟩
  · have hlen : (zs.take len).length = len := by simp; omega
    refine ⟨hlen.symm, ⟨some x, cap, rfl, by simp, by omega, ?_⟩, by omega, Bytes.take (wf_bytes hw) len⟩
    by_cases h0 : len = 0
    · left; omega
    · right
      obtain ⟨b, off, rfl, hcell⟩ := ints_at hc (by omega)
      refine ⟨b, off, rfl, fun j u hu => ?_⟩
      have hj : j < len := by
        by_cases hj : j < len
        · exact hj
        · rw [List.getElem?_eq_none (by simp; omega)] at hu; cases hu
      rw [hcell j (by omega)]
      simp only [cels, List.getElem?_map, List.getElem?_take, if_pos hj] at hu
      rw [List.getElem?_eq_getElem (by omega)] at hu
      rw [List.getD_eq_getElem?_getD, List.getElem?_eq_getElem (by omega)]
      simpa using hu
/-- A slice of slices of bytes that came in. -/
theorem pieces_of {w : World} {x : Addr} {len cap : Nat} {A : Nat → Option Addr} {L C : Nat → Nat} {Z : Nat → List Int} (hl : len ≤ cap)
    (h : ∀ r, r < cap → w.cell? (x.add r) = some (.slice (A r) (L r) (C r)) ∧ L r ≤ C r ∧ C r ≤ maxLen ∧ (Z r).length = C r ∧ (∀ n ∈ Z r, (Lit.int .u8 n).wf = true) ∧ (A r = none → C r = 0) ∧
        ∀ a', A r = some a' → 0 ≤ a'.block ∧ ∀ c, c < C r → w.cell? (a'.add c) = some (.int .u8 ((Z r).getD c 0))) :
    PiecesAt w (.slice (some x) len cap) len (fun r => (Z r).take (L r)) := by
  refine ⟨some x, cap, rfl, fun i hi => ?_⟩
  obtain ⟨h1, h2, h3, h4, h5, h6, h7⟩ := h i (by omega)
  have hx := plain_of_cell (h 0 (by omega)).1
  obtain ⟨e1, e2, _, e4⟩ := rd_came (w := w) (a := A i) (len := L i) (cap := C i) (zs := Z i) (by
    cases hA : A i with
    | none =>
      have := h6 hA
      exact .inl ⟨rfl, by omega, this, List.eq_nil_of_length_eq_zero (by omega)⟩
    | some a' => exact .inr ⟨a', rfl, h2, h3, h4, fun c hc => (h7 a' hA).2 c (by omega), h5⟩)
  refine ⟨x.block, x.off, A i, C i, by rw [← hx], ?_, e2, e4⟩
  rw [hx, Go.WideShapes.add_plain] at h1
  rw [← e1]
  exact h1
theorem bools_of {w : World} {x : Addr} {len cap : Nat} {Q : Nat → Bool} (hl : len ≤ cap) (h : ∀ i, i < cap → w.cell? (x.add i) = some (.bool (Q i))) : BoolsAt w (.slice (some x) len cap) len Q := by
  refine ⟨some x, cap, rfl, fun i hi => ?_⟩
  have hx := plain_of_cell (h 0 (by omega))
  refine ⟨x.block, x.off, by rw [← hx], ?_⟩
  have h1 := h i (by omega)
  rw [hx, Go.WideShapes.add_plain] at h1
  exact h1
end Go.Proofs.Ytndlpmnidpandaa
