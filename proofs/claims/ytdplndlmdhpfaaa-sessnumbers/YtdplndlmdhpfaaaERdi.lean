/-
  sess: a slice of bytes that came in.
-/
import Derived.Test.YtdplndlmdhpfaaaEAwk
namespace Go.Proofs.Ytdplndlmdhpfaaa
open Go.RowKit
set_option linter.unusedVariables false
set_option linter.unusedSimpArgs false

theorem rd_isrow {w : World} {a : Option Addr} {n c : Nat} {zs : List Int} (h : (a = none ∧ n = 0 ∧ c = 0 ∧ zs = []) ∨ ∃ x, a = some x ∧ n ≤ c ∧ c ≤ maxLen ∧ zs.length = c ∧ (∀ i, i < zs.length → w.cell? (x.add i) = some (.int .u8 (zs.getD i 0))) ∧ ∀ n ∈ zs, (Lit.int .u8 n).wf = true) :
    RdAt w (.slice a n c) (zs.take n) ∧ Bytes (zs.take n) ∧ (zs.take n).length = n ∧ n ≤ maxLen ∧ c ≤ maxLen := by
  rcases h with ⟨rfl, rfl, rfl, rfl⟩ | ⟨x, rfl, h1, h2, h3, h4, h5⟩
  · exact ⟨rd_nil w, Bytes.nil, rfl, by unfold maxLen; omega, by unfold maxLen; omega⟩
  · have hlen : (zs.take n).length = n := by rw [List.length_take]; omega
    have hb : Bytes (zs.take n) := by
      intro j
      rw [List.getD_eq_getElem?_getD]
      cases hj : (zs.take n)[j]? with
      | none => simp
      | some y =>
        have := h5 y (List.mem_of_mem_take (List.mem_of_getElem? hj))
        simp [Lit.wf, IntKind.min, IntKind.max, IntKind.bits, IntKind.signed] at this
        simp only [Option.getD_some]
        omega
    refine ⟨⟨some x, c, by rw [hlen], (fun h => by cases h), by omega, ?_⟩, hb, hlen, by omega, h2⟩
    by_cases h0 : n = 0
    · exact .inl (by omega)
    · have hc0 := h4 0 (by omega)
      obtain ⟨b, off, spot⟩ := x
      have hspot : spot = none := by simpa [Addr.add] using World.cell?_spot hc0
      subst hspot
      refine .inr ⟨b, off, rfl, fun j u hu => ?_⟩
      have hj : j < n := by have := (List.getElem?_eq_some_iff.1 hu).1; simpa [hlen] using this
      have := h4 j (by omega)
      rw [Go.WideShapes.add_plain] at this
      rw [this]
      unfold cels at hu
      rw [List.getElem?_map, List.getElem?_take_of_lt hj, List.getElem?_eq_getElem (by omega)] at hu
      rw [← hu, List.getD_eq_getElem?_getD, List.getElem?_eq_getElem (by omega)]
      rfl

theorem wf_u32' {n : Int} (h : (Lit.int .u32 n).wf = true) : 0 ≤ n ∧ n < 4294967296 := by
  simp [Lit.wf, IntKind.min, IntKind.max, IntKind.bits, IntKind.signed] at h; omega
end Go.Proofs.Ytdplndlmdhpfaaa
