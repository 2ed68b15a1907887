/-
  The document's Next: the lists alone.
-/
import Derived.Test.YtodppeldliliaaaAQs
namespace Go.Proofs.Ytodppeldliliaaa
open Go.RowKit
set_option linter.unusedVariables false
set_option linter.unusedSimpArgs false

/-- The place of the least rank, and the first such. -/
theorem best_spec (zs : List Int) : ∀ (f i b : Nat), i + f = zs.length → (∀ j, j < i → rnk (zs.getD b 0) ≤ rnk (zs.getD j 0)) → (∀ j, j < b → rnk (zs.getD b 0) < rnk (zs.getD j 0)) → b ≤ i →
    (∀ j, j < zs.length → rnk (zs.getD (bestFrom zs f i b) 0) ≤ rnk (zs.getD j 0)) ∧ ∀ j, j < bestFrom zs f i b → rnk (zs.getD (bestFrom zs f i b) 0) < rnk (zs.getD j 0)
  | 0, i, b, h, h1, h2, _ => ⟨fun j hj => h1 j (by omega), h2⟩
  | f + 1, i, b, h, h1, h2, hb => by
    unfold bestFrom
    by_cases hc : rnk (zs.getD i 0) < rnk (zs.getD b 0)
    · rw [if_pos hc]
      refine best_spec zs f (i + 1) i (by omega) (fun j hj => ?_) (fun j hj => ?_) (by omega)
      · by_cases e : j = i
        · subst e; exact Int.le_refl _
        · have := h1 j (by omega); omega
      · have := h1 j hj; omega
    · rw [if_neg hc]
      refine best_spec zs f (i + 1) b (by omega) (fun j hj => ?_) h2 (by omega)
      by_cases e : j = i
      · subst e; omega
      · exact h1 j (by omega)

theorem best_at (zs : List Int) (i : Nat) (r : Int) (hi : i < zs.length) (hr : rnk (zs.getD i 0) = r) (h1 : ∀ j, j < zs.length → r ≤ rnk (zs.getD j 0)) (h2 : ∀ j, j < i → rnk (zs.getD j 0) ≠ r) : bestAt zs = i := by
  obtain ⟨p1, p2⟩ := best_spec zs zs.length 0 0 (by omega) (fun j hj => by omega) (fun j hj => by omega) (Nat.le_refl _)
  have hlt := best_lt zs zs.length 0 0 (by omega) (by omega)
  unfold bestAt
  generalize bestFrom zs zs.length 0 0 = b at *
  rcases Nat.lt_trichotomy b i with h | h | h
  · have a1 := p1 i hi
    have a2 := h1 b hlt
    exact absurd (by omega) (h2 b h)
  · exact h
  · have a1 := p2 i h
    have a2 := h1 b hlt
    omega

/-- What is built of what is left. -/
def restL (zs : List Int) (i j : Nat) : List Int := (zs.take j).eraseIdx i
theorem rest_zero (zs : List Int) (i : Nat) : restL zs i 0 = [] := by simp [restL]
theorem rest_all (zs : List Int) (i : Nat) : restL zs i zs.length = zs.eraseIdx i := by simp [restL]
theorem rest_skip (zs : List Int) (i : Nat) (hi : i < zs.length) : restL zs i (i + 1) = restL zs i i := by
  unfold restL
  rw [List.take_add_one, List.getElem?_eq_getElem hi, List.eraseIdx_append_of_length_le (by simp; omega)]
  rw [List.eraseIdx_of_length_le (l := zs.take i) (by simp; omega)]
  simp [Nat.min_eq_left (Nat.le_of_lt hi)]
theorem rest_step (zs : List Int) (i j : Nat) (hj : j < zs.length) (hne : j ≠ i) : restL zs i (j + 1) = restL zs i j ++ [zs.getD j 0] := by
  unfold restL
  rw [List.take_add_one, List.getElem?_eq_getElem hj, List.getD_eq_getElem?_getD, List.getElem?_eq_getElem hj]
  simp only [Option.toList_some, Option.getD_some]
  have hl : (zs.take j).length = j := by simp; omega
  rcases Nat.lt_or_gt_of_ne hne with h | h
  · rw [List.eraseIdx_append_of_length_le (by omega), hl, List.eraseIdx_of_length_le (l := zs.take j) (by omega), List.eraseIdx_of_length_le (by simp; omega)]
  · rw [List.eraseIdx_append_of_lt_length (by omega)]
theorem rest_len (zs : List Int) (i j : Nat) : (restL zs i j).length ≤ zs.length := by
  unfold restL
  have h := List.length_eraseIdx_le (l := zs.take j) (i := i)
  rw [List.length_take] at h
  omega
end Go.Proofs.Ytodppeldliliaaa
