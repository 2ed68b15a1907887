/-
  text: the document's Parse.
-/
import Derived.Test.YtkojkglaljiilaaXRtw
namespace Go.Proofs.Ytkojkglaljiilaa
open Go.RowKit
set_option linter.unusedVariables false
set_option linter.unusedSimpArgs false

theorem idx_some_of : ∀ (zs : List Int) (c : Int) (i : Nat), i < zs.length → zs.getD i 0 = c → (∀ m, m < i → zs.getD m 0 ≠ c) → idxL zs c = some i
  | [], c, i, h, _, _ => by simp at h
  | z :: l, c, 0, _, h, _ => by
    rw [idxL, if_pos (by simpa using h)]
  | z :: l, c, i + 1, h1, h2, h3 => by
    have h0 : z ≠ c := by simpa using h3 0 (by omega)
    rw [idxL, if_neg h0, idx_some_of l c i (by simpa using h1) (by simpa using h2) (fun m hm => by simpa using h3 (m + 1) (by omega))]
    rfl
theorem idx_none_of : ∀ (zs : List Int) (c : Int), (∀ m, m < zs.length → zs.getD m 0 ≠ c) → idxL zs c = none
  | [], c, _ => rfl
  | z :: l, c, h => by
    have h0 : z ≠ c := by simpa using h 0 (by simp)
    rw [idxL, if_neg h0, idx_none_of l c (fun m hm => by simpa using h (m + 1) (by simpa using hm))]
    rfl
theorem rd_cut {w : World} {b off n c : Nat} {zs : List Int} (h : RdAt w (.slice (some ⟨b, off, none⟩) n c) zs) (i k : Nat) (hik : i + k ≤ n) (hc : ¬ c = i) : RdAt w (.slice (some ⟨b, off + i, none⟩) k (c - i)) ((zs.drop i).take k) := by
  have hl := (rd_cells h).1
  have := rd_drop h i (by omega)
  rw [show offK c off i = off + i by simp only [offK]; rw [if_neg hc]] at this
  exact rd_take this k (by rw [List.length_drop]; omega)
theorem wp_built_pr {w : World} {o : Oper} {a : Act} {KA : Act → World → Prop} {Q : Exit → Act → World → Prop} (K V : ByteArray)
    (he : (execOp a.eval o).run Try.prog w = .ok (.value (.slice (some ⟨w.heap.size, 0, none⟩) 1 1)) (w.alloc (.cells #[.string K, .string V] 40)))
    (h : ∀ g w', (w'.cell? ⟨g, 0, none⟩ = some (.string K) ∧ w'.cell? ⟨g, 1, none⟩ = some (.string V)) → Below w.heap.size w w' → KA (a.put o.dst (.slice (some ⟨g, 0, none⟩) 1 1)) w') : o.wp Try.prog a w KA Q := by
  unfold Oper.wp
  rw [he]
  exact h _ _ (bx_two (bx_new w #[.string K, .string V] 40)) ((Below.refl _ _).alloc (Nat.le_refl _) _)
theorem wp_append_pr {w : World} {o : Oper} {a : Act} {KA : Act → World → Prop} {Q : Exit → Act → World → Prop} (d s : Operand)
    (ho : o.op = .call { callee := .builtin .append, args := #[d, s], argTypes := #[24, 24] })
    (base : Nat) (v : Value) (acc : List (List Int × List Int)) (p : List Int × List Int) (n : Nat) (hd : a.eval d = v) (hown : w.ownsRow base 40 2 v n (cellsP acc)) (g : Nat) (hs : a.eval s = .slice (some ⟨g, 0, none⟩) 1 1)
    (hc0 : w.cell? ⟨g, 0, none⟩ = some (.string (strOfNums p.1))) (hc1 : w.cell? ⟨g, 1, none⟩ = some (.string (strOfNums p.2))) (hn : n ≤ 100000) (hb : base ≤ w.heap.size)
    (h : ∀ v' w', w'.ownsRow base 40 2 v' (n + 1) (cellsP (acc ++ [p])) → w.grownBy w' v.ownBlock → KA (a.put o.dst v') w') : o.wp Try.prog a w KA Q := by
  obtain ⟨i0, hi0, hz0, hz1, hz2⟩ := info_parts info40
  refine wp_append_own w d s 24 ho base 40 i0 (.agg #[.string ⟨#[]⟩, .string ⟨#[]⟩]) 2 32 Try.underlying24 hi0 hz0 hz1 hz2 rfl (by decide) v n (cellsP acc) hd hown ⟨g, 0, none⟩ 1 1 [.string (strOfNums p.1), .string (strOfNums p.2)] hs rfl ?_ ?_ (by unfold maxLen; omega) (by omega) hb ?_
  · intro j u hu
    rw [Go.WideShapes.add_plain]
    rcases j with _ | _ | j
    · simp at hu; rw [← hu]; exact hc0
    · simp at hu; rw [← hu]; exact hc1
    · simp at hu
  · intro u hu
    simp only [List.mem_cons, List.not_mem_nil, or_false] at hu
    rcases hu with rfl | rfl <;> rfl
  · intro v' w' ho' hg _
    refine h v' w' ?_ hg
    rw [cellsP_app]
    exact ho'
end Go.Proofs.Ytkojkglaljiilaa
