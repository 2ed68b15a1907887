/-
  sess: texts that came in, with their bulk.
-/
import Derived.Test.YtdplndlmdhpfaabRows
import Derived.Test.YtdplndlmdhpfaabESt
import Derived.Deep.Slices
import Derived.ChangeSame
import Derived.Lib.SmallJoins
import Derived.OpenShut
namespace Go.Proofs.Ytdplndlmdhpfaab
open Go.ChangeShapes Go.WideShapes Go.ChangeAt Go.RowKit Go.Joins Go.Deep
set_option linter.unusedVariables false
set_option linter.unusedSimpArgs false

theorem str_bulk {H : Type} (s : ByteArray) : Rows.uptoBulk (H := H) (.lit (.string s.data.toList)) = s.size + 1 := by
  unfold Rows.uptoBulk
  rw [Array.length_toList]
  rfl
theorem cellsS9 : Try.prog.cellsOf 9 = 1 := by kernel_rfl
theorem bulk_strs {H : Type} (D : Nat → DataW H) (os : List ByteArray) : (∀ j, j < os.length → Rows.uptoBulk (D j) = (os.getD j ByteArray.empty).size + 1) → (os.map ByteArray.size).sum + os.length = Rows.uptoBulkAll ((List.range os.length).map D) := by
  induction os generalizing D with
  | nil => intro _; rfl
  | cons s l ih =>
    intro h
    have h0 := h 0 (by simp)
    have hl := ih (fun j => D (j + 1)) (fun j hj => by have := h (j + 1) (by simpa using hj); simpa using this)
    have e : (List.range (s :: l).length).map D = D 0 :: (List.range l.length).map (fun j => D (j + 1)) := by
      rw [List.length_cons, List.range_succ_eq_map, List.map_cons, List.map_map]; rfl
    rw [e]
    simp only [Rows.uptoBulkAll, List.map_cons, List.sum_cons, List.length_cons]
    rw [← hl]
    simp at h0
    omega
theorem strs_of {H : Type} {enc : TypeId × Value → H} {w : World} {sp : Nat → Bool} {hd : Bool} {a : Option Addr} {len cap : Nat} {d : DataW H} {p : List MemPlace}
    (h : DataW.Trod enc Try.prog w 0 sp hd 22 (.slice a len cap) d p) : ∃ os : List ByteArray, os.length = len ∧ StAt w (.slice a len cap) os ∧ cap ≤ maxLen ∧ (a = none → cap = 0) ∧ (os.map ByteArray.size).sum + len ≤ Rows.uptoBulk d := by
  obtain ⟨fuel, hf⟩ := h
  rcases open_slice1 Try.underlying22 cellsS9 hf with ⟨hcs, _⟩ | ⟨x, l, c, m, n, V, D, Pl, hcs, _, hl, hm, hmm, hxd, hx⟩
  · simp [Value.cells] at hcs
    obtain ⟨rfl, rfl, rfl⟩ := hcs
    exact ⟨[], rfl, ⟨none, 0, rfl, Nat.le_refl _, .inl rfl⟩, Nat.zero_le _, (fun _ => rfl), Nat.zero_le _⟩
  · simp [Value.cells] at hcs
    obtain ⟨rfl, rfl, rfl⟩ := hcs
    have hlm : len ≤ m := by rw [hmm]; split <;> omega
    by_cases h0 : len = 0
    · subst h0
      exact ⟨[], rfl, ⟨some x, cap, rfl, Nat.zero_le _, .inl rfl⟩, hm, (fun e => by cases e), Nat.zero_le _⟩
    obtain ⟨b, off, spot⟩ := x
    have hspot : spot = none := by
      obtain ⟨h1, _⟩ := hx 0 (by omega)
      simpa [Addr.add] using World.cell?_spot h1
    subst hspot
    have key : ∀ j, j < len → ∃ s : ByteArray, w.cell? ⟨b, off + j, none⟩ = some (.string s) ∧ b < w.heap.size ∧ Rows.uptoBulk (D j) = s.size + 1 := fun j hj => by
      obtain ⟨h1, h2⟩ := hx j (by omega)
      obtain ⟨s, q0, q1, _⟩ := DataW.trod_string Try.underlying9 h2
      have e0 : V j = .string s := by simpa using q0
      rw [e0, Go.WideShapes.add_plain] at h1
      have e1 : D j = .lit (.string s.data.toList) := congrArg Prod.fst q1
      exact ⟨s, h1, World.block_lt_of_cell? w _ h1, by rw [e1]; exact str_bulk s⟩
    have hcho := fun (j : Fin len) => key j.val j.isLt
    have hg : ∀ j, (hj : j < len) → (List.ofFn (fun j : Fin len => (hcho j).choose)).getD j ByteArray.empty = (hcho ⟨j, hj⟩).choose := fun j hj => by
      rw [List.getD_eq_getElem?_getD, List.getElem?_ofFn, dif_pos hj]; rfl
    refine ⟨List.ofFn (fun j : Fin len => (hcho j).choose), by simp, ⟨some ⟨b, off, none⟩, cap, by simp, by simpa using hl, .inr ⟨b, off, rfl, ?_, fun j hj => ?_⟩⟩, hm, (fun e => by cases e), ?_⟩
    · exact (key 0 (by omega)).choose_spec.2.1
    · have hjl : j < len := by simpa using hj
      rw [hg j hjl]
      exact (hcho ⟨j, hjl⟩).choose_spec.1
    · have hd2 : d = .slice ((List.range len).map D) ((List.range (m - len)).map fun j => D (len + j)) := congrArg Prod.fst hxd
      have hs := bulk_strs D (List.ofFn (fun j : Fin len => (hcho j).choose)) (fun j hj => by
        have hjl : j < len := by simpa using hj
        rw [hg j hjl]
        exact (hcho ⟨j, hjl⟩).choose_spec.2.2)
      rw [List.length_ofFn] at hs
      rw [hd2]
      simp only [Rows.uptoBulk]
      omega
end Go.Proofs.Ytdplndlmdhpfaab
