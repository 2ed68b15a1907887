/-
  text: pairs and texts that came in.
-/
import Derived.Test.YtkojkglaljiilaaDoorXAsk
import Derived.SizedLaws
import Derived.Deep.Slices
import Derived.ChangeSame
import Derived.Lib.SmallJoins
import Derived.OpenShut
namespace Go.Proofs.YtkojkglaljiilaaDoor
open Go.ChangeShapes Go.WideShapes Go.ChangeAt Go.RowKit Go.Joins Go.Deep
set_option linter.unusedVariables false
set_option linter.unusedSimpArgs false

theorem Tryd.cellsPR : Tryd.prog.cellsOf 41 = 2 := by kernel_rfl
theorem Tryd.cellsS9 : Tryd.prog.cellsOf 9 = 1 := by kernel_rfl

theorem list2 {α : Type} : ∀ (l : List α), l.length = 2 → ∃ a b, l = [a, b]
  | [a, b], _ => ⟨a, b, rfl⟩

theorem pair_of {H : Type} {enc : TypeId × Value → H} {w : World} {sp : Nat → Bool} {hd : Bool} {fuel : Nat} {cs : List Value} {x : DataW H × List MemPlace}
    (h : DataW.trod enc Tryd.prog w 0 sp hd fuel 41 cs = some x) : ∃ p : ByteArray × ByteArray, cs = pcs p ∧ p.1.size ≤ maxLen ∧ p.2.size ≤ maxLen := by
  obtain ⟨xs, n, _, _, hcl, hlen, hfs⟩ := DataW.trod_struct Tryd.underlying41 h
  rw [Tryd.cellsPR] at hcl
  obtain ⟨c0, c1, rfl⟩ := list2 cs hcl
  have hl : xs.length = 2 := hlen.trans (by kernel_rfl)
  have g0 := hfs 0 _ rfl
  rw [List.getElem?_eq_getElem (show 0 < xs.length by omega)] at g0
  have g1 := hfs 1 _ rfl
  rw [List.getElem?_eq_getElem (show 1 < xs.length by omega)] at g1
  obtain ⟨a0, q0, _, w0⟩ := DataW.trod_string Tryd.underlying9 g0
  obtain ⟨a1, q1, _, w1⟩ := DataW.trod_string Tryd.underlying9 g1
  simp [Tryd.cellsS9] at q0 q1
  subst q0 q1
  exact ⟨(a0, a1), rfl, w0, w1⟩

theorem ps_of {H : Type} {enc : TypeId × Value → H} {w : World} {sp : Nat → Bool} {hd : Bool} {a : Option Addr} {len cap : Nat} {d : DataW H} {p : List MemPlace}
    (h : DataW.Trod enc Tryd.prog w 0 sp hd 22 (.slice a len cap) d p) : ∃ ps : List (ByteArray × ByteArray), ps.length = len ∧ PsAt w (.slice a len cap) ps ∧ cap ≤ maxLen ∧ ∀ q ∈ ps, q.1.size ≤ maxLen ∧ q.2.size ≤ maxLen := by
  obtain ⟨fuel, hf⟩ := h
  rcases open_slice Tryd.underlying22 hf with ⟨hcs, _⟩ | ⟨x, l, c, m, n, D, Pl, hcs, _, hl, hm, hmm, _, hx⟩
  · simp [Value.cells] at hcs
    obtain ⟨rfl, rfl, rfl⟩ := hcs
    exact ⟨[], rfl, ps_nil w, Nat.zero_le _, fun q hq => by simp at hq⟩
  · simp [Value.cells] at hcs
    obtain ⟨rfl, rfl, rfl⟩ := hcs
    have hlm : len ≤ m := by rw [hmm]; split <;> omega
    rw [Tryd.cellsPR] at hx
    by_cases h0 : len = 0
    · subst h0
      exact ⟨[], rfl, ⟨some x, cap, rfl, fun h => (by cases h), Nat.zero_le _, .inl rfl⟩, hm, fun q hq => by simp at hq⟩
    obtain ⟨b, off, spot⟩ := x
    have hspot : spot = none := by
      obtain ⟨cs, h1, _⟩ := hx 0 (by omega)
      obtain ⟨_, hlen, hcell⟩ := World.cells?_some h1
      have e0 := hcell 0 (by omega)
      rw [List.getElem?_eq_getElem (by omega)] at e0
      have e1 : w.cell? (((⟨b, off, spot⟩ : Addr).add (0 * 2)).add 0) = some cs[0] := e0
      simpa [Addr.add] using World.cell?_spot e1
    subst hspot
    have key : ∀ j, j < len → ∃ q : ByteArray × ByteArray, (q.1.size ≤ maxLen ∧ q.2.size ≤ maxLen) ∧ w.rangeAt b (off + j * 2) (pcs q) ∧ b < w.heap.size := fun j hj => by
      obtain ⟨cs, h1, h2⟩ := hx j (by omega)
      obtain ⟨_, hlen, hcell⟩ := World.cells?_some h1
      obtain ⟨q, rfl, hq1, hq2⟩ := pair_of h2
      have hc : ∀ i u, (pcs q)[i]? = some u → w.cell? ⟨b, off + j * 2 + i, none⟩ = some u := fun i u hu => by
        have hi : i < 2 := by have := (List.getElem?_eq_some_iff.1 hu).1; simpa [pcs] using this
        have e := hcell i hi
        rw [hu, Go.WideShapes.add_plain, Go.WideShapes.add_plain] at e
        exact e
      exact ⟨q, ⟨hq1, hq2⟩, hc, World.block_lt_of_cell? w _ (hc 0 _ rfl)⟩
    have hcho := fun (j : Fin len) => key j.val j.isLt
    refine ⟨List.ofFn (fun j : Fin len => (hcho j).choose), by simp, ⟨some ⟨b, off, none⟩, cap, by simp, fun h => (by cases h), by simpa using hl, .inr ⟨b, off, rfl, ?_, fun j q hj => ?_⟩⟩, hm, fun q hq => ?_⟩
    · exact (key 0 (by omega)).choose_spec.2.2
    · have hjl : j < len := by have := (List.getElem?_eq_some_iff.1 hj).1; simpa using this
      rw [List.getElem?_ofFn, dif_pos hjl] at hj
      simp only [Option.some.injEq] at hj
      have hs := (hcho ⟨j, hjl⟩).choose_spec
      rw [hj] at hs
      exact hs.2.1
    · obtain ⟨j, rfl⟩ := List.mem_ofFn.1 hq
      exact (hcho j).choose_spec.1

theorem strs_of {H : Type} {enc : TypeId × Value → H} {w : World} {sp : Nat → Bool} {hd : Bool} {a : Option Addr} {len cap : Nat} {d : DataW H} {p : List MemPlace}
    (h : DataW.Trod enc Tryd.prog w 0 sp hd 23 (.slice a len cap) d p) : ∃ os : List ByteArray, os.length = len ∧ StAt w (.slice a len cap) os ∧ cap ≤ maxLen := by
  obtain ⟨fuel, hf⟩ := h
  rcases open_slice Tryd.underlying23 hf with ⟨hcs, _⟩ | ⟨x, l, c, m, n, D, Pl, hcs, _, hl, hm, hmm, _, hx⟩
  · simp [Value.cells] at hcs
    obtain ⟨rfl, rfl, rfl⟩ := hcs
    exact ⟨[], rfl, ⟨none, 0, rfl, Nat.le_refl _, .inl rfl⟩, Nat.zero_le _⟩
  · simp [Value.cells] at hcs
    obtain ⟨rfl, rfl, rfl⟩ := hcs
    have hlm : len ≤ m := by rw [hmm]; split <;> omega
    rw [Tryd.cellsS9] at hx
    by_cases h0 : len = 0
    · subst h0
      exact ⟨[], rfl, ⟨some x, cap, rfl, Nat.zero_le _, .inl rfl⟩, hm⟩
    obtain ⟨b, off, spot⟩ := x
    have hspot : spot = none := by
      obtain ⟨cs, h1, _⟩ := hx 0 (by omega)
      obtain ⟨_, hlen, hcell⟩ := World.cells?_some h1
      have e0 := hcell 0 (by omega)
      rw [List.getElem?_eq_getElem (by omega)] at e0
      have e1 : w.cell? (((⟨b, off, spot⟩ : Addr).add (0 * 1)).add 0) = some cs[0] := e0
      simpa [Addr.add] using World.cell?_spot e1
    subst hspot
    have key : ∀ j, j < len → ∃ s : ByteArray, w.cell? ⟨b, off + j, none⟩ = some (.string s) ∧ b < w.heap.size := fun j hj => by
      obtain ⟨cs, h1, h2⟩ := hx j (by omega)
      obtain ⟨_, hlen, hcell⟩ := World.cells?_some h1
      obtain ⟨s, q0, _, _⟩ := DataW.trod_string Tryd.underlying9 h2
      subst q0
      have e := hcell 0 (by omega)
      rw [Go.WideShapes.add_plain, Go.WideShapes.add_plain, Nat.mul_one, Nat.add_zero] at e
      exact ⟨s, e, World.block_lt_of_cell? w _ e⟩
    have hcho := fun (j : Fin len) => key j.val j.isLt
    refine ⟨List.ofFn (fun j : Fin len => (hcho j).choose), by simp, ⟨some ⟨b, off, none⟩, cap, by simp, by simpa using hl, .inr ⟨b, off, rfl, ?_, fun j hj => ?_⟩⟩, hm⟩
    · exact (key 0 (by omega)).choose_spec.2
    · have hjl : j < len := by simpa using hj
      rw [List.getD_eq_getElem?_getD, List.getElem?_ofFn, dif_pos hjl]
      exact (hcho ⟨j, hjl⟩).choose_spec.1
end Go.Proofs.YtkojkglaljiilaaDoor
