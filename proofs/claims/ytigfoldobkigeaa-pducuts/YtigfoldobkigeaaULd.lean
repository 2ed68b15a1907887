/-
  pdu: PDUs that came in, in a row.
-/
import Derived.Test.YtigfoldobkigeaaULc
import Derived.Test.YtigfoldobkigeaaUOpen
namespace Go.Proofs.Ytigfoldobkigeaa
open Go.ChangeShapes Go.WideShapes Go.ChangeAt Go.RowKit Go.Joins Go.Deep
set_option linter.unusedVariables false
set_option linter.unusedSimpArgs false

theorem prow_of {H : Type} {enc : TypeId × Value → H} {w : World} {sp : Nat → Bool} {hd : Bool} {a : Option Addr} {len cap : Nat} {d : DataW H} {p : List MemPlace}
    (h : DataW.Trod enc Try.prog w 0 sp hd 42 (.slice a len cap) d p) : ∃ ps : List Pd, ps.length = len ∧ (PIn w a len ps ∧ len ≤ cap ∧ cap ≤ maxLen) := by
  obtain ⟨fuel, hf⟩ := h
  rcases open_slice Try.underlying42 hf with ⟨hcs, _⟩ | ⟨x, l, c, m, n, D, Pl, hcs, _, hl, hm, hmm, _, hx⟩
  · simp [Value.cells] at hcs
    obtain ⟨rfl, rfl, rfl⟩ := hcs
    exact ⟨[], rfl, ⟨rfl, fun j q hq => by simp at hq⟩, Nat.le_refl _, Nat.zero_le _⟩
  · simp [Value.cells] at hcs
    obtain ⟨rfl, rfl, rfl⟩ := hcs
    have hlm : len ≤ m := by rw [hmm]; split <;> omega
    rw [Try.cellsP] at hx
    by_cases h0 : len = 0
    · subst h0
      exact ⟨[], rfl, ⟨rfl, fun j q hq => by simp at hq⟩, Nat.zero_le _, hm⟩
    obtain ⟨b, off, spot⟩ := x
    have hspot : spot = none := by
      obtain ⟨cs, h1, _⟩ := hx 0 (by omega)
      obtain ⟨_, hlen, hcell⟩ := World.cells?_some h1
      have e0 := hcell 0 (by omega)
      rw [List.getElem?_eq_getElem (by omega)] at e0
      have e1 : w.cell? (((⟨b, off, spot⟩ : Addr).add (0 * 14)).add 0) = some cs[0] := e0
      simpa [Addr.add] using World.cell?_spot e1
    subst hspot
    have key : ∀ j, j < len → ∃ q : Pd, q.ok ∧ ∃ a n c, b < w.heap.size ∧ w.rangeAt b (off + j * 14) (q.vals (.slice a n c)).toList ∧ RdAt w (.slice a n c) q.d ∧ n ≤ c ∧ c ≤ maxLen := fun j hj => by
      obtain ⟨cs, h1, h2⟩ := hx j (by omega)
      obtain ⟨_, hlen, hcell⟩ := World.cells?_some h1
      obtain ⟨q, a', n', c', rfl, hq, hr, hn, hc'⟩ := pdu_of h2
      have hc : ∀ i u, (q.vals (.slice a' n' c')).toList[i]? = some u → w.cell? ⟨b, off + j * 14 + i, none⟩ = some u := fun i u hu => by
        have hi : i < 14 := by have := (List.getElem?_eq_some_iff.1 hu).1; rw [Array.length_toList, Pd.size hq.len] at this; exact this
        have e := hcell i hi
        rw [Go.WideShapes.add_plain, Go.WideShapes.add_plain] at e
        rw [← hu]
        exact e
      have h0c : (q.vals (.slice a' n' c')).toList[0]? = some _ := List.getElem?_eq_getElem (by rw [Array.length_toList, Pd.size hq.len]; omega)
      exact ⟨q, hq, a', n', c', World.block_lt_of_cell? w _ (hc 0 _ h0c), hc, hr, hn, hc'⟩
    have hcho := fun (j : Fin len) => key j.val j.isLt
    refine ⟨List.ofFn (fun j : Fin len => (hcho j).choose), by simp, ⟨by simp, fun j q hj => ?_⟩, hl, hm⟩
    have hjl : j < len := by have := (List.getElem?_eq_some_iff.1 hj).1; simpa using this
    rw [List.getElem?_ofFn, dif_pos hjl] at hj
    simp only [Option.some.injEq] at hj
    subst hj
    obtain ⟨h1, a, n, c, h2⟩ := (hcho ⟨j, hjl⟩).choose_spec
    exact ⟨h1, b, off, a, n, c, rfl, h2⟩
theorem rd_isrowM {w : World} {a : Option Addr} {n c : Nat} {zs : List Int} (h : (a = none ∧ n = 0 ∧ c = 0 ∧ zs = []) ∨ ∃ x, a = some x ∧ n ≤ c ∧ c ≤ maxLen ∧ zs.length = c ∧ (∀ i, i < zs.length → w.cell? (x.add i) = some (.int .u8 (zs.getD i 0))) ∧ ∀ n ∈ zs, (Lit.int .u8 n).wf = true) :
    RdAt w (.slice a n c) (zs.take n) ∧ Bytes (zs.take n) ∧ (zs.take n).length = n ∧ n ≤ maxLen ∧ c ≤ maxLen := by
  rcases h with ⟨rfl, rfl, rfl, rfl⟩ | ⟨x, rfl, h1, h2, h3, h4, h5⟩
  · exact ⟨rd_nil w, Bytes.nil, rfl, by unfold maxLen; omega, by unfold maxLen; omega⟩
  · have hlen : (zs.take n).length = n := by rw [List.length_take]; omega
    have hb : Bytes (zs.take n) := by
      intro j
      rw [List.getD_eq_getElem?_getD]
      cases hj : (zs.take n)[j]? with
      | none => simp
      | some y =>
        have := h5 y (List.mem_of_mem_take (List.mem_of_getElem? hj))
        simp [Lit.wf, IntKind.min, IntKind.max, IntKind.bits, IntKind.signed] at this
        simp only [Option.getD_some]
        omega
    refine ⟨⟨some x, c, by rw [hlen], (fun h => by cases h), by omega, ?_⟩, hb, hlen, by omega, h2⟩
    by_cases h0 : n = 0
    · exact .inl (by omega)
    · have hc0 := h4 0 (by omega)
      obtain ⟨b, off, spot⟩ := x
      have hspot : spot = none := by simpa [Addr.add] using World.cell?_spot hc0
      subst hspot
      refine .inr ⟨b, off, rfl, fun j u hu => ?_⟩
      have hj : j < n := by have := (List.getElem?_eq_some_iff.1 hu).1; simpa [hlen] using this
      have := h4 j (by omega)
      rw [Go.WideShapes.add_plain] at this
      rw [this]
      unfold cels at hu
      rw [List.getElem?_map, List.getElem?_take_of_lt hj, List.getElem?_eq_getElem (by omega)] at hu
      rw [← hu, List.getD_eq_getElem?_getD, List.getElem?_eq_getElem (by omega)]
      rfl

end Go.Proofs.Ytigfoldobkigeaa
