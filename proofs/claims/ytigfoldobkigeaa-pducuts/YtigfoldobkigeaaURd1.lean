/-
  pdu: bytes of one's own that begin anywhere in their block.
-/
import Derived.Test.YtigfoldobkigeaaUDecA
import Derived.ArgAppend
namespace Go.Proofs.Ytigfoldobkigeaa
open Go.RowKit
set_option linter.unusedVariables false
set_option linter.unusedSimpArgs false

/-- Bytes of one's own, behind them room of one's own. -/
structure Mid (base : Nat) (w : World) (v : Value) (zs : List Int) : Prop where
  ex : ∃ ao c, v = .slice ao zs.length c ∧ zs.length ≤ c ∧ c ≤ maxLen ∧ (ao = none → c = 0) ∧ (∀ y, ao = some y → y.spot = none ∧ base ≤ y.block ∧ y.block < w.heap.size) ∧ (0 < c → ∃ g off, ao = some ⟨g, off, none⟩ ∧ base ≤ g ∧ g < w.heap.size ∧ (∀ j x, zs[j]? = some x → w.cell? ⟨g, off + j, none⟩ = some (.int .u8 x)) ∧ ∀ j, j < c - zs.length → (w.cell? ⟨g, off + zs.length + j, none⟩).isSome = true ∧ w.frozen? ⟨g, off + zs.length + j, none⟩ = false)
theorem Mid.nil (base : Nat) (w : World) : Mid base w (.slice none 0 0) [] := ⟨none, 0, rfl, Nat.le_refl _, Nat.zero_le _, fun _ => rfl, (fun y e => by cases e), fun h => by omega⟩
theorem Mid.rd {base : Nat} {w : World} {v : Value} {zs : List Int} (h : Mid base w v zs) : RdAt w v zs := by
  obtain ⟨ao, c, rfl, h1, h2, h3, hsp, h4⟩ := h.ex
  refine ⟨ao, c, rfl, fun e => ?_, h1, ?_⟩
  · have := h3 e; exact ⟨by omega, this⟩
  · by_cases h0 : zs.length = 0
    · exact .inl h0
    · obtain ⟨g, off, rfl, _, _, hc, _⟩ := h4 (by omega)
      refine .inr ⟨g, off, rfl, fun j u hu => ?_⟩
      rw [cels, List.getElem?_map] at hu
      cases hx : zs[j]? with
      | none => rw [hx] at hu; cases hu
      | some x => rw [hx] at hu; simp only [Option.map_some, Option.some.injEq] at hu; rw [← hu]; exact hc j x hx
theorem Mid.of_block {base : Nat} {w w' : World} {v : Value} {zs : List Int} (h : Mid base w v zs) (hs : w.heap.size ≤ w'.heap.size) (hb : ∀ g, v.ownBlock = some g → base ≤ g → g < w.heap.size → w'.heap[g]? = w.heap[g]?) : Mid base w' v zs := by
  obtain ⟨ao, c, rfl, h1, h2, h3, hsp, h4⟩ := h.ex
  refine ⟨ao, c, rfl, h1, h2, h3, fun y e => ⟨(hsp y e).1, (hsp y e).2.1, Nat.lt_of_lt_of_le (hsp y e).2.2 hs⟩, fun h0 => ?_⟩
  obtain ⟨g, off, rfl, hg, hlt, hc, hf⟩ := h4 h0
  have e := hb g rfl hg hlt
  refine ⟨g, off, rfl, hg, Nat.lt_of_lt_of_le hlt hs, fun j x hx => (World.cell?_of_block (w := w) (w' := w') (a := ⟨g, off + j, none⟩) e).trans (hc j x hx), fun j hj => ?_⟩
  rw [World.cell?_of_block (w := w) (w' := w') (a := ⟨g, off + zs.length + j, none⟩) e, World.frozen?_of_block (w := w) (w' := w') (a := ⟨g, off + zs.length + j, none⟩) e]
  exact hf j hj
theorem Mid.own {base : Nat} {w : World} {v : Value} {zs : List Int} (h : Mid base w v zs) {g : Nat} (hg : v.ownBlock = some g) : base ≤ g ∧ g < w.heap.size := by
  obtain ⟨ao, c, rfl, _, _, _, hsp, _⟩ := h.ex
  cases ao with
  | none => simp [Value.ownBlock] at hg
  | some y => simp only [Value.ownBlock, Option.some.injEq] at hg; subst hg; exact (hsp y rfl).2
theorem Mid.cap {base : Nat} {w : World} {ao : Option Addr} {n c : Nat} {zs : List Int} (h : Mid base w (.slice ao n c) zs) : zs.length = n ∧ n ≤ c ∧ c ≤ maxLen := by
  obtain ⟨ao', c', hv, h1, h2, _⟩ := h.ex
  simp only [Value.slice.injEq] at hv
  obtain ⟨rfl, rfl, rfl⟩ := hv
  exact ⟨rfl, h1, h2⟩
/-- What stands behind the first k of them. -/
theorem Mid.drop {base : Nat} {w : World} {g off n c : Nat} {zs : List Int} (h : Mid base w (.slice (some ⟨g, off, none⟩) n c) zs) (k : Nat) (hk : k ≤ n) : Mid base w (.slice (some ⟨g, if c = k then off else off + k, none⟩) (n - k) (c - k)) (zs.drop k) := by
  obtain ⟨ao', c', hv, h1, h2, h3, hsp, h4⟩ := h.ex
  simp only [Value.slice.injEq] at hv
  obtain ⟨rfl, rfl, rfl⟩ := hv
  refine ⟨some ⟨g, if c = k then off else off + k, none⟩, c - k, by rw [List.length_drop], by rw [List.length_drop]; omega, by omega, (fun e => by cases e), (fun y e => by cases e; exact ⟨rfl, (hsp _ rfl).2⟩), fun h0 => ?_⟩
  obtain ⟨g', off', e, hg, hlt, hc, hf⟩ := h4 (by omega)
  simp only [Option.some.injEq, Addr.mk.injEq, and_true] at e
  obtain ⟨rfl, rfl⟩ := e
  rw [if_neg (by omega)]
  refine ⟨g, off + k, rfl, hg, hlt, fun j x hx => ?_, fun j hj => ?_⟩
  · rw [List.getElem?_drop] at hx
    rw [Nat.add_assoc]
    exact hc (k + j) x hx
  · rw [List.length_drop] at hj ⊢
    have := hf j (by omega)
    rw [show off + k + (zs.length - k) + j = off + zs.length + j by omega]
    exact this
theorem Mid.of_own {base n : Nat} {w : World} {v : Value} {zs : List Int} (h : w.ownsRow base 5 1 v n (cels zs)) : Mid base w v zs := by
  have hl : zs.length = n := by have := h.1; simpa using this
  subst hl
  have ho := h
  rcases h.2 with ⟨rfl, h0⟩ | ⟨g, cap, cur, rfl, hb, hg, hnc, hcm, hcs, htk⟩
  · have : zs = [] := List.eq_nil_of_length_eq_zero h0
    subst this
    exact Mid.nil base w
  · refine ⟨some ⟨g, 0, none⟩, cap, rfl, hnc, hcm, (fun e => by cases e), (fun y e => by cases e; exact ⟨rfl, hb, (World.ownsRow.lt ho g rfl).2⟩), fun h0 => ⟨g, 0, rfl, hb, (World.ownsRow.lt ho g rfl).2, fun j x hx => ?_, fun j hj => ?_⟩⟩
    · have hj : j < zs.length := (List.getElem?_eq_some_iff.1 hx).1
      rw [Nat.zero_add, ho.cellAt j (by omega), cels, List.getElem?_map, hx]
      rfl
    · refine ⟨?_, World.ownsRow.frozenAt ho _⟩
      rw [show (0 : Nat) + zs.length + j = zs.length + j by omega]
      have hcz : cur.size = cap := by simpa using hcs
      have : w.cell? ⟨g, zs.length + j, none⟩ = cur[zs.length + j]? := by
        simp [World.cell?, hg]
      rw [this, Array.getElem?_eq_getElem (by omega)]
      rfl
end Go.Proofs.Ytigfoldobkigeaa
