/-
  Memory beside a world.
-/
import Derived.Test.YtklboieemljmiabKWrite
namespace Go.Proofs.Ytklboieemljmiab
open Go.RowKit
set_option linter.unusedVariables false
set_option linter.unusedSimpArgs false

theorem Files.of_blocks {w w' : World} {tag : Tags} {T : ByteArray → Tag} {f : ByteArray → Option Value} {F : FilesF} (h : Files w tag T f F) (hb : ∀ i t, i < w.heap.size → tag i = some t → w'.heap[i]? = w.heap[i]?) : Files w' tag T f F := by
  intro s
  have := h s
  cases hF : F s with
  | none => rw [hF] at this; exact this
  | some zs =>
    rw [hF] at this
    obtain ⟨hl, v, hf, hr, ht⟩ := this
    exact ⟨hl, v, hf, hr.of_block (fun g hg => hb g _ (hr.lt hg) (ht g hg)), ht⟩

/-! ### memory beside a world -/
theorem Chg.ok.frame {w w' : World} {tag : Tags} {c : Chg} {dv : Value} (h : c.ok w tag dv) (hb : ∀ i, tag i ≠ none → w'.heap[i]? = w.heap[i]?) : c.ok w' tag dv := by
  obtain ⟨two, three, s, t, off, ds⟩ := c
  cases two with
  | false => obtain ⟨h1, h2, hr, ht⟩ := h; exact ⟨h1, h2, hr.of_block (fun g hg => hb g (by rw [ht g hg]; simp)), ht⟩
  | true => cases three <;> exact h

theorem Wd.frame {w w' : World} {B : Nat} {tag : Tags} {st : St} (h : Wd w B tag st) (hs : w.heap.size ≤ w'.heap.size) (hb : ∀ i, tag i ≠ none → w'.heap[i]? = w.heap[i]?) : Wd w' B tag st := by
  obtain ⟨M1, M2, wv, fv, f1, f2, l, n2, h⟩ := h
  refine ⟨M1, M2, wv, fv, f1, f2, l, n2, ?_⟩
  have hb' : ∀ i t, i < w.heap.size → tag i = some t → w'.heap[i]? = w.heap[i]? := fun i t _ ht => hb i (by rw [ht]; simp)
  exact {
    cell := (hb B (by rw [h.tB]; simp)).trans h.cell
    tB := h.tB
    t1 := h.t1
    t2 := h.t2
    map1 := h.map1.of_block (hb M1 (by rw [h.t1]; simp))
    map2 := h.map2.of_block (hb M2 (by rw [h.t2]; simp))
    seen := h.seen.of_blocks hb'
    dur := h.dur.of_blocks hb'
    waits := by
      obtain ⟨h1, h2, h3⟩ := h.waits
      refine ⟨fun p hp => (h1 p hp).frame hb, ⟨h2.1, ?_⟩, h3⟩
      rcases h2.2 with hn | ⟨g, cap, cur, rfl, h0, hgg, rest⟩
      · exact .inl hn
      · exact .inr ⟨g, cap, cur, rfl, h0, (hb g (by rw [h3 g rfl]; simp)).trans hgg, rest⟩
    l_eq := h.l_eq
    fails := by
      have hf := h.fails
      cases fv with
      | none => exact hf
      | some b =>
        obtain ⟨ht, n, D, ⟨es, clock, h1, h2⟩, hp⟩ := hf
        exact ⟨ht, n, D, ⟨es, clock, (hb b (by rw [ht]; simp)).trans h1, h2⟩, hp⟩
    lt := fun i hi => Nat.lt_of_lt_of_le (h.lt i hi) hs
    opsLo := h.opsLo
    opsHi := h.opsHi
    cnt2 := h.cnt2 }

/-- A block of one's own has turned that was not there at first. -/
theorem Step.own {w w3 w4 : World} {tag tag' : Tags} {X : Tag → Prop} {G : Nat} (h : Step w w3 tag tag' X) (hg : w3.grownBy w4 (some G)) (hG : w.heap.size ≤ G) : Step w w4 tag tag' X where
  os := hg.os.trans h.os
  tape := hg.tape.trans h.tape
  output := hg.output.trans h.output
  size := Nat.le_trans h.size hg.size
  block := fun i hi hx => (hg.block i (Nat.lt_of_lt_of_le hi h.size) (fun e => by cases e; omega)).trans (h.block i hi hx)
  other := h.other
  bare := h.bare
  lt := fun hl i hi => Nat.lt_of_lt_of_le (h.lt hl i hi) hg.size
theorem Wd.own {w w' : World} {B G : Nat} {tag : Tags} {st : St} (h : Wd w B tag st) (hg : w.grownBy w' (some G)) (hG : tag G = none) : Wd w' B tag st :=
  h.frame hg.size (fun i hi => hg.block i (h.lt i hi) (fun e => by cases e; exact hi hG))
end Go.Proofs.Ytklboieemljmiab
