/-
  StoreDurable: small laws.
-/
import Derived.Test.YtmjpomkofgfbbaaKDurQ
import Derived.Deep.DeepMust
namespace Go.Proofs.Ytmjpomkofgfbbaa
open Go.RowKit
set_option linter.unusedVariables false
set_option linter.unusedSimpArgs false

theorem Bks.bel {w w' : World} {v : Value} {bs : List Bk} (h : Bks w v bs) (hb : Below w.heap.size w w') : Bks w' v bs := by
  obtain ⟨a, c, e, hm, h⟩ := h
  refine ⟨a, c, e, hm, fun j b hj => ?_⟩
  obtain ⟨h1, g, o, h2, h3, h4⟩ := h j b hj
  exact ⟨h1, g, o, h2, Nat.lt_of_lt_of_le h3 hb.size, rangeAt_keep h4 (hb.block g h3)⟩
theorem wpAnyC_skip {P : Program} {md : Region.Mode} {ops : Array Oper} {C : World → Prop} {Q : Exit → Act → World → Prop} (i : Nat) {oi : Oper} {fuel : Nat} {listed : Array Bool} {a : Act} {w : World} (hi : ops[i]? = some oi)
    (hs : Region.noSelect ops = true) (hf : Region.free md ops listed i = true) (hr : (Region.ready md ops listed).contains i = true)
    (hQ : ∀ c a w, Q (.panic c) (a.put oi.dst undef) w → Q (.panic c) a w) (hw : Region.wanted oi (yielded ops a.tmps) = false)
    (h : wpAnyC P md ops C Q fuel (listed.setIfInBounds i true) (a.put oi.dst undef) w) : wpAnyC P md ops C Q (fuel + 1) listed a w :=
  wpAnyC_first hi (Region.noSelect_spec hs) hQ fuel listed a w (Region.free_spec hi hf) (by simpa using hr) (.inr ⟨hw, rfl⟩) h
theorem wanted_no (b : Bool) {o oj : Oper} {ops : Array Oper} {tmps : Array Value} {j d : Nat} (hg : o.guard = some (j, b)) (hj : ops[j]? = some oj) (hd : oj.dst = some d) (ht : tmps[d]? = some (.bool !b)) : Region.wanted o (yielded ops tmps) = false := by
  unfold Region.wanted yielded
  rw [hg]
  cases b <;> simp [hj, hd, ht]
theorem wanted_undef (b : Bool) {o oj : Oper} {ops : Array Oper} {tmps : Array Value} {j d : Nat} (hg : o.guard = some (j, b)) (hj : ops[j]? = some oj) (hd : oj.dst = some d) (ht : tmps[d]? = some undef) : Region.wanted o (yielded ops tmps) = false := by
  unfold Region.wanted yielded
  rw [hg]
  simp [hj, hd, ht, undef]
/-- What is read in the end, of one block. -/
def Seen (us vs : List Bk) (safe : Bool) (cut : Nat) (F : Option (List Int)) (i : Nat) : Prop :=
  (cut = 0 → blkAt F (5 + i) = us.getD i emptyB ∨ (i < vs.length ∧ blkAt F (5 + i) = vs.getD i emptyB) ∨ (safe = false ∧ blkAt F (5 + i) = emptyB)) ∧ (safe = true → vs.length ≤ i → blkAt F (5 + i) = us.getD i emptyB)
end Go.Proofs.Ytmjpomkofgfbbaa
