/-
  TaskAborts: the lists, and the calls ahead of the loop.
-/
import Derived.Test.YtcnefmfmmgdidaaTTake
namespace Go.Proofs.Ytcnefmfmmgdidaa.taskAborts
open Go.Proofs.Ytcnefmfmmgdidaa
open Go.RowKit
set_option linter.unusedVariables false
set_option linter.unusedSimpArgs false

theorem filter_at (p : Tk → Bool) (ts : List Tk) (k : Nat) (t : Tk) (h : ts[k]? = some t) (hp : p t = true) : (ts.filter p)[(goneL p ts k).length]? = some t := by
  have hk : k < ts.length := (List.getElem?_eq_some_iff.1 h).1
  have e : ts = ts.take k ++ (t :: ts.drop (k + 1)) := by
    have := List.take_append_drop k ts
    rw [List.drop_eq_getElem_cons hk] at this
    have ht : ts[k] = t := by rw [List.getElem?_eq_getElem hk] at h; exact Option.some.inj h
    rw [ht] at this
    exact this.symm
  have hl : ts.filter p = goneL p ts k ++ (t :: (ts.drop (k + 1)).filter p) := by
    unfold goneL
    conv => lhs; rw [e]
    rw [List.filter_append, List.filter_cons, if_pos hp]
  rw [hl, List.getElem?_append_right (Nat.le_refl _)]
  simp

theorem fidx_none (q : Tk → Bool) : ∀ (ts : List Tk) (i : Nat), (∀ t ∈ ts, q t = false) → fidx q ts i = -1
  | [], _, _ => rfl
  | t :: r, i, h => by
    unfold fidx
    rw [if_neg (by rw [h t (by simp)]; decide)]
    exact fidx_none q r (i + 1) (fun u hu => h u (by simp [hu]))

theorem enter_back (ls : List Tk) (n g : Int) (hn : 0 ≤ n ∧ n < 8) (hl : ls.length < 16) (hf : ∀ t ∈ ls, isT n g t = false) : entR ls (-1) ⟨n, g, 0, false⟩ = (0, 0) := by
  unfold entR
  rw [if_neg (by simp; omega), if_neg (by rw [fidx_none _ ls 0 hf]; decide), if_neg (by simp [kOff]), if_neg (by omega)]

/-- What is known ahead of the loop. -/
def Ahead (w0 W : World) (B : Nat) (y0 y1 y2 : Value) (ts gs ls : List Tk) : Prop :=
  ∃ v, St w0.heap.size W B ls (-1) v ∧ Below w0.heap.size w0 W ∧ RowB W B v y0 ts ∧ RowB W B v y1 gs ∧ RowB W B v y2 ls

theorem rowB_new {base b1 : Nat} {w w' : World} {B : Nat} {ts us : List Tk} {st : Int} {v y : Value} (h : St base w B ts st v) (ho : Own w.heap.size w' y us) : RowB w' B v y us :=
  ⟨⟨_, ho⟩, fun g hg => ⟨fun e => by have a1 := (ho.lt hg).1; have a2 := h.lt; omega, fun e => by have a1 := (ho.lt hg).1; have a2 := (h.own.lt e).2; omega⟩⟩

theorem ahead_some {w0 w3 w4 w5 : World} {B : Nat} {p : Tk → Bool} {y0 y1 y2 v2 v4 : Value} {ts : List Tk} (h3 : St w0.heap.size w3 B ts (-1) v2) (hb3 : Below w0.heap.size w0 w3) (hr0 : RowB w3 B v2 y0 ts)
    (ho1 : Own w3.heap.size w4 y1 (ts.filter p)) (h4 : St w0.heap.size w4 B (ts.filter (fun t => !p t)) (-1) v4) (ht : Trn w3 w4 B v2 v4) (hb4 : Below w0.heap.size w3 w4) (hd : Off y1 v4)
    (ho2 : Own w4.heap.size w5 y2 (ts.filter (fun t => !p t))) (hb5 : Below w4.heap.size w4 w5) : Ahead w0 w5 B y0 y1 y2 ts (ts.filter p) (ts.filter (fun t => !p t)) := by
  have hb := Trn.of_below B v4 hb5
  have hr1 : RowB w4 B v4 y1 (ts.filter p) := ⟨⟨_, ho1⟩, fun g hg => ⟨fun e => by have a1 := (ho1.lt hg).1; have a2 := h3.lt; omega, hd g hg⟩⟩
  exact ⟨v4, h4.below hb5, (hb3.trans hb4).trans (hb5.mono (Nat.le_trans h4.le (Nat.le_of_lt h4.lt))), (hr0.keep ht).keep hb, hr1.keep hb, rowB_new (b1 := 0) h4 ho2⟩

theorem ahead_all {w0 w3 w4 w5 w6 w7 : World} {B : Nat} {p : Tk → Bool} {y0 y1 yc y3 y2 v2 v4 v5 : Value} {ts : List Tk} (h3 : St w0.heap.size w3 B ts (-1) v2) (hb3 : Below w0.heap.size w0 w3) (hr0 : RowB w3 B v2 y0 ts) (hl0 : ∀ g, y0.ownBlock = some g → g < w3.heap.size)
    (ho1 : Own w3.heap.size w4 y1 (ts.filter p)) (h4 : St w0.heap.size w4 B (ts.filter (fun t => !p t)) (-1) v4) (ht : Trn w3 w4 B v2 v4) (hb4 : Below w0.heap.size w3 w4) (hd : Off y1 v4)
    (h5 : St w0.heap.size w5 B [] (-1) v5) (ht5 : Trn w4 w5 B v4 v5) (hb5 : Below w0.heap.size w4 w5)
    (ho3 : Own w3.heap.size w6 y3 (ts.filter p ++ ts.filter (fun t => !p t))) (hg6 : w5.grownBy w6 y1.ownBlock) (hor : y3.ownBlock = y1.ownBlock ∨ y3.ownBlock = some w5.heap.size)
    (ho2 : Own w6.heap.size w7 y2 []) (hb7 : Below w6.heap.size w6 w7) : Ahead w0 w7 B y0 y3 y2 ts (ts.filter p ++ ts.filter (fun t => !p t)) [] := by
  have hr1 : RowB w4 B v4 y1 (ts.filter p) := ⟨⟨_, ho1⟩, fun g hg => ⟨fun e => by have a1 := (ho1.lt hg).1; have a2 := h3.lt; omega, hd g hg⟩⟩
  have hr15 := hr1.keep ht5
  have hr05 := (hr0.keep ht).keep ht5
  have hv5 : ∀ g, v5.ownBlock = some g → y1.ownBlock ≠ some g := fun g hg e => (hr15.2 g e).2 hg
  have hB1 : y1.ownBlock ≠ some B := fun e => (hr15.2 B e).1 rfl
  have h6 : St w0.heap.size w6 B [] (-1) v5 := h5.keep hg6.size (hg6.block B h5.lt (fun e => hB1 e.symm)) (fun g hg => hg6.block g (h5.own.lt hg).2 (fun e => hv5 g hg e.symm))
  have hr06 : RowB w6 B v5 y0 ts := by
    obtain ⟨⟨b, ho⟩, hs⟩ := hr05
    refine ⟨⟨b, ho.of_block (fun g hg => hg6.block g (ho.lt hg).2 (fun e => ?_))⟩, hs⟩
    have a1 := (ho1.lt (g := g) e.symm).1
    have a2 := hl0 g hg
    omega
  have hr36 : RowB w6 B v5 y3 (ts.filter p ++ ts.filter (fun t => !p t)) := by
    refine ⟨⟨_, ho3⟩, fun g hg => ?_⟩
    rcases hor with e | e
    · rw [e] at hg; exact hr15.2 g hg
    · rw [e] at hg; cases hg
      exact ⟨fun e => by have := h5.lt; omega, fun e => by have := (h5.own.lt e).2; omega⟩
  have hb6 : Below w0.heap.size w0 w6 := ((hb3.trans hb4).trans hb5).grown hg6 (Nat.le_trans h5.le (Nat.le_of_lt h5.lt)) (fun k hk => Nat.le_trans hb3.size (ho1.lt hk).1)
  have hb := Trn.of_below B v5 hb7
  exact ⟨v5, h6.below hb7, hb6.trans (hb7.mono (Nat.le_trans h6.le (Nat.le_of_lt h6.lt))), hr06.keep hb, hr36.keep hb, rowB_new (b1 := 0) h6 ho2⟩
end Go.Proofs.Ytcnefmfmmgdidaa.taskAborts
