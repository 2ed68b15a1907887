/-
  Two worlds beside each other, each with a store.
-/
import Derived.Test.YtmjpomkofgfbbaaKSame
import Derived.Test.YtmjpomkofgfbbaaKGen
namespace Go.Proofs.Ytmjpomkofgfbbaa
open Go.RowKit
set_option linter.unusedVariables false
set_option linter.unusedSimpArgs false

/-- A world with a store, seen beside memory that was there before. -/
structure Side (w : World) (n0 B : Nat) (tag : Tags) (st : St) (S : Nat) (ca : Bool) : Prop where
  wd : Wd w B tag st
  sto : Sto w tag S B nmF 32 ca
  lo : ∀ i, i < n0 → tag i = none
structure Two (w0 w : World) (n0 BA : Nat) (tagA : Tags) (stA : St) (SA BB : Nat) (tagB : Tags) (stB : St) (SB : Nat) (ca : Bool) : Prop where
  a : Side w n0 BA tagA stA SA ca
  b : Side w n0 BB tagB stB SB ca
  dj : ∀ i, tagA i ≠ none → tagB i = none
  ab : tagB SA = none
  ba : tagA SB = none
  be : Below n0 w0 w
  n0 : n0 ≤ w.heap.size
theorem Two.swap {w0 w : World} {n0 BA : Nat} {tagA : Tags} {stA : St} {SA BB : Nat} {tagB : Tags} {stB : St} {SB : Nat} {ca : Bool} (h : Two w0 w n0 BA tagA stA SA BB tagB stB SB ca) : Two w0 w n0 BB tagB stB SB BA tagA stA SA ca :=
  ⟨h.b, h.a, fun i hi => by
    cases ht : tagA i with
    | none => rfl
    | some t => exact absurd (h.dj i (by rw [ht]; simp)) hi, h.ba, h.ab, h.be, h.n0⟩
theorem Two.left {w0 w w' : World} {n0 BA : Nat} {tagA tagA' : Tags} {stA stA' : St} {SA BB : Nat} {tagB : Tags} {stB : St} {SB : Nat} {ca : Bool} (h : Two w0 w n0 BA tagA stA SA BB tagB stB SB ca) (hA : Wd w' BA tagA' stA') (s : Step w w' tagA tagA' (fun _ => True)) :
    Two w0 w' n0 BA tagA' stA' SA BB tagB stB SB ca := by
  have hkeep : ∀ i, i < w.heap.size → tagA i = none → w'.heap[i]? = w.heap[i]? := fun i hi ht => s.block i hi (fun t _ e => by rw [ht] at e; cases e)
  have hd' := h.swap.dj
  refine ⟨⟨hA, h.a.sto.step s, fun i hi => s.bare i (Nat.lt_of_lt_of_le hi h.n0) (h.a.lo i hi)⟩, ⟨h.b.wd.frame s.size (fun i hi => hkeep i (h.b.wd.lt i hi) (hd' i hi)), h.b.sto.of_block (Nat.lt_of_lt_of_le h.b.sto.lt s.size) h.b.sto.bare (hkeep SB h.b.sto.lt h.ba), h.b.lo⟩, fun i hi => ?_, h.ab, s.bare SB h.b.sto.lt h.ba, h.be.trans (s.below h.n0 h.a.lo).1, Nat.le_trans h.n0 s.size⟩
  by_cases hlt : i < w.heap.size
  · exact h.dj i (fun e => hi (s.bare i hlt e))
  · exact wd_none h.b.wd (by omega)

/-- A row that neither world has. -/
structure Hold (w : World) (tagA tagB : Tags) (g n : Nat) (bl : Nat → Bk) : Prop where
  lt : g < w.heap.size
  ta : tagA g = none
  tb : tagB g = none
  rows : ∀ j, j < n → w.rangeAt g (j * 19) (bl j).cs
theorem Hold.swap {w : World} {tagA tagB : Tags} {g n : Nat} {bl : Nat → Bk} (h : Hold w tagA tagB g n bl) : Hold w tagB tagA g n bl := ⟨h.lt, h.tb, h.ta, h.rows⟩
theorem Hold.left {w w' : World} {tagA tagA' tagB : Tags} {g n : Nat} {bl : Nat → Bk} (h : Hold w tagA tagB g n bl) (s : Step w w' tagA tagA' (fun _ => True)) : Hold w' tagA' tagB g n bl :=
  ⟨Nat.lt_of_lt_of_le h.lt s.size, s.bare g h.lt h.ta, h.tb, fun j hj => rangeAt_keep (h.rows j hj) (s.block g h.lt (fun t _ e => by rw [h.ta] at e; cases e))⟩
theorem Hold.below {w w' : World} {tagA tagB : Tags} {g n : Nat} {bl : Nat → Bk} (h : Hold w tagA tagB g n bl) (s : Below w.heap.size w w') : Hold w' tagA tagB g n bl :=
  ⟨Nat.lt_of_lt_of_le h.lt s.size, h.ta, h.tb, fun j hj => rangeAt_keep (h.rows j hj) (s.block g h.lt)⟩
theorem Hold.of {w0 w w' : World} {n0 BA : Nat} {tagA : Tags} {stA : St} {SA BB : Nat} {tagB : Tags} {stB : St} {SB : Nat} {ca : Bool} (h : Two w0 w n0 BA tagA stA SA BB tagB stB SB ca) {g n : Nat} {bl : Nat → Bk} (hR : Rw w' tagA g n n bl) (hg : w.heap.size ≤ g) : Hold w' tagA tagB g n bl :=
  ⟨hR.lt, hR.bare, wd_none h.b.wd hg, hR.done⟩
theorem Hold.row {w : World} {tagA tagB : Tags} {g n : Nat} {bl bl' : Nat → Bk} (h : Hold w tagA tagB g n bl) (hok : ∀ j, j < n → bl j = bl' j ∧ (bl' j).ok) : Rows w (some ⟨g, 0, none⟩) n bl' := fun j hj =>
  ⟨(hok j hj).2, g, 0, rfl, h.lt, by rw [Nat.zero_add, ← (hok j hj).1]; exact h.rows j hj⟩

/-- A piece of a list of blocks. -/
theorem Bks.piece {w w' : World} {a : Option Addr} {l c : Nat} {bs : List Bk} (h : Bks w (.slice a l c) bs) {n0 : Nat} (hb : Below n0 w w') (hn0 : n0 = w.heap.size) (k n : Nat) (hk : k ≤ n) (hn : n ≤ l) (a' : Option Addr) (c' : Nat) (ha : ∀ g o, a = some ⟨g, o, none⟩ → k < n → a' = some ⟨g, o + k * 19, none⟩) :
    Bks w' (.slice a' (n - k) c') ((bs.take n).drop k) ∧ ((bs.take n).drop k).length = n - k ∧ (∀ b ∈ (bs.take n).drop k, b.ok) ∧ Rows w' a' (n - k) (fun j => bs.getD (k + j) emptyB) := by
  subst hn0
  obtain ⟨a2, c2, hv, hm, hbs⟩ := h
  simp only [Value.slice.injEq] at hv
  obtain ⟨rfl, rfl, rfl⟩ := hv
  have hl : ((bs.take n).drop k).length = n - k := by rw [List.length_drop, List.length_take]; omega
  have key : ∀ j b, ((bs.take n).drop k)[j]? = some b → j < n - k ∧ bs[k + j]? = some b := fun j b hj => by
    have h1 := (List.getElem?_eq_some_iff.1 hj).1
    rw [hl] at h1
    rw [List.getElem?_drop, List.getElem?_take, if_pos (by omega)] at hj
    exact ⟨h1, hj⟩
  refine ⟨⟨a', c', by rw [hl], by rw [hl]; omega, fun j b hj => ?_⟩, hl, fun b hb' => ?_, fun j hj => ?_⟩
  · obtain ⟨h1, h2⟩ := key j b hj
    obtain ⟨q1, g, o, rfl, q3, q4⟩ := hbs (k + j) b h2
    refine ⟨q1, g, o + k * 19, ha g o rfl (by omega), Nat.lt_of_lt_of_le q3 hb.size, ?_⟩
    have := rangeAt_keep q4 (hb.block g q3)
    rw [show o + (k + j) * 19 = o + k * 19 + j * 19 from by omega] at this
    exact this
  · obtain ⟨j, hj⟩ := List.mem_iff_getElem?.1 hb'
    obtain ⟨h1, h2⟩ := key j b hj
    exact (hbs (k + j) b h2).1
  · have h2 : bs[k + j]? = some (bs[k + j]'(by omega)) := List.getElem?_eq_getElem (by omega)
    obtain ⟨q1, g, o, rfl, q3, q4⟩ := hbs (k + j) _ h2
    have e : bs.getD (k + j) emptyB = bs[k + j]'(by omega) := by rw [List.getD_eq_getElem?_getD, h2]; rfl
    refine ⟨by show (bs.getD (k + j) emptyB).ok; rw [e]; exact q1, g, o + k * 19, ha g o rfl (by omega), Nat.lt_of_lt_of_le q3 hb.size, ?_⟩
    have := rangeAt_keep q4 (hb.block g q3)
    rw [show o + (k + j) * 19 = o + k * 19 + j * 19 from by omega] at this
    show w'.rangeAt g (o + k * 19 + j * 19) (bs.getD (k + j) emptyB).cs
    rw [e]
    exact this

/-- One piece, or two. -/
theorem split_view (f : ByteArray) (lba k : Nat) (us : List Bk) (hk : k ≤ us.length) (hok : ∀ b ∈ us, b.ok) (st : St) (hG : Good (st.seen f)) :
    Good ((wrSt st f lba us us.length).seen f) ∧ Good ((wrSt (wrSt st f lba (us.take k) k) f (lba + k) (us.drop k) (us.length - k)).seen f) ∧
    (∀ i, blkAt ((wrSt st f lba us us.length).seen f) i = blkAt ((wrSt (wrSt st f lba (us.take k) k) f (lba + k) (us.drop k) (us.length - k)).seen f) i) ∧
    ∀ j, j < us.length → blkAt ((wrSt (wrSt st f lba (us.take k) k) f (lba + k) (us.drop k) (us.length - k)).seen f) (lba + j) = us.getD j emptyB := by
  obtain ⟨a1, a2⟩ := wr_view st f lba us hG hok us.length (Nat.le_refl _)
  obtain ⟨b1, b2⟩ := wr_view st f lba (us.take k) hG (fun b hb => hok b (List.mem_of_mem_take hb)) k (by rw [List.length_take]; omega)
  obtain ⟨c1, c2⟩ := wr_view (wrSt st f lba (us.take k) k) f (lba + k) (us.drop k) b1 (fun b hb => hok b (List.mem_of_mem_drop hb)) (us.length - k) (by rw [List.length_drop]; omega)
  have hB : ∀ i, blkAt ((wrSt (wrSt st f lba (us.take k) k) f (lba + k) (us.drop k) (us.length - k)).seen f) i = if lba ≤ i ∧ i < lba + us.length then us.getD (i - lba) emptyB else blkAt (st.seen f) i := fun i => by
    rw [c2 i]
    by_cases h1 : lba + k ≤ i ∧ i < lba + k + (us.length - k)
    · rw [if_pos h1, if_pos (by omega), List.getD_eq_getElem?_getD, List.getElem?_drop, List.getD_eq_getElem?_getD, show k + (i - (lba + k)) = i - lba from by omega]
    · rw [if_neg h1, b2 i]
      by_cases h2 : lba ≤ i ∧ i < lba + k
      · rw [if_pos h2, if_pos (by omega), List.getD_eq_getElem?_getD, List.getElem?_take, if_pos (by omega), List.getD_eq_getElem?_getD]
      · rw [if_neg h2, if_neg (by omega)]
  exact ⟨a1, c1, fun i => by rw [a2 i, hB i], fun j hj => by rw [hB, if_pos (by omega), Nat.add_sub_cancel_left]⟩
end Go.Proofs.Ytmjpomkofgfbbaa
