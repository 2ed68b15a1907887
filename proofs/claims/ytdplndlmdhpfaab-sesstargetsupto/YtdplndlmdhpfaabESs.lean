/-
  sess: a session in its block, with its rows.
-/
import Derived.Test.YtdplndlmdhpfaabERow
namespace Go.Proofs.Ytdplndlmdhpfaab
open Go.RowKit
set_option linter.unusedVariables false
set_option linter.unusedSimpArgs false

theorem bx_setC {w : World} {b j : Nat} {cs : Array Value} (v : Value) (h : Bx w b cs) (hj : j < cs.size) : Bx (w.setCell ⟨b, j, none⟩ v) b (cs.setIfInBounds j v) := by
  have hg := grown_setCellK w ⟨b, j, none⟩ v
  refine ⟨Nat.lt_of_lt_of_le h.lt hg.size, fun i hi => ?_, fun i => ?_⟩
  · simp only [Array.size_setIfInBounds] at hi
    by_cases e : i = j
    · subst e
      have hs : (w.cell? ⟨b, i, none⟩).isSome = true := by rw [h.cells i hj, Array.getElem?_eq_getElem hj]; rfl
      rw [Array.getElem?_setIfInBounds_self_of_lt hj]
      exact World.cell?_setCell_same' w _ v hs
    · rw [Array.getElem?_setIfInBounds_ne (fun h => e h.symm), ← h.cells i hi]
      exact World.cell?_setCell_other _ _ _ _ (fun h => e (by cases h; rfl))
  · rw [← h.free i]; exact World.frozen?_setCells b [v] j w _

structure Se where
  (ini tgt : ByteArray) (dis hd dt : Bool) (seg bu fi : Int) (imm rdy : Bool) (tg : Value) (next stat asked : Int) (held opn wts : Value) (over : Bool)
def Se.v (s : Se) : Array Value := #[.string s.ini, .string s.tgt, .bool s.dis, .bool s.hd, .bool s.dt, .int .i64 s.seg, .int .i64 s.bu, .int .i64 s.fi, .bool s.imm, .bool s.rdy, s.tg, .int .u32 s.next, .int .u32 s.stat, .int .u32 s.asked, s.held, s.opn, s.wts, .bool s.over]
theorem Se.v_size (s : Se) : s.v.size = 18 := rfl
/-- The blocks that are a session's own. -/
def Se.X (S : Nat) (s : Se) (b : Nat) : Prop := b = S ∨ s.held.ownBlock = some b ∨ s.opn.ownBlock = some b ∨ s.wts.ownBlock = some b
structure Ss (w : World) (S : Nat) (s : Se) (H O T : List (Array Value)) : Prop where
  bx : Bx w S s.v
  held : OwnR 42 14 w s.held H
  opn : OwnR 74 4 w s.opn O
  wts : OwnR 83 11 w s.wts T
  nh : s.held.ownBlock ≠ some S
  no : s.opn.ownBlock ≠ some S
  nw : s.wts.ownBlock ≠ some S
  ho : ∀ b, s.held.ownBlock = some b → s.opn.ownBlock ≠ some b
  hw : ∀ b, s.held.ownBlock = some b → s.wts.ownBlock ≠ some b
  ow : ∀ b, s.opn.ownBlock = some b → s.wts.ownBlock ≠ some b
/-- A session has gone on. -/
structure St (S : Nat) (w w' : World) (s s' : Se) : Prop where
  fr : Fr (s.X S) w w'
  new : ∀ b, s'.X S b → s.X S b ∨ w.heap.size ≤ b
theorem St.refl (S : Nat) (w : World) (s : Se) : St S w w s s := ⟨Fr.refl _ _, fun _ h => .inl h⟩
theorem St.trans {S : Nat} {a b c : World} {s t u : Se} (h : St S a b s t) (k : St S b c t u) : St S a c s u :=
  ⟨h.fr.trans k.fr h.new, fun n hn => by
    rcases k.new n hn with h1 | h1
    · exact h.new n h1
    · exact .inr (Nat.le_trans h.fr.size h1)⟩
theorem St.of_below {S : Nat} {w w' : World} (s : Se) (h : Below w.heap.size w w') : St S w w' s s := ⟨Fr.of_below h, fun _ h => .inl h⟩
theorem Ss.lt {w : World} {S : Nat} {s : Se} {H O T : List (Array Value)} (h : Ss w S s H O T) (b : Nat) (hb : s.X S b) : b < w.heap.size := by
  rcases hb with rfl | hb | hb | hb
  · exact h.bx.lt
  · exact h.held.lt hb
  · exact h.opn.lt hb
  · exact h.wts.lt hb
theorem Ss.keep {w w' : World} {S : Nat} {s : Se} {H O T : List (Array Value)} (h : Ss w S s H O T) (hs : w.heap.size ≤ w'.heap.size) (hb : ∀ b, s.X S b → w'.heap[b]? = w.heap[b]?) : Ss w' S s H O T :=
  ⟨h.bx.of_block (Nat.lt_of_lt_of_le h.bx.lt hs) (hb S (.inl rfl)), h.held.of_block (fun g hg => hb g (.inr (.inl hg))), h.opn.of_block (fun g hg => hb g (.inr (.inr (.inl hg)))), h.wts.of_block (fun g hg => hb g (.inr (.inr (.inr hg)))), h.nh, h.no, h.nw, h.ho, h.hw, h.ow⟩
theorem Ss.below {w w' : World} {S : Nat} {s : Se} {H O T : List (Array Value)} (h : Ss w S s H O T) (hb : Below w.heap.size w w') : Ss w' S s H O T := h.keep hb.size (fun b hx => hb.block b (h.lt b hx))
theorem Ss.frame {w w' : World} {S : Nat} {s : Se} {H O T : List (Array Value)} {Y : Nat → Prop} (h : Ss w S s H O T) (hf : Fr Y w w') (hY : ∀ b, s.X S b → ¬ Y b) : Ss w' S s H O T := h.keep hf.size (fun b hx => hf.block b (h.lt b hx) (hY b hx))
theorem Ss.drew {w : World} {S : Nat} {s : Se} {H O T : List (Array Value)} (h : Ss w S s H O T) : Ss w.drew S s H O T := h.keep (Nat.le_refl _) (fun _ _ => rfl)
theorem Ss.drewN {w : World} {S : Nat} {s : Se} {H O T : List (Array Value)} (h : Ss w S s H O T) (n : Nat) : Ss (w.drewN n) S s H O T := h.keep (Nat.le_refl _) (fun _ _ => rfl)
theorem Ss.cell {w : World} {S : Nat} {s : Se} {H O T : List (Array Value)} (h : Ss w S s H O T) (j : Nat) (hj : j < 18) : w.cell? ⟨S, j, none⟩ = s.v[j]? ∧ w.frozen? ⟨S, j, none⟩ = false := ⟨h.bx.cells j (by rw [Se.v_size]; exact hj), h.bx.free j⟩
/-- A plain field is set. -/
theorem Ss.set {w : World} {S : Nat} {s s' : Se} {H O T : List (Array Value)} (h : Ss w S s H O T) (j : Nat) (v : Value) (hj : j < 18) (he : s.v.setIfInBounds j v = s'.v) (h1 : s'.held = s.held) (h2 : s'.opn = s.opn) (h3 : s'.wts = s.wts) :
    Ss (w.setCell ⟨S, j, none⟩ v) S s' H O T ∧ St S w (w.setCell ⟨S, j, none⟩ v) s s' := by
  have hg := grown_setCellK w ⟨S, j, none⟩ v
  refine ⟨⟨by rw [← he]; exact bx_setC v h.bx (by rw [Se.v_size]; exact hj), ?_, ?_, ?_, by rw [h1]; exact h.nh, by rw [h2]; exact h.no, by rw [h3]; exact h.nw, by rw [h1, h2]; exact h.ho, by rw [h1, h3]; exact h.hw, by rw [h2, h3]; exact h.ow⟩, ⟨Fr.of_grown hg (fun b e => .inl (by injection e with e; exact e.symm)), fun b hb => .inl (by unfold Se.X at *; rw [h1, h2, h3] at hb; exact hb)⟩⟩
  · rw [h1]; exact h.held.of_block (fun g hgg => hg.block g (h.held.lt hgg) (fun e => h.nh (by rw [hgg]; exact e)))
  · rw [h2]; exact h.opn.of_block (fun g hgg => hg.block g (h.opn.lt hgg) (fun e => h.no (by rw [hgg]; exact e)))
  · rw [h3]; exact h.wts.of_block (fun g hgg => hg.block g (h.wts.lt hgg) (fun e => h.nw (by rw [hgg]; exact e)))
/-- A row has turned, and is set: the held ones. -/
theorem Ss.setHeld {w w1 : World} {S : Nat} {s : Se} {H O T H' : List (Array Value)} {v' : Value} (h : Ss w S s H O T) (hg : w.grownBy w1 s.held.ownBlock) (hv : OwnR 42 14 w1 v' H') (hn : ∀ b, v'.ownBlock = some b → s.held.ownBlock = some b ∨ w.heap.size ≤ b) :
    Ss (w1.setCell ⟨S, 14, none⟩ v') S { s with held := v' } H' O T ∧ St S w (w1.setCell ⟨S, 14, none⟩ v') s { s with held := v' } ∧ w1.cell? ⟨S, 14, none⟩ = some s.held ∧ w1.frozen? ⟨S, 14, none⟩ = false := by
  have hbx : Bx w1 S s.v := h.bx.of_block (Nat.lt_of_lt_of_le h.bx.lt hg.size) (hg.block S h.bx.lt (fun e => h.nh e.symm))
  have hs := grown_setCellK w1 ⟨S, 14, none⟩ v'
  have hne : v'.ownBlock ≠ some S := fun e => by
    rcases hn S e with h1 | h1
    · exact h.nh h1
    · have := h.bx.lt; omega
  have hX : ∀ b, ({ s with held := v' } : Se).X S b → s.X S b ∨ w.heap.size ≤ b := fun b hb => by
    rcases hb with hb | hb | hb | hb
    · exact .inl (.inl hb)
    · rcases hn b hb with h1 | h1
      · exact .inl (.inr (.inl h1))
      · exact .inr h1
    · exact .inl (.inr (.inr (.inl hb)))
    · exact .inl (.inr (.inr (.inr hb)))
  refine ⟨⟨?_, ?_, ?_, ?_, hne, h.no, h.nw, ?_, ?_, h.ow⟩, ⟨⟨hs.os.trans hg.os, hs.tape.trans hg.tape, hs.output.trans hg.output, Nat.le_trans hg.size hs.size, fun b hb hx => ?_⟩, hX⟩, hbx.cells 14 (by rw [Se.v_size]; omega), hbx.free 14⟩
  · exact bx_setC v' hbx (by rw [Se.v_size]; omega)
  · exact hv.of_block (fun g hgg => hs.block g (hv.lt hgg) (fun e => hne (by rw [hgg]; exact e)))
  · exact h.opn.of_block (fun g hgg => (hs.block g (Nat.lt_of_lt_of_le (h.opn.lt hgg) hg.size) (fun e => h.no (by rw [hgg]; exact e))).trans (hg.block g (h.opn.lt hgg) (fun e => h.ho g e.symm hgg)))
  · exact h.wts.of_block (fun g hgg => (hs.block g (Nat.lt_of_lt_of_le (h.wts.lt hgg) hg.size) (fun e => h.nw (by rw [hgg]; exact e))).trans (hg.block g (h.wts.lt hgg) (fun e => h.hw g e.symm hgg)))
  · intro b hb
    rcases hn b hb with h1 | h1
    · exact h.ho b h1
    · intro e; have := h.opn.lt e; omega
  · intro b hb
    rcases hn b hb with h1 | h1
    · exact h.hw b h1
    · intro e; have := h.wts.lt e; omega
  · exact (hs.block b (Nat.lt_of_lt_of_le hb hg.size) (fun e => hx (.inl (by injection e)))).trans (hg.block b hb (fun e => hx (.inr (.inl e.symm))))
/-- The open ones. -/
theorem Ss.setOpn {w w1 : World} {S : Nat} {s : Se} {H O T O' : List (Array Value)} {v' : Value} (h : Ss w S s H O T) (hg : w.grownBy w1 s.opn.ownBlock) (hv : OwnR 74 4 w1 v' O') (hn : ∀ b, v'.ownBlock = some b → s.opn.ownBlock = some b ∨ w.heap.size ≤ b) :
    Ss (w1.setCell ⟨S, 15, none⟩ v') S { s with opn := v' } H O' T ∧ St S w (w1.setCell ⟨S, 15, none⟩ v') s { s with opn := v' } ∧ w1.cell? ⟨S, 15, none⟩ = some s.opn ∧ w1.frozen? ⟨S, 15, none⟩ = false := by
  have hbx : Bx w1 S s.v := h.bx.of_block (Nat.lt_of_lt_of_le h.bx.lt hg.size) (hg.block S h.bx.lt (fun e => h.no e.symm))
  have hs := grown_setCellK w1 ⟨S, 15, none⟩ v'
  have hne : v'.ownBlock ≠ some S := fun e => by
    rcases hn S e with h1 | h1
    · exact h.no h1
    · have := h.bx.lt; omega
  have hX : ∀ b, ({ s with opn := v' } : Se).X S b → s.X S b ∨ w.heap.size ≤ b := fun b hb => by
    rcases hb with hb | hb | hb | hb
    · exact .inl (.inl hb)
    · exact .inl (.inr (.inl hb))
    · rcases hn b hb with h1 | h1
      · exact .inl (.inr (.inr (.inl h1)))
      · exact .inr h1
    · exact .inl (.inr (.inr (.inr hb)))
  refine ⟨⟨?_, ?_, ?_, ?_, h.nh, hne, h.nw, ?_, h.hw, ?_⟩, ⟨⟨hs.os.trans hg.os, hs.tape.trans hg.tape, hs.output.trans hg.output, Nat.le_trans hg.size hs.size, fun b hb hx => ?_⟩, hX⟩, hbx.cells 15 (by rw [Se.v_size]; omega), hbx.free 15⟩
  · exact bx_setC v' hbx (by rw [Se.v_size]; omega)
  · exact h.held.of_block (fun g hgg => (hs.block g (Nat.lt_of_lt_of_le (h.held.lt hgg) hg.size) (fun e => h.nh (by rw [hgg]; exact e))).trans (hg.block g (h.held.lt hgg) (fun e => h.ho g hgg e.symm)))
  · exact hv.of_block (fun g hgg => hs.block g (hv.lt hgg) (fun e => hne (by rw [hgg]; exact e)))
  · exact h.wts.of_block (fun g hgg => (hs.block g (Nat.lt_of_lt_of_le (h.wts.lt hgg) hg.size) (fun e => h.nw (by rw [hgg]; exact e))).trans (hg.block g (h.wts.lt hgg) (fun e => h.ow g e.symm hgg)))
  · intro b hb e
    rcases hn b e with h1 | h1
    · exact h.ho b hb h1
    · have := h.held.lt hb; omega
  · intro b hb
    rcases hn b hb with h1 | h1
    · exact h.ow b h1
    · intro e; have := h.wts.lt e; omega
  · exact (hs.block b (Nat.lt_of_lt_of_le hb hg.size) (fun e => hx (.inl (by injection e)))).trans (hg.block b hb (fun e => hx (.inr (.inr (.inl e.symm)))))
/-- The writes that wait. -/
theorem Ss.setWts {w w1 : World} {S : Nat} {s : Se} {H O T T' : List (Array Value)} {v' : Value} (h : Ss w S s H O T) (hg : w.grownBy w1 s.wts.ownBlock) (hv : OwnR 83 11 w1 v' T') (hn : ∀ b, v'.ownBlock = some b → s.wts.ownBlock = some b ∨ w.heap.size ≤ b) :
    Ss (w1.setCell ⟨S, 16, none⟩ v') S { s with wts := v' } H O T' ∧ St S w (w1.setCell ⟨S, 16, none⟩ v') s { s with wts := v' } ∧ w1.cell? ⟨S, 16, none⟩ = some s.wts ∧ w1.frozen? ⟨S, 16, none⟩ = false := by
  have hbx : Bx w1 S s.v := h.bx.of_block (Nat.lt_of_lt_of_le h.bx.lt hg.size) (hg.block S h.bx.lt (fun e => h.nw e.symm))
  have hs := grown_setCellK w1 ⟨S, 16, none⟩ v'
  have hne : v'.ownBlock ≠ some S := fun e => by
    rcases hn S e with h1 | h1
    · exact h.nw h1
    · have := h.bx.lt; omega
  have hX : ∀ b, ({ s with wts := v' } : Se).X S b → s.X S b ∨ w.heap.size ≤ b := fun b hb => by
    rcases hb with hb | hb | hb | hb
    · exact .inl (.inl hb)
    · exact .inl (.inr (.inl hb))
    · exact .inl (.inr (.inr (.inl hb)))
    · rcases hn b hb with h1 | h1
      · exact .inl (.inr (.inr (.inr h1)))
      · exact .inr h1
  refine ⟨⟨?_, ?_, ?_, ?_, h.nh, h.no, hne, h.ho, ?_, ?_⟩, ⟨⟨hs.os.trans hg.os, hs.tape.trans hg.tape, hs.output.trans hg.output, Nat.le_trans hg.size hs.size, fun b hb hx => ?_⟩, hX⟩, hbx.cells 16 (by rw [Se.v_size]; omega), hbx.free 16⟩
  · exact bx_setC v' hbx (by rw [Se.v_size]; omega)
  · exact h.held.of_block (fun g hgg => (hs.block g (Nat.lt_of_lt_of_le (h.held.lt hgg) hg.size) (fun e => h.nh (by rw [hgg]; exact e))).trans (hg.block g (h.held.lt hgg) (fun e => h.hw g hgg e.symm)))
  · exact h.opn.of_block (fun g hgg => (hs.block g (Nat.lt_of_lt_of_le (h.opn.lt hgg) hg.size) (fun e => h.no (by rw [hgg]; exact e))).trans (hg.block g (h.opn.lt hgg) (fun e => h.ow g hgg e.symm)))
  · exact hv.of_block (fun g hgg => hs.block g (hv.lt hgg) (fun e => hne (by rw [hgg]; exact e)))
  · intro b hb e
    rcases hn b e with h1 | h1
    · exact h.hw b hb h1
    · have := h.held.lt hb; omega
  · intro b hb e
    rcases hn b e with h1 | h1
    · exact h.ow b hb h1
    · have := h.opn.lt hb; omega
  · exact (hs.block b (Nat.lt_of_lt_of_le hb hg.size) (fun e => hx (.inl (by injection e)))).trans (hg.block b hb (fun e => hx (.inr (.inr (.inr e.symm)))))
end Go.Proofs.Ytdplndlmdhpfaab
