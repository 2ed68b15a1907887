/-
  append of a row of tasks; the contract of Tasks; how a set turns.
-/
import Derived.Test.YtcnefmfmmgdidaaTRdy
namespace Go.Proofs.Ytcnefmfmmgdidaa
open Go.RowKit
set_option linter.unusedVariables false
set_option linter.unusedSimpArgs false

/-- A row that can be read whole. -/
def RowOf (w : World) (x : Value) (us : List Tk) : Prop :=
  (x = .slice none 0 0 ∧ us = []) ∨ ∃ g c, x = .slice (some ⟨g, 0, none⟩) us.length c ∧ g < w.heap.size ∧ ∀ j u, (cels us)[j]? = some u → w.cell? ⟨g, j, none⟩ = some u
theorem Own.row {base : Nat} {w : World} {v : Value} {ts : List Tk} (h : Own base w v ts) : RowOf w v ts := by
  rcases id h.2 with ⟨rfl, h0⟩ | ⟨g, cap, cur, rfl, hb, hg, h1, h2, rest⟩
  · exact .inl ⟨rfl, List.eq_nil_of_length_eq_zero h0⟩
  · refine .inr ⟨g, cap, rfl, (World.ownsRow.lt h g rfl).2, fun j u hu => ?_⟩
    have hj : j < ts.length * 4 := by have := (List.getElem?_eq_some_iff.1 hu).1; rw [cels_length] at this; exact this
    rw [World.ownsRow.cellAt h j hj, hu]

theorem wpList_append_row {w : World} {ops : Array Oper} {rest : List Oper} {o : Oper} {a : Act} {Q : Exit → Act → World → Prop} (hgd : o.guard = none) (d s : Operand)
    (ho : o.op = .call { callee := .builtin .append, args := #[d, s], argTypes := #[34, 34] })
    (base : Nat) (v x : Value) (ts us : List Tk) (hd : a.eval d = v) (hs : a.eval s = x) (hrow : RowOf w x us) (hown : Own base w v ts) (hl : ts.length + us.length ≤ 100) (hbase : base ≤ w.heap.size)
    (h : ∀ v' w', Kpt (Own base w' v' (ts ++ us)) → Kpt (w.grownBy w' v.ownBlock) → Kpt (v'.ownBlock = v.ownBlock ∨ v'.ownBlock = some w.heap.size) → wpList Try.prog ops Q rest (a.put o.dst v') w') : wpList Try.prog ops Q (o :: rest) a w := by
  obtain ⟨i0, hi0, hz0, hz1, hz2⟩ := info_parts Try.info48
  rcases hrow with ⟨rfl, rfl⟩ | ⟨g, c, rfl, hg, hc⟩
  · refine wpList_append_own_none hgd d s 34 ho base 48 i0 4 Try.underlying34 hi0 v ts.length (cels ts) hd hown hs ?_
    exact h v w ⟨by rw [List.append_nil]; exact hown⟩ ⟨⟨rfl, rfl, rfl, Nat.le_refl _, fun _ _ _ => rfl⟩⟩ ⟨.inl rfl⟩
  · refine wpList_append_own_at _ hgd d s 34 ho base 48 i0 (.agg #[.int .i64 0, .int .u32 0, .int .u8 0, .bool false]) 4 16 Try.underlying34 hi0 hz0 hz1 hz2 rfl (by decide) v ts.length (cels ts) hd hown ⟨g, 0, none⟩ us.length c (cels us) hs (cels_length us) (fun j u hu => by rw [Go.WideShapes.add_plain, Nat.zero_add]; exact hc j u hu) (cels_one us) (by unfold maxLen; omega) (by omega) hbase ?_
    intro v' w' h1 h2 _ h3
    exact h v' w' ⟨by unfold Own; rw [cels_append, List.length_append]; exact h1⟩ ⟨h2⟩ ⟨h3⟩

set_option maxHeartbeats 1000000 in
theorem tasks_any (base B : Nat) (ts : List Tk) (st : Int) (v : Value) (w : World) (h : St base w B ts st v) :
    Calls Try.prog 14 #[.pointer (some ⟨B, 0, none⟩)] w fun e w' => ∃ v', e = .returned v' ∧ Own w.heap.size w' v' ts ∧ Below w.heap.size w w' := by
  have hrow := Kpt.mk h.own.row
  have hfew := Kpt.mk h.few
  have hc0 := h.c0
  have hlt := h.lt
  clear h
  go_enter Try.func14, Try.ntmps14
  go_wp2_with (at_builtin; go_must (refine wpList_append_row rfl (.const (.slice none 0 0)) (.tmp 8) rfl w.heap.size (.slice none 0 0) v [] ts rfl rfl hrow.out (own_nil _ _) (by have := hfew.out; simp; omega) (Nat.le_refl _) ?_; intro v' w' ho hg hor))
  go_ret
  exact ⟨v', rfl, by have := ho.out; simpa using this, (Below.refl _ _).grown hg.out (Nat.le_refl _) (fun k hk => by simp [Value.ownBlock] at hk)⟩

/-- What a turn of a set leaves. -/
structure Trn (w w' : World) (B : Nat) (v v' : Value) : Prop where
  size : w.heap.size ≤ w'.heap.size
  block : ∀ k, k < w.heap.size → k ≠ B → v.ownBlock ≠ some k → w'.heap[k]? = w.heap[k]?
  came : ∀ g, v'.ownBlock = some g → v.ownBlock = some g ∨ w.heap.size ≤ g
theorem Trn.refl (w : World) (B : Nat) (v : Value) : Trn w w B v v := ⟨Nat.le_refl _, fun _ _ _ _ => rfl, fun g h => .inl h⟩
theorem Trn.of_below {w w' : World} (B : Nat) (v : Value) (h : Below w.heap.size w w') : Trn w w' B v v := ⟨h.size, fun k hk _ _ => h.block k hk, fun g h => .inl h⟩
theorem Trn.trans {w w1 w2 : World} {B : Nat} {v v1 v2 : Value} (h : Trn w w1 B v v1) (h2 : Trn w1 w2 B v1 v2) : Trn w w2 B v v2 := by
  refine ⟨Nat.le_trans h.size h2.size, fun k hk hB hS => ?_, fun g hg => ?_⟩
  · refine (h2.block k (Nat.lt_of_lt_of_le hk h.size) hB (fun e => ?_)).trans (h.block k hk hB hS)
    rcases h.came k e with e2 | e2
    · exact hS e2
    · omega
  · rcases h2.came g hg with e2 | e2
    · exact h.came g e2
    · exact .inr (Nat.le_trans h.size e2)

/-- The set's slice is another one. -/
theorem St.turn {base : Nat} {w w1 : World} {B : Nat} {ts us : List Tk} {st : Int} {v u : Value} (h : St base w B ts st v) (hg : w.grownBy w1 v.ownBlock) (hO : Own base w1 u us) (hor : u.ownBlock = v.ownBlock ∨ u.ownBlock = none ∨ ∃ g, u.ownBlock = some g ∧ w.heap.size ≤ g) (hf : us.length ≤ 16) :
    St base (w1.setCell ⟨B, 0, none⟩ u) B us st u ∧ Trn w (w1.setCell ⟨B, 0, none⟩ u) B v u ∧ Below base w (w1.setCell ⟨B, 0, none⟩ u) := by
  have hBv : some B ≠ v.ownBlock := fun e => h.other B e.symm rfl
  have hB1 : w1.heap[B]? = w.heap[B]? := hg.block B h.lt hBv
  have hlt1 : B < w1.heap.size := Nat.lt_of_lt_of_le h.lt hg.size
  have huB : ∀ g, u.ownBlock = some g → g ≠ B := fun g hg' => by
    rcases hor with e | e | ⟨g2, e, hge⟩
    · exact h.other g (by rw [← e]; exact hg')
    · rw [e] at hg'; cases hg'
    · rw [e] at hg'; cases hg'; have := h.lt; omega
  have hc0 := (World.cell?_of_block (w := w) (w' := w1) (a := ⟨B, 0, none⟩) hB1).trans h.c0
  have hc1 := (World.cell?_of_block (w := w) (w' := w1) (a := ⟨B, 1, none⟩) hB1).trans h.c1
  refine ⟨⟨by simpa using hlt1, h.le, World.cell?_setCell_same' _ _ _ (by rw [hc0]; rfl), ?_, fun j => ?_, ?_, huB, hf⟩, ⟨by simpa using hg.size, fun k hk hB hv => ?_, fun g hg' => ?_⟩, ?_⟩
  · have hne : (⟨B, 0, none⟩ : Addr) ≠ ⟨B, 1, none⟩ := fun e => by injection e with _ e2; omega
    exact (by first | exact World.cell?_setCell_other _ _ _ _ hne | exact World.cell?_setCell_other _ _ _ hne : (w1.setCell ⟨B, 0, none⟩ u).cell? ⟨B, 1, none⟩ = w1.cell? ⟨B, 1, none⟩).trans hc1
  · have := (World.frozen?_of_block (w := w) (w' := w1) (a := ⟨B, j, none⟩) hB1).trans (h.free j)
    simpa using this
  · exact hO.of_block (fun g hg' => Below.heap_setCell _ _ _ _ (fun e => huB g hg' (by simpa using e)))
  · exact (Below.heap_setCell _ _ _ _ (fun e => hB (by simpa using e))).trans (hg.block k hk (fun e => hv e.symm))
  · rcases hor with e | e | ⟨g2, e, hge⟩
    · exact .inl (by rw [← e]; exact hg')
    · rw [e] at hg'; cases hg'
    · rw [e] at hg'; cases hg'; exact .inr hge
  · exact ((Below.refl _ _).grown hg (Nat.le_trans h.le (Nat.le_of_lt h.lt)) (fun k hk => (h.own.lt hk).1)).setCell (p := ⟨B, 0, none⟩) h.le _
end Go.Proofs.Ytcnefmfmmgdidaa
