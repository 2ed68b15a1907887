/-
  The document's tasks: rows of them, its set.
-/
import Derived.Test.YtcnefmfmmgdidaaTEnd
namespace Go.Proofs.Ytcnefmfmmgdidaa
open Go.RowKit
set_option linter.unusedVariables false
set_option linter.unusedSimpArgs false

abbrev Tk.valsR (t : Tk) : Array Value := #[.int .i64 t.nx, .int .u32 t.tg, .int .i64 t.ar, .bool t.st]
def celsR (ts : List Tk) : List Value := ts.flatMap (fun t => t.valsR.toList)
theorem celsR_nil : celsR [] = [] := rfl
theorem celsR_cons (t : Tk) (ts : List Tk) : celsR (t :: ts) = t.valsR.toList ++ celsR ts := rfl
theorem celsR_length (ts : List Tk) : (celsR ts).length = ts.length * 4 := by
  induction ts with
  | nil => rfl
  | cons t ts ih => rw [celsR_cons, List.length_append, ih]; simp [Nat.add_mul]; omega
theorem celsR_append (a b : List Tk) : celsR (a ++ b) = celsR a ++ celsR b := by simp [celsR, List.flatMap_append]
theorem celsR_one (ts : List Tk) : ∀ v ∈ celsR ts, v.oneCell' = true := by
  intro v hv
  simp only [celsR, List.mem_flatMap] at hv
  obtain ⟨t, _, h⟩ := hv
  simp [Tk.valsR] at h
  rcases h with rfl | rfl | rfl | rfl <;> rfl
theorem celsR_at : ∀ (ts : List Tk) (j i : Nat) (t : Tk), ts[j]? = some t → i < 4 → (celsR ts)[j * 4 + i]? = t.valsR[i]?
  | [], j, i, t, h, _ => by simp at h
  | u :: ts, 0, i, t, h, hi => by
    simp at h
    subst h
    rw [celsR_cons, List.getElem?_append_left (by simp; omega), Nat.zero_mul, Nat.zero_add, Array.getElem?_toList]
  | u :: ts, j + 1, i, t, h, hi => by
    have h' : ts[j]? = some t := by simpa using h
    rw [celsR_cons, List.getElem?_append_right (by simp; omega), ← celsR_at ts j i t h' hi]
    congr 1
    simp
    omega

/-- A slice of tasks, owned whole. -/
def OwnR (base : Nat) (w : World) (v : Value) (ts : List Tk) : Prop := w.ownsRow base 63 4 v ts.length (celsR ts)
/-- A slice of tasks that can be read. -/
def RdR (w : World) (v : Value) (ts : List Tk) : Prop :=
  ∃ a c, v = .slice a ts.length c ∧ (0 < ts.length → ∃ g, a = some ⟨g, 0, none⟩ ∧ g < w.heap.size ∧ ts.length ≤ c ∧ c ≤ maxLen ∧ ∀ j t, ts[j]? = some t → w.rangeAt g (j * 4) t.valsR.toList)

theorem OwnR.lt {base : Nat} {w : World} {v : Value} {ts : List Tk} (h : OwnR base w v ts) {g : Nat} (hg : v.ownBlock = some g) : base ≤ g ∧ g < w.heap.size := World.ownsRow.lt h g hg
theorem OwnR.of_block {base : Nat} {w w' : World} {v : Value} {ts : List Tk} (h : OwnR base w v ts) (hb : ∀ g, v.ownBlock = some g → w'.heap[g]? = w.heap[g]?) : OwnR base w' v ts := by
  refine ⟨h.1, ?_⟩
  rcases h.2 with hn | ⟨g, cap, cur, rfl, h0, hgg, rest⟩
  · exact .inl hn
  · exact .inr ⟨g, cap, cur, rfl, h0, (hb g rfl).trans hgg, rest⟩
theorem OwnR.lower {base base' : Nat} {w : World} {v : Value} {ts : List Tk} (h : OwnR base w v ts) (hb : base' ≤ base) : OwnR base' w v ts := by
  refine ⟨h.1, ?_⟩
  rcases h.2 with h | ⟨g, cap, cur, rfl, h0, rest⟩
  · exact .inl h
  · exact .inr ⟨g, cap, cur, rfl, Nat.le_trans hb h0, rest⟩
theorem ownR_nil (base : Nat) (w : World) : OwnR base w (.slice none 0 0) [] := World.ownsRow_nil _ _ _ _
theorem OwnR.shape {base : Nat} {w : World} {v : Value} {ts : List Tk} (h : OwnR base w v ts) : ∃ a c, v = .slice a ts.length c ∧ ((a = none ∧ c = 0 ∧ ts.length = 0) ∨ ∃ g, a = some ⟨g, 0, none⟩ ∧ base ≤ g ∧ g < w.heap.size ∧ ts.length ≤ c ∧ c ≤ maxLen ∧ (∀ j, w.frozen? ⟨g, j, none⟩ = false) ∧ ∀ j t, ts[j]? = some t → w.rangeAt g (j * 4) t.valsR.toList) := by
  rcases id h.2 with ⟨rfl, h0⟩ | ⟨g, cap, cur, rfl, hb, hg, h1, h2, rest⟩
  · exact ⟨none, 0, by rw [h0], .inl ⟨rfl, rfl, h0⟩⟩
  · refine ⟨_, cap, rfl, .inr ⟨g, rfl, hb, (World.ownsRow.lt h g rfl).2, h1, h2, fun j => World.ownsRow.frozenAt h j, fun j t hj i u hu => ?_⟩⟩
    have hj' : j < ts.length := (List.getElem?_eq_some_iff.1 hj).1
    have hi : i < 4 := by have := (List.getElem?_eq_some_iff.1 hu).1; simpa using this
    rw [World.ownsRow.cellAt h (j * 4 + i) (by omega), celsR_at ts j i t hj hi, ← hu, Array.getElem?_toList]
theorem OwnR.rd {base : Nat} {w : World} {v : Value} {ts : List Tk} (h : OwnR base w v ts) : RdR w v ts := by
  obtain ⟨a, c, hv, hs⟩ := h.shape
  refine ⟨a, c, hv, fun h0 => ?_⟩
  rcases hs with ⟨_, _, h⟩ | ⟨g, h1, _, h2, h3, h4, _, h5⟩
  · omega
  · exact ⟨g, h1, h2, h3, h4, h5⟩
theorem range4R {w : World} {b o : Nat} {t : Tk} (h : w.rangeAt b o t.valsR.toList) : w.cell? ⟨b, o, none⟩ = some (.int .i64 t.nx) ∧ w.cell? ⟨b, o + 1, none⟩ = some (.int .u32 t.tg) ∧ w.cell? ⟨b, o + 2, none⟩ = some (.int .i64 t.ar) ∧ w.cell? ⟨b, o + 3, none⟩ = some (.bool t.st) :=
  ⟨h 0 _ rfl, h 1 _ rfl, h 2 _ rfl, h 3 _ rfl⟩
theorem RdR.below {w w' : World} {n : Nat} {v : Value} {ts : List Tk} (h : RdR w v ts) (hn : w.heap.size ≤ n) (hb : Below n w w') : RdR w' v ts := by
  obtain ⟨a, c, hv, h⟩ := h
  refine ⟨a, c, hv, fun h0 => ?_⟩
  obtain ⟨g, h1, h2, h3, h4, h5⟩ := h h0
  exact ⟨g, h1, Nat.lt_of_lt_of_le h2 hb.size, h3, h4, fun j t hj => rangeAt_of_block (h5 j t hj) (hb.block g (by omega))⟩
structure StR (base : Nat) (w : World) (B : Nat) (ts : List Tk) (st : Int) (v : Value) : Prop where
  lt : B < w.heap.size
  le : base ≤ B
  c0 : w.cell? ⟨B, 0, none⟩ = some v
  c1 : w.cell? ⟨B, 1, none⟩ = some (.int .i64 st)
  free : ∀ j, w.frozen? ⟨B, j, none⟩ = false
  own : OwnR base w v ts
  other : ∀ g, v.ownBlock = some g → g ≠ B
  few : ts.length ≤ 16

theorem StR.keep {base : Nat} {w w' : World} {B : Nat} {ts : List Tk} {st : Int} {v : Value} (h : StR base w B ts st v) (hs : w.heap.size ≤ w'.heap.size) (hB : w'.heap[B]? = w.heap[B]?) (hv : ∀ g, v.ownBlock = some g → w'.heap[g]? = w.heap[g]?) : StR base w' B ts st v :=
  ⟨Nat.lt_of_lt_of_le h.lt hs, h.le, (World.cell?_of_block (w := w) (w' := w') (a := ⟨B, 0, none⟩) hB).trans h.c0, (World.cell?_of_block (w := w) (w' := w') (a := ⟨B, 1, none⟩) hB).trans h.c1, fun j => (World.frozen?_of_block (w := w) (w' := w') (a := ⟨B, j, none⟩) hB).trans (h.free j), h.own.of_block hv, h.other, h.few⟩
theorem StR.below {base : Nat} {w w' : World} {B : Nat} {ts : List Tk} {st : Int} {v : Value} (h : StR base w B ts st v) (hb : Below w.heap.size w w') : StR base w' B ts st v :=
  h.keep hb.size (hb.block B h.lt) (fun g hg => hb.block g (h.own.lt hg).2)
theorem StR.lower {base base' : Nat} {w : World} {B : Nat} {ts : List Tk} {st : Int} {v : Value} (h : StR base w B ts st v) (hb : base' ≤ base) : StR base' w B ts st v :=
  ⟨h.lt, Nat.le_trans hb h.le, h.c0, h.c1, h.free, h.own.lower hb, h.other, h.few⟩

theorem Try.info63 : (Try.prog.info? 63).map (fun i => (i.zero, i.size, i.bytes)) = some (some (.agg #[.int .i64 0, .int .u32 0, .int .i64 0, .bool false]), 4, 32) := by kernel_rfl

theorem wp_append_taskR {w : World} {o : Oper} {a : Act} {K : Act → World → Prop} {Q : Exit → Act → World → Prop} (d s : Operand)
    (ho : o.op = .call { callee := .builtin .append, args := #[d, s], argTypes := #[36, 36] })
    (base b : Nat) (v : Value) (ts : List Tk) (t : Tk) (hd : a.eval d = v) (hs : a.eval s = .slice (some ⟨b, 0, none⟩) 1 1) (hc : w.rangeAt b 0 t.valsR.toList) (hown : OwnR base w v ts) (hl : ts.length ≤ 100) (hbase : base ≤ w.heap.size)
    (h : ∀ v' w', OwnR base w' v' (ts ++ [t]) → w.grownBy w' v.ownBlock → (v'.ownBlock = v.ownBlock ∨ v'.ownBlock = some w.heap.size) → K (a.put o.dst v') w') : o.wp Try.prog a w K Q := by
  obtain ⟨i0, hi0, hz0, hz1, hz2⟩ := info_parts Try.info63
  obtain ⟨v', w', hr, h2, h3, h4, h5⟩ := run_append_own_at (P := Try.prog) w base 36 o.type 63 i0 (.agg #[.int .i64 0, .int .u32 0, .int .i64 0, .bool false]) 4 32 Try.underlying36 hi0 hz0 hz1 hz2 rfl (by decide) v ts.length (celsR ts) hown ⟨b, 0, none⟩ 1 1 t.valsR.toList (by simp) (fun j u hu => by
    rw [Go.WideShapes.add_plain]
    exact hc j u hu) (fun u hu => celsR_one [t] u (by simpa [celsR] using hu)) (by unfold maxLen; omega) (by omega) hbase
  unfold Oper.wp execOp
  simp only [ho, resolve, invoke, builtin, Sem.run_bind, Sem.run_pure, Result.andThen_ok, List.map_toArray, List.map_cons, List.map_nil, hd, hs, hr]
  exact h v' w' (by unfold OwnR; rw [celsR_append, List.length_append]; simpa [celsR] using h2) h3 h5
theorem wpList_append_taskR {w : World} {ops : Array Oper} {rest : List Oper} {o : Oper} {a : Act} {Q : Exit → Act → World → Prop} (hgd : o.guard = none) (d s : Operand)
    (ho : o.op = .call { callee := .builtin .append, args := #[d, s], argTypes := #[36, 36] })
    (base b : Nat) (v : Value) (ts : List Tk) (t : Tk) (hd : a.eval d = v) (hs : a.eval s = .slice (some ⟨b, 0, none⟩) 1 1) (hc : w.rangeAt b 0 t.valsR.toList) (hown : OwnR base w v ts) (hl : ts.length ≤ 100) (hbase : base ≤ w.heap.size)
    (h : ∀ v' w', Kpt (OwnR base w' v' (ts ++ [t])) → Kpt (w.grownBy w' v.ownBlock) → Kpt (v'.ownBlock = v.ownBlock ∨ v'.ownBlock = some w.heap.size) → wpList Try.prog ops Q rest (a.put o.dst v') w') : wpList Try.prog ops Q (o :: rest) a w :=
  wpList_plain hgd fun K hK => wp_append_taskR d s ho base b v ts t hd hs hc hown hl hbase (fun v' w' h1 h2 h3 => hK _ _ (h v' w' ⟨h1⟩ ⟨h2⟩ ⟨h3⟩))

theorem range_newR (w : World) (t : Tk) (ty : TypeId) : (w.alloc (.cells t.valsR ty)).rangeAt w.heap.size 0 t.valsR.toList := fun j v hv => by
  have : (w.alloc (.cells t.valsR ty)).cell? ⟨w.heap.size, 0 + j, none⟩ = t.valsR[0 + j]? := by simp
  rw [this, ← hv, Array.getElem?_toList, Nat.zero_add]

/-- The set's slice is another one. -/
theorem StR.turn {base : Nat} {w w1 : World} {B : Nat} {ts us : List Tk} {st : Int} {v u : Value} (h : StR base w B ts st v) (hg : w.grownBy w1 v.ownBlock) (hO : OwnR base w1 u us) (hor : u.ownBlock = v.ownBlock ∨ u.ownBlock = none ∨ ∃ g, u.ownBlock = some g ∧ w.heap.size ≤ g) (hf : us.length ≤ 16) :
    StR base (w1.setCell ⟨B, 0, none⟩ u) B us st u ∧ Trn w (w1.setCell ⟨B, 0, none⟩ u) B v u ∧ Below base w (w1.setCell ⟨B, 0, none⟩ u) := by
  have hBv : some B ≠ v.ownBlock := fun e => h.other B e.symm rfl
  have hB1 : w1.heap[B]? = w.heap[B]? := hg.block B h.lt hBv
  have hlt1 : B < w1.heap.size := Nat.lt_of_lt_of_le h.lt hg.size
  have huB : ∀ g, u.ownBlock = some g → g ≠ B := fun g hg' => by
    rcases hor with e | e | ⟨g2, e, hge⟩
    · exact h.other g (by rw [← e]; exact hg')
    · rw [e] at hg'; cases hg'
    · rw [e] at hg'; cases hg'; have := h.lt; omega
  have hc0 := (World.cell?_of_block (w := w) (w' := w1) (a := ⟨B, 0, none⟩) hB1).trans h.c0
  have hc1 := (World.cell?_of_block (w := w) (w' := w1) (a := ⟨B, 1, none⟩) hB1).trans h.c1
  refine ⟨⟨by simpa using hlt1, h.le, World.cell?_setCell_same' _ _ _ (by rw [hc0]; rfl), ?_, fun j => ?_, ?_, huB, hf⟩, ⟨by simpa using hg.size, fun k hk hB hv => ?_, fun g hg' => ?_⟩, ?_⟩
  · have hne : (⟨B, 0, none⟩ : Addr) ≠ ⟨B, 1, none⟩ := fun e => by injection e with _ e2; omega
    exact (by first | exact World.cell?_setCell_other _ _ _ _ hne | exact World.cell?_setCell_other _ _ _ hne : (w1.setCell ⟨B, 0, none⟩ u).cell? ⟨B, 1, none⟩ = w1.cell? ⟨B, 1, none⟩).trans hc1
  · have := (World.frozen?_of_block (w := w) (w' := w1) (a := ⟨B, j, none⟩) hB1).trans (h.free j)
    simpa using this
  · exact hO.of_block (fun g hg' => Below.heap_setCell _ _ _ _ (fun e => huB g hg' (by simpa using e)))
  · exact (Below.heap_setCell _ _ _ _ (fun e => hB (by simpa using e))).trans (hg.block k hk (fun e => hv e.symm))
  · rcases hor with e | e | ⟨g2, e, hge⟩
    · exact .inl (by rw [← e]; exact hg')
    · rw [e] at hg'; cases hg'
    · rw [e] at hg'; cases hg'; exact .inr hge
  · exact ((Below.refl _ _).grown hg (Nat.le_trans h.le (Nat.le_of_lt h.lt)) (fun k hk => (h.own.lt hk).1)).setCell (p := ⟨B, 0, none⟩) h.le _
theorem StR.stand {base : Nat} {w : World} {B : Nat} {ts : List Tk} {st : Int} {v : Value} (n : Int) (h : StR base w B ts st v) : StR base (w.setCell ⟨B, 1, none⟩ (.int .i64 n)) B ts n v ∧ Trn w (w.setCell ⟨B, 1, none⟩ (.int .i64 n)) B v v ∧ Below base w (w.setCell ⟨B, 1, none⟩ (.int .i64 n)) := by
  refine ⟨⟨by simpa using h.lt, h.le, ?_, World.cell?_setCell_same' _ _ _ (by rw [h.c1]; rfl), fun j => by simpa using h.free j, h.own.of_block (fun g hg => Below.heap_setCell _ _ _ _ (fun e => h.other g hg (by simpa using e))), h.other, h.few⟩, ⟨by simp, fun k hk hB _ => Below.heap_setCell _ _ _ _ (fun e => hB (by simpa using e)), fun g hg => .inl hg⟩, (Below.refl _ _).setCell (p := ⟨B, 1, none⟩) h.le _⟩
  have hne : (⟨B, 1, none⟩ : Addr) ≠ ⟨B, 0, none⟩ := fun e => by injection e with _ e2; omega
  exact (by first | exact World.cell?_setCell_other _ _ _ _ hne | exact World.cell?_setCell_other _ _ _ hne : (w.setCell ⟨B, 1, none⟩ (.int .i64 n)).cell? ⟨B, 0, none⟩ = w.cell? ⟨B, 0, none⟩).trans h.c0

theorem celsR_set : ∀ (ts : List Tk) (k : Nat) (t : Tk) (b : Bool), ts[k]? = some t → (celsR ts).set (k * 4 + 3) (.bool b) = celsR (ts.set k { t with st := b })
  | [], k, t, b, h => by simp at h
  | u :: r, 0, t, b, h => by
    simp at h
    subst h
    rfl
  | u :: r, k + 1, t, b, h => by
    have h' : r[k]? = some t := by simpa using h
    rw [List.set_cons_succ, celsR_cons, celsR_cons, ← celsR_set r k t b h', List.set_append_right _ _ (by simp; omega)]
    congr 2
    simp
    omega

theorem OwnR.start {base : Nat} {w : World} {g c k : Nat} {ts : List Tk} {t : Tk} (b : Bool) (h : OwnR base w (.slice (some ⟨g, 0, none⟩) ts.length c) ts) (hk : ts[k]? = some t) :
    OwnR base (w.setCell ⟨g, k * 4 + 3, none⟩ (.bool b)) (.slice (some ⟨g, 0, none⟩) ts.length c) (ts.set k { t with st := b }) := by
  have hkl : k < ts.length := (List.getElem?_eq_some_iff.1 hk).1
  refine ⟨by rw [celsR_length], ?_⟩
  rcases h.2 with ⟨hx, _⟩ | ⟨g', cap', cur, hx, hb, hg, h1, h2, h3, h4⟩
  · cases hx
  · simp only [Value.slice.injEq, Option.some.injEq, Addr.mk.injEq, and_true, true_and] at hx
    obtain ⟨rfl, rfl⟩ := hx
    refine .inr ⟨g, c, cur.setIfInBounds (k * 4 + 3) (.bool b), by rw [List.length_set], hb, ?_, by rw [List.length_set]; exact h1, h2, by simpa using h3, ?_⟩
    · unfold World.setCell
      simp [Array.getElem?_modify, hg]
    · rw [List.length_set, ← celsR_set ts k t b hk, ← h4, Array.toList_setIfInBounds, List.take_set]

theorem StR.start {base : Nat} {w : World} {B g c k : Nat} {ts : List Tk} {t : Tk} {st : Int} (b : Bool) (h : StR base w B ts st (.slice (some ⟨g, 0, none⟩) ts.length c)) (hk : ts[k]? = some t) :
    StR base (w.setCell ⟨g, k * 4 + 3, none⟩ (.bool b)) B (ts.set k { t with st := b }) st (.slice (some ⟨g, 0, none⟩) ts.length c) ∧ Trn w (w.setCell ⟨g, k * 4 + 3, none⟩ (.bool b)) B (.slice (some ⟨g, 0, none⟩) ts.length c) (.slice (some ⟨g, 0, none⟩) ts.length c) ∧ Below base w (w.setCell ⟨g, k * 4 + 3, none⟩ (.bool b)) := by
  have hgB : g ≠ B := h.other g rfl
  have hB : (w.setCell ⟨g, k * 4 + 3, none⟩ (.bool b)).heap[B]? = w.heap[B]? := Below.heap_setCell _ _ _ _ (fun e => hgB (by simpa using e.symm))
  refine ⟨⟨by simpa using h.lt, h.le, (World.cell?_of_block (a := ⟨B, 0, none⟩) hB).trans h.c0, (World.cell?_of_block (a := ⟨B, 1, none⟩) hB).trans h.c1, fun j => (World.frozen?_of_block (a := ⟨B, j, none⟩) hB).trans (h.free j), h.own.start b hk, h.other, by rw [List.length_set]; exact h.few⟩, ⟨by simp, fun j hj hjB hjv => Below.heap_setCell _ _ _ _ (fun e => hjv (by rw [show j = g from by simpa using e]; rfl)), fun q hq => .inl hq⟩, (Below.refl _ _).setCell (p := ⟨g, k * 4 + 3, none⟩) (h.own.lt rfl).1 _⟩

end Go.Proofs.Ytcnefmfmmgdidaa
