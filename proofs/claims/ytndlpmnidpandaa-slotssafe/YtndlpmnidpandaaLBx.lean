/-
  Slots: structs in blocks of their own, what turns beside a world, what a file's bytes say.
-/
import Derived.Test.YtndlpmnidpandaaLSml
import Derived.Deep.MidRow
import Derived.Deep.DeepMust
namespace Go.Proofs.Ytndlpmnidpandaa
open Go.RowKit
set_option linter.unusedVariables false
set_option linter.unusedSimpArgs false

/-- A block that holds these cells, and may be written. -/
structure Bx (w : World) (b : Nat) (cs : Array Value) : Prop where
  lt : b < w.heap.size
  cells : ∀ j, j < cs.size → w.cell? ⟨b, j, none⟩ = cs[j]?
  free : ∀ j, w.frozen? ⟨b, j, none⟩ = false

theorem Bx.of_block {w w' : World} {b : Nat} {cs : Array Value} (h : Bx w b cs) (hlt : b < w'.heap.size) (hb : w'.heap[b]? = w.heap[b]?) : Bx w' b cs :=
  ⟨hlt, fun j hj => (World.cell?_of_block (w := w) (a := ⟨b, j, none⟩) hb).trans (h.cells j hj), fun j => (World.frozen?_of_block (w := w) (a := ⟨b, j, none⟩) hb).trans (h.free j)⟩
theorem Bx.below {w w' : World} {b n : Nat} {cs : Array Value} (h : Bx w b cs) (hb : Below n w w') (hn : b < n) : Bx w' b cs :=
  h.of_block (Nat.lt_of_lt_of_le h.lt hb.size) (hb.block b hn)
theorem Bx.alloc {w : World} {b : Nat} {cs : Array Value} (h : Bx w b cs) (o : Obj) : Bx (w.alloc o) b cs :=
  h.of_block (by have := h.lt; simp; omega) (Below.heap_alloc w o b h.lt)
theorem Bx.grown {w w' : World} {b : Nat} {row : Option Nat} {cs : Array Value} (h : Bx w b cs) (hg : w.grownBy w' row) (hn : row ≠ some b) : Bx w' b cs :=
  h.of_block (Nat.lt_of_lt_of_le h.lt hg.size) (hg.block b h.lt (fun e => hn e.symm))
theorem Bx.drew {w : World} {b : Nat} {cs : Array Value} (h : Bx w b cs) : Bx w.drew b cs := ⟨h.lt, h.cells, h.free⟩
theorem bx_new (w : World) (cs : Array Value) (t : TypeId) : Bx (w.alloc (.cells cs t)) w.heap.size cs := ⟨by simp, fun j hj => by simp, fun j => by simp⟩

theorem Bx.range {w : World} {b : Nat} {cs : Array Value} (h : Bx w b cs) : w.rangeAt b 0 cs.toList := fun j v hv => by
  have hj : j < cs.size := by have := (List.getElem?_eq_some_iff.1 hv).1; simpa using this
  rw [Nat.zero_add, h.cells j hj, ← hv, Array.getElem?_toList]
theorem Bx.there {w : World} {b : Nat} {cs : Array Value} (h : Bx w b cs) : w.there b 0 cs.size := fun j hj => by
  rw [Nat.zero_add, h.cells j hj, Array.getElem?_eq_getElem hj]
  exact ⟨rfl, h.free j⟩

theorem grown_setCellS (w : World) (a : Addr) (u : Value) : w.grownBy (w.setCell a u) (some a.block) :=
  ⟨rfl, rfl, rfl, by simp, fun j _ hk => Below.heap_setCell w a u j (fun e => hk (by rw [e]))⟩
theorem grown_setCells (b : Nat) : ∀ (vs : List Value) (o : Nat) (w : World), w.grownBy (w.setCells b o vs) (some b)
  | [], _, w => ⟨rfl, rfl, rfl, Nat.le_refl _, fun _ _ _ => rfl⟩
  | v :: r, o, w => by
    have h1 := grown_setCellS w ⟨b, o, none⟩ v
    have h2 := grown_setCells b r (o + 1) (w.setCell ⟨b, o, none⟩ v)
    exact ⟨h2.os.trans h1.os, h2.tape.trans h1.tape, h2.output.trans h1.output, Nat.le_trans h1.size h2.size, fun j hj hk => (h2.block j (Nat.lt_of_lt_of_le hj h1.size) hk).trans (h1.block j hj hk)⟩

theorem bx_set {w : World} {b : Nat} {cs ds : Array Value} (h : Bx w b cs) (hl : ds.size = cs.size) : Bx (w.setCells b 0 ds.toList) b ds := by
  have hg := grown_setCells b ds.toList 0 w
  refine ⟨Nat.lt_of_lt_of_le h.lt hg.size, fun j hj => ?_, fun j => ?_⟩
  · have := World.rangeAt_setCells_same w b 0 ds.toList (by have := h.there; rw [← hl] at this; simpa using this) j ds[j] (by simp [hj])
    rw [Nat.zero_add] at this
    rw [this, Array.getElem?_eq_getElem hj]
  · rw [World.frozen?_setCells]; exact h.free j

/-- A whole struct is stored. -/
theorem wp_store_bx {w : World} {o : Oper} {a : Act} {K : Act → World → Prop} {Q : Exit → Act → World → Prop} (ty : TypeId) (x y : Operand)
    (ho : o.op = .store ty x y) (b : Nat) (cs ds : Array Value) (hx : a.eval x = .pointer (some ⟨b, 0, none⟩)) (hy : a.eval y = .agg ds) (hB : Bx w b cs) (hl : ds.size = cs.size)
    (hi : (Try.prog.info? ty).map (·.size) = some ds.size) (h1 : ds.all (·.oneCell') = true)
    (h : ∀ w', Bx w' b ds → w.grownBy w' (some b) → K (a.put o.dst undef) w') : o.wp Try.prog a w K Q :=
  wp_store_mid ty x y ho b 0 ds hx hy (by rw [hl]; exact hB.there) hi h1 (h _ (bx_set hB hl) (grown_setCells b ds.toList 0 w))
theorem wpList_store_bx {w : World} {ops : Array Oper} {rest : List Oper} {o : Oper} {a : Act} {Q : Exit → Act → World → Prop} (hgd : o.guard = none) (ty : TypeId) (x y : Operand)
    (ho : o.op = .store ty x y) (b : Nat) (cs ds : Array Value) (hx : a.eval x = .pointer (some ⟨b, 0, none⟩)) (hy : a.eval y = .agg ds) (hB : Bx w b cs) (hl : ds.size = cs.size)
    (hi : (Try.prog.info? ty).map (·.size) = some ds.size) (h1 : ds.all (·.oneCell') = true) (hdst : o.dst = none)
    (h : ∀ w', Bx w' b ds → w.grownBy w' (some b) → wpList Try.prog ops Q rest a w') : wpList Try.prog ops Q (o :: rest) a w :=
  wpList_plain hgd fun K hK => wp_store_bx ty x y ho b cs ds hx hy hB hl hi h1 (fun w' h1 h2 => hK _ _ (by rw [hdst]; exact h w' h1 h2))

/-- A whole struct is loaded. -/
theorem wpList_load_bx {w : World} {ops : Array Oper} {rest : List Oper} {o : Oper} {a : Act} {Q : Exit → Act → World → Prop} (hgd : o.guard = none) (ty : TypeId) (x : Operand)
    (ho : o.op = .load ty x) (b : Nat) (cs : Array Value) (hx : a.eval x = .pointer (some ⟨b, 0, none⟩)) (hB : Bx w b cs) (d : TypeDesc)
    (hu : Try.prog.underlying ty = some d) (hd : d.isRow = true) (hi : (Try.prog.info? ty).map (·.size) = some cs.size)
    (h : wpList Try.prog ops Q rest (a.put o.dst (.agg cs)) w) : wpList Try.prog ops Q (o :: rest) a w :=
  wpList_load_mid hgd ty x ho b 0 hx cs.toList d hB.range hu hd (by rw [Array.length_toList]; exact hi) (by simpa using h)

theorem run_res {w : World} {b : Nat} {cs : Array Value} (hB : Bx w b cs) (ty : TypeId) (d : TypeDesc)
    (hu : Try.prog.underlying ty = some d) (hd : d.isRow = true) (hi : (Try.prog.info? ty).map (·.size) = some cs.size) : (loadVar ty ⟨b, 0, none⟩).run Try.prog w = .ok (.agg cs) w := by
  have := run_loadVar_mid (P := Try.prog) w b 0 ty cs.toList d hB.range hu hd (by rw [Array.length_toList]; exact hi)
  simpa using this


theorem info_zero {ty : TypeId} {Z : Array Value} (h : (Try.prog.info? ty).map (fun i => i.zero) = some (some (.agg Z))) : ∀ (o : Oper) (a : Act) (w : World), o.op = .alloc ty → (execOp a.eval o).run Try.prog w = .ok (.value (.pointer (some ⟨w.heap.size, 0, none⟩))) (w.alloc (.cells Z ty)) := by
  cases hi : Try.prog.info? ty with
  | none => rw [hi] at h; simp at h
  | some i =>
    rw [hi] at h
    simp only [Option.map_some, Option.some.injEq] at h
    intro o a w ho
    unfold execOp
    simp only [ho]
    simp [Instr.alloc, zeroValue, typeInfo, hi, h, newVar, newRow, newObj, Value.cells]
    rfl
theorem exec_box {o : Oper} {a : Act} {w : World} (ty : TypeId) (x : Operand) (ho : o.op = .box ty x) (V : Array Value) (hx : a.eval x = .agg V) : (execOp a.eval o).run Try.prog w = .ok (.value (.pointer (some ⟨w.heap.size, 0, none⟩))) (w.alloc (.cells V ty)) := by
  unfold execOp
  simp only [ho]
  simp [hx, Instr.box, newVar, newRow, newObj, Value.cells]
  rfl
theorem wpList_of_exec {w w1 : World} {v : Value} {ops : Array Oper} {rest : List Oper} {o : Oper} {a : Act} {Q : Exit → Act → World → Prop} (hgd : o.guard = none) (he : (execOp a.eval o).run Try.prog w = .ok (.value v) w1)
    (h : wpList Try.prog ops Q rest (a.put o.dst v) w1) : wpList Try.prog ops Q (o :: rest) a w :=
  wpList_plain hgd fun K hK => by
    unfold Oper.wp
    rw [he]
    exact hK _ _ h
theorem wpList_box {w : World} {ops : Array Oper} {rest : List Oper} {o : Oper} {a : Act} {Q : Exit → Act → World → Prop} (hgd : o.guard = none) (ty : TypeId) (x : Operand) (ho : o.op = .box ty x) (V : Array Value) (hx : a.eval x = .agg V)
    (h : ∀ b w', w.heap.size ≤ b → Bx w' b V → Below w.heap.size w w' → w'.heap[b]? = some (.cells V ty (0, 0)) → wpList Try.prog ops Q rest (a.put o.dst (.pointer (some ⟨b, 0, none⟩))) w') : wpList Try.prog ops Q (o :: rest) a w :=
  wpList_of_exec hgd (exec_box ty x ho V hx) (h _ _ (Nat.le_refl _) (bx_new w V ty) ((Below.refl _ _).alloc (Nat.le_refl _) _) (by show (w.heap.push _)[w.heap.size]? = _; simp))
theorem wpList_var {w : World} {ops : Array Oper} {rest : List Oper} {o : Oper} {a : Act} {Q : Exit → Act → World → Prop} (hgd : o.guard = none) (ty : TypeId) (ho : o.op = .alloc ty) (Z : Array Value) (hz : (Try.prog.info? ty).map (fun i => i.zero) = some (some (.agg Z)))
    (h : ∀ b w', w.heap.size ≤ b → Bx w' b Z → Below w.heap.size w w' → wpList Try.prog ops Q rest (a.put o.dst (.pointer (some ⟨b, 0, none⟩))) w') : wpList Try.prog ops Q (o :: rest) a w :=
  wpList_of_exec hgd (info_zero hz o a w ho) (h _ _ (Nat.le_refl _) (bx_new w Z ty) ((Below.refl _ _).alloc (Nat.le_refl _) _))

/-! ### memory beside a world -/
theorem Chg.ok.frame {w w' : World} {tag : Tags} {c : Chg} {dv : Value} (h : c.ok w tag dv) (hb : ∀ i, tag i ≠ none → w'.heap[i]? = w.heap[i]?) : c.ok w' tag dv := by
  obtain ⟨two, three, s, t, off, ds⟩ := c
  cases two with
  | false => obtain ⟨h1, h2, hr, ht⟩ := h; exact ⟨h1, h2, hr.of_block (fun g hg => hb g (by rw [ht g hg]; simp)), ht⟩
  | true => cases three <;> exact h

theorem Wd.frame {w w' : World} {B : Nat} {tag : Tags} {st : St} (h : Wd w B tag st) (hs : w.heap.size ≤ w'.heap.size) (hb : ∀ i, tag i ≠ none → w'.heap[i]? = w.heap[i]?) : Wd w' B tag st := by
  obtain ⟨M1, M2, wv, fv, f1, f2, l, n2, h⟩ := h
  refine ⟨M1, M2, wv, fv, f1, f2, l, n2, ?_⟩
  have hb' : ∀ i t, i < w.heap.size → tag i = some t → w'.heap[i]? = w.heap[i]? := fun i t _ ht => hb i (by rw [ht]; simp)
  exact {
    cell := (hb B (by rw [h.tB]; simp)).trans h.cell
    tB := h.tB
    t1 := h.t1
    t2 := h.t2
    map1 := h.map1.of_block (hb M1 (by rw [h.t1]; simp))
    map2 := h.map2.of_block (hb M2 (by rw [h.t2]; simp))
    seen := h.seen.of_blocks hb'
    dur := h.dur.of_blocks hb'
    waits := by
      obtain ⟨h1, h2, h3⟩ := h.waits
      refine ⟨fun p hp => (h1 p hp).frame hb, ⟨h2.1, ?_⟩, h3⟩
      rcases h2.2 with hn | ⟨g, cap, cur, rfl, h0, hgg, rest⟩
      · exact .inl hn
      · exact .inr ⟨g, cap, cur, rfl, h0, (hb g (by rw [h3 g rfl]; simp)).trans hgg, rest⟩
    l_eq := h.l_eq
    fails := by
      obtain ⟨p, hf, hpe⟩ := h.fails
      refine ⟨p, ?_, hpe⟩
      cases fv with
      | none => exact hf
      | some b =>
        obtain ⟨ht, n, D, ⟨es, clock, h1, h2⟩, hp⟩ := hf
        exact ⟨ht, n, D, ⟨es, clock, (hb b (by rw [ht]; simp)).trans h1, h2⟩, hp⟩
    lt := fun i hi => Nat.lt_of_lt_of_le (h.lt i hi) hs
    opsLo := h.opsLo
    opsHi := h.opsHi
    cnt2 := h.cnt2 }

/-- A block of one's own has turned that was not there at first. -/
theorem Step.own {w w3 w4 : World} {tag tag' : Tags} {X : Tag → Prop} {G : Nat} (h : Step w w3 tag tag' X) (hg : w3.grownBy w4 (some G)) (hG : w.heap.size ≤ G) : Step w w4 tag tag' X where
  os := hg.os.trans h.os
  tape := hg.tape.trans h.tape
  output := hg.output.trans h.output
  size := Nat.le_trans h.size hg.size
  block := fun i hi hx => (hg.block i (Nat.lt_of_lt_of_le hi h.size) (fun e => by cases e; omega)).trans (h.block i hi hx)
  other := h.other
  bare := h.bare
  lt := fun hl i hi => Nat.lt_of_lt_of_le (h.lt hl i hi) hg.size
theorem Wd.own {w w' : World} {B G : Nat} {tag : Tags} {st : St} (h : Wd w B tag st) (hg : w.grownBy w' (some G)) (hG : tag G = none) : Wd w' B tag st :=
  h.frame hg.size (fun i hi => hg.block i (h.lt i hi) (fun e => by cases e; exact hi hG))

theorem wd_none {w : World} {B : Nat} {tag : Tags} {st : St} (h : Wd w B tag st) {i : Nat} (hi : w.heap.size ≤ i) : tag i = none := by
  cases hh : tag i with
  | none => rfl
  | some t => have := h.lt i (by rw [hh]; simp); omega
theorem step_below {w w' : World} (h : Below w.heap.size w w') (tag : Tags) (X : Tag → Prop) : Step w w' tag tag X :=
  ⟨h.os, h.tape, h.output, h.size, fun i hi _ => h.block i hi, fun _ _ _ => Iff.rfl, fun _ _ hn => hn, fun hl i hi => Nat.lt_of_lt_of_le (hl i hi) h.size⟩
theorem Wd.below {w w' : World} {B : Nat} {tag : Tags} {st : St} (h : Wd w B tag st) (hb : Below w.heap.size w w') : Wd w' B tag st := h.step (step_below hb tag _)
theorem Bx.step {w w' : World} {tag tag' : Tags} {X : Tag → Prop} {b : Nat} {cs : Array Value} (h : Bx w b cs) (s : Step w w' tag tag' X) (ht : tag b = none) : Bx w' b cs :=
  h.of_block (Nat.lt_of_lt_of_le h.lt s.size) (s.block b h.lt (fun t _ e => by rw [ht] at e; cases e))

/-- What has turned is the world's, or the slots' own block. -/
structure Sp (w w' : World) (S : Nat) (tag tag' : Tags) : Prop where
  os : w'.os = w.os
  tape : w'.tape = w.tape
  output : w'.output = w.output
  size : w.heap.size ≤ w'.heap.size
  block : ∀ i, i < w.heap.size → tag i = none → i ≠ S → w'.heap[i]? = w.heap[i]?
  bare : ∀ i, i < w.heap.size → tag i = none → tag' i = none
variable {w w1 w2 : World} {S : Nat} {tag tag1 tag2 : Tags}
theorem Step.sp {X : Tag → Prop} (s : Step w w1 tag tag1 X) (S : Nat) : Sp w w1 S tag tag1 :=
  ⟨s.os, s.tape, s.output, s.size, fun i hi ht _ => s.block i hi (fun t _ e => by rw [ht] at e; cases e), s.bare⟩
theorem Sp.trans (a : Sp w w1 S tag tag1) (b : Sp w1 w2 S tag1 tag2) : Sp w w2 S tag tag2 :=
  ⟨b.os.trans a.os, b.tape.trans a.tape, b.output.trans a.output, Nat.le_trans a.size b.size,
   fun i hi ht hs => (b.block i (Nat.lt_of_lt_of_le hi a.size) (a.bare i hi ht) hs).trans (a.block i hi ht hs),
   fun i hi ht => b.bare i (Nat.lt_of_lt_of_le hi a.size) (a.bare i hi ht)⟩
/-- Blocks that were not there at first may turn, too. -/
theorem Sp.own {b : Nat} (a : Sp w w1 S tag tag1) (hg : w1.grownBy w2 (some b)) (hb : w.heap.size ≤ b ∨ b = S) : Sp w w2 S tag tag1 :=
  ⟨hg.os.trans a.os, hg.tape.trans a.tape, hg.output.trans a.output, Nat.le_trans a.size hg.size,
   fun i hi ht hs => (hg.block i (Nat.lt_of_lt_of_le hi a.size) (fun e => by cases e; omega)).trans (a.block i hi ht hs), a.bare⟩
theorem Sp.below (a : Sp w w1 S tag tag1) (hb : Below w1.heap.size w1 w2) : Sp w w2 S tag tag1 := a.trans ((step_below hb tag1 (fun _ => True)).sp S)
theorem Sp.refl (w : World) (S : Nat) (tag : Tags) : Sp w w S tag tag := ⟨rfl, rfl, rfl, Nat.le_refl _, fun _ _ _ _ => rfl, fun _ _ h => h⟩
theorem Bx.sp {b : Nat} {cs : Array Value} (h : Bx w b cs) (s : Sp w w1 S tag tag1) (ht : tag b = none) (hs : b ≠ S) : Bx w1 b cs :=
  h.of_block (Nat.lt_of_lt_of_le h.lt s.size) (s.block b h.lt ht hs)
theorem RdAt.step {v : Value} {zs : List Int} {X : Tag → Prop} (h : RdAt w v zs) (s : Step w w1 tag tag1 X) (ht : zs ≠ [] → ∀ g, v.ownBlock = some g → tag g = none) : RdAt w1 v zs := by
  by_cases h0 : zs.length = 0
  · obtain ⟨a, c, rfl, h1, h2, _⟩ := h
    exact ⟨a, c, rfl, h1, h2, .inl h0⟩
  · exact h.of_block (fun g hg => s.block g (h.lt (by omega) hg) (fun t _ e => by rw [ht (fun e => h0 (by rw [e]; rfl)) g hg] at e; cases e))
theorem RdAt.sp {v : Value} {zs : List Int} (h : RdAt w v zs) (s : Sp w w1 S tag tag1) (ht : zs ≠ [] → ∀ g, v.ownBlock = some g → tag g = none ∧ g ≠ S) : RdAt w1 v zs := by
  by_cases h0 : zs.length = 0
  · obtain ⟨a, c, rfl, h1, h2, _⟩ := h
    exact ⟨a, c, rfl, h1, h2, .inl h0⟩
  · have hne : zs ≠ [] := fun e => h0 (by rw [e]; rfl)
    exact h.of_block (fun g hg => s.block g (h.lt (by omega) hg) (ht hne g hg).1 (ht hne g hg).2)

/-- The slots: the world's pointer, the name, what is known. -/
def slC (B : Nat) (f : ByteArray) (kn : Bool) (g nx : Int) : Array Value := #[.pointer (some ⟨B, 0, none⟩), .string f, .bool kn, .int .u64 g, .int .i64 nx]
structure Sl (w : World) (S B : Nat) (tag : Tags) (f : ByteArray) (kn : Bool) (g nx : Int) : Prop where
  bx : Bx w S (slC B f kn g nx)
  bare : tag S = none
section
variable {B : Nat} {f : ByteArray} {kn : Bool} {g nx : Int}
theorem Sl.at (h : Sl w S B tag f kn g nx) : w.cell? ⟨S, 0, none⟩ = some (.pointer (some ⟨B, 0, none⟩)) ∧ w.cell? ⟨S, 1, none⟩ = some (.string f) ∧ w.cell? ⟨S, 2, none⟩ = some (.bool kn) ∧ w.cell? ⟨S, 3, none⟩ = some (.int .u64 g) ∧ w.cell? ⟨S, 4, none⟩ = some (.int .i64 nx) :=
  ⟨h.bx.cells 0 (by simp [slC]), h.bx.cells 1 (by simp [slC]), h.bx.cells 2 (by simp [slC]), h.bx.cells 3 (by simp [slC]), h.bx.cells 4 (by simp [slC])⟩
theorem Sl.step {X : Tag → Prop} (h : Sl w S B tag f kn g nx) (s : Step w w1 tag tag1 X) : Sl w1 S B tag1 f kn g nx := ⟨h.bx.step s h.bare, s.bare S h.bx.lt h.bare⟩
theorem Sl.below (h : Sl w S B tag f kn g nx) (hb : Below w.heap.size w w1) : Sl w1 S B tag f kn g nx := ⟨h.bx.below hb h.bx.lt, h.bare⟩
theorem Sl.grown {b : Nat} (h : Sl w S B tag f kn g nx) (hg : w.grownBy w1 (some b)) (hne : b ≠ S) : Sl w1 S B tag f kn g nx := ⟨h.bx.grown hg (by simpa using hne), h.bare⟩

end
/-- What bytes say: a generation and a payload, or nothing. -/
def decO (zs : List Int) : Option (Int × List Int) :=
  if 16 ≤ zs.length ∧ zs.take 4 = [83, 76, 79, 84] ∧ B.num zs 12 4 ≤ 4096 ∧ 20 + (B.num zs 12 4).toNat ≤ zs.length ∧ B.num zs (16 + (B.num zs 12 4).toNat) 4 = (sumL (zs.take (16 + (B.num zs 12 4).toNat)) : Int)
  then some (B.num zs 4 8, (zs.drop 16).take (B.num zs 12 4).toNat) else none

theorem num_nonneg (zs : List Int) (hb : B.Bytes zs) (i : Nat) : ∀ n, 0 ≤ B.num zs i n
  | 0 => by simp [B.num]
  | n + 1 => by
    have h1 := num_nonneg zs hb i n
    have h2 := hb (i + n)
    rw [B.num]
    omega

/-- Decode, by what the bytes say. -/
theorem dec_no (a : Option Addr) (n c : Nat) (zs : List Int) (w : World) (hr : RdAt w (.slice a n c) zs) (hl : zs.length = n) (hm : n ≤ maxLen) (hb : B.Bytes zs) (hd : decO zs = none) :
    Calls Try.prog 9 #[.slice a n c] w fun e w' => ∃ er : Int, e = .returned (.tuple #[.int .u64 0, .slice none 0 0, .int .i64 er]) ∧ (er = 3 ∨ er = 5) ∧ Below w.heap.size w w' := by
  by_cases h1 : n < 16
  · exact (dec_short a n c w hm h1).mono (fun e w' ⟨h, hb⟩ => ⟨3, h, .inl rfl, hb⟩)
  · obtain ⟨k, hk⟩ : ∃ k : Nat, B.num zs 12 4 = (k : Int) := ⟨(B.num zs 12 4).toNat, by have := num_nonneg zs hb 12 4; omega⟩
    have hkt : (B.num zs 12 4).toNat = k := by omega
    by_cases h2 : 4096 < k
    · exact (dec_long a n c zs w hr hl hm hb (by omega) k hk h2).mono (fun e w' ⟨h, hb⟩ => ⟨3, h, .inl rfl, hb⟩)
    · by_cases h3 : zs.take 4 = [83, 76, 79, 84]
      · by_cases h4 : n < 20 + k
        · exact (dec_cut a n c zs w hr hl hm hb (by omega) k hk (by omega) h3 h4).mono (fun e w' ⟨h, hb⟩ => ⟨3, h, .inl rfl, hb⟩)
        · by_cases h5 : B.num zs (16 + k) 4 = (sumL (zs.take (16 + k)) : Int)
          · exfalso
            unfold decO at hd
            rw [hkt, if_pos ⟨by omega, h3, by omega, by omega, h5⟩] at hd
            cases hd
          · exact (dec_sum a n c zs w hr hl hm hb (by omega) k hk (by omega) h3 (by omega) h5).mono (fun e w' ⟨h, hb⟩ => ⟨5, h, .inr rfl, hb⟩)
      · exact (dec_mark a n c zs w hr hl hm hb (by omega) k hk (by omega) h3).mono (fun e w' ⟨h, hb⟩ => ⟨3, h, .inl rfl, hb⟩)
theorem dec_yes (a : Option Addr) (n c : Nat) (zs : List Int) (w : World) (hr : RdAt w (.slice a n c) zs) (hl : zs.length = n) (hm : n ≤ maxLen) (hb : B.Bytes zs) (g : Int) (p : List Int) (hd : decO zs = some (g, p)) :
    Calls Try.prog 9 #[.slice a n c] w fun e w' => ∃ v, e = .returned (.tuple #[.int .u64 g, v, .int .i64 0]) ∧ Row w' v p ∧ (∀ g, v.ownBlock = some g → w.heap.size ≤ g) ∧ Below w.heap.size w w' := by
  unfold decO at hd
  split at hd
  · rename_i h
    obtain ⟨h1, h2, h3, h4, h5⟩ := h
    have h0 := num_nonneg zs hb 12 4
    simp only [Option.some.injEq, Prod.mk.injEq] at hd
    obtain ⟨rfl, rfl⟩ := hd
    exact dec_ok a n c zs w hr hl hm hb (by omega) (B.num zs 12 4).toNat (by omega) (by omega) h2 (by omega) h5
  · cases hd

/-- A file's slot. -/
def slotOf (F : Option (List Int)) : Option (Int × List Int) := F.bind (fun zs => decO (zs.take 4116))

/-- A slot as a value: what was read. -/
def slotV (o : Option (Int × List Int)) (v : Value) : Array Value := match o with
  | none => #[.bool false, .int .u64 0, .slice none 0 0]
  | some (g, _) => #[.bool true, .int .u64 g, v]
def SlotIs (w : World) (tag : Tags) (lo : Nat) (o : Option (Int × List Int)) (v : Value) : Prop := match o with
  | none => True
  | some (_, p) => Row w v p ∧ ∀ g, v.ownBlock = some g → lo ≤ g ∧ tag g = none
end Go.Proofs.Ytndlpmnidpandaa
