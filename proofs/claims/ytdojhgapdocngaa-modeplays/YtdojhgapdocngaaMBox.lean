/-
  Structs in blocks of their own; rows of one's own; values, senses.
-/
import Derived.Test.YtdojhgapdocngaaMem
import Derived.Test.YtdojhgapdocngaaOrder
import Derived.Deep.MidRow
import Derived.Laws.BytesArg
namespace Go.Proofs.Ytdojhgapdocngaa
open Go.RowKit
set_option linter.unusedVariables false
set_option linter.unusedSimpArgs false

theorem ret_bool {a b : Bool} (h : a = b) : Ending.returned (.bool a) = .returned (.bool b) := by rw [h]
theorem below_drewN {B : Nat} {a w : World} (h : Below B a w) (n : Nat) : Below B a (w.drewN n) := ⟨h.os, h.tape, h.output, h.size, h.block⟩
theorem beq_d (a b : Int) : (a == b) = decide (a = b) := by by_cases h : a = b <;> simp [h]
theorem bne_d (a b : Int) : (a != b) = !decide (a = b) := by by_cases h : a = b <;> simp [h]

theorem far_cell {w w' : World} {row : Option Nat} (hg : w.grownBy w' row) (a : Addr) (hlt : a.block < w.heap.size) (hne : row ≠ some a.block) : w'.cell? a = w.cell? a := World.cell?_of_block (hg.block _ hlt (fun e => hne e.symm))

/-- A block that holds these cells, and may be written. -/
structure Bx (w : World) (b : Nat) (cs : Array Value) : Prop where
  lt : b < w.heap.size
  cells : ∀ j, j < cs.size → w.cell? ⟨b, j, none⟩ = cs[j]?
  free : ∀ j, w.frozen? ⟨b, j, none⟩ = false

theorem Bx.of_block {w w' : World} {b : Nat} {cs : Array Value} (h : Bx w b cs) (hlt : b < w'.heap.size) (hb : w'.heap[b]? = w.heap[b]?) : Bx w' b cs :=
  ⟨hlt, fun j hj => (World.cell?_of_block (w := w) (a := ⟨b, j, none⟩) hb).trans (h.cells j hj), fun j => (World.frozen?_of_block (w := w) (a := ⟨b, j, none⟩) hb).trans (h.free j)⟩
theorem Bx.below {w w' : World} {b n : Nat} {cs : Array Value} (h : Bx w b cs) (hb : Below n w w') (hn : b < n) : Bx w' b cs :=
  h.of_block (Nat.lt_of_lt_of_le h.lt hb.size) (hb.block b hn)
theorem Bx.alloc {w : World} {b : Nat} {cs : Array Value} (h : Bx w b cs) (o : Obj) : Bx (w.alloc o) b cs :=
  h.of_block (by have := h.lt; simp; omega) (Below.heap_alloc w o b h.lt)
theorem Bx.grown {w w' : World} {b : Nat} {row : Option Nat} {cs : Array Value} (h : Bx w b cs) (hg : w.grownBy w' row) (hn : row ≠ some b) : Bx w' b cs :=
  h.of_block (Nat.lt_of_lt_of_le h.lt hg.size) (hg.block b h.lt (fun e => hn e.symm))
theorem Bx.drew {w : World} {b : Nat} {cs : Array Value} (h : Bx w b cs) : Bx w.drew b cs := ⟨h.lt, h.cells, h.free⟩
theorem bx_new (w : World) (cs : Array Value) (t : TypeId) : Bx (w.alloc (.cells cs t)) w.heap.size cs := ⟨by simp, fun j hj => by simp, fun j => by simp⟩

theorem Bx.range {w : World} {b : Nat} {cs : Array Value} (h : Bx w b cs) : w.rangeAt b 0 cs.toList := fun j v hv => by
  have hj : j < cs.size := by have := (List.getElem?_eq_some_iff.1 hv).1; simpa using this
  rw [Nat.zero_add, h.cells j hj, ← hv, Array.getElem?_toList]
theorem Bx.there {w : World} {b : Nat} {cs : Array Value} (h : Bx w b cs) : w.there b 0 cs.size := fun j hj => by
  rw [Nat.zero_add, h.cells j hj, Array.getElem?_eq_getElem hj]
  exact ⟨rfl, h.free j⟩

theorem grown_setCell (w : World) (a : Addr) (u : Value) : w.grownBy (w.setCell a u) (some a.block) :=
  ⟨rfl, rfl, rfl, by simp, fun j _ hk => Below.heap_setCell w a u j (fun e => hk (by rw [e]))⟩
theorem grown_setCells (b : Nat) : ∀ (vs : List Value) (o : Nat) (w : World), w.grownBy (w.setCells b o vs) (some b)
  | [], _, w => ⟨rfl, rfl, rfl, Nat.le_refl _, fun _ _ _ => rfl⟩
  | v :: r, o, w => by
    have h1 := grown_setCell w ⟨b, o, none⟩ v
    have h2 := grown_setCells b r (o + 1) (w.setCell ⟨b, o, none⟩ v)
    exact ⟨h2.os.trans h1.os, h2.tape.trans h1.tape, h2.output.trans h1.output, Nat.le_trans h1.size h2.size, fun j hj hk => (h2.block j (Nat.lt_of_lt_of_le hj h1.size) hk).trans (h1.block j hj hk)⟩

theorem bx_set {w : World} {b : Nat} {cs ds : Array Value} (h : Bx w b cs) (hl : ds.size = cs.size) : Bx (w.setCells b 0 ds.toList) b ds := by
  have hg := grown_setCells b ds.toList 0 w
  refine ⟨Nat.lt_of_lt_of_le h.lt hg.size, fun j hj => ?_, fun j => ?_⟩
  · have := World.rangeAt_setCells_same w b 0 ds.toList (by have := h.there; rw [← hl] at this; simpa using this) j ds[j] (by simp [hj])
    rw [Nat.zero_add] at this
    rw [this, Array.getElem?_eq_getElem hj]
  · rw [World.frozen?_setCells]; exact h.free j

/-- A whole struct is stored. -/
theorem wp_store_bx {w : World} {o : Oper} {a : Act} {K : Act → World → Prop} {Q : Exit → Act → World → Prop} (ty : TypeId) (x y : Operand)
    (ho : o.op = .store ty x y) (b : Nat) (cs ds : Array Value) (hx : a.eval x = .pointer (some ⟨b, 0, none⟩)) (hy : a.eval y = .agg ds) (hB : Bx w b cs) (hl : ds.size = cs.size)
    (hi : (Try.prog.info? ty).map (·.size) = some ds.size) (h1 : ds.all (·.oneCell') = true)
    (h : ∀ w', Bx w' b ds → w.grownBy w' (some b) → K (a.put o.dst undef) w') : o.wp Try.prog a w K Q :=
  wp_store_mid ty x y ho b 0 ds hx hy (by rw [hl]; exact hB.there) hi h1 (h _ (bx_set hB hl) (grown_setCells b ds.toList 0 w))
theorem wpList_store_bx {w : World} {ops : Array Oper} {rest : List Oper} {o : Oper} {a : Act} {Q : Exit → Act → World → Prop} (hgd : o.guard = none) (ty : TypeId) (x y : Operand)
    (ho : o.op = .store ty x y) (b : Nat) (cs ds : Array Value) (hx : a.eval x = .pointer (some ⟨b, 0, none⟩)) (hy : a.eval y = .agg ds) (hB : Bx w b cs) (hl : ds.size = cs.size)
    (hi : (Try.prog.info? ty).map (·.size) = some ds.size) (h1 : ds.all (·.oneCell') = true) (hdst : o.dst = none)
    (h : ∀ w', Bx w' b ds → w.grownBy w' (some b) → wpList Try.prog ops Q rest a w') : wpList Try.prog ops Q (o :: rest) a w :=
  wpList_plain hgd fun K hK => wp_store_bx ty x y ho b cs ds hx hy hB hl hi h1 (fun w' h1 h2 => hK _ _ (by rw [hdst]; exact h w' h1 h2))

/-- A whole struct is loaded. -/
theorem wpList_load_bx {w : World} {ops : Array Oper} {rest : List Oper} {o : Oper} {a : Act} {Q : Exit → Act → World → Prop} (hgd : o.guard = none) (ty : TypeId) (x : Operand)
    (ho : o.op = .load ty x) (b : Nat) (cs : Array Value) (hx : a.eval x = .pointer (some ⟨b, 0, none⟩)) (hB : Bx w b cs) (d : TypeDesc)
    (hu : Try.prog.underlying ty = some d) (hd : d.isRow = true) (hi : (Try.prog.info? ty).map (·.size) = some cs.size)
    (h : wpList Try.prog ops Q rest (a.put o.dst (.agg cs)) w) : wpList Try.prog ops Q (o :: rest) a w :=
  wpList_load_mid hgd ty x ho b 0 hx cs.toList d hB.range hu hd (by rw [Array.length_toList]; exact hi) (by simpa using h)

theorem run_res {w : World} {b : Nat} {cs : Array Value} (hB : Bx w b cs) (ty : TypeId) (d : TypeDesc)
    (hu : Try.prog.underlying ty = some d) (hd : d.isRow = true) (hi : (Try.prog.info? ty).map (·.size) = some cs.size) : (loadVar ty ⟨b, 0, none⟩).run Try.prog w = .ok (.agg cs) w := by
  have := run_loadVar_mid (P := Try.prog) w b 0 ty cs.toList d hB.range hu hd (by rw [Array.length_toList]; exact hi)
  simpa using this

theorem own_facts {w : World} {base g : Nat} {zs : List Int} {n c : Nat} (h : w.ownsRow base 5 1 (.slice (some ⟨g, 0, none⟩) n c) n (cels zs)) (i : Nat) (hi : i < n) :
    w.cell? ⟨g, i, none⟩ = some (.int .u8 (zs.getD i 0)) := by
  have hl : zs.length = n := by have := h.1; simpa using this
  rw [h.cellAt i (by omega)]
  unfold cels
  rw [List.getElem?_map, List.getElem?_eq_getElem (by omega), List.getD_eq_getElem?_getD, List.getElem?_eq_getElem (by omega)]
  rfl

theorem own_set {w : World} {base g : Nat} {zs : List Int} {n c : Nat} (h : w.ownsRow base 5 1 (.slice (some ⟨g, 0, none⟩) n c) n (cels zs)) (i : Nat) (x : Int) :
    (w.setCell ⟨g, i, none⟩ (.int .u8 x)).ownsRow base 5 1 (.slice (some ⟨g, 0, none⟩) n c) n (cels (zs.set i x)) := by
  have := (h.stored i (.int .u8 x)).1
  unfold cels at *
  rw [List.map_set]
  exact this

theorem made_u8 (n : Nat) : (madeCells (Value.int .u8 0).cells (n * 1)).toList = cels (List.replicate n 0) := by
  simp [madeCells, Value.cells, cels]
  refine List.ext_getElem (by simp) (fun i h1 h2 => ?_)
  simp [Nat.mod_one]

theorem own_rd {w : World} {b n c g : Nat} {zs : List Int} (h : w.ownsRow b 5 1 (.slice (some ⟨g, 0, none⟩) n c) n (cels zs)) : RdAt w (.slice (some ⟨g, 0, none⟩) n c) zs := by
  obtain ⟨h0, h1⟩ := h
  have hz : zs.length = n := by simpa using h0
  refine Row.rd (show w.ownsRow 0 5 1 _ zs.length _ from ⟨by simp, ?_⟩)
  rw [hz]
  rcases h1 with h1 | ⟨g, cap, cur, e, _, rest⟩
  · exact .inl h1
  · exact .inr ⟨g, cap, cur, e, Nat.zero_le _, rest⟩

theorem own_base {w : World} {b b' n : Nat} {v : Value} {zs : List Value} (h : w.ownsRow b 5 1 v n zs) (hb : b' ≤ b) : w.ownsRow b' 5 1 v n zs := by
  refine ⟨h.1, ?_⟩
  rcases h.2 with h1 | ⟨g, cap, cur, e, hg, rest⟩
  · exact .inl h1
  · exact .inr ⟨g, cap, cur, e, Nat.le_trans hb hg, rest⟩

theorem own_of_block {w w' : World} {b n : Nat} {v : Value} {zs : List Value} (h : w.ownsRow b 5 1 v n zs) (hb : ∀ g, v.ownBlock = some g → w'.heap[g]? = w.heap[g]?) : w'.ownsRow b 5 1 v n zs := by
  refine ⟨h.1, ?_⟩
  rcases h.2 with hn | ⟨g, cap, cur, rfl, h0, hgg, rest⟩
  · exact .inl hn
  · exact .inr ⟨g, cap, cur, rfl, h0, (hb g rfl).trans hgg, rest⟩

theorem own_shape {w : World} {base n : Nat} {v : Value} {xs : List Value} (h : w.ownsRow base 5 1 v n xs) (h0 : 0 < n) : ∃ g cap, v = .slice (some ⟨g, 0, none⟩) n cap ∧ base ≤ g ∧ g < w.heap.size := by
  rcases id h.2 with ⟨_, h'⟩ | ⟨g, cap, cur, h', hb, _⟩
  · omega
  · exact ⟨g, cap, h', hb, (World.ownsRow.lt h g (by rw [h']; rfl)).2⟩

theorem own_re {w : World} {b b' n g k c : Nat} {xs : List Value} (h : w.ownsRow b 5 1 (.slice (some ⟨g, 0, none⟩) k c) n xs) (hb : b' ≤ g) : w.ownsRow b' 5 1 (.slice (some ⟨g, 0, none⟩) k c) n xs := by
  refine ⟨h.1, ?_⟩
  rcases h.2 with ⟨h1, _⟩ | ⟨g', cap, cur, e, _, rest⟩
  · cases h1
  · have : g' = g := by simp at e; exact e.1.symm
    subst this
    exact .inr ⟨g', cap, cur, e, hb, rest⟩

theorem wpList_append_new {w : World} {ops : Array Oper} {rest : List Oper} {o : Oper} {a : Act} {Q : Exit → Act → World → Prop} (hgd : o.guard = none) (d s : Operand)
    (ho : o.op = .call { callee := .builtin .append, args := #[d, s], argTypes := #[37, 37] })
    (base : Nat) (v sv : Value) (zs ds : List Int) (m n : Nat) (hd : a.eval d = v) (hs : a.eval s = sv) (hown : w.ownsRow base 5 1 v m (cels zs)) (hrd : RdAt w sv ds) (hpos : 0 < ds.length) (hm : zs.length = m) (hn : m + ds.length = n) (hlen : n ≤ 140737488355328) (hb : base ≤ w.heap.size)
    (h : ∀ g cap w', Kpt (w'.ownsRow base 5 1 (.slice (some ⟨g, 0, none⟩) n cap) n (cels (zs ++ ds))) → Kpt (base ≤ g ∧ g < w'.heap.size) → Kpt (w.grownBy w' v.ownBlock) →
      wpList Try.prog ops Q rest (a.put o.dst (.slice (some ⟨g, 0, none⟩) n cap)) w') : wpList Try.prog ops Q (o :: rest) a w := by
  subst hm hn
  obtain ⟨i0, hi0, hz0, hz1, hz2⟩ := info_parts Try.info5
  obtain ⟨sa, sc, rfl, hsn, hsl, hsr⟩ := hrd
  rcases hsr with h1 | ⟨b, soff, rfl, hc⟩
  · omega
  refine wpList_append_own _ hgd d s 37 ho base 5 i0 (.int .u8 0) 1 1 Try.underlying37 hi0 hz0 hz1 hz2 rfl (by decide) v zs.length (cels zs) hd hown ⟨b, soff, none⟩ ds.length sc (cels ds) hs (by simp) (fun j u hu => by rw [Go.WideShapes.add_plain]; exact hc j u hu) (cels_one _) (by unfold maxLen; omega) (by omega) hb ?_
  intro v1 w1 hown1 hg1 _
  obtain ⟨g, cap, rfl, hg, hlt⟩ := own_shape hown1 (by omega)
  exact h g cap w1 ⟨by rw [cels_append]; exact hown1⟩ ⟨hg, hlt⟩ ⟨hg1⟩

structure Sn where
  key : Int
  code : Int
  info : Int
  hi : Bool
  field : Int
  bit : Int
  hf : Bool
  ic : Bool

def Sn.vals (s : Sn) : Array Value := #[.int .u8 s.key, .int .u16 s.code, .int .u64 s.info, .bool s.hi, .int .i64 s.field, .int .i64 s.bit, .bool s.hf, .bool s.ic]


theorem own_alloc (W : World) (b n base : Nat) (zs : List Int) (hb : b = W.heap.size) (hn : n = zs.length) (hm : n ≤ 1000) (hbase : base ≤ b) :
    (W.alloc (.cells (cels zs).toArray 5)).ownsRow base 5 1 (.slice (some ⟨b, 0, none⟩) n n) n (cels zs) := by
  subst hb hn
  refine ⟨by simp, .inr ⟨W.heap.size, zs.length, (cels zs).toArray, rfl, hbase, (MapKept.heap_alloc W _).1, Nat.le_refl _, by unfold maxLen; omega, by simp, List.take_of_length_le (by simp)⟩⟩

/-- A row that is new. -/
def New (w w' : World) (v : Value) (zs : List Int) : Prop := w'.ownsRow w.heap.size 5 1 v zs.length (cels zs) ∧ Below w.heap.size w w'

theorem conv_at (w : World) (a : Option Addr) (len cap : Nat) (Z : List Int) (hz : Z.length = len) (hp : len = 0 ∨ ∃ b off, a = some ⟨b, off, none⟩ ∧ ∀ j, j < len → w.cell? ⟨b, off + j, none⟩ = some (.int .u8 (Z.getD j 0))) :
    (convert 37 9 (.slice a len cap)).run Try.prog w = .ok (.string (strOfNums Z)) w := by
  by_cases h0 : len = 0
  · subst h0
    have hz0 : Z = [] := List.eq_nil_of_length_eq_zero hz
    subst hz0
    cases a with
    | none => exact run_convert_bytes_nil w 37 5 Try.underlying37 Try.underlying5 0 cap 9 Try.underlying9
    | some x =>
      rw [run_convert_bytes_string w 37 9 5 _ 0 cap Try.underlying37 Try.underlying5 Try.underlying9, run_bytesToString w x 0 cap [] ?_]
      · rfl
      · exact run_loadCells_list (P := Try.prog) w x [] (fun j v hj => by simp at hj)
  · rcases hp with h | ⟨b, off, rfl, hc⟩
    · exact absurd h h0
    · exact run_convert_bytes_arg w 37 5 Try.underlying37 Try.underlying5 b off len cap Z hz hc 9 Try.underlying9


theorem conv_rd {w : World} {v : Value} {zs : List Int} (h : RdAt w v zs) : (convert 37 9 v).run Try.prog w = .ok (.string (strOfNums zs)) w := by
  obtain ⟨a, c, rfl, ha, hlc, h⟩ := h
  refine conv_at w a zs.length c zs rfl ?_
  rcases h with h | ⟨b, off, rfl, hc⟩
  · exact .inl h
  · refine .inr ⟨b, off, rfl, fun j hj => ?_⟩
    refine hc j _ ?_
    rw [cels, List.getElem?_map, List.getElem?_eq_getElem hj, List.getD_eq_getElem?_getD, List.getElem?_eq_getElem hj]
    rfl

/-- Three values. -/
structure Vs where
  a : Bool
  b : Bool
  c : Bool
def Vs.vals (v : Vs) : Array Value := #[.bool v.a, .bool v.b, .bool v.c]
def b2 (b : Bool) (n : Int) : Int := if b then n else 0
/-- The pages' bytes. -/
def cachL (v : Vs) : List Int := [8, 18, b2 v.a 4, 0, 0, 0, 0, 0, 0, 0, 0, 0, 0, 0, 0, 0, 0, 0, 0, 0]
def ctlL (v : Vs) : List Int := [10, 10, b2 v.b 4, 0, b2 v.c 8, 0, 0, 0, 0, 0, 0, 0]

/-- Pages in a block. -/
structure Pg (w : World) (B : Nat) (n s : Vs) : Prop where
  lt : B < w.heap.size
  c0 : w.cell? ⟨B, 0, none⟩ = some (.bool n.a)
  c1 : w.cell? ⟨B, 1, none⟩ = some (.bool n.b)
  c2 : w.cell? ⟨B, 2, none⟩ = some (.bool n.c)
  c3 : w.cell? ⟨B, 3, none⟩ = some (.bool s.a)
  c4 : w.cell? ⟨B, 4, none⟩ = some (.bool s.b)
  c5 : w.cell? ⟨B, 5, none⟩ = some (.bool s.c)
  free : ∀ j, w.frozen? ⟨B, j, none⟩ = false
theorem Pg.of_block {w w' : World} {B : Nat} {n s : Vs} (h : Pg w B n s) (hs : B < w'.heap.size) (hb : w'.heap[B]? = w.heap[B]?) : Pg w' B n s :=
  have c : ∀ j, w'.cell? ⟨B, j, none⟩ = w.cell? ⟨B, j, none⟩ := fun j => World.cell?_of_block (w := w) (w' := w') (a := ⟨B, j, none⟩) hb
  ⟨hs, (c 0).trans h.c0, (c 1).trans h.c1, (c 2).trans h.c2, (c 3).trans h.c3, (c 4).trans h.c4, (c 5).trans h.c5, fun j => (World.frozen?_of_block (w := w) (w' := w') (a := ⟨B, j, none⟩) hb).trans (h.free j)⟩
theorem Pg.below {w w' : World} {B m : Nat} {n s : Vs} (h : Pg w B n s) (hb : Below m w w') (hn : B < m) : Pg w' B n s := h.of_block (Nat.lt_of_lt_of_le h.lt hb.size) (hb.block B hn)
theorem Pg.below' {w w' : World} {B : Nat} {n s : Vs} (h : Pg w B n s) (hb : Below w.heap.size w w') : Pg w' B n s := h.below hb h.lt
theorem Pg.grown {w w' : World} {B : Nat} {row : Option Nat} {n s : Vs} (h : Pg w B n s) (hg : w.grownBy w' row) (hn : row ≠ some B) : Pg w' B n s :=
  h.of_block (Nat.lt_of_lt_of_le h.lt hg.size) (hg.block B h.lt (fun e => hn e.symm))
end Go.Proofs.Ytdojhgapdocngaa
