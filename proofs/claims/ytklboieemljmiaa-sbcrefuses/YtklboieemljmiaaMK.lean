/-
  Structs in blocks of their own; copy into a row of one's own, in a region that draws; blocks. The contract of pack. The contracts of empty and unpack. The contract of unpack, of a whole block. The contracts of place, Within, has, settle, Open, Sync of a store. The contract of Write of a store. Memory beside a world. The contract of Read of a store. What a block's place holds behind writes: lists alone. The contract of Unmap of a store; what a block's place holds then.
-/
import Derived.Test.YtklboieemljmiaaMW
import Derived.Test.YtklboieemljmiaaMB
import Derived.Deep.MidRow
import Derived.Deep.DeepMust
namespace Go.Proofs.Ytklboieemljmiaa
open Go.RowKit
set_option linter.unusedVariables false
set_option linter.unusedSimpArgs false

/-- A block that holds these cells, and may be written. -/
structure Bx (w : World) (b : Nat) (cs : Array Value) : Prop where
  lt : b < w.heap.size
  cells : ∀ j, j < cs.size → w.cell? ⟨b, j, none⟩ = cs[j]?
  free : ∀ j, w.frozen? ⟨b, j, none⟩ = false

theorem Bx.of_block {w w' : World} {b : Nat} {cs : Array Value} (h : Bx w b cs) (hlt : b < w'.heap.size) (hb : w'.heap[b]? = w.heap[b]?) : Bx w' b cs :=
  ⟨hlt, fun j hj => (World.cell?_of_block (w := w) (a := ⟨b, j, none⟩) hb).trans (h.cells j hj), fun j => (World.frozen?_of_block (w := w) (a := ⟨b, j, none⟩) hb).trans (h.free j)⟩
theorem Bx.below {w w' : World} {b n : Nat} {cs : Array Value} (h : Bx w b cs) (hb : Below n w w') (hn : b < n) : Bx w' b cs :=
  h.of_block (Nat.lt_of_lt_of_le h.lt hb.size) (hb.block b hn)
theorem Bx.alloc {w : World} {b : Nat} {cs : Array Value} (h : Bx w b cs) (o : Obj) : Bx (w.alloc o) b cs :=
  h.of_block (by have := h.lt; simp; omega) (Below.heap_alloc w o b h.lt)
theorem Bx.grown {w w' : World} {b : Nat} {row : Option Nat} {cs : Array Value} (h : Bx w b cs) (hg : w.grownBy w' row) (hn : row ≠ some b) : Bx w' b cs :=
  h.of_block (Nat.lt_of_lt_of_le h.lt hg.size) (hg.block b h.lt (fun e => hn e.symm))
theorem Bx.drew {w : World} {b : Nat} {cs : Array Value} (h : Bx w b cs) : Bx w.drew b cs := ⟨h.lt, h.cells, h.free⟩
theorem bx_new (w : World) (cs : Array Value) (t : TypeId) : Bx (w.alloc (.cells cs t)) w.heap.size cs := ⟨by simp, fun j hj => by simp, fun j => by simp⟩

theorem Bx.range {w : World} {b : Nat} {cs : Array Value} (h : Bx w b cs) : w.rangeAt b 0 cs.toList := fun j v hv => by
  have hj : j < cs.size := by have := (List.getElem?_eq_some_iff.1 hv).1; simpa using this
  rw [Nat.zero_add, h.cells j hj, ← hv, Array.getElem?_toList]
theorem Bx.there {w : World} {b : Nat} {cs : Array Value} (h : Bx w b cs) : w.there b 0 cs.size := fun j hj => by
  rw [Nat.zero_add, h.cells j hj, Array.getElem?_eq_getElem hj]
  exact ⟨rfl, h.free j⟩

theorem grown_setCellK (w : World) (a : Addr) (u : Value) : w.grownBy (w.setCell a u) (some a.block) :=
  ⟨rfl, rfl, rfl, by simp, fun j _ hk => Below.heap_setCell w a u j (fun e => hk (by rw [e]))⟩
theorem grown_setCells (b : Nat) : ∀ (vs : List Value) (o : Nat) (w : World), w.grownBy (w.setCells b o vs) (some b)
  | [], _, w => ⟨rfl, rfl, rfl, Nat.le_refl _, fun _ _ _ => rfl⟩
  | v :: r, o, w => by
    have h1 := grown_setCellK w ⟨b, o, none⟩ v
    have h2 := grown_setCells b r (o + 1) (w.setCell ⟨b, o, none⟩ v)
    exact ⟨h2.os.trans h1.os, h2.tape.trans h1.tape, h2.output.trans h1.output, Nat.le_trans h1.size h2.size, fun j hj hk => (h2.block j (Nat.lt_of_lt_of_le hj h1.size) hk).trans (h1.block j hj hk)⟩

theorem bx_set {w : World} {b : Nat} {cs ds : Array Value} (h : Bx w b cs) (hl : ds.size = cs.size) : Bx (w.setCells b 0 ds.toList) b ds := by
  have hg := grown_setCells b ds.toList 0 w
  refine ⟨Nat.lt_of_lt_of_le h.lt hg.size, fun j hj => ?_, fun j => ?_⟩
  · have := World.rangeAt_setCells_same w b 0 ds.toList (by have := h.there; rw [← hl] at this; simpa using this) j ds[j] (by simp [hj])
    rw [Nat.zero_add] at this
    rw [this, Array.getElem?_eq_getElem hj]
  · rw [World.frozen?_setCells]; exact h.free j

/-- A whole struct is stored. -/
theorem wp_store_bx {w : World} {o : Oper} {a : Act} {K : Act → World → Prop} {Q : Exit → Act → World → Prop} (ty : TypeId) (x y : Operand)
    (ho : o.op = .store ty x y) (b : Nat) (cs ds : Array Value) (hx : a.eval x = .pointer (some ⟨b, 0, none⟩)) (hy : a.eval y = .agg ds) (hB : Bx w b cs) (hl : ds.size = cs.size)
    (hi : (Try.prog.info? ty).map (·.size) = some ds.size) (h1 : ds.all (·.oneCell') = true)
    (h : ∀ w', Bx w' b ds → w.grownBy w' (some b) → K (a.put o.dst undef) w') : o.wp Try.prog a w K Q :=
  wp_store_mid ty x y ho b 0 ds hx hy (by rw [hl]; exact hB.there) hi h1 (h _ (bx_set hB hl) (grown_setCells b ds.toList 0 w))
theorem wpList_store_bx {w : World} {ops : Array Oper} {rest : List Oper} {o : Oper} {a : Act} {Q : Exit → Act → World → Prop} (hgd : o.guard = none) (ty : TypeId) (x y : Operand)
    (ho : o.op = .store ty x y) (b : Nat) (cs ds : Array Value) (hx : a.eval x = .pointer (some ⟨b, 0, none⟩)) (hy : a.eval y = .agg ds) (hB : Bx w b cs) (hl : ds.size = cs.size)
    (hi : (Try.prog.info? ty).map (·.size) = some ds.size) (h1 : ds.all (·.oneCell') = true) (hdst : o.dst = none)
    (h : ∀ w', Bx w' b ds → w.grownBy w' (some b) → wpList Try.prog ops Q rest a w') : wpList Try.prog ops Q (o :: rest) a w :=
  wpList_plain hgd fun K hK => wp_store_bx ty x y ho b cs ds hx hy hB hl hi h1 (fun w' h1 h2 => hK _ _ (by rw [hdst]; exact h w' h1 h2))

/-- A whole struct is loaded. -/
theorem wpList_load_bx {w : World} {ops : Array Oper} {rest : List Oper} {o : Oper} {a : Act} {Q : Exit → Act → World → Prop} (hgd : o.guard = none) (ty : TypeId) (x : Operand)
    (ho : o.op = .load ty x) (b : Nat) (cs : Array Value) (hx : a.eval x = .pointer (some ⟨b, 0, none⟩)) (hB : Bx w b cs) (d : TypeDesc)
    (hu : Try.prog.underlying ty = some d) (hd : d.isRow = true) (hi : (Try.prog.info? ty).map (·.size) = some cs.size)
    (h : wpList Try.prog ops Q rest (a.put o.dst (.agg cs)) w) : wpList Try.prog ops Q (o :: rest) a w :=
  wpList_load_mid hgd ty x ho b 0 hx cs.toList d hB.range hu hd (by rw [Array.length_toList]; exact hi) (by simpa using h)

theorem run_res {w : World} {b : Nat} {cs : Array Value} (hB : Bx w b cs) (ty : TypeId) (d : TypeDesc)
    (hu : Try.prog.underlying ty = some d) (hd : d.isRow = true) (hi : (Try.prog.info? ty).map (·.size) = some cs.size) : (loadVar ty ⟨b, 0, none⟩).run Try.prog w = .ok (.agg cs) w := by
  have := run_loadVar_mid (P := Try.prog) w b 0 ty cs.toList d hB.range hu hd (by rw [Array.length_toList]; exact hi)
  simpa using this

theorem wp_copy_at {w : World} {o : Oper} {a : Act} {K : Act → World → Prop} {Q : Exit → Act → World → Prop} (d s : Operand)
    (ho : o.op = .call { callee := .builtin .copy, args := #[d, s], argTypes := #[22, 22] })
    (base g off n dLen dCap : Nat) (zs ds : List Int) (sv : Value) (hd : a.eval d = .slice (some ⟨g, off, none⟩) dLen dCap) (hs : a.eval s = sv)
    (hown : w.ownsRow base 5 1 (.slice (some ⟨g, 0, none⟩) n n) n (cels zs)) (hrd : RdAt w sv ds) (hdl : ds.length ≤ dLen) (hfit : off + ds.length ≤ n) (hpos : 0 < ds.length)
    (h : ∀ w', w'.ownsRow base 5 1 (.slice (some ⟨g, 0, none⟩) n n) n (cels (over zs off ds)) → w.grownBy w' (some g) → K (a.put o.dst (goInt ds.length)) w') : o.wp Try.prog a w K Q := by
  obtain ⟨sa, sc, rfl, hsn, hsl, hsr⟩ := hrd
  rcases hsr with h1 | ⟨b, soff, rfl, hc⟩
  · omega
  have hz : zs.length = n := by have := hown.1; simpa using this
  rcases hown.2 with ⟨hx, _⟩ | ⟨g', cap', cur, hx, hbg, hg, hnc, hcm, hcs, htake⟩
  · cases hx
  simp only [Value.slice.injEq, Option.some.injEq, Addr.mk.injEq, and_true, true_and] at hx
  obtain ⟨rfl, rfl⟩ := hx
  have hrun := run_copy_row (P := Try.prog) w 22 22 o.type 5 g off dLen dCap ⟨b, soff, none⟩ ds.length sc cur 5 (cels ds) Try.underlying22 B.Try.size5 hg
    (by simp only [cels_length]; exact (Nat.min_eq_left hdl).symm) (fun j u hu => by rw [Go.WideShapes.add_plain]; exact hc j u hu) (by simp; omega) (cels_one _)
  unfold Oper.wp
  simp [execOp, ho, resolve, invoke, builtin, hd, hs, hrun, Result.andThen]
  rw [cels_length] at *
  refine h _ ⟨?_, .inr ⟨g, n, _, rfl, hbg, setRow_heap w g cur _ 5 _ hg, Nat.le_refl _, hcm, ?_, ?_⟩⟩ ⟨rfl, rfl, rfl, by simp, fun j _ hk => setRow_other w g j _ (fun e => hk (by rw [e]))⟩
  · simp [over_length zs ds off (by omega), hz]
  · simp; omega
  · simp only [Nat.mul_one] at htake ⊢
    obtain ⟨R, hl⟩ : ∃ R, cur.toList = cels zs ++ R := ⟨cur.toList.drop n, by rw [← htake, List.take_append_drop]⟩
    have e1 : (cels zs ++ R).take off = (cels zs).take off := List.take_append_of_le_length (by simp; omega)
    have e2 : (cels zs ++ R).drop (off + ds.length) = (cels zs).drop (off + ds.length) ++ R := List.drop_append_of_le_length (by simp; omega)
    rw [hl, e1, e2]
    simp only [← List.append_assoc]
    rw [List.take_append_of_le_length (by simp; omega), List.take_of_length_le (by simp; omega)]
    simp [over, cels, List.map_take, List.map_drop]

theorem own_rd {w : World} {b n c g : Nat} {zs : List Int} (h : w.ownsRow b 5 1 (.slice (some ⟨g, 0, none⟩) n c) n (cels zs)) : RdAt w (.slice (some ⟨g, 0, none⟩) n c) zs := by
  obtain ⟨h0, h1⟩ := h
  have hz : zs.length = n := by simpa using h0
  refine Row.rd (show w.ownsRow 0 5 1 _ zs.length _ from ⟨by simp, ?_⟩)
  rw [hz]
  rcases h1 with h1 | ⟨g, cap, cur, e, _, rest⟩
  · exact .inl h1
  · exact .inr ⟨g, cap, cur, e, Nat.zero_le _, rest⟩

/-- A block. -/
structure Bk where
  d : List Int
  g : Int
  a : Int
  r : Int
structure Bk.ok (b : Bk) : Prop where
  len : b.d.length = 16
  byte : ∀ x ∈ b.d, 0 ≤ x ∧ x ≤ 255
  g : 0 ≤ b.g ∧ b.g ≤ 65535
  a : 0 ≤ b.a ∧ b.a ≤ 65535
  r : 0 ≤ b.r ∧ b.r ≤ 4294967295
def Bk.cs (b : Bk) : List Value := cels b.d ++ [.int .u16 b.g, .int .u16 b.a, .int .u32 b.r]
def Bk.vals (b : Bk) : Array Value := b.cs.toArray
theorem Bk.size {b : Bk} (h : b.ok) : b.vals.size = 19 := by simp [Bk.vals, Bk.cs, h.len]
theorem Bk.one (b : Bk) : b.vals.all (·.oneCell') = true := by
  rw [Array.all_eq_true]
  intro i hi
  have hm : b.vals[i] ∈ b.cs := by simp [Bk.vals]
  unfold Bk.cs at hm
  rw [List.mem_append] at hm
  rcases hm with hm | hm
  · exact cels_one _ _ hm
  · simp at hm
    rcases hm with h | h | h <;> rw [h] <;> rfl
/-- Its bytes in the file. -/
def pkB (b : Bk) : List Int := B.asc (B.asc (B.asc (over ((List.replicate 25 0).set 0 1) 1 b.d) 17 2 b.g 2) 19 2 b.a 2) 21 4 b.r 4
theorem asc_len (Z : List Int) (i n : Nat) (v : Int) : ∀ k, (B.asc Z i n v k).length = Z.length
  | 0 => rfl
  | k + 1 => by unfold B.asc; rw [List.length_set, asc_len Z i n v k]
theorem over_len (b : Bk) (h : b.ok) : (over ((List.replicate 25 (0 : Int)).set 0 1) 1 b.d).length = 25 := by simp [over, h.len]
theorem pk_len (b : Bk) (h : b.ok) : (pkB b).length = 25 := by unfold pkB; rw [asc_len, asc_len, asc_len, over_len b h]
theorem infoB : (Try.prog.info? 76).map (·.size) = some 19 := by kernel_rfl
end Go.Proofs.Ytklboieemljmiaa

namespace Go.Proofs.Ytklboieemljmiaa
open Go.RowKit
set_option linter.unusedVariables false
set_option linter.unusedSimpArgs false

theorem own_facts {w : World} {base g : Nat} {zs : List Int} {n c : Nat} (h : w.ownsRow base 5 1 (.slice (some ⟨g, 0, none⟩) n c) n (cels zs)) (i : Nat) (hi : i < n) :
    w.cell? ⟨g, i, none⟩ = some (.int .u8 (zs.getD i 0)) := by
  have hl : zs.length = n := by have := h.1; simpa using this
  rw [h.cellAt i (by omega)]
  unfold cels
  rw [List.getElem?_map, List.getElem?_eq_getElem (by omega), List.getD_eq_getElem?_getD, List.getElem?_eq_getElem (by omega)]
  rfl

theorem own_set {w : World} {base g : Nat} {zs : List Int} {n c : Nat} (h : w.ownsRow base 5 1 (.slice (some ⟨g, 0, none⟩) n c) n (cels zs)) (i : Nat) (x : Int) :
    (w.setCell ⟨g, i, none⟩ (.int .u8 x)).ownsRow base 5 1 (.slice (some ⟨g, 0, none⟩) n c) n (cels (zs.set i x)) := by
  have := (h.stored i (.int .u8 x)).1
  unfold cels at *
  rw [List.map_set]
  exact this

theorem box_keep {w w1 : World} {cs : Array Value} {t : TypeId} {row : Option Nat} (hg : (w.alloc (.cells cs t)).grownBy w1 row) (hr : row ≠ some w.heap.size) (i : Nat) : w1.cell? ⟨w.heap.size, i, none⟩ = cs[i]? := by
  have hb : w1.heap[w.heap.size]? = (w.alloc (.cells cs t)).heap[w.heap.size]? := hg.block w.heap.size (by simp) (fun e => hr e.symm)
  rw [World.cell?_of_block (w := w.alloc (.cells cs t)) (a := ⟨w.heap.size, i, none⟩) hb]
  simp

/-- make behind the box of a struct. -/
theorem wpList_make_box (w : World) {cs : Array Value} {t0 : TypeId} {ops : Array Oper} {rest : List Oper} {o : Oper} {a : Act} {Q : Exit → Act → World → Prop}
    (hg : o.guard = none) (l c : Operand) (hop : o.op = Op.makeSlice 22 l c) (n : Nat) (hl : a.eval l = .int .i64 n) (hc : a.eval c = .int .i64 n) (hn : n ≤ 1000)
    (hK : ∀ w1, Kpt (∀ i, w1.cell? ⟨w.heap.size, i, none⟩ = cs[i]?) → Kpt (w1.ownsRow w.heap.size 5 1 (.slice (some ⟨w.heap.size + 1, 0, none⟩) n n) n (cels (List.replicate n 0))) → Kpt (Below w.heap.size w w1) →
      wpList Try.prog ops Q rest (a.put o.dst (.slice (some ⟨w.heap.size + 1, 0, none⟩) n n)) w1) :
    wpList Try.prog ops Q (o :: rest) a (w.alloc (.cells cs t0)) := by
  obtain ⟨i0, hi0, hz0, hz1, hz2⟩ := info_parts Try.info5
  have hsz : (w.alloc (.cells cs t0)).heap.size = w.heap.size + 1 := by simp
  refine wpList_make_full _ hg l c 22 hop w.heap.size 5 i0 (.int .u8 0) 1 Try.underlying22 hi0 hz0 hz1 .i64 .i64 n n n hl hc rfl rfl (by rw [hz2]; omega) (by unfold maxLen; omega) (by omega) ?_
  intro w1 hown hgr
  rw [hsz] at hown ⊢
  rw [made_u8] at hown
  refine hK w1 ⟨box_keep hgr (by simp)⟩ ⟨hown⟩ ⟨?_⟩
  exact ((Below.refl _ _).alloc (Nat.le_refl _) _).grown hgr (by omega) (fun k h => by cases h)


theorem wanted_free {o : Oper} (h : o.guard = none) (y : Nat → Option Bool) : Region.wanted o y = true := by unfold Region.wanted; rw [h]
theorem wanted_at (b : Bool) {o oj : Oper} {ops : Array Oper} {tmps : Array Value} {j d : Nat} (hg : o.guard = some (j, b)) (hj : ops[j]? = some oj) (hd : oj.dst = some d) (ht : tmps[d]? = some (.bool b)) : Region.wanted o (yielded ops tmps) = true := by
  unfold Region.wanted yielded
  rw [hg]
  simp [hj, hd, ht]
theorem below_drewN {B : Nat} {a w : World} (h : Below B a w) (n : Nat) : Below B a (w.drewN n) := ⟨h.os, h.tape, h.output, h.size, h.block⟩

/-- Put into a row of one's own. -/
theorem put_row (base g i n : Nat) (zs : List Int) (x : Int) (w : World) (hz : zs.length = 25) (ho : w.ownsRow base 5 1 (.slice (some ⟨g, 0, none⟩) 25 25) 25 (cels zs)) (hn1 : 1 ≤ n) (hn2 : n ≤ 8) (hi : i + n ≤ 25) (hx : 0 ≤ x) (hx2 : x < 2 ^ (8 * n)) :
    Calls Try.prog 56 #[.slice (some ⟨g, 0, none⟩) 25 25, .int .i64 i, .int .i64 n, .int .u64 x] w fun e w' => ∃ g', e = .returned (.tuple #[.slice (some ⟨g', 0, none⟩) 25 25, .int .i64 0]) ∧
      w'.ownsRow w.heap.size 5 1 (.slice (some ⟨g', 0, none⟩) 25 25) 25 (cels (B.asc zs i n x n)) ∧ Below w.heap.size w w' := by
  have := B.put_ok g 0 25 25 i n x zs w hz (by decide) hn1 hn2 hi hx (by simp; rw [Int.ediv_eq_zero_of_lt hx hx2]) (fun j hj => by rw [Nat.zero_add]; exact own_facts ho j hj)
  exact this

theorem cs_data (b : Bk) (h : b.ok) (j : Nat) (hj : j < 16) : b.vals[j]? = (cels b.d)[j]? := by
  unfold Bk.vals Bk.cs
  rw [List.getElem?_toArray, List.getElem?_append_left (by simp [h.len]; exact hj)]
theorem cs_tup (b : Bk) (h : b.ok) : b.vals[16]? = some (.int .u16 b.g) ∧ b.vals[17]? = some (.int .u16 b.a) ∧ b.vals[18]? = some (.int .u32 b.r) := by
  have hl : (cels b.d).length = 16 := by simp [h.len]
  refine ⟨?_, ?_, ?_⟩ <;> (unfold Bk.vals Bk.cs; rw [List.getElem?_toArray, List.getElem?_append_right (by omega), hl]; rfl)

set_option maxRecDepth 100000 in
set_option maxHeartbeats 1000000 in
theorem pack_any (b : Bk) (h : b.ok) (w : World) :
    Calls Try.prog 88 #[.agg b.vals] w fun e w' => ∃ g, e = .returned (.slice (some ⟨g, 0, none⟩) 25 25) ∧ w'.ownsRow w.heap.size 5 1 (.slice (some ⟨g, 0, none⟩) 25 25) 25 (cels (pkB b)) ∧ Below w.heap.size w w' := by
  have hdat := Kpt.mk (cs_data b h)
  obtain ⟨t0, t1, t2⟩ := cs_tup b h
  obtain ⟨V, hV⟩ : ∃ V, V = b.vals := ⟨_, rfl⟩
  rw [← hV] at hdat t0 t1 t2 ⊢
  have hlen := Kpt.mk (over_len b h)
  have hd16 := Kpt.mk h.len
  have hg := h.g
  have ha := h.a
  have hr := h.r
  clear h hV
  go_enter Try.func88, Try.ntmps88
  go_wp2_with (at_make; refine wpList_make_box w rfl _ _ rfl 25 rfl rfl (by decide) ?_; intro w1 hbox hown hbel; have p0 := own_facts hown.out 0 (by decide); have f0 := hown.out.frozenAt 0; simp at p0)
  obtain ⟨w2, hw2⟩ : ∃ w2, w2 = w1.setCell ⟨w.heap.size + 1, 0, none⟩ (.int .u8 1) := ⟨_, rfl⟩
  have ho2 : Kpt (w2.ownsRow w.heap.size 5 1 (.slice (some ⟨w.heap.size + 1, 0, none⟩) 25 25) 25 (cels ((List.replicate 25 0).set 0 1))) := ⟨by rw [hw2]; exact own_set hown.out 0 1⟩
  have hblk : w2.heap[w.heap.size]? = w1.heap[w.heap.size]? := by rw [hw2]; exact Below.heap_setCell _ _ _ _ (fun e => by simp at e)
  have hbx2 : Kpt (∀ i, w2.cell? ⟨w.heap.size, i, none⟩ = V[i]?) := ⟨fun i => (World.cell?_of_block (w := w1) (a := ⟨w.heap.size, i, none⟩) hblk).trans (hbox.out i)⟩
  have hbe2 : Kpt (Below w.heap.size w w2) := ⟨by rw [hw2]; exact hbel.out.setCell (p := ⟨w.heap.size + 1, 0, none⟩) (by simp) _⟩
  rw [← hw2]
  clear hw2 hblk p0 f0 hown hbox hbel
  refine wp_region_any (by kernel_rfl) ?_
  refine wpAny_of_C (C := fun _ => True) _ _ _ _ ?_
  refine wpAnyC_take 0 (.slice (some ⟨w.heap.size + 1, 0, none⟩) 25 25) rfl (by kernel_rfl) (by kernel_rfl) (by kernel_rfl) (fun _ _ _ h => h) (wanted_free rfl _) (fun W hW => by go_simp) ?_
  simp only [Act.put, List.getElem_toArray, List.getElem_cons_succ, List.getElem_cons_zero, List.setIfInBounds_toArray, List.set_cons_succ, List.set_cons_zero]
  refine wpAnyC_take 1 (.slice (some ⟨w.heap.size + 1, 1, none⟩) 24 24) rfl (by kernel_rfl) (by kernel_rfl) (by kernel_rfl) (fun _ _ _ h => h) (wanted_free rfl _) (fun W hW => by go_simp) ?_
  simp only [Act.put, List.getElem_toArray, List.getElem_cons_succ, List.getElem_cons_zero, List.setIfInBounds_toArray, List.set_cons_succ, List.set_cons_zero]
  refine wpAnyC_take 2 (.pointer (some ⟨w.heap.size, 0, none⟩)) rfl (by kernel_rfl) (by kernel_rfl) (by kernel_rfl) (fun _ _ _ h => h) (wanted_free rfl _) (fun W hW => by go_simp) ?_
  simp only [Act.put, List.getElem_toArray, List.getElem_cons_succ, List.getElem_cons_zero, List.setIfInBounds_toArray, List.set_cons_succ, List.set_cons_zero]
  refine wpAnyC_take 3 (.slice (some ⟨w.heap.size, 0, none⟩) 16 16) rfl (by kernel_rfl) (by kernel_rfl) (by kernel_rfl) (fun _ _ _ h => h) (wanted_free rfl _) (fun W hW => by go_simp) ?_
  simp only [Act.put, List.getElem_toArray, List.getElem_cons_succ, List.getElem_cons_zero, List.setIfInBounds_toArray, List.set_cons_succ, List.set_cons_zero]
  refine wpAnyC_one 4 trivial rfl (by kernel_rfl) (wanted_free rfl _) (fun KA hKA => ?_)
  have hrd : RdAt (w2.drewN 1) (.slice (some ⟨w.heap.size, 0, none⟩) 16 16) b.d := ⟨some ⟨w.heap.size, 0, none⟩, 16, (by rw [hd16.out]), (fun e => by cases e), (by rw [hd16.out]; exact Nat.le_refl _), .inr ⟨_, 0, rfl, fun j u hu => by
    have hj : j < 16 := by have := (List.getElem?_eq_some_iff.1 hu).1; rw [cels_length, hd16.out] at this; exact this
    rw [Nat.zero_add, ← hu, ← hdat.out j hj]
    exact hbx2.out j⟩⟩
  refine wp_copy_at (.tmp 8) (.tmp 10) rfl w.heap.size (w.heap.size + 1) 1 25 24 24 ((List.replicate 25 0).set 0 1) b.d _ rfl rfl ho2.out hrd (by rw [hd16.out]; decide) (by rw [hd16.out]; decide) (by rw [hd16.out]; decide) ?_
  intro w3 ho3 hg3
  refine hKA _ _ ?_
  simp only [Act.put, List.getElem_toArray, List.getElem_cons_succ, List.getElem_cons_zero, List.setIfInBounds_toArray, List.set_cons_succ, List.set_cons_zero]
  clear hKA KA
  refine wpAnyC_done trivial (by kernel_rfl) ?_
  have hbe3 : Kpt (Below w.heap.size w w3) := ⟨(below_drewN hbe2.out 1).grown hg3 hbe2.out.size (fun k hk => by cases hk; simp)⟩
  have hlt2 : w.heap.size < w2.heap.size := by have := (World.ownsRow.lt ho2.out (w.heap.size + 1) rfl).2; omega
  have hbx3 : Kpt (∀ i, w3.cell? ⟨w.heap.size, i, none⟩ = V[i]?) := ⟨fun i => (World.cell?_of_block (w := w2.drewN 1) (a := ⟨w.heap.size, i, none⟩) (hg3.block w.heap.size hlt2 (fun e => by simp at e))).trans (hbx2.out i)⟩
  have hlt3 : w.heap.size < w3.heap.size := Nat.lt_of_lt_of_le hlt2 hg3.size
  obtain ⟨Z3, hZ3⟩ : ∃ Z, Z = over ((List.replicate 25 (0 : Int)).set 0 1) 1 b.d := ⟨_, rfl⟩
  rw [← hZ3] at ho3 hlen
  have H1 := Kpt.mk (put_row w.heap.size (w.heap.size + 1) 17 2 Z3 b.g w3 hlen.out ho3 (by decide) (by decide) (by decide) hg.1 (by simp; omega))
  have q16 := (hbx3.out 16).trans t0
  clear ho2 hbx2 hbe2 hrd hg3 ho3
  go_wp2_with fail
  refine H1.out.mono ?_
  rintro e w4 ⟨g4, rfl, ho4, hb4⟩
  have hbe4 : Kpt (Below w.heap.size w w4) := ⟨hbe3.out.trans (hb4.mono hbe3.out.size)⟩
  have hlt4 : w.heap.size < w4.heap.size := Nat.lt_of_lt_of_le hlt3 hb4.size
  have hbx4 : Kpt (∀ i, w4.cell? ⟨w.heap.size, i, none⟩ = V[i]?) := ⟨fun i => (hb4.cell (p := ⟨w.heap.size, i, none⟩) hlt3).trans (hbx3.out i)⟩
  have H2 := Kpt.mk (put_row _ g4 19 2 (B.asc Z3 17 2 b.g 2) b.a w4 (by rw [asc_len]; exact hlen.out) ho4 (by decide) (by decide) (by decide) ha.1 (by simp; omega))
  have q17 := (hbx4.out 17).trans t1
  clear H1 hbe3 hbx3 q16 ho4 hb4
  go_wp2_with fail
  refine H2.out.mono ?_
  rintro e w5 ⟨g5, rfl, ho5, hb5⟩
  have hbe5 : Kpt (Below w.heap.size w w5) := ⟨hbe4.out.trans (hb5.mono hbe4.out.size)⟩
  have hlt5 : w.heap.size < w5.heap.size := Nat.lt_of_lt_of_le hlt4 hb5.size
  have hbx5 : Kpt (∀ i, w5.cell? ⟨w.heap.size, i, none⟩ = V[i]?) := ⟨fun i => (hb5.cell (p := ⟨w.heap.size, i, none⟩) hlt4).trans (hbx4.out i)⟩
  have H3 := Kpt.mk (put_row _ g5 21 4 (B.asc (B.asc Z3 17 2 b.g 2) 19 2 b.a 2) b.r w5 (by rw [asc_len, asc_len]; exact hlen.out) ho5 (by decide) (by decide) (by decide) hr.1 (by simp; omega))
  have q18 := (hbx5.out 18).trans t2
  clear H2 hbe4 hbx4 q17 ho5 hb5
  go_wp2_with fail
  refine H3.out.mono ?_
  rintro e w6 ⟨g6, rfl, ho6, hb6⟩
  have hbe6 : Kpt (Below w.heap.size w w6) := ⟨hbe5.out.trans (hb6.mono hbe5.out.size)⟩
  have ho : Kpt (w6.ownsRow w.heap.size 5 1 (.slice (some ⟨g6, 0, none⟩) 25 25) 25 (cels (pkB b))) := ⟨by
    unfold pkB
    rw [← hZ3]
    refine ⟨ho6.1, ?_⟩
    rcases ho6.2 with h | ⟨g', cap, cur, h0, h1, h2⟩
    · exact .inl h
    · exact .inr ⟨g', cap, cur, h0, Nat.le_trans hbe5.out.size h1, h2⟩⟩
  clear H3 hbe5 hbx5 q18 ho6 hb6
  go_wp2
  go_ret
  exact ⟨g6, rfl, ho.out, hbe6.out⟩
end Go.Proofs.Ytklboieemljmiaa

namespace Go.Proofs.Ytklboieemljmiaa
open Go.RowKit
set_option linter.unusedVariables false
set_option linter.unusedSimpArgs false

def emptyB : Bk := ⟨List.replicate 16 0, 65535, 65535, 4294967295⟩
def zeroB : Array Value := #[.int .u8 0, .int .u8 0, .int .u8 0, .int .u8 0, .int .u8 0, .int .u8 0, .int .u8 0, .int .u8 0, .int .u8 0, .int .u8 0, .int .u8 0, .int .u8 0, .int .u8 0, .int .u8 0, .int .u8 0, .int .u8 0, .int .u16 0, .int .u16 0, .int .u32 0]
theorem empty_ok : emptyB.ok := ⟨rfl, fun x hx => by simp [emptyB] at hx; omega, by decide, by decide, by decide⟩

set_option maxRecDepth 100000 in
set_option maxHeartbeats 1000000 in
theorem kempty_any (w : World) : Calls Try.prog 70 #[] w fun e w' => e = .returned (.agg emptyB.vals) ∧ Below w.heap.size w w' := by
  have hB0 := bx_new w zeroB 76
  have hv : emptyB.vals = #[.int .u8 0, .int .u8 0, .int .u8 0, .int .u8 0, .int .u8 0, .int .u8 0, .int .u8 0, .int .u8 0, .int .u8 0, .int .u8 0, .int .u8 0, .int .u8 0, .int .u8 0, .int .u8 0, .int .u8 0, .int .u8 0, .int .u16 65535, .int .u16 65535, .int .u32 4294967295] := rfl
  unfold zeroB at hB0
  replace hB0 := Kpt.mk hB0
  replace hv := Kpt.mk hv
  go_enter Try.func70, Try.ntmps70
  go_wp2_with (refine wpList_store_bx rfl 76 (.tmp 0) (.tmp 2) rfl w.heap.size _ emptyB.vals rfl (by rw [hv.out]; rfl) hB0.out rfl infoB emptyB.one rfl ?_; intro w2 hB2 hg2; have hb2 : Kpt (Below w.heap.size w w2) := ⟨((Below.refl _ _).alloc (Nat.le_refl _) _).grown hg2 (by simp) (fun k hk => by cases hk; exact Nat.le_refl _)⟩; replace hB2 := Kpt.mk hB2; clear hg2)
  refine bodyPost_ret (v := .agg emptyB.vals) (by simp [results, Try.results70, asAddr, run_res hB2.out 76 _ Try.underlying76 rfl infoB]) rfl ⟨rfl, hb2.out⟩

/-- The block of bytes that are told. -/
def upB (zs : List Int) : Bk := if zs.length < 25 ∨ zs.getD 0 0 ≠ 1 then emptyB else ⟨(zs.drop 1).take 16, B.num zs 17 2, B.num zs 19 2, B.num zs 21 4⟩

set_option maxRecDepth 100000 in
set_option maxHeartbeats 1000000 in
theorem unpack_empty (a : Option Addr) (n c : Nat) (x0 : Int) (w : World) (h : n < 25 ∨ (25 ≤ n ∧ ¬ x0 = 1 ∧ ∃ b off, a = some ⟨b, off, none⟩ ∧ b < w.heap.size ∧ w.cell? ⟨b, off, none⟩ = some (.int .u8 x0))) :
    Calls Try.prog 54 #[.slice a n c] w fun e w' => e = .returned (.agg emptyB.vals) ∧ Below w.heap.size w w' := by
  have hB0 := bx_new w zeroB 76
  unfold zeroB at hB0
  replace hB0 := Kpt.mk hB0
  have HE := fun W => Kpt.mk (kempty_any W)
  obtain ⟨V, hV⟩ : ∃ V, V = emptyB.vals := ⟨_, rfl⟩
  have hone := emptyB.one
  have hsz := Bk.size empty_ok
  rw [← hV] at HE hone hsz ⊢
  clear hV
  replace hone := Kpt.mk hone
  replace hsz := Kpt.mk hsz
  rcases h with h | ⟨h25, hx, b, off, rfl, hbl, hc⟩
  · have e1 : (n : Int) < 25 := by omega
    go_enter Try.func54, Try.ntmps54
    go_wp2_with (first
      | (go_at_call 70; refine (HE _).out.mono ?_; rintro e w1 ⟨rfl, hb1⟩; have hB1 : Kpt (Bx w1 w.heap.size _) := ⟨hB0.out.below hb1 (by simp)⟩; have hbe1 : Kpt (Below w.heap.size w w1) := ⟨((Below.refl _ _).alloc (Nat.le_refl _) _).trans (hb1.mono (by simp))⟩; clear hb1)
      | (refine wpList_store_bx rfl 76 (.tmp 2) (.tmp 19) rfl w.heap.size _ V rfl rfl hB1.out (by rw [hsz.out]; rfl) (by rw [hsz.out]; exact infoB) hone.out rfl ?_; intro w2 hB2 hg2; have hb2 : Kpt (Below w.heap.size w w2) := ⟨hbe1.out.grown hg2 hbe1.out.size (fun k hk => by cases hk; exact Nat.le_refl _)⟩; replace hB2 := Kpt.mk hB2; clear hg2))
    refine bodyPost_ret (v := .agg V) (by simp [results, Try.results54, asAddr, run_res hB2.out 76 _ Try.underlying76 rfl (by rw [hsz.out]; exact infoB)]) rfl ⟨rfl, hb2.out⟩
  · have e1 : ¬ (n : Int) < 25 := by omega
    have e0 : (0 : Int) < n := by omega
    have hx' : (x0 != 1) = true := by simp [hx]
    go_enter Try.func54, Try.ntmps54
    go_wp2_with (first
      | (go_at_call 70; refine (HE _).out.mono ?_; rintro e w1 ⟨rfl, hb1⟩; have hB1 : Kpt (Bx w1 w.heap.size _) := ⟨hB0.out.below hb1 (by simp)⟩; have hbe1 : Kpt (Below w.heap.size w w1) := ⟨((Below.refl _ _).alloc (Nat.le_refl _) _).trans (hb1.mono (by simp))⟩; clear hb1)
      | (refine wpList_store_bx rfl 76 (.tmp 2) (.tmp 19) rfl w.heap.size _ V rfl rfl hB1.out (by rw [hsz.out]; rfl) (by rw [hsz.out]; exact infoB) hone.out rfl ?_; intro w2 hB2 hg2; have hb2 : Kpt (Below w.heap.size w w2) := ⟨hbe1.out.grown hg2 hbe1.out.size (fun k hk => by cases hk; exact Nat.le_refl _)⟩; replace hB2 := Kpt.mk hB2; clear hg2))
    refine bodyPost_ret (v := .agg V) (by simp [results, Try.results54, asAddr, run_res hB2.out 76 _ Try.underlying76 rfl (by rw [hsz.out]; exact infoB)]) rfl ⟨rfl, hb2.out⟩
end Go.Proofs.Ytklboieemljmiaa

namespace Go.Proofs.Ytklboieemljmiaa
open Go.RowKit
set_option linter.unusedVariables false
set_option linter.unusedSimpArgs false

theorem heap_last (W : World) (o : Obj) : (W.alloc o).heap[W.heap.size]? = some o := by unfold World.alloc; simp
theorem bx_of_heap {w : World} {g : Nat} {cs : Array Value} {t : TypeId} (h : w.heap[g]? = some (.cells cs t (0, 0))) : Bx w g cs := by
  refine ⟨(Array.getElem?_eq_some_iff.1 h).1, fun j hj => ?_, fun j => ?_⟩
  · simp [World.cell?, h]
  · simp [World.frozen?, h]

/-- copy into the first 16 cells of a block. -/
theorem wp_copy_blk {w : World} {o : Oper} {a : Act} {K : Act → World → Prop} {Q : Exit → Act → World → Prop} (d s : Operand)
    (ho : o.op = .call { callee := .builtin .copy, args := #[d, s], argTypes := #[22, 22] })
    (g : Nat) (cur : Array Value) (t : TypeId) (b off sLen sCap : Nat) (ds : List Int) (hd : a.eval d = .slice (some ⟨g, 0, none⟩) 16 16) (hs : a.eval s = .slice (some ⟨b, off, none⟩) sLen sCap)
    (hg : w.heap[g]? = some (.cells cur t (0, 0))) (hds : ds.length = 16) (hsl : 16 ≤ sLen) (hsrc : ∀ j u, (cels ds)[j]? = some u → w.cell? ⟨b, off + j, none⟩ = some u) (hcur : 16 ≤ cur.size)
    (h : ∀ w', w'.heap[g]? = some (.cells (cels ds ++ cur.toList.drop 16).toArray t (0, 0)) → w.grownBy w' (some g) → K (a.put o.dst (goInt 16)) w') : o.wp Try.prog a w K Q := by
  have hl : (cels ds).length = 16 := by simp [hds]
  have hrun := run_copy_row (P := Try.prog) w 22 22 o.type 5 g 0 16 16 ⟨b, off, none⟩ sLen sCap cur t (cels ds) Try.underlying22 B.Try.size5 hg
    (by rw [hl]; exact (Nat.min_eq_right hsl).symm) (fun j u hu => by rw [Go.WideShapes.add_plain]; exact hsrc j u hu) (by omega) (cels_one _)
  rw [hl] at hrun
  unfold Oper.wp
  simp [execOp, ho, resolve, invoke, builtin, hd, hs, hrun, Result.andThen]
  refine h _ ?_ ⟨rfl, rfl, rfl, by simp, fun j _ hk => setRow_other w g j _ (fun e => hk (by rw [e]))⟩
  have := setRow_heap w g cur ((cels ds ++ cur.toList.drop 16).toArray) t (0, 0) hg
  simpa using this

theorem bx_tup {w : World} {b : Nat} {ds : List Int} {x y z x' y' z' : Value} (h : Bx w b (cels ds ++ [x, y, z]).toArray) (hd : ds.length = 16) : Bx (w.setCells b 16 [x', y', z']) b (cels ds ++ [x', y', z']).toArray := by
  have hl : (cels ds).length = 16 := by simp [hd]
  have hg := grown_setCells b [x', y', z'] 16 w
  refine ⟨Nat.lt_of_lt_of_le h.lt hg.size, fun j hj => ?_, fun j => ?_⟩
  · have hj19 : j < 19 := by simpa [hl] using hj
    by_cases h16 : j < 16
    · rw [World.cell?_setCells_out b [x', y', z'] 16 w ⟨b, j, none⟩ (fun _ _ => .inl h16), h.cells j (by simp [hl]; omega), List.getElem?_toArray, List.getElem?_toArray, List.getElem?_append_left (by omega), List.getElem?_append_left (by omega)]
    · have hin := World.cell?_setCells_in b [x', y', z'] 16 w (fun i hi => by
        have hi3 : i < 3 := by simpa using hi
        rw [h.cells (16 + i) (by simp [hl]; omega), List.getElem?_toArray, List.getElem?_append_right (by omega), hl, List.getElem?_eq_getElem (by simp; omega)]
        rfl) (j - 16) (by simp; omega)
      rw [show 16 + (j - 16) = j from by omega] at hin
      rw [hin, List.getElem?_toArray, List.getElem?_append_right (by omega), hl, List.getElem?_eq_getElem (by simp; omega)]
  · rw [World.frozen?_setCells]; exact h.free j

theorem infoT : (Try.prog.info? 74).map (·.size) = some 3 := by kernel_rfl

set_option maxRecDepth 100000 in
set_option maxHeartbeats 2000000 in
theorem unpack_full (b off c : Nat) (zs : List Int) (w : World) (hz : zs.length = 25) (hcc : 25 ≤ c) (hb : B.Bytes zs) (hblt : b < w.heap.size) (hc : ∀ j, j < 25 → w.cell? ⟨b, off + j, none⟩ = some (.int .u8 (zs.getD j 0))) (h0 : zs.getD 0 0 = 1) :
    Calls Try.prog 54 #[.slice (some ⟨b, off, none⟩) 25 c] w fun e w' => e = .returned (.agg (⟨(zs.drop 1).take 16, B.num zs 17 2, B.num zs 19 2, B.num zs 21 4⟩ : Bk).vals) ∧ Below w.heap.size w w' := by
  have p0 := hc 0 (by decide)
  rw [h0, Nat.add_zero] at p0
  have HG : ∀ i n : Nat, 1 ≤ n → n ≤ 8 → i + n ≤ 25 → ∀ W, Below w.heap.size w W → Calls Try.prog 71 #[.slice (some ⟨b, off, none⟩) 25 c, .int .i64 i, .int .i64 n] W fun e w' => e = .returned (.tuple #[.int .u64 (B.num zs i n), .int .i64 0]) ∧ w' = W :=
    fun i n h1 h2 h3 W hW => B.get_ok b off 25 c i n zs W (by decide) h1 h2 h3 hb (fun j hj => (hW.cell (p := ⟨b, off + j, none⟩) hblt).trans (hc j hj))
  have G1 : Kpt (∀ W, Below w.heap.size w W → Calls Try.prog 71 #[.slice (some ⟨b, off, none⟩) 25 c, .int .i64 17, .int .i64 2] W fun e w' => e = .returned (.tuple #[.int .u64 (B.num zs 17 2), .int .i64 0]) ∧ w' = W) := ⟨HG 17 2 (by decide) (by decide) (by decide)⟩
  have G2 : Kpt (∀ W, Below w.heap.size w W → Calls Try.prog 71 #[.slice (some ⟨b, off, none⟩) 25 c, .int .i64 19, .int .i64 2] W fun e w' => e = .returned (.tuple #[.int .u64 (B.num zs 19 2), .int .i64 0]) ∧ w' = W) := ⟨HG 19 2 (by decide) (by decide) (by decide)⟩
  have G3 : Kpt (∀ W, Below w.heap.size w W → Calls Try.prog 71 #[.slice (some ⟨b, off, none⟩) 25 c, .int .i64 21, .int .i64 4] W fun e w' => e = .returned (.tuple #[.int .u64 (B.num zs 21 4), .int .i64 0]) ∧ w' = W) := ⟨HG 21 4 (by decide) (by decide) (by decide)⟩
  have b1 := B.num_bd zs 17 hb 2
  have b2 := B.num_bd zs 19 hb 2
  have b3 := B.num_bd zs 21 hb 4
  simp at b1 b2 b3
  obtain ⟨n1, e1⟩ : ∃ n, n = B.num zs 17 2 := ⟨_, rfl⟩
  obtain ⟨n2, e2⟩ : ∃ n, n = B.num zs 19 2 := ⟨_, rfl⟩
  obtain ⟨n3, e3⟩ : ∃ n, n = B.num zs 21 4 := ⟨_, rfl⟩
  obtain ⟨ds, eds⟩ : ∃ ds, ds = (zs.drop 1).take 16 := ⟨_, rfl⟩
  have hds : Kpt (ds.length = 16) := ⟨by rw [eds, List.length_take, List.length_drop, hz]; rfl⟩
  have hsrc : Kpt (∀ W, Below w.heap.size w W → ∀ j u, (cels ds)[j]? = some u → W.cell? ⟨b, off + 1 + j, none⟩ = some u) := ⟨fun W hW j u hu => by
    have hj : j < 16 := by have := (List.getElem?_eq_some_iff.1 hu).1; rw [cels_length, hds.out] at this; exact this
    rw [hW.cell (p := ⟨b, off + 1 + j, none⟩) hblt, show off + 1 + j = off + (1 + j) from by omega, hc (1 + j) (by omega), ← hu, eds]
    unfold cels
    rw [List.getElem?_map, List.getElem?_take, if_pos hj, List.getElem?_drop, List.getD_eq_getElem?_getD, List.getElem?_eq_getElem (by omega)]
    rfl⟩
  rw [← e1] at G1 b1
  rw [← e2] at G2 b2
  rw [← e3] at G3 b3
  rw [← e1, ← e2, ← e3, ← eds]
  clear HG hc h0 hz hb e1 e2 e3 eds
  obtain ⟨V, hV⟩ : ∃ V : Array Value, V = (cels ds ++ [Value.int .u16 n1, Value.int .u16 n2, Value.int .u32 n3]).toArray := ⟨_, rfl⟩
  have hVs : Kpt (V.size = 19) := ⟨by rw [hV]; simp [hds.out]⟩
  have hV1 : Kpt (V.all (·.oneCell') = true) := ⟨by rw [hV]; exact Bk.one ⟨ds, n1, n2, n3⟩⟩
  rw [show (⟨ds, n1, n2, n3⟩ : Bk).vals = V from by rw [hV]; rfl]
  replace hV := Kpt.mk hV
  have hc1 : ¬ c = 1 := by omega
  have hB0 := bx_new w zeroB 76
  unfold zeroB at hB0
  replace hB0 := Kpt.mk hB0
  go_enter Try.func54, Try.ntmps54
  go_wp2_with fail
  obtain ⟨w1, hw1⟩ : ∃ w1, w1 = (w.alloc (.cells zeroB 76)).alloc (.cells zeroB 76) := ⟨_, rfl⟩
  have hw1' := hw1
  unfold zeroB at hw1
  rw [← hw1]
  have hbe1 : Kpt (Below w.heap.size w w1) := ⟨by rw [hw1]; exact ((Below.refl _ _).alloc (Nat.le_refl _) _).alloc (by simp) _⟩
  have hR1 : Kpt (Bx w1 w.heap.size zeroB) := ⟨by rw [hw1]; exact hB0.out.alloc _⟩
  have hh1 : Kpt (w1.heap[w.heap.size + 1]? = some (.cells zeroB 76 (0, 0))) := ⟨by rw [hw1']; have := heap_last (w.alloc (.cells zeroB 76)) (.cells zeroB 76); rw [World.size_alloc] at this; exact this⟩
  clear hw1 hB0 hw1'
  refine wp_region_any (by kernel_rfl) ?_
  refine wpAny_of_C (C := fun _ => True) _ _ _ _ ?_
  refine wpAnyC_take 0 (.pointer (some ⟨w.heap.size + 1, 0, none⟩)) rfl (by kernel_rfl) (by kernel_rfl) (by kernel_rfl) (fun _ _ _ h => h) (wanted_free rfl _) (fun W hW => by go_simp) ?_
  simp only [Act.put, List.getElem_toArray, List.getElem_cons_succ, List.getElem_cons_zero, List.setIfInBounds_toArray, List.set_cons_succ, List.set_cons_zero]
  refine wpAnyC_take 1 (.slice (some ⟨w.heap.size + 1, 0, none⟩) 16 16) rfl (by kernel_rfl) (by kernel_rfl) (by kernel_rfl) (fun _ _ _ h => h) (wanted_free rfl _) (fun W hW => by go_simp) ?_
  simp only [Act.put, List.getElem_toArray, List.getElem_cons_succ, List.getElem_cons_zero, List.setIfInBounds_toArray, List.set_cons_succ, List.set_cons_zero]
  refine wpAnyC_take 2 (.slice (some ⟨b, off, none⟩) 25 c) rfl (by kernel_rfl) (by kernel_rfl) (by kernel_rfl) (fun _ _ _ h => h) (wanted_free rfl _) (fun W hW => by go_simp) ?_
  simp only [Act.put, List.getElem_toArray, List.getElem_cons_succ, List.getElem_cons_zero, List.setIfInBounds_toArray, List.set_cons_succ, List.set_cons_zero]
  refine wpAnyC_take 3 (.slice (some ⟨b, off + 1, none⟩) 24 (c - 1)) rfl (by kernel_rfl) (by kernel_rfl) (by kernel_rfl) (fun _ _ _ h => h) (wanted_free rfl _) (fun W hW => by go_simp) ?_
  simp only [Act.put, List.getElem_toArray, List.getElem_cons_succ, List.getElem_cons_zero, List.setIfInBounds_toArray, List.set_cons_succ, List.set_cons_zero]
  refine wpAnyC_one 4 trivial rfl (by kernel_rfl) (wanted_free rfl _) (fun KA hKA => ?_)
  refine wp_copy_blk (.tmp 21) (.tmp 23) rfl (w.heap.size + 1) zeroB 76 b (off + 1) 24 (c - 1) ds rfl rfl hh1.out hds.out (by decide) (hsrc.out _ (below_drewN hbe1.out 1)) (by decide) ?_
  intro w2 hh2 hg2
  refine hKA _ _ ?_
  simp only [Act.put, List.getElem_toArray, List.getElem_cons_succ, List.getElem_cons_zero, List.setIfInBounds_toArray, List.set_cons_succ, List.set_cons_zero]
  clear hKA KA
  refine wpAnyC_done trivial (by kernel_rfl) ?_
  have hS2 := bx_of_heap hh2
  rw [show zeroB.toList.drop 16 = [.int .u16 0, .int .u16 0, .int .u32 0] from rfl] at hS2
  have hbe2 : Kpt (Below w.heap.size w w2) := ⟨(below_drewN hbe1.out 1).grown hg2 hbe1.out.size (fun k hk => by cases hk; simp)⟩
  have hR2 : Kpt (Bx w2 w.heap.size zeroB) := ⟨(show Bx (w1.drewN 1) w.heap.size zeroB from ⟨hR1.out.lt, hR1.out.cells, hR1.out.free⟩).grown hg2 (fun e => by simp at e)⟩
  have hthere : w2.there (w.heap.size + 1) 16 3 := fun j hj => by
    have := hS2.there (16 + j) (by simp [hds.out]; omega)
    simpa using this
  have hS3 := Kpt.mk (bx_tup (x' := .int .u16 n1) (y' := .int .u16 n2) (z' := .int .u32 n3) hS2 hds.out)
  rw [← hV.out] at hS3
  replace hthere := Kpt.mk hthere
  replace hS2 := Kpt.mk hS2
  have hlt2 : w.heap.size + 1 < w2.heap.size := hS2.out.lt
  clear hh1 hh2 hg2 hR1 hbe1 hS2
  go_wp2_with (first
    | (go_at_call 71; have hm := m2; refine (G3.out _ hbe2.out).mono ?_; rintro e wN ⟨rfl, hw⟩; subst hw; clear hm)
    | (go_at_call 71; have hm := m1; refine (G2.out _ hbe2.out).mono ?_; rintro e wN ⟨rfl, hw⟩; subst hw; clear hm; have m2 : Kpt True := ⟨trivial⟩)
    | (go_at_call 71; refine (G1.out _ hbe2.out).mono ?_; rintro e wN ⟨rfl, hw⟩; subst hw; have m1 : Kpt True := ⟨trivial⟩)
    | (refine wpList_store_bx rfl 76 (.tmp 2) (.tmp 48) rfl w.heap.size zeroB V rfl rfl hR3.out (by rw [hVs.out]; rfl) (by rw [hVs.out]; exact infoB) hV1.out rfl ?_; intro w4 hR4 hg4; have hbe4 : Kpt (Below w.heap.size w w4) := ⟨hbe3.out.grown hg4 hbe3.out.size (fun k hk => by cases hk; exact Nat.le_refl _)⟩; replace hR4 := Kpt.mk hR4; clear hg4)
    | (refine wpList_load_bx rfl 76 (.tmp 3) rfl (w.heap.size + 1) V rfl hS4.out _ Try.underlying76 rfl (by rw [hVs.out]; exact infoB) ?_)
    | (refine (?_ : wpList Try.prog _ _ (Oper.mk none (Op.store 74 (.tmp 47) (.tmp 46)) _ _ _ _ :: _) _ _); go_must (refine wpList_store_mid rfl 74 (.tmp 47) (.tmp 46) rfl (w.heap.size + 1) 16 #[.int .u16 n1, .int .u16 n2, .int .u32 n3] rfl rfl hthere.out infoT (by simp [Value.oneCell']) ?_; (obtain ⟨w3, hw3⟩ : ∃ w3, w3 = wN.setCells (w.heap.size + 1) 16 [.int .u16 n1, .int .u16 n2, .int .u32 n3] := ⟨_, rfl⟩; have hg3 := grown_setCells (w.heap.size + 1) [.int .u16 n1, .int .u16 n2, .int .u32 n3] 16 wN; rw [← hw3] at hg3; have hS4 : Kpt (Bx w3 (w.heap.size + 1) V) := ⟨by rw [hw3]; exact hS3.out⟩; have hR3 : Kpt (Bx w3 w.heap.size zeroB) := ⟨hR2.out.grown hg3 (fun e => by simp at e)⟩; have hbe3 : Kpt (Below w.heap.size w w3) := ⟨hbe2.out.grown hg3 hbe2.out.size (fun k hk => by cases hk; simp)⟩; rw [show wN.setCells (w.heap.size + 1) 16 (#[Value.int .u16 n1, .int .u16 n2, .int .u32 n3] : Array Value).toList = w3 from hw3.symm]; clear hw3 hg3)))
    | fail)
  refine bodyPost_ret (v := .agg V) (by simp [results, Try.results54, asAddr, Act.put, run_res hR4.out 76 _ Try.underlying76 rfl (by rw [hVs.out]; exact infoB)]) rfl ⟨rfl, hbe4.out⟩
end Go.Proofs.Ytklboieemljmiaa

namespace Go.Proofs.Ytklboieemljmiaa
open Go.RowKit
set_option linter.unusedVariables false
set_option linter.unusedSimpArgs false

theorem retb {a b : Bool} (h : a = b) : Ending.returned (.bool a) = .returned (.bool b) := by rw [h]
theorem place_any (k : Nat) (w : World) (h : k ≤ 1000000) : Calls Try.prog 53 #[.int .i64 k] w fun e w' => e = .returned (.int .i64 ((k * 25 : Nat) : Int)) ∧ w' = w := by
  go_enter Try.func53, Try.ntmps53
  go_wp2
  go_ret
  exact ⟨by simp, rfl⟩

theorem within_any (a b c : Int) (w : World) (ha : 0 ≤ a ∧ a < 9223372036854775808) (hb : 0 ≤ b ∧ b < 9223372036854775808) (hc : 0 ≤ c ∧ c < 9223372036854775808) :
    Calls Try.prog 50 #[.int .u64 a, .int .u64 b, .int .u64 c] w fun e w' => e = .returned (.bool (decide (a + b ≤ c))) ∧ w' = w := by
  by_cases h : b ≤ c
  · go_enter Try.func50, Try.ntmps50
    go_wp2
    go_ret
    first
      | exact ⟨retb (decide_eq_decide.2 (by omega)), rfl⟩
      | exact ⟨retb (by rw [show IntKind.u64.wrap (c - b) = c - b from by rw [IntKind.wrap_u64]; omega]; exact decide_eq_decide.2 (by omega)), rfl⟩
  · go_enter Try.func50, Try.ntmps50
    go_wp2
    go_ret
    exact ⟨retb (by first | exact (decide_eq_false (by omega)).symm | simp; omega), rfl⟩

/-- A store. -/
structure Sto (w : World) (tag : Tags) (S B : Nat) (f : ByteArray) (N : Nat) (ca : Bool) : Prop where
  lt : S < w.heap.size
  bare : tag S = none
  c0 : w.cell? ⟨S, 0, none⟩ = some (.pointer (some ⟨B, 0, none⟩))
  c1 : w.cell? ⟨S, 1, none⟩ = some (.string f)
  c2 : w.cell? ⟨S, 2, none⟩ = some (.int .i64 (N : Int))
  c3 : w.cell? ⟨S, 3, none⟩ = some (.bool ca)
  free : ∀ j, w.frozen? ⟨S, j, none⟩ = false
theorem Sto.of_block {w w' : World} {tag tag' : Tags} {S B N : Nat} {f : ByteArray} {ca : Bool} (h : Sto w tag S B f N ca) (hlt : S < w'.heap.size) (ht : tag' S = none) (hb : w'.heap[S]? = w.heap[S]?) : Sto w' tag' S B f N ca :=
  ⟨hlt, ht, (World.cell?_of_block (w := w) (a := ⟨S, 0, none⟩) hb).trans h.c0, (World.cell?_of_block (w := w) (a := ⟨S, 1, none⟩) hb).trans h.c1, (World.cell?_of_block (w := w) (a := ⟨S, 2, none⟩) hb).trans h.c2, (World.cell?_of_block (w := w) (a := ⟨S, 3, none⟩) hb).trans h.c3, fun j => (World.frozen?_of_block (w := w) (a := ⟨S, j, none⟩) hb).trans (h.free j)⟩
theorem Sto.step {w w' : World} {tag tag' : Tags} {S B N : Nat} {f : ByteArray} {ca : Bool} {X : Tag → Prop} (h : Sto w tag S B f N ca) (s : Step w w' tag tag' X) : Sto w' tag' S B f N ca :=
  h.of_block (Nat.lt_of_lt_of_le h.lt s.size) (s.bare S h.lt h.bare) (s.block S h.lt (fun t _ e => by rw [h.bare] at e; cases e))
theorem Sto.below {w w' : World} {tag : Tags} {S B N : Nat} {f : ByteArray} {ca : Bool} (h : Sto w tag S B f N ca) (s : Below w.heap.size w w') : Sto w' tag S B f N ca :=
  h.of_block (Nat.lt_of_lt_of_le h.lt s.size) h.bare (s.block S h.lt)
/-- New memory alone is a step. -/
theorem step_below {w w' : World} (h : Below w.heap.size w w') (tag : Tags) (X : Tag → Prop) : Step w w' tag tag X :=
  Step.grown ⟨h.os, h.tape, h.output, h.size, fun i hi _ => h.block i hi⟩ tag X

set_option maxHeartbeats 1000000 in
theorem has_any (w : World) (tag : Tags) (S B N : Nat) (f : ByteArray) (ca : Bool) (lba n : Int) (h : Sto w tag S B f N ca) (hN : N ≤ 4096) (hl : -9223372036854775808 ≤ lba ∧ lba < 9223372036854775808) (hn : -9223372036854775808 ≤ n ∧ n < 9223372036854775808) :
    Calls Try.prog 51 #[.pointer (some ⟨S, 0, none⟩), .int .i64 lba, .int .i64 n] w fun e w' => e = .returned (.bool (decide (0 ≤ lba ∧ 0 ≤ n ∧ lba + n ≤ N))) ∧ w' = w := by
  have c2 := h.c2
  have hlt := h.lt
  clear h
  by_cases h1 : 0 ≤ lba
  · by_cases h2 : 0 ≤ n
    · have HW := Kpt.mk (within_any lba n N w ⟨h1, hl.2⟩ ⟨h2, hn.2⟩ (by omega))
      have e1 : IntKind.u64.wrap lba = lba := by rw [IntKind.wrap_u64]; omega
      have e2 : IntKind.u64.wrap n = n := by rw [IntKind.wrap_u64]; omega
      have e3 : IntKind.u64.wrap (N : Int) = N := by rw [IntKind.wrap_u64]; omega
      go_enter Try.func51, Try.ntmps51
      go_wp2_with (go_at_call 50; refine HW.out.mono ?_; rintro e w' ⟨rfl, rfl⟩)
      go_ret
      exact ⟨retb (decide_eq_decide.2 (by omega)), rfl⟩
    · go_enter Try.func51, Try.ntmps51
      go_wp2
      go_ret
      exact ⟨retb (by first | exact (decide_eq_false (by omega)).symm | simp; omega), rfl⟩
  · go_enter Try.func51, Try.ntmps51
    go_wp2
    go_ret
    exact ⟨retb (by first | exact (decide_eq_false (by omega)).symm | simp; omega), rfl⟩

/-- What is made durable behind a write of n blocks. -/
def settled (ca fua : Bool) (n : Nat) : Bool := decide (n = 0) || ca && !fua
def syncSt (st : St) : St := { st with dur := runs st.waits st.dur, waits := [], ops := st.ops + 1, cnt := st.cnt + 1 + st.waits.length }

set_option maxHeartbeats 1000000 in
theorem settle_any (w : World) (B : Nat) (tag : Tags) (st : St) (S N n : Nat) (f : ByteArray) (ca fua : Bool) (h : Wd w B tag st) (hs : Sto w tag S B f N ca) (hc : st.cnt + st.waits.length < 549755813888) (hf : st.fails st.ops = false) (hw : Wrs st.waits) (hn : n ≤ 4096) :
    Calls Try.prog 89 #[.pointer (some ⟨S, 0, none⟩), .int .i64 n, .bool fua] w fun e w' => e = .returned (.int .i64 0) ∧ ∃ tag', Wd w' B tag' (if settled ca fua n then st else syncSt st) ∧ Step w w' tag tag' (fun _ => True) := by
  have HS := Kpt.mk (sync_any w B tag st h hc hf hw)
  have hK := Kpt.mk h
  have c0 := hs.c0
  have c3 := hs.c3
  have hlt := hs.lt
  clear h hs hw hc hf
  by_cases h0 : n = 0
  · subst h0
    rw [show settled ca fua 0 = true from by simp [settled]]
    go_enter Try.func89, Try.ntmps89
    go_wp2
    go_ret
    exact ⟨rfl, tag, hK.out, Step.refl _ _ _⟩
  · have e0 : ¬ (n : Int) = 0 := by omega
    have e0' : ((n : Int) == 0) = false := by simp; exact h0
    by_cases hq : ca = true ∧ fua = false
    · obtain ⟨rfl, rfl⟩ := hq
      rw [show settled true false n = true from by simp [settled]]
      go_enter Try.func89, Try.ntmps89
      go_wp2
      go_ret
      exact ⟨rfl, tag, hK.out, Step.refl _ _ _⟩
    · have hset : settled ca fua n = false := by cases ca <;> cases fua <;> simp_all [settled]
      rw [hset]
      clear hset
      cases ca <;> cases fua
      · go_enter Try.func89, Try.ntmps89
        go_wp2_with (go_at_call 81; refine HS.out.mono ?_; rintro e w' ⟨rfl, hP⟩; replace hP := Kpt.mk hP)
        go_ret
        exact ⟨rfl, hP.out⟩
      · go_enter Try.func89, Try.ntmps89
        go_wp2_with (go_at_call 81; refine HS.out.mono ?_; rintro e w' ⟨rfl, hP⟩; replace hP := Kpt.mk hP)
        go_ret
        exact ⟨rfl, hP.out⟩
      · exact absurd ⟨rfl, rfl⟩ hq
      · go_enter Try.func89, Try.ntmps89
        go_wp2_with (go_at_call 81; refine HS.out.mono ?_; rintro e w' ⟨rfl, hP⟩; replace hP := Kpt.mk hP)
        go_ret
        exact ⟨rfl, hP.out⟩

theorem kopen_any (w : World) (B N : Nat) (f : ByteArray) (ca : Bool) (h1 : 1 ≤ f.size) (h2 : f.size ≤ 32) (h3 : 1 ≤ N) (h4 : N ≤ 4096) :
    Calls Try.prog 20 #[.pointer (some ⟨B, 0, none⟩), .string f, .int .i64 N, .bool ca] w fun e w' => e = .returned (.tuple #[.pointer (some ⟨w.heap.size, 0, none⟩), .int .i64 0]) ∧ w' = w.alloc (.cells #[.pointer (some ⟨B, 0, none⟩), .string f, .int .i64 N, .bool ca] 79) := by
  have i1 : ¬ (f.size : Int) < 1 := by omega
  have i2 : ¬ (32 : Int) < f.size := by omega
  have i3 : ¬ (N : Int) < 1 := by omega
  have i4 : ¬ (4096 : Int) < N := by omega
  go_enter Try.func20, Try.ntmps20
  go_wp2
  go_ret2
  exact ⟨rfl, rfl⟩
theorem sto_new (w : World) (tag : Tags) (B N : Nat) (f : ByteArray) (ca : Bool) (ht : tag w.heap.size = none) : Sto (w.alloc (.cells #[.pointer (some ⟨B, 0, none⟩), .string f, .int .i64 N, .bool ca] 79)) tag w.heap.size B f N ca :=
  ⟨by simp, ht, by simp, by simp, by simp, by simp, fun j => by simp⟩
theorem ksync_any (w : World) (B : Nat) (tag : Tags) (st : St) (S N : Nat) (f : ByteArray) (ca : Bool) (h : Wd w B tag st) (hs : Sto w tag S B f N ca) (hc : st.cnt + st.waits.length < 549755813888) (hf : st.fails st.ops = false) (hw : Wrs st.waits) :
    Calls Try.prog 61 #[.pointer (some ⟨S, 0, none⟩)] w fun e w' => e = .returned (.int .i64 0) ∧ ∃ tag', Wd w' B tag' (syncSt st) ∧ Step w w' tag tag' (fun _ => True) := by
  have HS := Kpt.mk (sync_any w B tag st h hc hf hw)
  have c0 := hs.c0
  have hlt := hs.lt
  clear h hs hw hc hf
  go_enter Try.func61, Try.ntmps61
  go_wp2_with (go_at_call 81; refine HS.out.mono ?_; rintro e w' ⟨rfl, hP⟩; replace hP := Kpt.mk hP)
  go_ret
  exact ⟨rfl, hP.out⟩
end Go.Proofs.Ytklboieemljmiaa

namespace Go.Proofs.Ytklboieemljmiaa
open Go.RowKit
set_option linter.unusedVariables false
set_option linter.unusedSimpArgs false

theorem rangeAt_keep {w w' : World} {b o : Nat} {cs : List Value} (h : w.rangeAt b o cs) (hb : w'.heap[b]? = w.heap[b]?) : w'.rangeAt b o cs :=
  fun j v hv => (World.cell?_of_block (w := w) (w' := w') (a := ⟨b, o + j, none⟩) hb).trans (h j v hv)
/-- A list of blocks that can be read. -/
def Bks (w : World) (v : Value) (bs : List Bk) : Prop :=
  ∃ a c, v = .slice a bs.length c ∧ bs.length ≤ maxLen ∧ ∀ j b, bs[j]? = some b → b.ok ∧ ∃ g o, a = some ⟨g, o, none⟩ ∧ g < w.heap.size ∧ w.rangeAt g (o + j * 19) b.cs
/-- The state behind k blocks. -/
def wrSt (st : St) (f : ByteArray) (lba : Nat) (bs : List Bk) : Nat → St
  | 0 => st
  | k + 1 => match bs[k]? with
    | some b => let s := wrSt st f lba bs k; { s with seen := (Chg.wr f ((lba + k) * 25) (pkB b)).run s.seen, waits := s.waits ++ [.wr f ((lba + k) * 25) (pkB b)], ops := s.ops + 1, cnt := s.cnt + 2 }
    | none => wrSt st f lba bs k
theorem wr_ops (st : St) (f : ByteArray) (lba : Nat) (bs : List Bk) : ∀ k, k ≤ bs.length → (wrSt st f lba bs k).ops = st.ops + k ∧ (wrSt st f lba bs k).cnt = st.cnt + 2 * k ∧ (wrSt st f lba bs k).fails = st.fails ∧ (wrSt st f lba bs k).waits.length = st.waits.length + k
  | 0, _ => by simp [wrSt]
  | k + 1, h => by
    obtain ⟨h1, h2, h3, h4⟩ := wr_ops st f lba bs k (by omega)
    unfold wrSt
    rw [List.getElem?_eq_getElem (by omega)]
    simp only [List.length_append, h1, h2, h3, h4]
    refine ⟨by omega, by omega, trivial, by simp; omega⟩

theorem wr_wrs (st : St) (f : ByteArray) (lba : Nat) (bs : List Bk) (h : Wrs st.waits) : ∀ k, Wrs (wrSt st f lba bs k).waits
  | 0 => h
  | k + 1 => by
    unfold wrSt
    cases bs[k]? with
    | none => exact wr_wrs st f lba bs h k
    | some b =>
      intro c hc
      simp only [List.mem_append, List.mem_singleton] at hc
      rcases hc with hc | hc
      · exact wr_wrs st f lba bs h k c hc
      · exact ⟨_, _, _, hc⟩
theorem exec_load_bx {W : World} {o : Oper} {a : Act} (x : Operand) (ho : o.op = .load 76 x) (b : Nat) (V : Array Value) (hx : a.eval x = .pointer (some ⟨b, 0, none⟩)) (hB : Bx W b V) (hi : (Try.prog.info? 76).map (·.size) = some V.size) :
    (execOp a.eval o).run Try.prog W = .ok (.value (.agg V)) W := by
  have := run_loadAt_mid (P := Try.prog) W b 0 76 V.toList _ hB.range Try.underlying76 rfl (by rw [Array.length_toList]; exact hi)
  unfold execOp
  simp only [ho, hx]
  simp [this]

set_option maxRecDepth 100000 in
set_option maxHeartbeats 4000000 in
theorem kwrite_any (w : World) (B : Nat) (tag : Tags) (st : St) (S N lba : Nat) (f : ByteArray) (ca fua : Bool) (v : Value) (bs : List Bk) (h : Wd w B tag st) (hs : Sto w tag S B f N ca) (hf1 : 1 ≤ f.size) (hf2 : f.size ≤ 32) (hN : N ≤ 4096)
    (hc : st.cnt < 500000000000) (hcw : st.waits.length < 1000000) (hf : ∀ i, st.fails i = false) (hw : Wrs st.waits) (hv : Bks w v bs) (htag : ∀ g, v.ownBlock = some g → tag g = none) (hin : lba + bs.length ≤ N) :
    Calls Try.prog 77 #[.pointer (some ⟨S, 0, none⟩), .int .i64 lba, v, .bool fua] w fun e w' => e = .returned (.tuple #[.int .i64 (bs.length : Nat), .int .i64 0]) ∧ ∃ tag', Wd w' B tag' (if settled ca fua bs.length then wrSt st f lba bs bs.length else syncSt (wrSt st f lba bs bs.length)) ∧ Step w w' tag tag' (fun _ => True) := by
  obtain ⟨a, c, rfl, hml, hbs⟩ := hv
  have HH := Kpt.mk (has_any w tag S B N f ca lba bs.length hs hN (by omega) (by omega))
  rw [decide_eq_true (show 0 ≤ (lba : Int) ∧ 0 ≤ (bs.length : Int) ∧ (lba : Int) + bs.length ≤ N from by omega)] at HH
  obtain ⟨st2, hst2⟩ : ∃ s, s = (if settled ca fua bs.length then wrSt st f lba bs bs.length else syncSt (wrSt st f lba bs bs.length)) := ⟨_, rfl⟩
  rw [← hst2]
  obtain ⟨n, hn⟩ : ∃ n, n = bs.length := ⟨_, rfl⟩
  rw [← hn] at HH hin hst2 ⊢
  replace hst2 := Kpt.mk hst2
  have hK : Kpt (Wd w B tag (wrSt st f lba bs 0)) := ⟨h⟩
  have hsK := Kpt.mk hs
  replace hbs := Kpt.mk hbs
  replace hn := Kpt.mk hn
  replace hf := Kpt.mk hf
  replace hw := Kpt.mk hw
  replace htag := Kpt.mk htag
  clear h hs hml
  go_enter Try.func77, Try.ntmps77
  go_wp2_with (go_at_call 51; refine HH.out.mono ?_; rintro e w ⟨rfl, hw'⟩; subst hw')

  go_loopw [23] (fun t wr => ∃ (k : Nat) (tag1 : Tags), k ≤ n ∧ t = .int .i64 k ∧ Kpt (Wd wr B tag1 (wrSt st f lba bs k)) ∧ Kpt (Step w wr tag tag1 (fun _ => True))) (fun t _ => n - (intOf t).toNat)
  case atStart => exact ⟨0, tag, Nat.zero_le _, rfl, hK, ⟨Step.refl _ _ _⟩⟩
  case round =>
    obtain ⟨k, tag1, hk, rfl, hW, hSt⟩ := hrel
    clear hK HH
    have hsK1 := Kpt.mk (hsK.out.step hSt.out)
    obtain ⟨hops, hcnt, hfl, hwl⟩ := wr_ops st f lba bs k (by rw [← hn.out]; exact hk)
    replace hops := Kpt.mk hops
    replace hcnt := Kpt.mk hcnt
    replace hfl := Kpt.mk hfl
    replace hwl := Kpt.mk hwl
    by_cases hlt : k < n
    · have e1 : (k : Int) < n := by omega
      obtain ⟨b, hb⟩ : ∃ b, bs[k]? = some b := ⟨_, List.getElem?_eq_getElem (by rw [← hn.out]; exact hlt)⟩
      obtain ⟨hok, g, o, rfl, hgl, hrg⟩ := hbs.out k b hb
      have hrg1 : Kpt (wr.rangeAt g (o + k * 19) b.cs) := ⟨rangeAt_keep hrg (hSt.out.block g hgl (fun t _ e => by rw [htag.out g rfl] at e; cases e))⟩
      have hcl : Kpt (b.cs.length = 19) := ⟨by have := Bk.size hok; simpa [Bk.vals] using this⟩
      have hone := Kpt.mk b.one
      have hsz := Kpt.mk (Bk.size hok)
      have hnx : wrSt st f lba bs (k + 1) = { wrSt st f lba bs k with seen := (Chg.wr f ((lba + k) * 25) (pkB b)).run (wrSt st f lba bs k).seen, waits := (wrSt st f lba bs k).waits ++ [.wr f ((lba + k) * 25) (pkB b)], ops := (wrSt st f lba bs k).ops + 1, cnt := (wrSt st f lba bs k).cnt + 2 } := by
        show (match bs[k]? with | some b => _ | none => _) = _
        rw [hb]
      replace hnx := Kpt.mk hnx
      have HP := fun W => Kpt.mk (pack_any b hok W)
      have hpl := Kpt.mk (pk_len b hok)
      have hB0 := bx_new wr zeroB 76
      unfold zeroB at hB0
      replace hB0 := Kpt.mk hB0
      obtain ⟨V, hV⟩ : ∃ V, V = b.vals := ⟨_, rfl⟩
      have hVc : V.toList = b.cs := by rw [hV]; rfl
      rw [← hV] at HP hone hsz
      replace hVc := Kpt.mk hVc
      obtain ⟨L, hL⟩ : ∃ L, L = b.cs := ⟨_, rfl⟩
      rw [← hL] at hrg1 hcl hVc
      have hLV : Kpt (L.toArray = V) := ⟨by rw [← hVc.out]⟩
      clear hrg hok hb hV hL hgl
      go_wp2_with (first
        | (refine wpList_load_mid rfl 76 (.tmp 26) rfl g (o + k * 19) rfl L _ hrg1.out Try.underlying76 rfl (by rw [hcl.out]; exact infoB) ?_; rw [hLV.out])
        | (refine wpList_store_bx rfl 76 (.tmp 11) (.tmp 27) rfl wr.heap.size _ V rfl rfl hB0.out (by rw [hsz.out]; rfl) (by rw [hsz.out]; exact infoB) hone.out rfl ?_; intro w1 hX1 hg1; have hbe1 : Kpt (Below wr.heap.size wr w1) := ⟨((Below.refl _ _).alloc (Nat.le_refl _) _).grown hg1 (by simp) (fun k hk => by cases hk; exact Nat.le_refl _)⟩; replace hX1 := Kpt.mk hX1; clear hg1)
        | fail)
      have hS1 := hsK1.out.below hbe1.out
      have hC1 : w1.cell? ⟨S, 0, none⟩ = some (.pointer (some ⟨B, 0, none⟩)) ∧ w1.cell? ⟨S, 1, none⟩ = some (.string f) ∧ S < w1.heap.size ∧ Bx (w1.drewN 1) wr.heap.size V := ⟨hS1.c0, hS1.c1, hS1.lt, ⟨hX1.out.lt, hX1.out.cells, hX1.out.free⟩⟩
      have HPl : Kpt (∀ W, Calls Try.prog 53 #[.int .i64 ((lba : Int) + k)] W fun e w' => e = .returned (.int .i64 (((lba + k) * 25 : Nat) : Int)) ∧ w' = W) := ⟨fun W => by have := place_any (lba + k) W (by omega); rw [Int.natCast_add] at this; exact this⟩
      replace hC1 := Kpt.mk hC1
      replace hS1 := Kpt.mk hS1
      clear hX1 hB0
      refine wp_region_any (by kernel_rfl) ?_
      refine wpAny_of_C (C := fun W => W.cell? ⟨S, 0, none⟩ = some (.pointer (some ⟨B, 0, none⟩)) ∧ W.cell? ⟨S, 1, none⟩ = some (.string f) ∧ S < W.heap.size ∧ Bx W wr.heap.size V) _ _ _ _ ?_
      refine wpAnyC_take 0 (.pointer (some ⟨S, 0, none⟩)) rfl (by kernel_rfl) (by kernel_rfl) (by kernel_rfl) (fun _ _ _ h => h) (wanted_free rfl _) (fun W hW => by have h0 := hW.1; have h1 := hW.2.1; have h2 := hW.2.2.1; go_simp) ?_
      simp only [Act.put, List.getElem_toArray, List.getElem_cons_succ, List.getElem_cons_zero, List.setIfInBounds_toArray, List.set_cons_succ, List.set_cons_zero]
      refine wpAnyC_take 1 (.pointer (some ⟨S, 0, none⟩)) rfl (by kernel_rfl) (by kernel_rfl) (by kernel_rfl) (fun _ _ _ h => h) (wanted_free rfl _) (fun W hW => by have h0 := hW.1; have h1 := hW.2.1; have h2 := hW.2.2.1; go_simp) ?_
      simp only [Act.put, List.getElem_toArray, List.getElem_cons_succ, List.getElem_cons_zero, List.setIfInBounds_toArray, List.set_cons_succ, List.set_cons_zero]
      refine wpAnyC_take 2 (.pointer (some ⟨S, 0, none⟩)) rfl (by kernel_rfl) (by kernel_rfl) (by kernel_rfl) (fun _ _ _ h => h) (wanted_free rfl _) (fun W hW => by have h0 := hW.1; have h1 := hW.2.1; have h2 := hW.2.2.1; go_simp) ?_
      simp only [Act.put, List.getElem_toArray, List.getElem_cons_succ, List.getElem_cons_zero, List.setIfInBounds_toArray, List.set_cons_succ, List.set_cons_zero]
      refine wpAnyC_take 3 (.pointer (some ⟨B, 0, none⟩)) rfl (by kernel_rfl) (by kernel_rfl) (by kernel_rfl) (fun _ _ _ h => h) (wanted_free rfl _) (fun W hW => by have h0 := hW.1; have h1 := hW.2.1; have h2 := hW.2.2.1; go_simp) ?_
      simp only [Act.put, List.getElem_toArray, List.getElem_cons_succ, List.getElem_cons_zero, List.setIfInBounds_toArray, List.set_cons_succ, List.set_cons_zero]
      refine wpAnyC_take 4 (.pointer (some ⟨S, 0, none⟩)) rfl (by kernel_rfl) (by kernel_rfl) (by kernel_rfl) (fun _ _ _ h => h) (wanted_free rfl _) (fun W hW => by have h0 := hW.1; have h1 := hW.2.1; have h2 := hW.2.2.1; go_simp) ?_
      simp only [Act.put, List.getElem_toArray, List.getElem_cons_succ, List.getElem_cons_zero, List.setIfInBounds_toArray, List.set_cons_succ, List.set_cons_zero]
      refine wpAnyC_take 5 (.pointer (some ⟨S, 0, none⟩)) rfl (by kernel_rfl) (by kernel_rfl) (by kernel_rfl) (fun _ _ _ h => h) (wanted_free rfl _) (fun W hW => by have h0 := hW.1; have h1 := hW.2.1; have h2 := hW.2.2.1; go_simp) ?_
      simp only [Act.put, List.getElem_toArray, List.getElem_cons_succ, List.getElem_cons_zero, List.setIfInBounds_toArray, List.set_cons_succ, List.set_cons_zero]
      refine wpAnyC_take 6 (.pointer (some ⟨S, 1, none⟩)) rfl (by kernel_rfl) (by kernel_rfl) (by kernel_rfl) (fun _ _ _ h => h) (wanted_free rfl _) (fun W hW => by have h0 := hW.1; have h1 := hW.2.1; have h2 := hW.2.2.1; go_simp) ?_
      simp only [Act.put, List.getElem_toArray, List.getElem_cons_succ, List.getElem_cons_zero, List.setIfInBounds_toArray, List.set_cons_succ, List.set_cons_zero]
      refine wpAnyC_take 7 (.string f) rfl (by kernel_rfl) (by kernel_rfl) (by kernel_rfl) (fun _ _ _ h => h) (wanted_free rfl _) (fun W hW => by have h0 := hW.1; have h1 := hW.2.1; have h2 := hW.2.2.1; go_simp) ?_
      simp only [Act.put, List.getElem_toArray, List.getElem_cons_succ, List.getElem_cons_zero, List.setIfInBounds_toArray, List.set_cons_succ, List.set_cons_zero]
      refine wpAnyC_take 8 (.int .i64 lba) rfl (by kernel_rfl) (by kernel_rfl) (by kernel_rfl) (fun _ _ _ h => h) (wanted_free rfl _) (fun W hW => by have h0 := hW.1; have h1 := hW.2.1; have h2 := hW.2.2.1; go_simp) ?_
      simp only [Act.put, List.getElem_toArray, List.getElem_cons_succ, List.getElem_cons_zero, List.setIfInBounds_toArray, List.set_cons_succ, List.set_cons_zero]
      refine wpAnyC_take 9 (.int .i64 k) rfl (by kernel_rfl) (by kernel_rfl) (by kernel_rfl) (fun _ _ _ h => h) (wanted_free rfl _) (fun W hW => by have h0 := hW.1; have h1 := hW.2.1; have h2 := hW.2.2.1; go_simp) ?_
      simp only [Act.put, List.getElem_toArray, List.getElem_cons_succ, List.getElem_cons_zero, List.setIfInBounds_toArray, List.set_cons_succ, List.set_cons_zero]
      refine wpAnyC_take 10 (.int .i64 ((lba : Int) + k)) rfl (by kernel_rfl) (by kernel_rfl) (by kernel_rfl) (fun _ _ _ h => h) (wanted_free rfl _) (fun W hW => by first | (go_simp; done) | (go_simp; rw [IntKind.wrap_i64]; omega)) ?_
      simp only [Act.put, List.getElem_toArray, List.getElem_cons_succ, List.getElem_cons_zero, List.setIfInBounds_toArray, List.set_cons_succ, List.set_cons_zero]
      refine wpAnyC_take 12 (.agg V) rfl (by kernel_rfl) (by kernel_rfl) (by kernel_rfl) (fun _ _ _ h => h) (wanted_free rfl _) (fun W hW => exec_load_bx (.tmp 11) rfl wr.heap.size V rfl hW.2.2.2 (by rw [hsz.out]; exact infoB)) ?_
      simp only [Act.put, List.getElem_toArray, List.getElem_cons_succ, List.getElem_cons_zero, List.setIfInBounds_toArray, List.set_cons_succ, List.set_cons_zero]
      refine wpAnyC_one 11 hC1.out rfl (by kernel_rfl) (wanted_free rfl _) (fun KA hKA => ?_)
      go_simp
      refine (HPl.out _).mono ?_
      rintro e wA ⟨rfl, rfl⟩
      refine hKA _ _ ?_
      try simp only [Act.put, List.getElem_toArray, List.getElem_cons_succ, List.getElem_cons_zero, List.setIfInBounds_toArray, List.set_cons_succ, List.set_cons_zero]
      clear hKA KA
      refine wpAnyC_one 13 hC1.out rfl (by kernel_rfl) (wanted_free rfl _) (fun KA hKA => ?_)
      go_simp
      refine (HP _).out.mono ?_
      rintro e w2 ⟨g2, rfl, ho2, hb2⟩
      have hb2' : Kpt (Below wr.heap.size wr w2) := ⟨hbe1.out.trans ((below_drewN (Below.refl _ w1) 1).trans hb2 |>.mono hbe1.out.size)⟩
      refine hKA _ _ ?_
      try simp only [Act.put, List.getElem_toArray, List.getElem_cons_succ, List.getElem_cons_zero, List.setIfInBounds_toArray, List.set_cons_succ, List.set_cons_zero]
      clear hKA KA
      have hS2 := hsK1.out.below hb2'.out
      have hlt1 : wr.heap.size < w1.heap.size := hC1.out.2.2.2.lt
      have hX2 : Bx w2 wr.heap.size V := hC1.out.2.2.2.below hb2 hlt1
      have hWd2 := hW.out.step (step_below hb2'.out tag1 (fun _ => False))
      have hg2n : tag1 g2 = none := by
        cases ht : tag1 g2 with
        | none => rfl
        | some t =>
          have h1 := hW.out.lt g2 (by rw [ht]; simp)
          have h2 := (World.ownsRow.lt ho2 g2 rfl).1
          have h3 : wr.heap.size ≤ w1.heap.size := hbe1.out.size
          have h4 : w1.heap.size ≤ g2 := h2
          omega
      have HWr := write_any w2 B tag1 (wrSt st f lba bs k) hWd2 (by rw [hcnt.out]; omega) f hf1 hf2 ((lba + k) * 25) (.slice (some ⟨g2, 0, none⟩) 25 25) (pkB b) (own_rd ho2) (fun _ g hg => by simp [Value.ownBlock] at hg; rw [← hg]; exact hg2n) (by rw [hpl.out]; omega)
      rw [show (wrSt st f lba bs k).fails (wrSt st f lba bs k).ops = false from by rw [hfl.out]; exact hf.out _] at HWr
      replace HWr := Kpt.mk HWr
      refine wpAnyC_one 14 ⟨hS2.c0, hS2.c1, hS2.lt, hX2⟩ rfl (by kernel_rfl) (wanted_free rfl _) (fun KA hKA => ?_)
      go_simp
      refine HWr.out.mono ?_
      rintro e w3 ⟨rfl, tag2, hWd3, hSt3⟩
      refine hKA _ _ ?_
      try simp only [Act.put, List.getElem_toArray, List.getElem_cons_succ, List.getElem_cons_zero, List.setIfInBounds_toArray, List.set_cons_succ, List.set_cons_zero]
      clear hKA KA
      refine wpAnyC_take 15 (.int .i64 0) rfl (by kernel_rfl) (by kernel_rfl) (by kernel_rfl) (fun _ _ _ h => h) (wanted_free rfl _) (fun W hW => by have h0 := hW.1; have h1 := hW.2.1; have h2 := hW.2.2.1; go_simp) ?_
      simp only [Act.put, List.getElem_toArray, List.getElem_cons_succ, List.getElem_cons_zero, List.setIfInBounds_toArray, List.set_cons_succ, List.set_cons_zero]
      have hS3 := hS2.step hSt3
      have hX3 : Bx w3 wr.heap.size V := hX2.of_block (Nat.lt_of_lt_of_le hX2.lt hSt3.size) (hSt3.block _ hX2.lt (fun t _ e => by
        have h1 := hW.out.lt wr.heap.size (by rw [e]; simp)
        omega))
      have hSt4 : Kpt (Step w w3 tag tag2 (fun _ => True)) := ⟨hSt.out.trans ((step_below hb2'.out tag1 (fun _ => True)).trans hSt3)⟩
      have hWd4 : Kpt (Wd w3 B tag2 (wrSt st f lba bs (k + 1))) := ⟨by rw [hnx.out]; simpa using hWd3⟩
      refine wpAnyC_done ⟨hS3.c0, hS3.c1, hS3.lt, hX3⟩ (by kernel_rfl) ?_
      clear hS3 hX3 hSt3 hWd3 HWr hWd2 hX2 hS2 hC1 hb2 hb2' ho2 HP HPl hS1 hg2n
      go_wp2
      go_roundw
      case rel => exact ⟨k + 1, tag2, by omega, by go_num, hWd4, hSt4⟩
      case measure => simp [intOf]; omega
    · have e1 : ¬ (k : Int) < n := by omega
      have ek : k = n := by omega
      subst ek
      have HS := Kpt.mk (settle_any wr B tag1 (wrSt st f lba bs k) S N k f ca fua hW.out hsK1.out (by rw [hcnt.out, hwl.out]; omega) (by rw [hfl.out]; exact hf.out _) (wr_wrs st f lba bs hw.out k) (by omega))
      clear hW
      go_wp2_with (go_at_call 89; refine HS.out.mono ?_; rintro e w2 ⟨rfl, tag2, hW2, hSt2⟩; replace hW2 := Kpt.mk hW2; replace hSt2 := Kpt.mk hSt2)
      go_ret2
      exact ⟨rfl, tag2, by rw [hst2.out]; exact hW2.out, hSt.out.trans hSt2.out⟩

end Go.Proofs.Ytklboieemljmiaa

namespace Go.Proofs.Ytklboieemljmiaa
open Go.RowKit
set_option linter.unusedVariables false
set_option linter.unusedSimpArgs false

theorem Files.of_blocks {w w' : World} {tag : Tags} {T : ByteArray → Tag} {f : ByteArray → Option Value} {F : FilesF} (h : Files w tag T f F) (hb : ∀ i t, i < w.heap.size → tag i = some t → w'.heap[i]? = w.heap[i]?) : Files w' tag T f F := by
  intro s
  have := h s
  cases hF : F s with
  | none => rw [hF] at this; exact this
  | some zs =>
    rw [hF] at this
    obtain ⟨hl, v, hf, hr, ht⟩ := this
    exact ⟨hl, v, hf, hr.of_block (fun g hg => hb g _ (hr.lt hg) (ht g hg)), ht⟩

/-! ### memory beside a world -/
theorem Chg.ok.frame {w w' : World} {tag : Tags} {c : Chg} {dv : Value} (h : c.ok w tag dv) (hb : ∀ i, tag i ≠ none → w'.heap[i]? = w.heap[i]?) : c.ok w' tag dv := by
  obtain ⟨two, three, s, t, off, ds⟩ := c
  cases two with
  | false => obtain ⟨h1, h2, hr, ht⟩ := h; exact ⟨h1, h2, hr.of_block (fun g hg => hb g (by rw [ht g hg]; simp)), ht⟩
  | true => cases three <;> exact h

theorem Wd.frame {w w' : World} {B : Nat} {tag : Tags} {st : St} (h : Wd w B tag st) (hs : w.heap.size ≤ w'.heap.size) (hb : ∀ i, tag i ≠ none → w'.heap[i]? = w.heap[i]?) : Wd w' B tag st := by
  obtain ⟨M1, M2, wv, fv, f1, f2, l, n2, h⟩ := h
  refine ⟨M1, M2, wv, fv, f1, f2, l, n2, ?_⟩
  have hb' : ∀ i t, i < w.heap.size → tag i = some t → w'.heap[i]? = w.heap[i]? := fun i t _ ht => hb i (by rw [ht]; simp)
  exact {
    cell := (hb B (by rw [h.tB]; simp)).trans h.cell
    tB := h.tB
    t1 := h.t1
    t2 := h.t2
    map1 := h.map1.of_block (hb M1 (by rw [h.t1]; simp))
    map2 := h.map2.of_block (hb M2 (by rw [h.t2]; simp))
    seen := h.seen.of_blocks hb'
    dur := h.dur.of_blocks hb'
    waits := by
      obtain ⟨h1, h2, h3⟩ := h.waits
      refine ⟨fun p hp => (h1 p hp).frame hb, ⟨h2.1, ?_⟩, h3⟩
      rcases h2.2 with hn | ⟨g, cap, cur, rfl, h0, hgg, rest⟩
      · exact .inl hn
      · exact .inr ⟨g, cap, cur, rfl, h0, (hb g (by rw [h3 g rfl]; simp)).trans hgg, rest⟩
    l_eq := h.l_eq
    fails := by
      have hf := h.fails
      cases fv with
      | none => exact hf
      | some b =>
        obtain ⟨ht, n, D, ⟨es, clock, h1, h2⟩, hp⟩ := hf
        exact ⟨ht, n, D, ⟨es, clock, (hb b (by rw [ht]; simp)).trans h1, h2⟩, hp⟩
    lt := fun i hi => Nat.lt_of_lt_of_le (h.lt i hi) hs
    opsLo := h.opsLo
    opsHi := h.opsHi
    cnt2 := h.cnt2 }

/-- A block of one's own has turned that was not there at first. -/
theorem Step.own {w w3 w4 : World} {tag tag' : Tags} {X : Tag → Prop} {G : Nat} (h : Step w w3 tag tag' X) (hg : w3.grownBy w4 (some G)) (hG : w.heap.size ≤ G) : Step w w4 tag tag' X where
  os := hg.os.trans h.os
  tape := hg.tape.trans h.tape
  output := hg.output.trans h.output
  size := Nat.le_trans h.size hg.size
  block := fun i hi hx => (hg.block i (Nat.lt_of_lt_of_le hi h.size) (fun e => by cases e; omega)).trans (h.block i hi hx)
  other := h.other
  bare := h.bare
  lt := fun hl i hi => Nat.lt_of_lt_of_le (h.lt hl i hi) hg.size
theorem Wd.own {w w' : World} {B G : Nat} {tag : Tags} {st : St} (h : Wd w B tag st) (hg : w.grownBy w' (some G)) (hG : tag G = none) : Wd w' B tag st :=
  h.frame hg.size (fun i hi => hg.block i (h.lt i hi) (fun e => by cases e; exact hi hG))
end Go.Proofs.Ytklboieemljmiaa

namespace Go.Proofs.Ytklboieemljmiaa
open Go.RowKit
set_option linter.unusedVariables false
set_option linter.unusedSimpArgs false

abbrev Byts (zs : List Int) : Prop := B.Bytes zs
theorem up_ok {zs : List Int} (hb : B.Bytes zs) : (upB zs).ok := by
  unfold upB
  split
  · exact empty_ok
  · rename_i h
    have b1 := B.num_bd zs 17 hb 2
    have b2 := B.num_bd zs 19 hb 2
    have b3 := B.num_bd zs 21 hb 4
    simp at b1 b2 b3
    refine ⟨?_, fun x hx => ?_, by simp only; omega, by simp only; omega, by simp only; omega⟩
    · simp only [List.length_take, List.length_drop]; omega
    · have hx' := List.mem_of_mem_drop (List.mem_of_mem_take hx)
      obtain ⟨j, hj, rfl⟩ := List.mem_iff_getElem.1 hx'
      have := hb j
      rw [List.getD_eq_getElem?_getD, List.getElem?_eq_getElem hj] at this
      exact this

theorem unpack_any (v : Value) (ys : List Int) (w : World) (h : Row w v ys) (hb : B.Bytes ys) (hl : ys.length ≤ 25) :
    Calls Try.prog 54 #[v] w fun e w' => e = .returned (.agg (upB ys).vals) ∧ Below w.heap.size w w' := by
  have hr := h.rd
  obtain ⟨a, c, rfl, hn, hlc, hh⟩ := id hr
  by_cases h25 : ys.length < 25
  · have := unpack_empty a ys.length c 0 w (.inl h25)
    unfold upB
    rw [if_pos (.inl h25)]
    exact this
  · have hlen : ys.length = 25 := by omega
    rcases hh with h0 | ⟨b, off, rfl, hcs⟩
    · omega
    have hblt : b < w.heap.size := h.lt rfl
    have hc : ∀ j, j < 25 → w.cell? ⟨b, off + j, none⟩ = some (.int .u8 (ys.getD j 0)) := fun j hj => hcs j _ (by unfold cels; rw [List.getElem?_map, List.getElem?_eq_getElem (by omega), List.getD_eq_getElem?_getD, List.getElem?_eq_getElem (by omega)]; rfl)
    by_cases h1 : ys.getD 0 0 = 1
    · have := unpack_full b off c ys w hlen (by omega) hb hblt hc h1
      unfold upB
      rw [if_neg (by rintro (h | h); exact h25 h; exact h h1), hlen]
      exact this
    · have := unpack_empty (some ⟨b, off, none⟩) ys.length c (ys.getD 0 0) w (.inr ⟨by omega, h1, b, off, rfl, hblt, by have := hc 0 (by decide); rw [Nat.add_zero] at this; exact this⟩)
      unfold upB
      rw [if_pos (.inr h1)]
      exact this

/-- What a block's place has. -/
def bytesAt (F : Option (List Int)) (i : Nat) : List Int := match F with
  | none => []
  | some zs => (zs.drop (i * 25)).take 25
theorem bytesAt_ok {F : Option (List Int)} (h : ∀ zs, F = some zs → B.Bytes zs) (i : Nat) : B.Bytes (bytesAt F i) ∧ (bytesAt F i).length ≤ 25 := by
  cases F with
  | none => exact ⟨fun j => by simp [bytesAt], by simp [bytesAt]⟩
  | some zs =>
    refine ⟨fun j => ?_, by simp only [bytesAt, List.length_take]; omega⟩
    have := h zs rfl (i * 25 + j)
    simp only [bytesAt]
    rw [List.getD_eq_getElem?_getD] at this ⊢
    rw [List.getElem?_take]
    split
    · rw [List.getElem?_drop]; exact this
    · simp
def rdSt (st : St) (k : Nat) : St := { st with ops := st.ops + k, cnt := st.cnt + k }

theorem read_both (w : World) (B : Nat) (tag : Tags) (st : St) (h : Wd w B tag st) (hc : st.cnt < 549755813888) (hf : st.fails st.ops = false) (s : ByteArray) (h1 : 1 ≤ s.size) (h2 : s.size ≤ 32) (i : Nat) (hi : i ≤ 10000) :
    Calls Try.prog 52 #[.pointer (some ⟨B, 0, none⟩), .string s, .int .i64 ((i * 25 : Nat) : Int), .int .i64 25] w fun e w' => ∃ v x, e = .returned (.tuple #[v, .int .i64 x]) ∧ (x = 0 ∨ x = 8) ∧ Wd w' B tag { st with ops := st.ops + 1, cnt := st.cnt + 1 } ∧ Step w w' tag tag (fun _ => True) ∧ Row w' v (bytesAt (st.seen s) i) := by
  cases hs : st.seen s with
  | none =>
    refine (read_none w B tag st h hc hf s h1 h2 (i * 25) 25 hs).mono ?_
    rintro e w' ⟨he, g1, g2⟩
    exact ⟨_, _, he, .inr rfl, g1, g2, World.ownsRow_nil _ _ _ _⟩
  | some zs =>
    refine (read_ok w B tag st h hc hf s h1 h2 (i * 25) 25 (by decide) (by omega) zs hs).mono ?_
    rintro e w' ⟨v, he, g1, g2, g3, _⟩
    exact ⟨v, _, he, .inl rfl, g1, g2, g3⟩

/-- A row of n blocks of which the first k are laid. -/
structure Rw (w : World) (tag : Tags) (g n k : Nat) (bl : Nat → Bk) : Prop where
  lt : g < w.heap.size
  bare : tag g = none
  there : w.there g 0 (n * 19)
  done : ∀ j, j < k → w.rangeAt g (j * 19) (bl j).cs
theorem Rw.step {w w' : World} {tag tag' : Tags} {X : Tag → Prop} {g n k : Nat} {bl : Nat → Bk} (h : Rw w tag g n k bl) (s : Step w w' tag tag' X) : Rw w' tag' g n k bl := by
  have hb : w'.heap[g]? = w.heap[g]? := s.block g h.lt (fun t _ e => by rw [h.bare] at e; cases e)
  exact ⟨Nat.lt_of_lt_of_le h.lt s.size, s.bare g h.lt h.bare, fun j hj => by rw [World.cell?_of_block (w := w) (a := ⟨g, 0 + j, none⟩) hb, World.frozen?_of_block (w := w) (a := ⟨g, 0 + j, none⟩) hb]; exact h.there j hj, fun j hj => rangeAt_keep (h.done j hj) hb⟩
theorem Rw.set {w : World} {tag : Tags} {g n k : Nat} {bl : Nat → Bk} (h : Rw w tag g n k bl) (hk : k < n) (hc : (bl k).cs.length = 19) (hcs : ∀ j, j < k → (bl j).cs.length = 19) : Rw (w.setCells g (k * 19) (bl k).cs) tag g n (k + 1) bl := by
  have hg := grown_setCells g (bl k).cs (k * 19) w
  have hsub : w.there g (k * 19) (bl k).cs.length := fun j hj => by
    have := h.there (k * 19 + j) (by rw [hc] at hj; omega)
    rw [Nat.zero_add] at this
    exact this
  refine ⟨Nat.lt_of_lt_of_le h.lt hg.size, h.bare, World.there_setCells h.there _ _ _, fun j hj => ?_⟩
  by_cases e : j = k
  · subst e; exact World.rangeAt_setCells_same w g (j * 19) _ hsub
  · exact World.rangeAt_setCells_apart (h.done j (by omega)) g (k * 19) _ (.inr (.inl (by rw [hcs j (by omega)]; omega)))

theorem cs_len (b : Bk) (h : b.ok) : b.cs.length = 19 := by simp [Bk.cs, h.len]
theorem infoB3 : (Try.prog.info? 76).map (fun i => (i.zero, i.size, i.bytes)) = some (some (.agg zeroB), 19, 24) := by kernel_rfl

set_option maxRecDepth 100000 in
set_option maxHeartbeats 4000000 in
theorem kread_any (w : World) (B : Nat) (tag : Tags) (st : St) (S N lba n : Nat) (f : ByteArray) (ca : Bool) (h : Wd w B tag st) (hs : Sto w tag S B f N ca) (hf1 : 1 ≤ f.size) (hf2 : f.size ≤ 32) (hN : N ≤ 4096)
    (hc : st.cnt < 500000000000) (hf : ∀ i, st.fails i = false) (hby : ∀ zs, st.seen f = some zs → Byts zs) (hin : lba + n ≤ N) :
    Calls Try.prog 36 #[.pointer (some ⟨S, 0, none⟩), .int .i64 lba, .int .i64 n] w fun e w' => ∃ g, e = .returned (.tuple #[.slice (some ⟨g, 0, none⟩) n n, .int .i64 n, .int .i64 0]) ∧ Wd w' B tag (rdSt st n) ∧ Step w w' tag tag (fun _ => True) ∧ Rw w' tag g n n (fun j => upB (bytesAt (st.seen f) (lba + j))) ∧ w.heap.size ≤ g := by
  have HH := Kpt.mk (has_any w tag S B N f ca lba n hs hN (by omega) (by omega))
  rw [decide_eq_true (show 0 ≤ (lba : Int) ∧ 0 ≤ (n : Int) ∧ (lba : Int) + n ≤ N from by omega)] at HH
  obtain ⟨bl, hbl⟩ : ∃ bl : Nat → Bk, bl = fun j => upB (bytesAt (st.seen f) (lba + j)) := ⟨_, rfl⟩
  rw [← hbl]
  have hblk : Kpt (∀ k, (bl k).ok) := ⟨fun k => by rw [hbl]; exact up_ok (bytesAt_ok hby _).1⟩
  have HU : Kpt (∀ k v W, Row W v (bytesAt (st.seen f) (lba + k)) → Calls Try.prog 54 #[v] W fun e w' => e = .returned (.agg (bl k).vals) ∧ Below W.heap.size W w') := ⟨fun k v W hv => by rw [hbl]; exact unpack_any v _ W hv (bytesAt_ok hby _).1 (bytesAt_ok hby _).2⟩
  have hK := Kpt.mk h
  have hsK := Kpt.mk hs
  replace hf := Kpt.mk hf
  obtain ⟨i0, hi0, hz0, hz1, hz2⟩ := info_parts infoB3
  replace hi0 := Kpt.mk hi0
  replace hz0 := Kpt.mk hz0
  replace hz1 := Kpt.mk hz1
  replace hz2 := Kpt.mk hz2
  clear h hs hbl hby
  go_enter Try.func36, Try.ntmps36
  go_wp2_with (first
    | (go_at_call 51; refine HH.out.mono ?_; rintro e w ⟨rfl, hw'⟩; subst hw')
    | (at_make; refine wpList_make_full _ rfl _ _ 46 rfl w.heap.size 76 i0 (.agg zeroB) 19 Try.underlying46 hi0.out hz0.out hz1.out .i64 .i64 _ _ n rfl rfl rfl rfl (by rw [hz2.out]; omega) (by unfold maxLen; omega) (Nat.le_refl _) ?_; intro w1 hown hgr; replace hown := Kpt.mk hown; replace hgr := Kpt.mk hgr))

  have hbe1 : Kpt (Below w.heap.size w w1) := ⟨(Below.refl _ _).grown hgr.out (Nat.le_refl _) (fun k hk => by cases hk)⟩
  have hg0 : tag w.heap.size = none := by
    cases ht : tag w.heap.size with
    | none => rfl
    | some t => have := hK.out.lt w.heap.size (by rw [ht]; simp); omega
  have hR1 : Kpt (Rw w1 tag w.heap.size n 0 bl) := ⟨⟨(World.ownsRow.lt hown.out w.heap.size rfl).2, hg0, fun j hj => ⟨by rw [Nat.zero_add, hown.out.cellAt j (by omega)]; have hl := hown.out.1; rw [List.getElem?_eq_getElem (by omega)]; rfl, by rw [Nat.zero_add]; exact hown.out.frozenAt j⟩, fun j hj => by omega⟩⟩
  have hSt1 : Kpt (Step w w1 tag tag (fun _ => True)) := ⟨step_below hbe1.out tag _⟩
  have hW1 : Kpt (Wd w1 B tag (rdSt st 0)) := ⟨by have := hK.out.step (step_below hbe1.out tag (fun _ => False)); simpa [rdSt] using this⟩
  obtain ⟨G, hG⟩ : ∃ G, G = w.heap.size := ⟨_, rfl⟩
  rw [← hG] at hR1 ⊢
  have hGw : w.heap.size ≤ G := by omega
  clear hown hgr hbe1 hg0 hK HH hG hi0 hz0 hz1 hz2
  go_loopw [23] (fun t wr => ∃ (k : Nat), k ≤ n ∧ t = .int .i64 k ∧ Kpt (Wd wr B tag (rdSt st k)) ∧ Kpt (Step w wr tag tag (fun _ => True)) ∧ Kpt (Rw wr tag G n k bl)) (fun t _ => n - (intOf t).toNat)
  case atStart => exact ⟨0, Nat.zero_le _, rfl, hW1, hSt1, hR1⟩
  case round =>
    obtain ⟨k, hk, rfl, hW, hSt, hR⟩ := hrel
    clear hW1 hSt1 hR1
    have hsK1 := Kpt.mk (hsK.out.step hSt.out)
    by_cases hlt : k < n
    · have e1 : (k : Int) < n := by omega
      have HPl : Kpt (∀ W, Calls Try.prog 53 #[.int .i64 ((lba : Int) + k)] W fun e w' => e = .returned (.int .i64 (((lba + k) * 25 : Nat) : Int)) ∧ w' = W) := ⟨fun W => by have := place_any (lba + k) W (by omega); rw [Int.natCast_add] at this; exact this⟩
      have HRd : Kpt (∀ W, Wd W B tag (rdSt st k) → Calls Try.prog 52 #[.pointer (some ⟨B, 0, none⟩), .string f, .int .i64 (((lba + k) * 25 : Nat) : Int), .int .i64 25] W fun e w' => ∃ v x, e = .returned (.tuple #[v, .int .i64 x]) ∧ (x = 0 ∨ x = 8) ∧ Wd w' B tag (rdSt st (k + 1)) ∧ Step W w' tag tag (fun _ => True) ∧ Row w' v (bytesAt (st.seen f) (lba + k))) := ⟨fun W hW => by
        refine (read_both W B tag (rdSt st k) hW (by simp only [rdSt]; omega) (hf.out _) f hf1 hf2 (lba + k) (by omega)).mono ?_
        rintro e w' ⟨v, x, h1, h2, h3, h4, h5⟩
        exact ⟨v, x, h1, h2, by have : rdSt st (k + 1) = { rdSt st k with ops := (rdSt st k).ops + 1, cnt := (rdSt st k).cnt + 1 } := by simp [rdSt]; omega
                                rw [this]; exact h3, h4, h5⟩⟩
      have hC1 := Kpt.mk (And.intro hsK1.out.c0 (And.intro hsK1.out.c1 hsK1.out.lt))
      go_wp2_with fail
      refine wp_region_any (by kernel_rfl) ?_
      refine wpAny_of_C (C := fun W => W.cell? ⟨S, 0, none⟩ = some (.pointer (some ⟨B, 0, none⟩)) ∧ W.cell? ⟨S, 1, none⟩ = some (.string f) ∧ S < W.heap.size) _ _ _ _ ?_
      refine wpAnyC_take 0 (.pointer (some ⟨S, 0, none⟩)) rfl (by kernel_rfl) (by kernel_rfl) (by kernel_rfl) (fun _ _ _ h => h) (wanted_free rfl _) (fun W hW => by have h0 := hW.1; have h1 := hW.2.1; have h2 := hW.2.2; go_simp) ?_
      simp only [Act.put, List.getElem_toArray, List.getElem_cons_succ, List.getElem_cons_zero, List.setIfInBounds_toArray, List.set_cons_succ, List.set_cons_zero]
      refine wpAnyC_take 1 (.pointer (some ⟨S, 0, none⟩)) rfl (by kernel_rfl) (by kernel_rfl) (by kernel_rfl) (fun _ _ _ h => h) (wanted_free rfl _) (fun W hW => by have h0 := hW.1; have h1 := hW.2.1; have h2 := hW.2.2; go_simp) ?_
      simp only [Act.put, List.getElem_toArray, List.getElem_cons_succ, List.getElem_cons_zero, List.setIfInBounds_toArray, List.set_cons_succ, List.set_cons_zero]
      refine wpAnyC_take 2 (.pointer (some ⟨S, 0, none⟩)) rfl (by kernel_rfl) (by kernel_rfl) (by kernel_rfl) (fun _ _ _ h => h) (wanted_free rfl _) (fun W hW => by have h0 := hW.1; have h1 := hW.2.1; have h2 := hW.2.2; go_simp) ?_
      simp only [Act.put, List.getElem_toArray, List.getElem_cons_succ, List.getElem_cons_zero, List.setIfInBounds_toArray, List.set_cons_succ, List.set_cons_zero]
      refine wpAnyC_take 3 (.pointer (some ⟨B, 0, none⟩)) rfl (by kernel_rfl) (by kernel_rfl) (by kernel_rfl) (fun _ _ _ h => h) (wanted_free rfl _) (fun W hW => by have h0 := hW.1; have h1 := hW.2.1; have h2 := hW.2.2; go_simp) ?_
      simp only [Act.put, List.getElem_toArray, List.getElem_cons_succ, List.getElem_cons_zero, List.setIfInBounds_toArray, List.set_cons_succ, List.set_cons_zero]
      refine wpAnyC_take 4 (.pointer (some ⟨S, 0, none⟩)) rfl (by kernel_rfl) (by kernel_rfl) (by kernel_rfl) (fun _ _ _ h => h) (wanted_free rfl _) (fun W hW => by have h0 := hW.1; have h1 := hW.2.1; have h2 := hW.2.2; go_simp) ?_
      simp only [Act.put, List.getElem_toArray, List.getElem_cons_succ, List.getElem_cons_zero, List.setIfInBounds_toArray, List.set_cons_succ, List.set_cons_zero]
      refine wpAnyC_take 5 (.pointer (some ⟨S, 0, none⟩)) rfl (by kernel_rfl) (by kernel_rfl) (by kernel_rfl) (fun _ _ _ h => h) (wanted_free rfl _) (fun W hW => by have h0 := hW.1; have h1 := hW.2.1; have h2 := hW.2.2; go_simp) ?_
      simp only [Act.put, List.getElem_toArray, List.getElem_cons_succ, List.getElem_cons_zero, List.setIfInBounds_toArray, List.set_cons_succ, List.set_cons_zero]
      refine wpAnyC_take 6 (.pointer (some ⟨S, 1, none⟩)) rfl (by kernel_rfl) (by kernel_rfl) (by kernel_rfl) (fun _ _ _ h => h) (wanted_free rfl _) (fun W hW => by have h0 := hW.1; have h1 := hW.2.1; have h2 := hW.2.2; go_simp) ?_
      simp only [Act.put, List.getElem_toArray, List.getElem_cons_succ, List.getElem_cons_zero, List.setIfInBounds_toArray, List.set_cons_succ, List.set_cons_zero]
      refine wpAnyC_take 7 (.string f) rfl (by kernel_rfl) (by kernel_rfl) (by kernel_rfl) (fun _ _ _ h => h) (wanted_free rfl _) (fun W hW => by have h0 := hW.1; have h1 := hW.2.1; have h2 := hW.2.2; go_simp) ?_
      simp only [Act.put, List.getElem_toArray, List.getElem_cons_succ, List.getElem_cons_zero, List.setIfInBounds_toArray, List.set_cons_succ, List.set_cons_zero]
      refine wpAnyC_take 8 (.int .i64 lba) rfl (by kernel_rfl) (by kernel_rfl) (by kernel_rfl) (fun _ _ _ h => h) (wanted_free rfl _) (fun W hW => by have h0 := hW.1; have h1 := hW.2.1; have h2 := hW.2.2; go_simp) ?_
      simp only [Act.put, List.getElem_toArray, List.getElem_cons_succ, List.getElem_cons_zero, List.setIfInBounds_toArray, List.set_cons_succ, List.set_cons_zero]
      refine wpAnyC_take 9 (.int .i64 k) rfl (by kernel_rfl) (by kernel_rfl) (by kernel_rfl) (fun _ _ _ h => h) (wanted_free rfl _) (fun W hW => by have h0 := hW.1; have h1 := hW.2.1; have h2 := hW.2.2; go_simp) ?_
      simp only [Act.put, List.getElem_toArray, List.getElem_cons_succ, List.getElem_cons_zero, List.setIfInBounds_toArray, List.set_cons_succ, List.set_cons_zero]
      refine wpAnyC_take 10 (.int .i64 ((lba : Int) + k)) rfl (by kernel_rfl) (by kernel_rfl) (by kernel_rfl) (fun _ _ _ h => h) (wanted_free rfl _) (fun W hW => by first | (go_simp; done) | (go_simp; rw [IntKind.wrap_i64]; omega)) ?_
      simp only [Act.put, List.getElem_toArray, List.getElem_cons_succ, List.getElem_cons_zero, List.setIfInBounds_toArray, List.set_cons_succ, List.set_cons_zero]
      refine wpAnyC_one 11 hC1.out rfl (by kernel_rfl) (wanted_free rfl _) (fun KA hKA => ?_)
      go_simp
      refine (HPl.out _).mono ?_
      rintro e wA ⟨rfl, rfl⟩
      refine hKA _ _ ?_
      try simp only [Act.put, List.getElem_toArray, List.getElem_cons_succ, List.getElem_cons_zero, List.setIfInBounds_toArray, List.set_cons_succ, List.set_cons_zero]
      clear hKA KA
      refine wpAnyC_one 12 hC1.out rfl (by kernel_rfl) (wanted_free rfl _) (fun KA hKA => ?_)
      go_simp
      refine (HRd.out _ (hW.out.step (step_below (below_drewN (Below.refl _ wr) 1) tag (fun _ => False)))).mono ?_
      rintro e w2 ⟨v2, x2, rfl, hx2, hW2, hSt2, hrow2⟩
      have hS2 := hsK1.out.step (show Step wr w2 tag tag (fun _ => True) from (step_below (below_drewN (Below.refl _ wr) 1) tag _).trans hSt2)
      have hR2 := hR.out.step (show Step wr w2 tag tag (fun _ => True) from (step_below (below_drewN (Below.refl _ wr) 1) tag _).trans hSt2)
      have hSt3 : Kpt (Step w w2 tag tag (fun _ => True)) := ⟨hSt.out.trans ((step_below (below_drewN (Below.refl _ wr) 1) tag _).trans hSt2)⟩
      refine hKA _ _ ?_
      try simp only [Act.put, List.getElem_toArray, List.getElem_cons_succ, List.getElem_cons_zero, List.setIfInBounds_toArray, List.set_cons_succ, List.set_cons_zero]
      clear hKA KA
      refine wpAnyC_take 13 (.tuple #[v2, .int .i64 x2]) rfl (by kernel_rfl) (by kernel_rfl) (by kernel_rfl) (fun _ _ _ h => h) (wanted_free rfl _) (fun W hW => by have h0 := hW.1; have h1 := hW.2.1; have h2 := hW.2.2; go_simp) ?_
      simp only [Act.put, List.getElem_toArray, List.getElem_cons_succ, List.getElem_cons_zero, List.setIfInBounds_toArray, List.set_cons_succ, List.set_cons_zero]
      refine wpAnyC_take 14 (v2) rfl (by kernel_rfl) (by kernel_rfl) (by kernel_rfl) (fun _ _ _ h => h) (wanted_free rfl _) (fun W hW => by have h0 := hW.1; have h1 := hW.2.1; have h2 := hW.2.2; go_simp) ?_
      simp only [Act.put, List.getElem_toArray, List.getElem_cons_succ, List.getElem_cons_zero, List.setIfInBounds_toArray, List.set_cons_succ, List.set_cons_zero]
      refine wpAnyC_take 15 (.int .i64 x2) rfl (by kernel_rfl) (by kernel_rfl) (by kernel_rfl) (fun _ _ _ h => h) (wanted_free rfl _) (fun W hW => by have h0 := hW.1; have h1 := hW.2.1; have h2 := hW.2.2; go_simp) ?_
      simp only [Act.put, List.getElem_toArray, List.getElem_cons_succ, List.getElem_cons_zero, List.setIfInBounds_toArray, List.set_cons_succ, List.set_cons_zero]
      refine wpAnyC_take 16 (v2) rfl (by kernel_rfl) (by kernel_rfl) (by kernel_rfl) (fun _ _ _ h => h) (wanted_free rfl _) (fun W hW => by have h0 := hW.1; have h1 := hW.2.1; have h2 := hW.2.2; go_simp) ?_
      simp only [Act.put, List.getElem_toArray, List.getElem_cons_succ, List.getElem_cons_zero, List.setIfInBounds_toArray, List.set_cons_succ, List.set_cons_zero]
      refine wpAnyC_take 17 (.int .i64 x2) rfl (by kernel_rfl) (by kernel_rfl) (by kernel_rfl) (fun _ _ _ h => h) (wanted_free rfl _) (fun W hW => by have h0 := hW.1; have h1 := hW.2.1; have h2 := hW.2.2; go_simp) ?_
      simp only [Act.put, List.getElem_toArray, List.getElem_cons_succ, List.getElem_cons_zero, List.setIfInBounds_toArray, List.set_cons_succ, List.set_cons_zero]
      refine wpAnyC_done ⟨hS2.c0, hS2.c1, hS2.lt⟩ (by kernel_rfl) ?_
      have HU2 := Kpt.mk (HU.out k v2 w2 hrow2)
      have hok := hblk.out k
      have hthere : Kpt (∀ W, Rw W tag G n k bl → W.there G (k * 19) 19) := ⟨fun W hRW j hj => by have := hRW.there (k * 19 + j) (by omega); rw [Nat.zero_add] at this; exact this⟩
      have hone := Kpt.mk (bl k).one
      have hsz := Kpt.mk (Bk.size hok)
      have hset : Kpt (∀ W, Rw W tag G n k bl → Rw (W.setCells G (k * 19) (bl k).cs) tag G n (k + 1) bl) := ⟨fun W hRW => hRW.set hlt (cs_len _ hok) (fun j hj => cs_len _ (hblk.out j))⟩
      obtain ⟨V, hV⟩ : ∃ V, V = (bl k).vals := ⟨_, rfl⟩
      have hVc : (bl k).cs = V.toList := by rw [hV]; rfl
      rw [← hV] at HU2 hone hsz
      rw [hVc] at hset
      replace hW2 := Kpt.mk hW2
      replace hR2 := Kpt.mk hR2
      clear hV hVc hok hS2 hrow2 HRd HPl hC1 hSt2
      rcases hx2 with rfl | rfl
      all_goals
        go_wp2_with (first
          | (go_at_call 54; refine HU2.out.mono ?_; rintro e w3 ⟨rfl, hb3⟩; have hR3 := Kpt.mk (hR2.out.step (step_below hb3 tag (fun _ => True))); have hW3 := Kpt.mk (hW2.out.step (step_below hb3 tag (fun _ => False))); have hSt4 : Kpt (Step w w3 tag tag (fun _ => True)) := ⟨hSt3.out.trans (step_below hb3 tag _)⟩; clear hb3)
          | (refine wpList_store_mid rfl 76 (.tmp 54) (.tmp 53) rfl G (k * 19) V rfl rfl (by rw [hsz.out]; exact hthere.out _ hR3.out) (by rw [hsz.out]; exact infoB) hone.out ?_; obtain ⟨w4, hw4⟩ : ∃ w4, w4 = w3.setCells G (k * 19) V.toList := ⟨_, rfl⟩; have hR4 : Kpt (Rw w4 tag G n (k + 1) bl) := ⟨by rw [hw4]; exact hset.out _ hR3.out⟩; have hg4 := grown_setCells G V.toList (k * 19) w3; rw [← hw4] at hg4; have hW4 := Kpt.mk (hW3.out.own hg4 hR3.out.bare); have hSt5 : Kpt (Step w w4 tag tag (fun _ => True)) := ⟨hSt4.out.own hg4 hGw⟩; rw [← hw4]; clear hw4 hg4)
          | fail)
        go_roundw
        case rel => exact ⟨k + 1, by omega, by go_num, hW4, hSt5, hR4⟩
        case measure => simp [intOf]; omega
    · have e1 : ¬ (k : Int) < n := by omega
      have ek : k = n := by omega
      subst ek
      go_wp2
      go_ret3
      exact ⟨G, rfl, hW.out, hSt.out, hR.out, hGw⟩

end Go.Proofs.Ytklboieemljmiaa

namespace Go.Proofs.Ytklboieemljmiaa
open Go.RowKit
set_option linter.unusedVariables false
set_option linter.unusedSimpArgs false

theorem pad_getD (zs : List Int) (k j : Nat) : (zs ++ List.replicate k 0).getD j 0 = zs.getD j 0 := by
  simp only [List.getD_eq_getElem?_getD, List.getElem?_append]
  split
  · rfl
  · rename_i h
    rw [List.getElem?_eq_none (l := zs) (by omega), List.getElem?_replicate]
    split <;> rfl
theorem laid_getD (zs : List Int) (off : Nat) (ds : List Int) (j : Nat) : (laidL zs off ds).getD j 0 = if off ≤ j ∧ j < off + ds.length then ds.getD (j - off) 0 else zs.getD j 0 := by
  unfold laidL
  obtain ⟨A, hA⟩ : ∃ A, A = zs ++ List.replicate (off + ds.length - zs.length) 0 := ⟨_, rfl⟩
  have hAl : off + ds.length ≤ A.length := by rw [hA]; simp; omega
  have hAg : A.getD j 0 = zs.getD j 0 := by rw [hA]; exact pad_getD zs _ j
  rw [← hA, ← hAg]
  unfold over
  have ht : (A.take off).length = off := by rw [List.length_take]; omega
  simp only [List.getD_eq_getElem?_getD]
  by_cases h1 : j < off
  · rw [if_neg (by omega), List.getElem?_append_left (by omega), List.getElem?_take, if_pos h1]
  · rw [List.getElem?_append_right (by omega), ht]
    by_cases h2 : j < off + ds.length
    · rw [if_pos (by omega), List.getElem?_append_left (by omega)]
    · rw [if_neg (by omega), List.getElem?_append_right (by omega), List.getElem?_drop]
      congr 2
      omega
theorem laid_len (zs : List Int) (off : Nat) (ds : List Int) : (laidL zs off ds).length = max zs.length (off + ds.length) := by
  unfold laidL over
  simp
  omega
theorem laid_bytes {zs : List Int} {off : Nat} {ds : List Int} (h1 : Byts zs) (h2 : Byts ds) : Byts (laidL zs off ds) := fun j => by
  rw [laid_getD]
  split
  · exact h2 _
  · exact h1 _

/-- The 25 bytes at a place, noughts where the file ends. -/
def padAt (zs : List Int) (i : Nat) : List Int := (List.range 25).map (fun j => zs.getD (i * 25 + j) 0)
theorem pad_len (zs : List Int) (i : Nat) : (padAt zs i).length = 25 := by simp [padAt]
theorem pad_at (zs : List Int) (i j : Nat) (hj : j < 25) : (padAt zs i).getD j 0 = zs.getD (i * 25 + j) 0 := by
  unfold padAt
  rw [List.getD_eq_getElem?_getD, List.getElem?_map, List.getElem?_range hj]
  rfl
theorem at_getD (zs : List Int) (i j : Nat) (hj : j < 25) : (bytesAt (some zs) i).getD j 0 = zs.getD (i * 25 + j) 0 := by
  simp only [bytesAt, List.getD_eq_getElem?_getD, List.getElem?_take, if_pos hj, List.getElem?_drop]
theorem at_len (zs : List Int) (i : Nat) : (bytesAt (some zs) i).length = min 25 (zs.length - i * 25) := by simp [bytesAt]
/-- No block that is cut looks like a whole one. -/
def Good (F : Option (List Int)) : Prop := ∀ zs, F = some zs → Byts zs ∧ ∀ j, (bytesAt (some zs) j).length < 25 → zs.getD (j * 25) 0 ≠ 1
theorem good_none : Good none := fun zs h => by cases h
/-- The block at a place. -/
def blkAt (F : Option (List Int)) (i : Nat) : Bk := upB (bytesAt F i)

theorem blk_pad {zs : List Int} (h : Good (some zs)) (i : Nat) : blkAt (some zs) i = upB (padAt zs i) := by
  unfold blkAt
  by_cases hl : (bytesAt (some zs) i).length < 25
  · have h1 := (h zs rfl).2 i hl
    unfold upB
    rw [if_pos (.inl hl), if_pos (.inr (by rw [pad_at zs i 0 (by decide), Nat.add_zero]; exact h1))]
  · have e : bytesAt (some zs) i = padAt zs i := by
      refine List.ext_getElem? (fun j => ?_)
      have hl2 : (bytesAt (some zs) i).length = 25 := by rw [at_len] at hl ⊢; omega
      by_cases hj : j < 25
      · have a1 := at_getD zs i j hj
        have a2 := pad_at zs i j hj
        rw [List.getD_eq_getElem?_getD] at a1 a2
        rw [List.getElem?_eq_getElem (by omega)] at a1 ⊢
        rw [List.getElem?_eq_getElem (by rw [pad_len]; exact hj)] at a2 ⊢
        simp only [Option.getD_some] at a1 a2
        rw [a1, a2]
      · rw [List.getElem?_eq_none (by omega), List.getElem?_eq_none (by rw [pad_len]; omega)]
    rw [e]
theorem blk_none (i : Nat) : blkAt none i = emptyB := by unfold blkAt upB bytesAt; rw [if_pos (.inl (by simp))]

theorem pad_ext {zs ys : List Int} {i : Nat} (h : ∀ j, j < 25 → zs.getD (i * 25 + j) 0 = ys.getD j 0) (hy : ys.length = 25) : padAt zs i = ys := by
  refine List.ext_getElem? (fun j => ?_)
  by_cases hj : j < 25
  · have a1 := (pad_at zs i j hj).trans (h j hj)
    rw [List.getD_eq_getElem?_getD, List.getD_eq_getElem?_getD, List.getElem?_eq_getElem (by rw [pad_len]; exact hj), List.getElem?_eq_getElem (by omega)] at a1
    rw [List.getElem?_eq_getElem (by rw [pad_len]; exact hj), List.getElem?_eq_getElem (by omega)]
    simpa using a1
  · rw [List.getElem?_eq_none (by rw [pad_len]; omega), List.getElem?_eq_none (by omega)]

/-- A whole block is written. -/
theorem good_wr {F : Option (List Int)} (h : Good F) (i : Nat) {ds : List Int} (hd : ds.length = 25) (hb : Byts ds) : Good (some (laidL (F.getD []) (i * 25) ds)) := by
  intro zs hz
  simp only [Option.some.injEq] at hz
  subst hz
  have hF : Byts (F.getD []) ∧ ∀ j, (bytesAt (some (F.getD [])) j).length < 25 → (F.getD []).getD (j * 25) 0 ≠ 1 := by
    cases F with
    | none => exact ⟨fun j => by simp, fun j _ => by simp⟩
    | some zs => exact h zs rfl
  refine ⟨laid_bytes hF.1 hb, fun j hj => ?_⟩
  rw [at_len, laid_len, hd] at hj
  rw [laid_getD, hd]
  have hji : ¬ (i * 25 ≤ j * 25 ∧ j * 25 < i * 25 + 25) := by omega
  rw [if_neg hji]
  exact hF.2 j (by rw [at_len]; omega)
theorem blk_wr {F : Option (List Int)} (h : Good F) (i j : Nat) {ds : List Int} (hd : ds.length = 25) (hb : Byts ds) : blkAt (some (laidL (F.getD []) (i * 25) ds)) j = if j = i then upB ds else blkAt F j := by
  rw [blk_pad (good_wr h i hd hb)]
  by_cases hji : j = i
  · subst hji
    rw [if_pos rfl, pad_ext (ys := ds) (fun k hk => by rw [laid_getD, hd, if_pos (by omega)]; congr 1; omega) hd]
  · rw [if_neg hji]
    cases F with
    | none =>
      rw [blk_none]
      unfold upB
      rw [if_pos (.inr (by rw [pad_at _ _ 0 (by decide), laid_getD, hd, if_neg (by omega)]; simp))]
    | some zs =>
      rw [blk_pad h]
      congr 1
      exact pad_ext (fun k hk => by rw [pad_at _ _ _ hk, laid_getD, hd, if_neg (by omega)]; rfl) (pad_len _ _)

theorem list16 (ds : List Int) (h : ds.length = 16) : ∃ d0 d1 d2 d3 d4 d5 d6 d7 d8 d9 d10 d11 d12 d13 d14 d15, ds = [d0, d1, d2, d3, d4, d5, d6, d7, d8, d9, d10, d11, d12, d13, d14, d15] := by
  match ds, h with
  | [d0, d1, d2, d3, d4, d5, d6, d7, d8, d9, d10, d11, d12, d13, d14, d15], _ => exact ⟨_, _, _, _, _, _, _, _, _, _, _, _, _, _, _, _, rfl⟩
set_option maxRecDepth 100000 in
theorem up_pk (b : Bk) (h : b.ok) : upB (pkB b) = b ∧ Byts (pkB b) := by
  obtain ⟨hl, hby, hg, ha, hr⟩ := h
  obtain ⟨ds, g, a, r⟩ := b
  simp only at hl hby hg ha hr
  obtain ⟨d0, d1, d2, d3, d4, d5, d6, d7, d8, d9, d10, d11, d12, d13, d14, d15, rfl⟩ := list16 ds hl
  have e : pkB ⟨[d0, d1, d2, d3, d4, d5, d6, d7, d8, d9, d10, d11, d12, d13, d14, d15], g, a, r⟩ = [1, d0, d1, d2, d3, d4, d5, d6, d7, d8, d9, d10, d11, d12, d13, d14, d15, g / 256 % 256, g % 256, a / 256 % 256, a % 256, r / 16777216 % 256, r / 65536 % 256, r / 256 % 256, r % 256] := by
    simp [pkB, B.asc, over, List.replicate, List.set]
  rw [e]
  constructor
  · unfold upB
    rw [if_neg (by simp)]
    simp [B.num]
    refine ⟨by omega, by omega, by omega⟩
  · refine fun j => ?_
    rw [List.getD_eq_getElem?_getD]
    cases hj : ([1, d0, d1, d2, d3, d4, d5, d6, d7, d8, d9, d10, d11, d12, d13, d14, d15, g / 256 % 256, g % 256, a / 256 % 256, a % 256, r / 16777216 % 256, r / 65536 % 256, r / 256 % 256, r % 256] : List Int)[j]? with
    | none => simp
    | some x =>
      have hm := List.mem_of_getElem? hj
      simp only [Option.getD_some]
      simp only [List.mem_cons, List.not_mem_nil, or_false] at hm
      simp only [List.mem_cons, List.not_mem_nil, or_false, forall_eq_or_imp, forall_eq] at hby
      rcases hm with h | h | h | h | h | h | h | h | h | h | h | h | h | h | h | h | h | h | h | h | h | h | h | h | h <;> omega

/-- What the places hold behind k blocks. -/
theorem wr_view (st : St) (f : ByteArray) (lba : Nat) (bs : List Bk) (hG : Good (st.seen f)) (hok : ∀ b ∈ bs, b.ok) : ∀ k, k ≤ bs.length → Good ((wrSt st f lba bs k).seen f) ∧ ∀ i, blkAt ((wrSt st f lba bs k).seen f) i = if lba ≤ i ∧ i < lba + k then bs.getD (i - lba) emptyB else blkAt (st.seen f) i
  | 0, _ => ⟨hG, fun i => by rw [if_neg (by omega)]; rfl⟩
  | k + 1, h => by
    obtain ⟨h1, h2⟩ := wr_view st f lba bs hG hok k (by omega)
    have hk : bs[k]? = some bs[k] := List.getElem?_eq_getElem (by omega)
    have hb := hok bs[k] (List.getElem_mem _)
    obtain ⟨u1, u2⟩ := up_pk bs[k] hb
    have hs : (wrSt st f lba bs (k + 1)).seen f = some (laidL (((wrSt st f lba bs k).seen f).getD []) ((lba + k) * 25) (pkB bs[k])) := by
      show (match bs[k]? with | some b => _ | none => _ : St).seen f = _
      rw [hk]
      simp [Chg.run, updF]
    rw [hs]
    refine ⟨good_wr h1 _ (pk_len _ hb) u2, fun i => ?_⟩
    rw [blk_wr h1 _ _ (pk_len _ hb) u2, u1, h2 i]
    by_cases e : i = lba + k
    · subst e
      rw [if_pos rfl, if_pos (by omega), show lba + k - lba = k from by omega, List.getD_eq_getElem?_getD, hk]
      rfl
    · rw [if_neg e]
      by_cases e2 : lba ≤ i ∧ i < lba + k
      · rw [if_pos e2, if_pos (by omega)]
      · rw [if_neg e2, if_neg (by omega)]
end Go.Proofs.Ytklboieemljmiaa

namespace Go.Proofs.Ytklboieemljmiaa
open Go.RowKit
set_option linter.unusedVariables false
set_option linter.unusedSimpArgs false

theorem own_alloc (W : World) (b n base : Nat) (zs : List Int) (hb : b = W.heap.size) (hn : n = zs.length) (hm : n ≤ 1000) (hbase : base ≤ b) :
    (W.alloc (.cells (cels zs).toArray 5)).ownsRow base 5 1 (.slice (some ⟨b, 0, none⟩) n n) n (cels zs) := by
  subst hb hn
  refine ⟨by simp, .inr ⟨W.heap.size, zs.length, (cels zs).toArray, rfl, hbase, (MapKept.heap_alloc W _).1, Nat.le_refl _, by unfold maxLen; omega, by simp, List.take_of_length_le (by simp)⟩⟩
/-- The state behind k blocks that were emptied. -/
def unSt (st : St) (f : ByteArray) (lba : Nat) : Nat → St
  | 0 => st
  | k + 1 => { unSt st f lba k with seen := (Chg.wr f ((lba + k) * 25) [0]).run (unSt st f lba k).seen, waits := (unSt st f lba k).waits ++ [.wr f ((lba + k) * 25) [0]], ops := (unSt st f lba k).ops + 1, cnt := (unSt st f lba k).cnt + 2 }
theorem un_ops (st : St) (f : ByteArray) (lba : Nat) : ∀ k, (unSt st f lba k).ops = st.ops + k ∧ (unSt st f lba k).cnt = st.cnt + 2 * k ∧ (unSt st f lba k).fails = st.fails ∧ (unSt st f lba k).waits.length = st.waits.length + k
  | 0 => by simp [unSt]
  | k + 1 => by
    obtain ⟨h1, h2, h3, h4⟩ := un_ops st f lba k
    unfold unSt
    simp only [List.length_append, h1, h2, h3, h4]
    refine ⟨by omega, by omega, trivial, by simp; omega⟩
theorem un_wrs (st : St) (f : ByteArray) (lba : Nat) (h : Wrs st.waits) : ∀ k, Wrs (unSt st f lba k).waits
  | 0 => h
  | k + 1 => by
    unfold unSt
    intro c hc
    simp only [List.mem_append, List.mem_singleton] at hc
    rcases hc with hc | hc
    · exact un_wrs st f lba h k c hc
    · exact ⟨_, _, _, hc⟩
theorem byts0 : Byts [0] := fun j => by cases j <;> simp
theorem good_un {F : Option (List Int)} (h : Good F) (i : Nat) : Good (some (laidL (F.getD []) (i * 25) [0])) := by
  intro zs hz
  simp only [Option.some.injEq] at hz
  subst hz
  have hF : Byts (F.getD []) ∧ ∀ j, (bytesAt (some (F.getD [])) j).length < 25 → (F.getD []).getD (j * 25) 0 ≠ 1 := by
    cases F with
    | none => exact ⟨fun j => by simp, fun j _ => by simp⟩
    | some zs => exact h zs rfl
  refine ⟨laid_bytes hF.1 byts0, fun j hj => ?_⟩
  rw [at_len, laid_len] at hj
  rw [laid_getD]
  by_cases hji : i * 25 ≤ j * 25 ∧ j * 25 < i * 25 + [(0 : Int)].length
  · rw [if_pos hji]
    have : j * 25 - i * 25 = 0 := by simp at hji; omega
    rw [this]
    simp
  · rw [if_neg hji]
    refine hF.2 j ?_
    rw [at_len]
    simp at hji hj
    omega
theorem blk_un {F : Option (List Int)} (h : Good F) (i j : Nat) : blkAt (some (laidL (F.getD []) (i * 25) [0])) j = if j = i then emptyB else blkAt F j := by
  rw [blk_pad (good_un h i)]
  by_cases hji : j = i
  · subst hji
    rw [if_pos rfl]
    unfold upB
    rw [if_pos (.inr (by rw [pad_at _ _ 0 (by decide), laid_getD, if_pos (by simp)]; simp))]
  · rw [if_neg hji]
    cases F with
    | none =>
      rw [blk_none]
      unfold upB
      rw [if_pos (.inr (by rw [pad_at _ _ 0 (by decide), laid_getD, if_neg (by simp; omega)]; simp))]
    | some zs =>
      rw [blk_pad h]
      congr 1
      exact pad_ext (fun k hk => by rw [pad_at _ _ _ hk, laid_getD, if_neg (by simp; omega)]; rfl) (pad_len _ _)
theorem un_view (st : St) (f : ByteArray) (lba : Nat) (hG : Good (st.seen f)) : ∀ k, Good ((unSt st f lba k).seen f) ∧ ∀ i, blkAt ((unSt st f lba k).seen f) i = if lba ≤ i ∧ i < lba + k then emptyB else blkAt (st.seen f) i
  | 0 => ⟨hG, fun i => by rw [if_neg (by omega)]; rfl⟩
  | k + 1 => by
    obtain ⟨h1, h2⟩ := un_view st f lba hG k
    have hs : (unSt st f lba (k + 1)).seen f = some (laidL (((unSt st f lba k).seen f).getD []) ((lba + k) * 25) [0]) := by simp [unSt, Chg.run, updF]
    rw [hs]
    refine ⟨good_un h1 _, fun i => ?_⟩
    rw [blk_un h1, h2 i]
    by_cases e : i = lba + k
    · subst e
      rw [if_pos rfl, if_pos (by omega)]
    · rw [if_neg e]
      by_cases e2 : lba ≤ i ∧ i < lba + k
      · rw [if_pos e2, if_pos (by omega)]
      · rw [if_neg e2, if_neg (by omega)]

set_option maxRecDepth 100000 in
set_option maxHeartbeats 4000000 in
theorem kunmap_any (w : World) (B : Nat) (tag : Tags) (st : St) (S N lba n : Nat) (f : ByteArray) (ca : Bool) (h : Wd w B tag st) (hs : Sto w tag S B f N ca) (hf1 : 1 ≤ f.size) (hf2 : f.size ≤ 32) (hN : N ≤ 4096)
    (hc : st.cnt < 500000000000) (hcw : st.waits.length < 1000000) (hf : ∀ i, st.fails i = false) (hw : Wrs st.waits) (hin : lba + n ≤ N) :
    Calls Try.prog 82 #[.pointer (some ⟨S, 0, none⟩), .int .i64 lba, .int .i64 n] w fun e w' => e = .returned (.tuple #[.int .i64 n, .int .i64 0]) ∧ ∃ tag', Wd w' B tag' (if settled ca false n then unSt st f lba n else syncSt (unSt st f lba n)) ∧ Step w w' tag tag' (fun _ => True) := by
  have HH := Kpt.mk (has_any w tag S B N f ca lba n hs hN (by omega) (by omega))
  rw [decide_eq_true (show 0 ≤ (lba : Int) ∧ 0 ≤ (n : Int) ∧ (lba : Int) + n ≤ N from by omega)] at HH
  obtain ⟨st2, hst2⟩ : ∃ s, s = (if settled ca false n then unSt st f lba n else syncSt (unSt st f lba n)) := ⟨_, rfl⟩
  rw [← hst2]
  replace hst2 := Kpt.mk hst2
  have hK : Kpt (Wd w B tag (unSt st f lba 0)) := ⟨h⟩
  have hsK := Kpt.mk hs
  replace hf := Kpt.mk hf
  replace hw := Kpt.mk hw
  clear h hs
  go_enter Try.func82, Try.ntmps82
  go_wp2_with (go_at_call 51; refine HH.out.mono ?_; rintro e w ⟨rfl, hw'⟩; subst hw')
  go_loopw [18] (fun t wr => ∃ (k : Nat) (tag1 : Tags), k ≤ n ∧ t = .int .i64 k ∧ Kpt (Wd wr B tag1 (unSt st f lba k)) ∧ Kpt (Step w wr tag tag1 (fun _ => True))) (fun t _ => n - (intOf t).toNat)
  case atStart => exact ⟨0, tag, Nat.zero_le _, rfl, hK, ⟨Step.refl _ _ _⟩⟩
  case round =>
    obtain ⟨k, tag1, hk, rfl, hW, hSt⟩ := hrel
    clear hK HH
    have hsK1 := Kpt.mk (hsK.out.step hSt.out)
    obtain ⟨hops, hcnt, hfl, hwl⟩ := un_ops st f lba k
    replace hops := Kpt.mk hops
    replace hcnt := Kpt.mk hcnt
    replace hfl := Kpt.mk hfl
    replace hwl := Kpt.mk hwl
    by_cases hlt : k < n
    · have e1 : (k : Int) < n := by omega
      have hS1 := hsK1.out
      have hC1 : wr.cell? ⟨S, 0, none⟩ = some (.pointer (some ⟨B, 0, none⟩)) ∧ wr.cell? ⟨S, 1, none⟩ = some (.string f) ∧ S < wr.heap.size := ⟨hS1.c0, hS1.c1, hS1.lt⟩
      have HPl : Kpt (∀ W, Calls Try.prog 53 #[.int .i64 ((lba : Int) + k)] W fun e w' => e = .returned (.int .i64 (((lba + k) * 25 : Nat) : Int)) ∧ w' = W) := ⟨fun W => by have := place_any (lba + k) W (by omega); rw [Int.natCast_add] at this; exact this⟩
      replace hC1 := Kpt.mk hC1
      clear hS1
      go_wp2_with fail
      refine wp_region_any (by kernel_rfl) ?_
      refine wpAny_of_C (C := fun W => W.cell? ⟨S, 0, none⟩ = some (.pointer (some ⟨B, 0, none⟩)) ∧ W.cell? ⟨S, 1, none⟩ = some (.string f) ∧ S < W.heap.size) _ _ _ _ ?_
      refine wpAnyC_take 0 (.pointer (some ⟨S, 0, none⟩)) rfl (by kernel_rfl) (by kernel_rfl) (by kernel_rfl) (fun _ _ _ h => h) (wanted_free rfl _) (fun W hW => by have h0 := hW.1; have h1 := hW.2.1; have h2 := hW.2.2; go_simp) ?_
      try simp only [Act.put, List.getElem_toArray, List.getElem_cons_succ, List.getElem_cons_zero, List.setIfInBounds_toArray, List.set_cons_succ, List.set_cons_zero]
      refine wpAnyC_take 1 (.pointer (some ⟨S, 0, none⟩)) rfl (by kernel_rfl) (by kernel_rfl) (by kernel_rfl) (fun _ _ _ h => h) (wanted_free rfl _) (fun W hW => by have h0 := hW.1; have h1 := hW.2.1; have h2 := hW.2.2; go_simp) ?_
      try simp only [Act.put, List.getElem_toArray, List.getElem_cons_succ, List.getElem_cons_zero, List.setIfInBounds_toArray, List.set_cons_succ, List.set_cons_zero]
      refine wpAnyC_take 2 (.pointer (some ⟨S, 0, none⟩)) rfl (by kernel_rfl) (by kernel_rfl) (by kernel_rfl) (fun _ _ _ h => h) (wanted_free rfl _) (fun W hW => by have h0 := hW.1; have h1 := hW.2.1; have h2 := hW.2.2; go_simp) ?_
      try simp only [Act.put, List.getElem_toArray, List.getElem_cons_succ, List.getElem_cons_zero, List.setIfInBounds_toArray, List.set_cons_succ, List.set_cons_zero]
      refine wpAnyC_take 3 (.pointer (some ⟨B, 0, none⟩)) rfl (by kernel_rfl) (by kernel_rfl) (by kernel_rfl) (fun _ _ _ h => h) (wanted_free rfl _) (fun W hW => by have h0 := hW.1; have h1 := hW.2.1; have h2 := hW.2.2; go_simp) ?_
      try simp only [Act.put, List.getElem_toArray, List.getElem_cons_succ, List.getElem_cons_zero, List.setIfInBounds_toArray, List.set_cons_succ, List.set_cons_zero]
      refine wpAnyC_take 4 (.pointer (some ⟨S, 0, none⟩)) rfl (by kernel_rfl) (by kernel_rfl) (by kernel_rfl) (fun _ _ _ h => h) (wanted_free rfl _) (fun W hW => by have h0 := hW.1; have h1 := hW.2.1; have h2 := hW.2.2; go_simp) ?_
      try simp only [Act.put, List.getElem_toArray, List.getElem_cons_succ, List.getElem_cons_zero, List.setIfInBounds_toArray, List.set_cons_succ, List.set_cons_zero]
      refine wpAnyC_take 5 (.pointer (some ⟨S, 0, none⟩)) rfl (by kernel_rfl) (by kernel_rfl) (by kernel_rfl) (fun _ _ _ h => h) (wanted_free rfl _) (fun W hW => by have h0 := hW.1; have h1 := hW.2.1; have h2 := hW.2.2; go_simp) ?_
      try simp only [Act.put, List.getElem_toArray, List.getElem_cons_succ, List.getElem_cons_zero, List.setIfInBounds_toArray, List.set_cons_succ, List.set_cons_zero]
      refine wpAnyC_take 6 (.pointer (some ⟨S, 1, none⟩)) rfl (by kernel_rfl) (by kernel_rfl) (by kernel_rfl) (fun _ _ _ h => h) (wanted_free rfl _) (fun W hW => by have h0 := hW.1; have h1 := hW.2.1; have h2 := hW.2.2; go_simp) ?_
      try simp only [Act.put, List.getElem_toArray, List.getElem_cons_succ, List.getElem_cons_zero, List.setIfInBounds_toArray, List.set_cons_succ, List.set_cons_zero]
      refine wpAnyC_take 7 (.string f) rfl (by kernel_rfl) (by kernel_rfl) (by kernel_rfl) (fun _ _ _ h => h) (wanted_free rfl _) (fun W hW => by have h0 := hW.1; have h1 := hW.2.1; have h2 := hW.2.2; go_simp) ?_
      try simp only [Act.put, List.getElem_toArray, List.getElem_cons_succ, List.getElem_cons_zero, List.setIfInBounds_toArray, List.set_cons_succ, List.set_cons_zero]
      refine wpAnyC_take 8 (.int .i64 lba) rfl (by kernel_rfl) (by kernel_rfl) (by kernel_rfl) (fun _ _ _ h => h) (wanted_free rfl _) (fun W hW => by have h0 := hW.1; have h1 := hW.2.1; have h2 := hW.2.2; go_simp) ?_
      try simp only [Act.put, List.getElem_toArray, List.getElem_cons_succ, List.getElem_cons_zero, List.setIfInBounds_toArray, List.set_cons_succ, List.set_cons_zero]
      refine wpAnyC_take 9 (.int .i64 k) rfl (by kernel_rfl) (by kernel_rfl) (by kernel_rfl) (fun _ _ _ h => h) (wanted_free rfl _) (fun W hW => by have h0 := hW.1; have h1 := hW.2.1; have h2 := hW.2.2; go_simp) ?_
      try simp only [Act.put, List.getElem_toArray, List.getElem_cons_succ, List.getElem_cons_zero, List.setIfInBounds_toArray, List.set_cons_succ, List.set_cons_zero]
      refine wpAnyC_take 10 (.int .i64 ((lba : Int) + k)) rfl (by kernel_rfl) (by kernel_rfl) (by kernel_rfl) (fun _ _ _ h => h) (wanted_free rfl _) (fun W hW => by first | (go_simp; done) | (go_simp; rw [IntKind.wrap_i64]; omega)) ?_
      try simp only [Act.put, List.getElem_toArray, List.getElem_cons_succ, List.getElem_cons_zero, List.setIfInBounds_toArray, List.set_cons_succ, List.set_cons_zero]
      refine wpAnyC_two 11 12 hC1.out rfl rfl (by kernel_rfl) (wanted_free rfl _) (wanted_free rfl _) (fun KA hKA => ?_) (fun KA hKA => ?_)
      · go_simp
        refine (HPl.out _).mono ?_
        rintro e wA ⟨rfl, rfl⟩
        refine hKA _ _ ?_
        clear hKA KA
        try simp only [Act.put, List.getElem_toArray, List.getElem_cons_succ, List.getElem_cons_zero, List.setIfInBounds_toArray, List.set_cons_succ, List.set_cons_zero]
        refine wpAnyC_one 12 hC1.out rfl (by kernel_rfl) (wanted_free rfl _) (fun KA hKA => ?_)
        go_simp
        refine hKA _ _ ?_
        clear hKA KA
        try simp only [Act.put, List.getElem_toArray, List.getElem_cons_succ, List.getElem_cons_zero, List.setIfInBounds_toArray, List.set_cons_succ, List.set_cons_zero]
        have hb2' : Kpt (Below wr.heap.size wr (wr.drew.alloc (.cells #[.int .u8 0] 5))) := ⟨(below_drewN (Below.refl _ wr) 1).alloc (by simp) _⟩
        have ho2 := own_alloc wr.drew wr.heap.size 1 wr.heap.size [0] rfl rfl (by decide) (Nat.le_refl _)
        have hS2 := hsK1.out.below hb2'.out
        have hWd2 := hW.out.step (step_below hb2'.out tag1 (fun _ => False))
        have hg2n : tag1 wr.heap.size = none := by
          cases ht : tag1 wr.heap.size with
          | none => rfl
          | some t =>
            have h1 := hW.out.lt wr.heap.size (by rw [ht]; simp)
            omega
        have HWr := write_any _ B tag1 (unSt st f lba k) hWd2 (by rw [hcnt.out]; omega) f hf1 hf2 ((lba + k) * 25) (.slice (some ⟨wr.heap.size, 0, none⟩) 1 1) [0] (own_rd ho2) (fun _ g hg => by simp [Value.ownBlock] at hg; rw [← hg]; exact hg2n) (by simp; omega)
        rw [show (unSt st f lba k).fails (unSt st f lba k).ops = false from by rw [hfl.out]; exact hf.out _] at HWr
        replace HWr := Kpt.mk HWr
        refine wpAnyC_one 13 ⟨hS2.c0, hS2.c1, hS2.lt⟩ rfl (by kernel_rfl) (wanted_free rfl _) (fun KA hKA => ?_)
        go_simp
        refine HWr.out.mono ?_
        rintro e w3 ⟨rfl, tag2, hWd3, hSt3⟩
        refine hKA _ _ ?_
        try simp only [Act.put, List.getElem_toArray, List.getElem_cons_succ, List.getElem_cons_zero, List.setIfInBounds_toArray, List.set_cons_succ, List.set_cons_zero]
        clear hKA KA
        refine wpAnyC_take 14 (.int .i64 0) rfl (by kernel_rfl) (by kernel_rfl) (by kernel_rfl) (fun _ _ _ h => h) (wanted_free rfl _) (fun W hW => by have h0 := hW.1; have h1 := hW.2.1; have h2 := hW.2.2; go_simp) ?_
        try simp only [Act.put, List.getElem_toArray, List.getElem_cons_succ, List.getElem_cons_zero, List.setIfInBounds_toArray, List.set_cons_succ, List.set_cons_zero]
        have hS3 := hS2.step hSt3
        have hSt4 : Kpt (Step w w3 tag tag2 (fun _ => True)) := ⟨hSt.out.trans ((step_below hb2'.out tag1 (fun _ => True)).trans hSt3)⟩
        have hWd4 : Kpt (Wd w3 B tag2 (unSt st f lba (k + 1))) := ⟨by simpa [unSt] using hWd3⟩
        refine wpAnyC_done ⟨hS3.c0, hS3.c1, hS3.lt⟩ (by kernel_rfl) ?_
        clear hS3 hSt3 hWd3 HWr hWd2 hS2 hC1 hb2' ho2 HPl hg2n
        go_wp2
        go_roundw
        case rel => exact ⟨k + 1, tag2, by omega, by go_num, hWd4, hSt4⟩
        case measure => simp [intOf]; omega
      · go_simp
        refine hKA _ _ ?_
        clear hKA KA
        try simp only [Act.put, List.getElem_toArray, List.getElem_cons_succ, List.getElem_cons_zero, List.setIfInBounds_toArray, List.set_cons_succ, List.set_cons_zero]
        have hSx := hsK1.out.below ((below_drewN (Below.refl _ wr) 1).alloc (by simp) (.cells #[.int .u8 0] 5))
        refine wpAnyC_one 11 ⟨hSx.c0, hSx.c1, hSx.lt⟩ rfl (by kernel_rfl) (wanted_free rfl _) (fun KA hKA => ?_)
        go_simp
        refine (HPl.out _).mono ?_
        rintro e wA ⟨rfl, hwA⟩
        subst hwA
        refine hKA _ _ ?_
        clear hKA KA hSx
        try simp only [Act.put, List.getElem_toArray, List.getElem_cons_succ, List.getElem_cons_zero, List.setIfInBounds_toArray, List.set_cons_succ, List.set_cons_zero]
        have hb2' : Kpt (Below wr.heap.size wr (wr.drew.alloc (.cells #[.int .u8 0] 5))) := ⟨(below_drewN (Below.refl _ wr) 1).alloc (by simp) _⟩
        have ho2 := own_alloc wr.drew wr.heap.size 1 wr.heap.size [0] rfl rfl (by decide) (Nat.le_refl _)
        have hS2 := hsK1.out.below hb2'.out
        have hWd2 := hW.out.step (step_below hb2'.out tag1 (fun _ => False))
        have hg2n : tag1 wr.heap.size = none := by
          cases ht : tag1 wr.heap.size with
          | none => rfl
          | some t =>
            have h1 := hW.out.lt wr.heap.size (by rw [ht]; simp)
            omega
        have HWr := write_any _ B tag1 (unSt st f lba k) hWd2 (by rw [hcnt.out]; omega) f hf1 hf2 ((lba + k) * 25) (.slice (some ⟨wr.heap.size, 0, none⟩) 1 1) [0] (own_rd ho2) (fun _ g hg => by simp [Value.ownBlock] at hg; rw [← hg]; exact hg2n) (by simp; omega)
        rw [show (unSt st f lba k).fails (unSt st f lba k).ops = false from by rw [hfl.out]; exact hf.out _] at HWr
        replace HWr := Kpt.mk HWr
        refine wpAnyC_one 13 ⟨hS2.c0, hS2.c1, hS2.lt⟩ rfl (by kernel_rfl) (wanted_free rfl _) (fun KA hKA => ?_)
        go_simp
        refine HWr.out.mono ?_
        rintro e w3 ⟨rfl, tag2, hWd3, hSt3⟩
        refine hKA _ _ ?_
        try simp only [Act.put, List.getElem_toArray, List.getElem_cons_succ, List.getElem_cons_zero, List.setIfInBounds_toArray, List.set_cons_succ, List.set_cons_zero]
        clear hKA KA
        refine wpAnyC_take 14 (.int .i64 0) rfl (by kernel_rfl) (by kernel_rfl) (by kernel_rfl) (fun _ _ _ h => h) (wanted_free rfl _) (fun W hW => by have h0 := hW.1; have h1 := hW.2.1; have h2 := hW.2.2; go_simp) ?_
        try simp only [Act.put, List.getElem_toArray, List.getElem_cons_succ, List.getElem_cons_zero, List.setIfInBounds_toArray, List.set_cons_succ, List.set_cons_zero]
        have hS3 := hS2.step hSt3
        have hSt4 : Kpt (Step w w3 tag tag2 (fun _ => True)) := ⟨hSt.out.trans ((step_below hb2'.out tag1 (fun _ => True)).trans hSt3)⟩
        have hWd4 : Kpt (Wd w3 B tag2 (unSt st f lba (k + 1))) := ⟨by simpa [unSt] using hWd3⟩
        refine wpAnyC_done ⟨hS3.c0, hS3.c1, hS3.lt⟩ (by kernel_rfl) ?_
        clear hS3 hSt3 hWd3 HWr hWd2 hS2 hC1 hb2' ho2 HPl hg2n
        go_wp2
        go_roundw
        case rel => exact ⟨k + 1, tag2, by omega, by go_num, hWd4, hSt4⟩
        case measure => simp [intOf]; omega
    · have e1 : ¬ (k : Int) < n := by omega
      have ek : k = n := by omega
      subst ek
      have HS := Kpt.mk (settle_any wr B tag1 (unSt st f lba k) S N k f ca false hW.out hsK1.out (by rw [hcnt.out, hwl.out]; omega) (by rw [hfl.out]; exact hf.out _) (un_wrs st f lba hw.out k) (by omega))
      clear hW
      go_wp2_with (go_at_call 89; refine HS.out.mono ?_; rintro e w2 ⟨rfl, tag2, hW2, hSt2⟩; replace hW2 := Kpt.mk hW2; replace hSt2 := Kpt.mk hSt2)
      go_ret2
      exact ⟨rfl, tag2, by rw [hst2.out]; exact hW2.out, hSt.out.trans hSt2.out⟩
end Go.Proofs.Ytklboieemljmiaa
