/-
  Structs in blocks of their own; copy into a row of one's own, in a region that draws; blocks.
-/
import Derived.Test.YtklboieemljmiabMW
import Derived.Test.YtklboieemljmiabMB
import Derived.Deep.MidRow
namespace Go.Proofs.Ytklboieemljmiab
open Go.RowKit
set_option linter.unusedVariables false
set_option linter.unusedSimpArgs false

/-- A block that holds these cells, and may be written. -/
structure Bx (w : World) (b : Nat) (cs : Array Value) : Prop where
  lt : b < w.heap.size
  cells : ∀ j, j < cs.size → w.cell? ⟨b, j, none⟩ = cs[j]?
  free : ∀ j, w.frozen? ⟨b, j, none⟩ = false

theorem Bx.of_block {w w' : World} {b : Nat} {cs : Array Value} (h : Bx w b cs) (hlt : b < w'.heap.size) (hb : w'.heap[b]? = w.heap[b]?) : Bx w' b cs :=
  ⟨hlt, fun j hj => (World.cell?_of_block (w := w) (a := ⟨b, j, none⟩) hb).trans (h.cells j hj), fun j => (World.frozen?_of_block (w := w) (a := ⟨b, j, none⟩) hb).trans (h.free j)⟩
theorem Bx.below {w w' : World} {b n : Nat} {cs : Array Value} (h : Bx w b cs) (hb : Below n w w') (hn : b < n) : Bx w' b cs :=
  h.of_block (Nat.lt_of_lt_of_le h.lt hb.size) (hb.block b hn)
theorem Bx.alloc {w : World} {b : Nat} {cs : Array Value} (h : Bx w b cs) (o : Obj) : Bx (w.alloc o) b cs :=
  h.of_block (by have := h.lt; simp; omega) (Below.heap_alloc w o b h.lt)
theorem Bx.grown {w w' : World} {b : Nat} {row : Option Nat} {cs : Array Value} (h : Bx w b cs) (hg : w.grownBy w' row) (hn : row ≠ some b) : Bx w' b cs :=
  h.of_block (Nat.lt_of_lt_of_le h.lt hg.size) (hg.block b h.lt (fun e => hn e.symm))
theorem Bx.drew {w : World} {b : Nat} {cs : Array Value} (h : Bx w b cs) : Bx w.drew b cs := ⟨h.lt, h.cells, h.free⟩
theorem bx_new (w : World) (cs : Array Value) (t : TypeId) : Bx (w.alloc (.cells cs t)) w.heap.size cs := ⟨by simp, fun j hj => by simp, fun j => by simp⟩

theorem Bx.range {w : World} {b : Nat} {cs : Array Value} (h : Bx w b cs) : w.rangeAt b 0 cs.toList := fun j v hv => by
  have hj : j < cs.size := by have := (List.getElem?_eq_some_iff.1 hv).1; simpa using this
  rw [Nat.zero_add, h.cells j hj, ← hv, Array.getElem?_toList]
theorem Bx.there {w : World} {b : Nat} {cs : Array Value} (h : Bx w b cs) : w.there b 0 cs.size := fun j hj => by
  rw [Nat.zero_add, h.cells j hj, Array.getElem?_eq_getElem hj]
  exact ⟨rfl, h.free j⟩

theorem grown_setCellK (w : World) (a : Addr) (u : Value) : w.grownBy (w.setCell a u) (some a.block) :=
  ⟨rfl, rfl, rfl, by simp, fun j _ hk => Below.heap_setCell w a u j (fun e => hk (by rw [e]))⟩
theorem grown_setCells (b : Nat) : ∀ (vs : List Value) (o : Nat) (w : World), w.grownBy (w.setCells b o vs) (some b)
  | [], _, w => ⟨rfl, rfl, rfl, Nat.le_refl _, fun _ _ _ => rfl⟩
  | v :: r, o, w => by
    have h1 := grown_setCellK w ⟨b, o, none⟩ v
    have h2 := grown_setCells b r (o + 1) (w.setCell ⟨b, o, none⟩ v)
    exact ⟨h2.os.trans h1.os, h2.tape.trans h1.tape, h2.output.trans h1.output, Nat.le_trans h1.size h2.size, fun j hj hk => (h2.block j (Nat.lt_of_lt_of_le hj h1.size) hk).trans (h1.block j hj hk)⟩

theorem bx_set {w : World} {b : Nat} {cs ds : Array Value} (h : Bx w b cs) (hl : ds.size = cs.size) : Bx (w.setCells b 0 ds.toList) b ds := by
  have hg := grown_setCells b ds.toList 0 w
  refine ⟨Nat.lt_of_lt_of_le h.lt hg.size, fun j hj => ?_, fun j => ?_⟩
  · have := World.rangeAt_setCells_same w b 0 ds.toList (by have := h.there; rw [← hl] at this; simpa using this) j ds[j] (by simp [hj])
    rw [Nat.zero_add] at this
    rw [this, Array.getElem?_eq_getElem hj]
  · rw [World.frozen?_setCells]; exact h.free j

/-- A whole struct is stored. -/
theorem wp_store_bx {w : World} {o : Oper} {a : Act} {K : Act → World → Prop} {Q : Exit → Act → World → Prop} (ty : TypeId) (x y : Operand)
    (ho : o.op = .store ty x y) (b : Nat) (cs ds : Array Value) (hx : a.eval x = .pointer (some ⟨b, 0, none⟩)) (hy : a.eval y = .agg ds) (hB : Bx w b cs) (hl : ds.size = cs.size)
    (hi : (Try.prog.info? ty).map (·.size) = some ds.size) (h1 : ds.all (·.oneCell') = true)
    (h : ∀ w', Bx w' b ds → w.grownBy w' (some b) → K (a.put o.dst undef) w') : o.wp Try.prog a w K Q :=
  wp_store_mid ty x y ho b 0 ds hx hy (by rw [hl]; exact hB.there) hi h1 (h _ (bx_set hB hl) (grown_setCells b ds.toList 0 w))
theorem wpList_store_bx {w : World} {ops : Array Oper} {rest : List Oper} {o : Oper} {a : Act} {Q : Exit → Act → World → Prop} (hgd : o.guard = none) (ty : TypeId) (x y : Operand)
    (ho : o.op = .store ty x y) (b : Nat) (cs ds : Array Value) (hx : a.eval x = .pointer (some ⟨b, 0, none⟩)) (hy : a.eval y = .agg ds) (hB : Bx w b cs) (hl : ds.size = cs.size)
    (hi : (Try.prog.info? ty).map (·.size) = some ds.size) (h1 : ds.all (·.oneCell') = true) (hdst : o.dst = none)
    (h : ∀ w', Bx w' b ds → w.grownBy w' (some b) → wpList Try.prog ops Q rest a w') : wpList Try.prog ops Q (o :: rest) a w :=
  wpList_plain hgd fun K hK => wp_store_bx ty x y ho b cs ds hx hy hB hl hi h1 (fun w' h1 h2 => hK _ _ (by rw [hdst]; exact h w' h1 h2))

/-- A whole struct is loaded. -/
theorem wpList_load_bx {w : World} {ops : Array Oper} {rest : List Oper} {o : Oper} {a : Act} {Q : Exit → Act → World → Prop} (hgd : o.guard = none) (ty : TypeId) (x : Operand)
    (ho : o.op = .load ty x) (b : Nat) (cs : Array Value) (hx : a.eval x = .pointer (some ⟨b, 0, none⟩)) (hB : Bx w b cs) (d : TypeDesc)
    (hu : Try.prog.underlying ty = some d) (hd : d.isRow = true) (hi : (Try.prog.info? ty).map (·.size) = some cs.size)
    (h : wpList Try.prog ops Q rest (a.put o.dst (.agg cs)) w) : wpList Try.prog ops Q (o :: rest) a w :=
  wpList_load_mid hgd ty x ho b 0 hx cs.toList d hB.range hu hd (by rw [Array.length_toList]; exact hi) (by simpa using h)

theorem run_res {w : World} {b : Nat} {cs : Array Value} (hB : Bx w b cs) (ty : TypeId) (d : TypeDesc)
    (hu : Try.prog.underlying ty = some d) (hd : d.isRow = true) (hi : (Try.prog.info? ty).map (·.size) = some cs.size) : (loadVar ty ⟨b, 0, none⟩).run Try.prog w = .ok (.agg cs) w := by
  have := run_loadVar_mid (P := Try.prog) w b 0 ty cs.toList d hB.range hu hd (by rw [Array.length_toList]; exact hi)
  simpa using this

theorem wp_copy_at {w : World} {o : Oper} {a : Act} {K : Act → World → Prop} {Q : Exit → Act → World → Prop} (d s : Operand)
    (ho : o.op = .call { callee := .builtin .copy, args := #[d, s], argTypes := #[22, 22] })
    (base g off n dLen dCap : Nat) (zs ds : List Int) (sv : Value) (hd : a.eval d = .slice (some ⟨g, off, none⟩) dLen dCap) (hs : a.eval s = sv)
    (hown : w.ownsRow base 5 1 (.slice (some ⟨g, 0, none⟩) n n) n (cels zs)) (hrd : RdAt w sv ds) (hdl : ds.length ≤ dLen) (hfit : off + ds.length ≤ n) (hpos : 0 < ds.length)
    (h : ∀ w', w'.ownsRow base 5 1 (.slice (some ⟨g, 0, none⟩) n n) n (cels (over zs off ds)) → w.grownBy w' (some g) → K (a.put o.dst (goInt ds.length)) w') : o.wp Try.prog a w K Q := by
  obtain ⟨sa, sc, rfl, hsn, hsl, hsr⟩ := hrd
  rcases hsr with h1 | ⟨b, soff, rfl, hc⟩
  · omega
  have hz : zs.length = n := by have := hown.1; simpa using this
  rcases hown.2 with ⟨hx, _⟩ | ⟨g', cap', cur, hx, hbg, hg, hnc, hcm, hcs, htake⟩
  · cases hx
  simp only [Value.slice.injEq, Option.some.injEq, Addr.mk.injEq, and_true, true_and] at hx
  obtain ⟨rfl, rfl⟩ := hx
  have hrun := run_copy_row (P := Try.prog) w 22 22 o.type 5 g off dLen dCap ⟨b, soff, none⟩ ds.length sc cur 5 (cels ds) Try.underlying22 B.Try.size5 hg
    (by simp only [cels_length]; exact (Nat.min_eq_left hdl).symm) (fun j u hu => by rw [Go.WideShapes.add_plain]; exact hc j u hu) (by simp; omega) (cels_one _)
  unfold Oper.wp
  simp [execOp, ho, resolve, invoke, builtin, hd, hs, hrun, Result.andThen]
  rw [cels_length] at *
  refine h _ ⟨?_, .inr ⟨g, n, _, rfl, hbg, setRow_heap w g cur _ 5 _ hg, Nat.le_refl _, hcm, ?_, ?_⟩⟩ ⟨rfl, rfl, rfl, by simp, fun j _ hk => setRow_other w g j _ (fun e => hk (by rw [e]))⟩
  · simp [over_length zs ds off (by omega), hz]
  · simp; omega
  · simp only [Nat.mul_one] at htake ⊢
    obtain ⟨R, hl⟩ : ∃ R, cur.toList = cels zs ++ R := ⟨cur.toList.drop n, by rw [← htake, List.take_append_drop]⟩
    have e1 : (cels zs ++ R).take off = (cels zs).take off := List.take_append_of_le_length (by simp; omega)
    have e2 : (cels zs ++ R).drop (off + ds.length) = (cels zs).drop (off + ds.length) ++ R := List.drop_append_of_le_length (by simp; omega)
    rw [hl, e1, e2]
    simp only [← List.append_assoc]
    rw [List.take_append_of_le_length (by simp; omega), List.take_of_length_le (by simp; omega)]
    simp [over, cels, List.map_take, List.map_drop]

theorem own_rd {w : World} {b n c g : Nat} {zs : List Int} (h : w.ownsRow b 5 1 (.slice (some ⟨g, 0, none⟩) n c) n (cels zs)) : RdAt w (.slice (some ⟨g, 0, none⟩) n c) zs := by
  obtain ⟨h0, h1⟩ := h
  have hz : zs.length = n := by simpa using h0
  refine Row.rd (show w.ownsRow 0 5 1 _ zs.length _ from ⟨by simp, ?_⟩)
  rw [hz]
  rcases h1 with h1 | ⟨g, cap, cur, e, _, rest⟩
  · exact .inl h1
  · exact .inr ⟨g, cap, cur, e, Nat.zero_le _, rest⟩

/-- A block. -/
structure Bk where
  d : List Int
  g : Int
  a : Int
  r : Int
structure Bk.ok (b : Bk) : Prop where
  len : b.d.length = 16
  byte : ∀ x ∈ b.d, 0 ≤ x ∧ x ≤ 255
  g : 0 ≤ b.g ∧ b.g ≤ 65535
  a : 0 ≤ b.a ∧ b.a ≤ 65535
  r : 0 ≤ b.r ∧ b.r ≤ 4294967295
def Bk.cs (b : Bk) : List Value := cels b.d ++ [.int .u16 b.g, .int .u16 b.a, .int .u32 b.r]
def Bk.vals (b : Bk) : Array Value := b.cs.toArray
theorem Bk.size {b : Bk} (h : b.ok) : b.vals.size = 19 := by simp [Bk.vals, Bk.cs, h.len]
theorem Bk.one (b : Bk) : b.vals.all (·.oneCell') = true := by
  rw [Array.all_eq_true]
  intro i hi
  have hm : b.vals[i] ∈ b.cs := by simp [Bk.vals]
  unfold Bk.cs at hm
  rw [List.mem_append] at hm
  rcases hm with hm | hm
  · exact cels_one _ _ hm
  · simp at hm
    rcases hm with h | h | h <;> rw [h] <;> rfl
/-- Its bytes in the file. -/
def pkB (b : Bk) : List Int := B.asc (B.asc (B.asc (over ((List.replicate 25 0).set 0 1) 1 b.d) 17 2 b.g 2) 19 2 b.a 2) 21 4 b.r 4
theorem asc_len (Z : List Int) (i n : Nat) (v : Int) : ∀ k, (B.asc Z i n v k).length = Z.length
  | 0 => rfl
  | k + 1 => by unfold B.asc; rw [List.length_set, asc_len Z i n v k]
theorem over_len (b : Bk) (h : b.ok) : (over ((List.replicate 25 (0 : Int)).set 0 1) 1 b.d).length = 25 := by simp [over, h.len]
theorem pk_len (b : Bk) (h : b.ok) : (pkB b).length = 25 := by unfold pkB; rw [asc_len, asc_len, asc_len, over_len b h]
theorem infoB : (Try.prog.info? 81).map (·.size) = some 19 := by kernel_rfl
end Go.Proofs.Ytklboieemljmiab
