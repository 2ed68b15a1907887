/-
  Structs in blocks of their own: stored and loaded whole.
-/
import Derived.Test.YtcgojpnjaloofaaCDef
import Derived.Test.YtcgojpnjaloofaaBGet
import Derived.Test.YtcgojpnjaloofaaBRow
import Derived.Test.YtcgojpnjaloofaaMem
import Derived.Test.YtcgojpnjaloofaaOrder
import Derived.Deep.MidRow
namespace Go.Proofs.Ytcgojpnjaloofaa
open Go.RowKit
set_option linter.unusedVariables false
set_option linter.unusedSimpArgs false

/-- A block that holds these cells, and may be written. -/
structure Bx (w : World) (b : Nat) (cs : Array Value) : Prop where
  lt : b < w.heap.size
  cells : ∀ j, j < cs.size → w.cell? ⟨b, j, none⟩ = cs[j]?
  free : ∀ j, w.frozen? ⟨b, j, none⟩ = false

theorem Bx.of_block {w w' : World} {b : Nat} {cs : Array Value} (h : Bx w b cs) (hlt : b < w'.heap.size) (hb : w'.heap[b]? = w.heap[b]?) : Bx w' b cs :=
  ⟨hlt, fun j hj => (World.cell?_of_block (w := w) (a := ⟨b, j, none⟩) hb).trans (h.cells j hj), fun j => (World.frozen?_of_block (w := w) (a := ⟨b, j, none⟩) hb).trans (h.free j)⟩
theorem Bx.below {w w' : World} {b n : Nat} {cs : Array Value} (h : Bx w b cs) (hb : Below n w w') (hn : b < n) : Bx w' b cs :=
  h.of_block (Nat.lt_of_lt_of_le h.lt hb.size) (hb.block b hn)
theorem Bx.alloc {w : World} {b : Nat} {cs : Array Value} (h : Bx w b cs) (o : Obj) : Bx (w.alloc o) b cs :=
  h.of_block (by have := h.lt; simp; omega) (Below.heap_alloc w o b h.lt)
theorem Bx.grown {w w' : World} {b : Nat} {row : Option Nat} {cs : Array Value} (h : Bx w b cs) (hg : w.grownBy w' row) (hn : row ≠ some b) : Bx w' b cs :=
  h.of_block (Nat.lt_of_lt_of_le h.lt hg.size) (hg.block b h.lt (fun e => hn e.symm))
theorem Bx.drew {w : World} {b : Nat} {cs : Array Value} (h : Bx w b cs) : Bx w.drew b cs := ⟨h.lt, h.cells, h.free⟩
theorem bx_new (w : World) (cs : Array Value) (t : TypeId) : Bx (w.alloc (.cells cs t)) w.heap.size cs := ⟨by simp, fun j hj => by simp, fun j => by simp⟩

theorem Bx.range {w : World} {b : Nat} {cs : Array Value} (h : Bx w b cs) : w.rangeAt b 0 cs.toList := fun j v hv => by
  have hj : j < cs.size := by have := (List.getElem?_eq_some_iff.1 hv).1; simpa using this
  rw [Nat.zero_add, h.cells j hj, ← hv, Array.getElem?_toList]
theorem Bx.there {w : World} {b : Nat} {cs : Array Value} (h : Bx w b cs) : w.there b 0 cs.size := fun j hj => by
  rw [Nat.zero_add, h.cells j hj, Array.getElem?_eq_getElem hj]
  exact ⟨rfl, h.free j⟩

theorem grown_setCell (w : World) (a : Addr) (u : Value) : w.grownBy (w.setCell a u) (some a.block) :=
  ⟨rfl, rfl, rfl, by simp, fun j _ hk => Below.heap_setCell w a u j (fun e => hk (by rw [e]))⟩
theorem grown_setCells (b : Nat) : ∀ (vs : List Value) (o : Nat) (w : World), w.grownBy (w.setCells b o vs) (some b)
  | [], _, w => ⟨rfl, rfl, rfl, Nat.le_refl _, fun _ _ _ => rfl⟩
  | v :: r, o, w => by
    have h1 := grown_setCell w ⟨b, o, none⟩ v
    have h2 := grown_setCells b r (o + 1) (w.setCell ⟨b, o, none⟩ v)
    exact ⟨h2.os.trans h1.os, h2.tape.trans h1.tape, h2.output.trans h1.output, Nat.le_trans h1.size h2.size, fun j hj hk => (h2.block j (Nat.lt_of_lt_of_le hj h1.size) hk).trans (h1.block j hj hk)⟩

theorem bx_set {w : World} {b : Nat} {cs ds : Array Value} (h : Bx w b cs) (hl : ds.size = cs.size) : Bx (w.setCells b 0 ds.toList) b ds := by
  have hg := grown_setCells b ds.toList 0 w
  refine ⟨Nat.lt_of_lt_of_le h.lt hg.size, fun j hj => ?_, fun j => ?_⟩
  · have := World.rangeAt_setCells_same w b 0 ds.toList (by have := h.there; rw [← hl] at this; simpa using this) j ds[j] (by simp [hj])
    rw [Nat.zero_add] at this
    rw [this, Array.getElem?_eq_getElem hj]
  · rw [World.frozen?_setCells]; exact h.free j

/-- A whole struct is stored. -/
theorem wp_store_bx {w : World} {o : Oper} {a : Act} {K : Act → World → Prop} {Q : Exit → Act → World → Prop} (ty : TypeId) (x y : Operand)
    (ho : o.op = .store ty x y) (b : Nat) (cs ds : Array Value) (hx : a.eval x = .pointer (some ⟨b, 0, none⟩)) (hy : a.eval y = .agg ds) (hB : Bx w b cs) (hl : ds.size = cs.size)
    (hi : (Try.prog.info? ty).map (·.size) = some ds.size) (h1 : ds.all (·.oneCell') = true)
    (h : ∀ w', Bx w' b ds → w.grownBy w' (some b) → K (a.put o.dst undef) w') : o.wp Try.prog a w K Q :=
  wp_store_mid ty x y ho b 0 ds hx hy (by rw [hl]; exact hB.there) hi h1 (h _ (bx_set hB hl) (grown_setCells b ds.toList 0 w))
theorem wpList_store_bx {w : World} {ops : Array Oper} {rest : List Oper} {o : Oper} {a : Act} {Q : Exit → Act → World → Prop} (hgd : o.guard = none) (ty : TypeId) (x y : Operand)
    (ho : o.op = .store ty x y) (b : Nat) (cs ds : Array Value) (hx : a.eval x = .pointer (some ⟨b, 0, none⟩)) (hy : a.eval y = .agg ds) (hB : Bx w b cs) (hl : ds.size = cs.size)
    (hi : (Try.prog.info? ty).map (·.size) = some ds.size) (h1 : ds.all (·.oneCell') = true) (hdst : o.dst = none)
    (h : ∀ w', Bx w' b ds → w.grownBy w' (some b) → wpList Try.prog ops Q rest a w') : wpList Try.prog ops Q (o :: rest) a w :=
  wpList_plain hgd fun K hK => wp_store_bx ty x y ho b cs ds hx hy hB hl hi h1 (fun w' h1 h2 => hK _ _ (by rw [hdst]; exact h w' h1 h2))

/-- A whole struct is loaded. -/
theorem wpList_load_bx {w : World} {ops : Array Oper} {rest : List Oper} {o : Oper} {a : Act} {Q : Exit → Act → World → Prop} (hgd : o.guard = none) (ty : TypeId) (x : Operand)
    (ho : o.op = .load ty x) (b : Nat) (cs : Array Value) (hx : a.eval x = .pointer (some ⟨b, 0, none⟩)) (hB : Bx w b cs) (d : TypeDesc)
    (hu : Try.prog.underlying ty = some d) (hd : d.isRow = true) (hi : (Try.prog.info? ty).map (·.size) = some cs.size)
    (h : wpList Try.prog ops Q rest (a.put o.dst (.agg cs)) w) : wpList Try.prog ops Q (o :: rest) a w :=
  wpList_load_mid hgd ty x ho b 0 hx cs.toList d hB.range hu hd (by rw [Array.length_toList]; exact hi) (by simpa using h)

theorem run_res {w : World} {b : Nat} {cs : Array Value} (hB : Bx w b cs) (ty : TypeId) (d : TypeDesc)
    (hu : Try.prog.underlying ty = some d) (hd : d.isRow = true) (hi : (Try.prog.info? ty).map (·.size) = some cs.size) : (loadVar ty ⟨b, 0, none⟩).run Try.prog w = .ok (.agg cs) w := by
  have := run_loadVar_mid (P := Try.prog) w b 0 ty cs.toList d hB.range hu hd (by rw [Array.length_toList]; exact hi)
  simpa using this

theorem infoC : (Try.prog.info? 27).map (·.size) = some 15 := by kernel_rfl
theorem infoS : (Try.prog.info? 30).map (·.size) = some 8 := by kernel_rfl

theorem Cm.vals_one (c : Cm) : c.vals.all (·.oneCell') = true := by simp [Cm.vals, Value.oneCell']
theorem Sn.vals_one (c : Sn) : c.vals.all (·.oneCell') = true := by simp [Sn.vals, Value.oneCell']

def zeroC : Array Value := #[.int .u8 0, .bool false, .int .u64 0, .int .u64 0, .int .i64 0, .bool false, .int .u8 0, .bool false, .bool false, .int .u8 0, .int .u8 0, .bool false, .int .u8 0, .int .u8 0, .bool false]
def zeroS : Array Value := #[.int .u8 0, .int .u16 0, .int .u64 0, .bool false, .int .i64 0, .int .i64 0, .bool false, .bool false]
theorem noC_vals : noC.vals = zeroC := rfl
theorem noS_vals : noS.vals = zeroS := rfl
end Go.Proofs.Ytcgojpnjaloofaa
