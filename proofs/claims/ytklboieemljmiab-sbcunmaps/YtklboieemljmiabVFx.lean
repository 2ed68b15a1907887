/-
  A function's run over a device: what has turned since it began; boxes of its own.
-/
import Derived.Test.YtklboieemljmiabVRead
namespace Go.Proofs.Ytklboieemljmiab
open Go.RowKit
set_option linter.unusedVariables false
set_option linter.unusedSimpArgs false

/-- A run that began at w, with tags tag, stands at W. -/
structure Fx (w W : World) (B : Nat) (tag tag' : Tags) (st : St) (f : ByteArray) (S D N : Nat) (k : Int) (ca : Bool) : Prop where
  dv : Dv W B tag' st f S D N k ca
  st : Step w W tag tag' (fun _ => True)
/-- A box of its own. -/
structure Ow (w W : World) (tag' : Tags) (b : Nat) (cs : Array Value) : Prop where
  bx : Bx W b cs
  lo : w.heap.size ≤ b
  bare : tag' b = none
variable {w W W' : World} {B : Nat} {tag tag' tag2 : Tags} {st st2 : St} {f : ByteArray} {S D N : Nat} {k : Int} {ca : Bool} {b b2 : Nat} {cs cs2 : Array Value}
theorem Dv.fx (h : Dv w B tag st f S D N k ca) : Fx w w B tag tag st f S D N k ca := ⟨h, Step.refl _ _ _⟩
theorem Fx.below (h : Fx w W B tag tag' st f S D N k ca) (hb : Below W.heap.size W W') : Fx w W' B tag tag' st f S D N k ca := ⟨h.dv.below hb, h.st.trans (step_below hb tag' _)⟩
theorem Fx.call (h : Fx w W B tag tag' st f S D N k ca) (hW : Wd W' B tag2 st2) (s : Step W W' tag' tag2 (fun _ => True)) : Fx w W' B tag tag2 st2 f S D N k ca := ⟨h.dv.step s hW, h.st.trans s⟩
theorem Fx.own (h : Fx w W B tag tag' st f S D N k ca) (o : Ow w W tag' b cs) (hg : W.grownBy W' (some b)) (hS : S < w.heap.size) (hD : D < w.heap.size) : Fx w W' B tag tag' st f S D N k ca :=
  ⟨h.dv.own hg o.bare (by have := o.lo; omega) (by have := o.lo; omega), h.st.own hg o.lo⟩
theorem Fx.new (h : Fx w W B tag tag' st f S D N k ca) (hl : W.heap.size ≤ b) (hX : Bx W' b cs) : Ow w W' tag' b cs := ⟨hX, Nat.le_trans h.st.size hl, wd_none h.dv.wd hl⟩
theorem Ow.below (o : Ow w W tag' b cs) (hb : Below W.heap.size W W') : Ow w W' tag' b cs := ⟨o.bx.below hb o.bx.lt, o.lo, o.bare⟩
theorem Ow.call (o : Ow w W tag' b cs) {X : Tag → Prop} (s : Step W W' tag' tag2 X) : Ow w W' tag2 b cs := ⟨o.bx.step s o.bare, o.lo, s.bare b o.bx.lt o.bare⟩
theorem Ow.other (o : Ow w W tag' b cs) (hg : W.grownBy W' (some b2)) (hne : b2 ≠ b) : Ow w W' tag' b cs := ⟨o.bx.grown hg (by simpa using hne), o.lo, o.bare⟩
theorem Ow.set (o : Ow w W tag' b cs) (hX : Bx W' b cs2) : Ow w W' tag' b cs2 := ⟨hX, o.lo, o.bare⟩
/-- A row of blocks in a block of its own. -/
structure Rb (w W : World) (tag' : Tags) (g : Nat) (cs : Array Value) : Prop where
  row : W.heap[g]? = some (.cells cs 81 (0, 0))
  lo : w.heap.size ≤ g
  bare : tag' g = none
theorem Fx.row (h : Fx w W B tag tag' st f S D N k ca) (hl : W.heap.size ≤ b) (hX : W'.heap[b]? = some (.cells cs 81 (0, 0))) : Rb w W' tag' b cs := ⟨hX, Nat.le_trans h.st.size hl, wd_none h.dv.wd hl⟩
theorem Rb.below (o : Rb w W tag' b cs) (hb : Below W.heap.size W W') : Rb w W' tag' b cs := ⟨heap_keep o.row hb, o.lo, o.bare⟩
theorem Rb.call (o : Rb w W tag' b cs) {X : Tag → Prop} (s : Step W W' tag' tag2 X) : Rb w W' tag2 b cs := ⟨(s.block b (heap_lt o.row) (fun t _ e => by rw [o.bare] at e; cases e)).trans o.row, o.lo, s.bare b (heap_lt o.row) o.bare⟩
theorem Rb.other (o : Rb w W tag' b cs) (hg : W.grownBy W' (some b2)) (hne : b2 ≠ b) : Rb w W' tag' b cs := ⟨heap_grown o.row hg (fun e => hne e.symm), o.lo, o.bare⟩
theorem Rb.lt (o : Rb w W tag' b cs) : b < W.heap.size := heap_lt o.row
theorem Rb.bx_ne (o : Rb w W tag' b cs) (hb : b < b2) : b2 ≠ b := by omega
/-- A row of one's own has turned. -/
theorem Fx.turn (h : Fx w W B tag tag' st f S D N k ca) (o : Rb w W tag' b cs) (hg : W.grownBy W' (some b)) (hS : S < w.heap.size) (hD : D < w.heap.size) : Fx w W' B tag tag' st f S D N k ca :=
  ⟨h.dv.own hg o.bare (by have := o.lo; omega) (by have := o.lo; omega), h.st.own hg o.lo⟩
/-- Bytes that came in can still be read. -/
structure In (w W : World) (tag' : Tags) (v : Value) (zs : List Int) : Prop where
  rd : RdAt W v zs
  bare : ∀ g, v.ownBlock = some g → tag' g = none
end Go.Proofs.Ytklboieemljmiab
