/-
  A set of tasks in a block; the contracts of find, keepsOff, mayStart.
-/
import Derived.Test.YtcnefmfmmgdidaaTIdx
namespace Go.Proofs.Ytcnefmfmmgdidaa
open Go.RowKit
set_option linter.unusedVariables false
set_option linter.unusedSimpArgs false

theorem below_drewN {B : Nat} {a w : World} (h : Below B a w) (n : Nat) : Below B a (w.drewN n) := ⟨h.os, h.tape, h.output, h.size, h.block⟩

structure St (base : Nat) (w : World) (B : Nat) (ts : List Tk) (st : Int) (v : Value) : Prop where
  lt : B < w.heap.size
  le : base ≤ B
  c0 : w.cell? ⟨B, 0, none⟩ = some v
  c1 : w.cell? ⟨B, 1, none⟩ = some (.int .i64 st)
  free : ∀ j, w.frozen? ⟨B, j, none⟩ = false
  own : Own base w v ts
  other : ∀ g, v.ownBlock = some g → g ≠ B
  few : ts.length ≤ 16

theorem St.keep {base : Nat} {w w' : World} {B : Nat} {ts : List Tk} {st : Int} {v : Value} (h : St base w B ts st v) (hs : w.heap.size ≤ w'.heap.size) (hB : w'.heap[B]? = w.heap[B]?) (hv : ∀ g, v.ownBlock = some g → w'.heap[g]? = w.heap[g]?) : St base w' B ts st v :=
  ⟨Nat.lt_of_lt_of_le h.lt hs, h.le, (World.cell?_of_block (w := w) (w' := w') (a := ⟨B, 0, none⟩) hB).trans h.c0, (World.cell?_of_block (w := w) (w' := w') (a := ⟨B, 1, none⟩) hB).trans h.c1, fun j => (World.frozen?_of_block (w := w) (w' := w') (a := ⟨B, j, none⟩) hB).trans (h.free j), h.own.of_block hv, h.other, h.few⟩
theorem St.below {base : Nat} {w w' : World} {B : Nat} {ts : List Tk} {st : Int} {v : Value} (h : St base w B ts st v) (hb : Below w.heap.size w w') : St base w' B ts st v :=
  h.keep hb.size (hb.block B h.lt) (fun g hg => hb.block g (h.own.lt hg).2)
theorem St.lower {base base' : Nat} {w : World} {B : Nat} {ts : List Tk} {st : Int} {v : Value} (h : St base w B ts st v) (hb : base' ≤ base) : St base' w B ts st v :=
  ⟨h.lt, Nat.le_trans hb h.le, h.c0, h.c1, h.free, h.own.lower hb, h.other, h.few⟩

/-- Is it this nexus' task of this tag? -/
abbrev isT (n g : Int) (t : Tk) : Bool := decide (t.nx = n ∧ t.tg = g)

set_option maxHeartbeats 1000000 in
theorem find_any (base B : Nat) (ts : List Tk) (st : Int) (v : Value) (n g : Int) (w : World) (h : St base w B ts st v) :
    Calls Try.prog 34 #[.pointer (some ⟨B, 0, none⟩), .int .i64 n, .int .u32 g] w fun e w' => e = .returned (.int .i64 (fidx (isT n g) ts 0)) ∧ Below w.heap.size w w' := by
  obtain ⟨w1, hw1⟩ : ∃ w1, w1 = (w.alloc (.cells #[.int .i64 n] 3)).alloc (.cells #[.int .u32 g] 29) := ⟨_, rfl⟩
  have hb1 : Below w.heap.size w w1 := by rw [hw1]; exact ((Below.refl _ _).alloc (Nat.le_refl _) _).alloc (by simp) _
  have hsz : w1.heap.size = w.heap.size + 2 := by rw [hw1]; simp
  have hp : w1.cell? ⟨w.heap.size, 0, none⟩ = some (.int .i64 n) := by rw [hw1]; simp
  have hq : w1.cell? ⟨w.heap.size + 1, 0, none⟩ = some (.int .u32 g) := by rw [hw1]; simp
  have h1 := h.below hb1
  have H := Kpt.mk (index_any 45 #[.pointer (some ⟨w.heap.size, 0, none⟩), .pointer (some ⟨w.heap.size + 1, 0, none⟩)] (isT n g) v ts w1 h1.own.rd (by have := h.few; omega) hcf45 (fun W hW t _ =>
    same_any t _ _ n g W ((hW.cell (p := ⟨w.heap.size, 0, none⟩) (by rw [hsz]; simp)).trans hp) ((hW.cell (p := ⟨w.heap.size + 1, 0, none⟩) (by rw [hsz]; simp)).trans hq) (Nat.lt_of_lt_of_le (by rw [hsz]; omega) hW.size) (Nat.lt_of_lt_of_le (by rw [hsz]; omega) hW.size)))
  have hb1K := Kpt.mk hb1
  have hc0 := h.c0
  have hlt := h.lt
  rw [hw1] at H
  replace hw1 := Kpt.mk hw1
  generalize fidx (isT n g) ts 0 = x at *
  clear h h1 hb1 hp hq hsz
  go_enter Try.func34, Try.ntmps34
  have hm := hmf
  go_wp2_with (go_at_call 44; go_must (refine H.out.mono ?_; rintro e w' ⟨rfl, hb⟩; rw [← hw1.out] at hb; replace hb := Kpt.mk hb))
  go_ret
  exact ⟨rfl, hb1K.out.trans (hb.out.mono hb1K.out.size)⟩

def kOff (st : Int) (t : Tk) : Bool := if st = -1 then decide (t.ar = 3) else decide (t.ar ≠ 3 ∨ t.nx ≠ st)

set_option maxHeartbeats 1000000 in
theorem keepsOff_any (base B : Nat) (ts : List Tk) (st : Int) (v : Value) (t : Tk) (w : World) (h : St base w B ts st v) :
    Calls Try.prog 35 #[.pointer (some ⟨B, 0, none⟩), .agg t.vals] w fun e w' => e = .returned (.bool (kOff st t)) ∧ Below w.heap.size w w' := by
  obtain ⟨nx, tg, ar, sd⟩ := t
  have hc1 := h.c1
  have hlt := h.lt
  clear h
  simp only [Tk.vals]
  by_cases hst : st = -1
  · subst hst
    go_enter Try.func35, Try.ntmps35
    go_wp2
    go_ret
    exact ⟨rfl, (Below.refl _ _).alloc (Nat.le_refl _) _⟩
  · by_cases h3 : ar = 3
    · subst h3
      go_enter Try.func35, Try.ntmps35
      go_wp2
      go_quiet (fail)
      go_wp2
      go_ret
      exact ⟨ret_bool (by simp [kOff, hst]; by_cases e : nx = st <;> simp [e]), below_drewN ((Below.refl _ _).alloc (Nat.le_refl _) _) _⟩
    · have hd : decide (ar = 3) = false := by simp [h3]
      go_enter Try.func35, Try.ntmps35
      go_wp2
      go_quiet (fail)
      go_wp2
      go_ret
      exact ⟨ret_bool (by simp [kOff, hst, h3]), below_drewN ((Below.refl _ _).alloc (Nat.le_refl _) _) _⟩
end Go.Proofs.Ytcnefmfmmgdidaa
