/-
  Rows of pairs; a table in a block, and what is asked of it.
-/
import Derived.Test.YtmnoolcffkjmhaaRows
import Derived.OpenShut
import Derived.Laws.CopyOwn
import Derived.Laws.AppendOwnNone
import Derived.Laws.OwnMore
import Derived.Deep.MidRow
import Derived.Outline
import Derived.ProofKit
import Derived.WalkKit
import Derived.Below
import Derived.BigQuiet
import Derived.Deep.QuietTactic
import Derived.Deep.RegionWith
import Derived.Deep.DeepMust
import Derived.OwnWalk
import Derived.Maps.AppendAt
namespace Go.Proofs.Ytmnoolcffkjmhaa
open Go.RowKit
set_option linter.unusedVariables false
set_option linter.unusedSimpArgs false

/-- A fact kept from the walk's sight. -/
structure Kpt (p : Prop) : Prop where
  out : p

theorem ret_int {k : IntKind} {a b : Int} (h : a = b) : Ending.returned (.int k a) = .returned (.int k b) := by rw [h]
theorem ret_bool {a b : Bool} (h : a = b) : Ending.returned (.bool a) = .returned (.bool b) := by rw [h]
theorem below_drewN {B : Nat} {a w : World} (h : Below B a w) (n : Nat) : Below B a (w.drewN n) := ⟨h.os, h.tape, h.output, h.size, h.block⟩

/-! ### Rows of pairs -/
abbrev pv (κ : IntKind) (p : Int × Int) : Array Value := #[.int .i64 p.1, .int κ p.2]
def cel (κ : IntKind) (ts : List (Int × Int)) : List Value := ts.flatMap (fun t => (pv κ t).toList)
theorem cel_cons (κ : IntKind) (t : Int × Int) (ts : List (Int × Int)) : cel κ (t :: ts) = (pv κ t).toList ++ cel κ ts := rfl
theorem cel_length (κ : IntKind) (ts : List (Int × Int)) : (cel κ ts).length = ts.length * 2 := by
  induction ts with
  | nil => rfl
  | cons t ts ih => rw [cel_cons, List.length_append, ih]; simp [Nat.add_mul]; omega
theorem cel_append (κ : IntKind) (a b : List (Int × Int)) : cel κ (a ++ b) = cel κ a ++ cel κ b := by simp [cel, List.flatMap_append]
theorem cel_one (κ : IntKind) (ts : List (Int × Int)) : ∀ v ∈ cel κ ts, v.oneCell' = true := by
  intro v hv
  simp only [cel, List.mem_flatMap] at hv
  obtain ⟨t, _, h⟩ := hv
  simp at h
  rcases h with rfl | rfl <;> rfl
theorem cel_at (κ : IntKind) : ∀ (ts : List (Int × Int)) (j i : Nat) (t : Int × Int), ts[j]? = some t → i < 2 → (cel κ ts)[j * 2 + i]? = (pv κ t)[i]?
  | [], j, i, t, h, _ => by simp at h
  | u :: ts, 0, i, t, h, hi => by
    simp at h
    subst h
    rw [cel_cons, List.getElem?_append_left (by simp; omega), Nat.zero_mul, Nat.zero_add, Array.getElem?_toList]
  | u :: ts, j + 1, i, t, h, hi => by
    have h' : ts[j]? = some t := by simpa using h
    rw [cel_cons, List.getElem?_append_right (by simp; omega), ← cel_at κ ts j i t h' hi]
    congr 1
    simp
    omega

/-- A slice of pairs, owned whole. -/
def Own (κ : IntKind) (ty : TypeId) (base : Nat) (w : World) (v : Value) (ts : List (Int × Int)) : Prop := w.ownsRow base ty 2 v ts.length (cel κ ts)
section
variable {κ : IntKind} {ty : TypeId} {base : Nat} {w : World} {v : Value} {ts : List (Int × Int)}
theorem Own.lt (h : Own κ ty base w v ts) {g : Nat} (hg : v.ownBlock = some g) : base ≤ g ∧ g < w.heap.size := World.ownsRow.lt h g hg
theorem Own.of_block {w' : World} (h : Own κ ty base w v ts) (hb : ∀ g, v.ownBlock = some g → w'.heap[g]? = w.heap[g]?) : Own κ ty base w' v ts := by
  refine ⟨h.1, ?_⟩
  rcases h.2 with hn | ⟨g, cap, cur, rfl, h0, hgg, rest⟩
  · exact .inl hn
  · exact .inr ⟨g, cap, cur, rfl, h0, (hb g rfl).trans hgg, rest⟩
theorem Own.lower {base' : Nat} (h : Own κ ty base w v ts) (hb : base' ≤ base) : Own κ ty base' w v ts := by
  refine ⟨h.1, ?_⟩
  rcases h.2 with h | ⟨g, cap, cur, rfl, h0, rest⟩
  · exact .inl h
  · exact .inr ⟨g, cap, cur, rfl, Nat.le_trans hb h0, rest⟩
theorem own_nil (κ : IntKind) (ty : TypeId) (base : Nat) (w : World) : Own κ ty base w (.slice none 0 0) [] := World.ownsRow_nil _ _ _ _
theorem rangeAt_of_block {w w' : World} {b o : Nat} {cs : List Value} (h : w.rangeAt b o cs) (hb : w'.heap[b]? = w.heap[b]?) : w'.rangeAt b o cs :=
  fun j v hv => (World.cell?_of_block (w := w) (w' := w') (a := ⟨b, o + j, none⟩) hb).trans (h j v hv)
theorem Own.shape (h : Own κ ty base w v ts) : ∃ a c, v = .slice a ts.length c ∧ ((a = none ∧ c = 0 ∧ ts.length = 0) ∨ ∃ g, a = some ⟨g, 0, none⟩ ∧ base ≤ g ∧ g < w.heap.size ∧ ts.length ≤ c ∧ c ≤ maxLen ∧ ∀ j t, ts[j]? = some t → w.rangeAt g (j * 2) (pv κ t).toList) := by
  rcases id h.2 with ⟨rfl, h0⟩ | ⟨g, cap, cur, rfl, hb, hg, h1, h2, rest⟩
  · exact ⟨none, 0, by rw [h0], .inl ⟨rfl, rfl, h0⟩⟩
  · refine ⟨_, cap, rfl, .inr ⟨g, rfl, hb, (World.ownsRow.lt h g rfl).2, h1, h2, fun j t hj i u hu => ?_⟩⟩
    have hj' : j < ts.length := (List.getElem?_eq_some_iff.1 hj).1
    have hi : i < 2 := by have := (List.getElem?_eq_some_iff.1 hu).1; simpa using this
    rw [World.ownsRow.cellAt h (j * 2 + i) (by omega), cel_at κ ts j i t hj hi, ← hu, Array.getElem?_toList]
end
theorem range2 {κ : IntKind} {w : World} {b o : Nat} {t : Int × Int} (h : w.rangeAt b o (pv κ t).toList) : w.cell? ⟨b, o, none⟩ = some (.int .i64 t.1) ∧ w.cell? ⟨b, o + 1, none⟩ = some (.int κ t.2) :=
  ⟨h 0 _ rfl, h 1 _ rfl⟩
theorem range_new (κ : IntKind) (w : World) (t : Int × Int) (ty : TypeId) : (w.alloc (.cells (pv κ t) ty)).rangeAt w.heap.size 0 (pv κ t).toList := fun j v hv => by
  have : (w.alloc (.cells (pv κ t) ty)).cell? ⟨w.heap.size, 0 + j, none⟩ = (pv κ t)[0 + j]? := by simp
  rw [this, ← hv, Array.getElem?_toList, Nat.zero_add]

/-- A row that can be read whole. -/
def RowOf (κ : IntKind) (w : World) (x : Value) (us : List (Int × Int)) : Prop :=
  (x = .slice none 0 0 ∧ us = []) ∨ ∃ g c, x = .slice (some ⟨g, 0, none⟩) us.length c ∧ g < w.heap.size ∧ ∀ j u, (cel κ us)[j]? = some u → w.cell? ⟨g, j, none⟩ = some u
theorem Own.row {κ : IntKind} {ty : TypeId} {base : Nat} {w : World} {v : Value} {ts : List (Int × Int)} (h : Own κ ty base w v ts) : RowOf κ w v ts := by
  rcases id h.2 with ⟨rfl, h0⟩ | ⟨g, cap, cur, rfl, hb, hg, h1, h2, rest⟩
  · exact .inl ⟨rfl, List.eq_nil_of_length_eq_zero h0⟩
  · refine .inr ⟨g, cap, rfl, (World.ownsRow.lt h g rfl).2, fun j u hu => ?_⟩
    have hj : j < ts.length * 2 := by have := (List.getElem?_eq_some_iff.1 hu).1; rw [cel_length] at this; exact this
    rw [World.ownsRow.cellAt h j hj, hu]

theorem Try.infoRG : (Try.prog.info? 67).map (fun i => (i.zero, i.size, i.bytes)) = some (some (.agg #[.int .i64 0, .int .u64 0]), 2, 16) := by kernel_rfl
theorem Try.infoEV : (Try.prog.info? 55).map (fun i => (i.zero, i.size, i.bytes)) = some (some (.agg #[.int .i64 0, .int .u16 0]), 2, 16) := by kernel_rfl

/-- append of a row that can be read. -/
theorem wpList_append_row {κ : IntKind} {sl ty : TypeId} {z : Value} {bs : Nat} (hu : Try.prog.underlying sl = some (.slice ty)) (hinf : (Try.prog.info? ty).map (fun i => (i.zero, i.size, i.bytes)) = some (some z, 2, bs)) (hz : z.cells.size = 2) (hbs : 0 < bs ∧ bs ≤ 16)
    {w : World} {ops : Array Oper} {rest : List Oper} {o : Oper} {a : Act} {Q : Exit → Act → World → Prop} (hgd : o.guard = none) (d s : Operand)
    (ho : o.op = .call { callee := .builtin .append, args := #[d, s], argTypes := #[sl, sl] })
    (base : Nat) (v x : Value) (ts us : List (Int × Int)) (hd : a.eval d = v) (hs : a.eval s = x) (hrow : RowOf κ w x us) (hown : Own κ ty base w v ts) (hl : ts.length + us.length ≤ 100) (hbase : base ≤ w.heap.size)
    (h : ∀ v' w', Kpt (Own κ ty base w' v' (ts ++ us)) → Kpt (w.grownBy w' v.ownBlock) → Kpt (v'.ownBlock = v.ownBlock ∨ v'.ownBlock = some w.heap.size) → wpList Try.prog ops Q rest (a.put o.dst v') w') : wpList Try.prog ops Q (o :: rest) a w := by
  obtain ⟨i0, hi0, hz0, hz1, hz2⟩ := info_parts hinf
  rcases hrow with ⟨rfl, rfl⟩ | ⟨g, c, rfl, hg, hc⟩
  · refine wpList_append_own_none hgd d s sl ho base ty i0 2 hu hi0 v ts.length (cel κ ts) hd hown hs ?_
    exact h v w ⟨by rw [List.append_nil]; exact hown⟩ ⟨⟨rfl, rfl, rfl, Nat.le_refl _, fun _ _ _ => rfl⟩⟩ ⟨.inl rfl⟩
  · refine wpList_append_own_at _ hgd d s sl ho base ty i0 z 2 bs hu hi0 hz0 hz1 hz2 (by first | exact hz | simpa using hz) (by omega) v ts.length (cel κ ts) hd hown ⟨g, 0, none⟩ us.length c (cel κ us) hs (cel_length κ us) (fun j u hu => by rw [Go.WideShapes.add_plain, Nat.zero_add]; exact hc j u hu) (cel_one κ us) (by unfold maxLen; omega) (by have : (ts.length + us.length) * bs ≤ 100 * 16 := Nat.mul_le_mul hl hbs.2; omega) hbase ?_
    intro v' w' h1 h2 _ h3
    exact h v' w' ⟨by unfold Own; rw [cel_append, List.length_append]; exact h1⟩ ⟨h2⟩ ⟨h3⟩
theorem rowOf_new (κ : IntKind) (w : World) (t : Int × Int) (ty : TypeId) : RowOf κ (w.alloc (.cells (pv κ t) ty)) (.slice (some ⟨w.heap.size, 0, none⟩) 1 1) [t] :=
  .inr ⟨w.heap.size, 1, rfl, by simp, fun j u hu => by
    have := range_new κ w t ty j u (by simpa [cel] using hu)
    rw [Nat.zero_add] at this
    exact this⟩
theorem rowOf_at (κ : IntKind) (w : World) (t : Int × Int) (ty : TypeId) (b : Nat) (hb : b = w.heap.size) : RowOf κ (w.alloc (.cells (pv κ t) ty)) (.slice (some ⟨b, 0, none⟩) 1 1) [t] := by
  subst hb
  exact rowOf_new κ w t ty
end Go.Proofs.Ytmnoolcffkjmhaa
