/-
  Tasks: rows of them; the closures that look at one.
-/
import Derived.Test.YtcnefmfmmgdidaaRows
import Derived.OpenShut
import Derived.Laws.CopyOwn
import Derived.Laws.AppendOwnNone
import Derived.Laws.OwnMore
import Derived.Deep.MidRow
import Derived.Outline
import Derived.ProofKit
import Derived.WalkKit
import Derived.Below
import Derived.BigQuiet
import Derived.Deep.QuietTactic
import Derived.Deep.RegionWith
import Derived.Deep.DeepMust
import Derived.OwnWalk
import Derived.Maps.AppendAt
namespace Go.Proofs.Ytcnefmfmmgdidaa
open Go.RowKit
set_option linter.unusedVariables false
set_option linter.unusedSimpArgs false

/-- A fact kept from the walk's sight. -/
structure Kpt (p : Prop) : Prop where
  out : p

theorem ret_int {k : IntKind} {a b : Int} (h : a = b) : Ending.returned (.int k a) = .returned (.int k b) := by rw [h]
theorem ret_bool {a b : Bool} (h : a = b) : Ending.returned (.bool a) = .returned (.bool b) := by rw [h]

/-- A task. -/
structure Tk where
  nx : Int
  tg : Int
  ar : Int
  st : Bool

abbrev Tk.vals (t : Tk) : Array Value := #[.int .i64 t.nx, .int .u32 t.tg, .int .u8 t.ar, .bool t.st]
def cels (ts : List Tk) : List Value := ts.flatMap (fun t => t.vals.toList)
theorem cels_nil : cels [] = [] := rfl
theorem cels_cons (t : Tk) (ts : List Tk) : cels (t :: ts) = t.vals.toList ++ cels ts := rfl
theorem cels_length (ts : List Tk) : (cels ts).length = ts.length * 4 := by
  induction ts with
  | nil => rfl
  | cons t ts ih => rw [cels_cons, List.length_append, ih]; simp [Nat.add_mul]; omega
theorem cels_append (a b : List Tk) : cels (a ++ b) = cels a ++ cels b := by simp [cels, List.flatMap_append]
theorem cels_one (ts : List Tk) : ∀ v ∈ cels ts, v.oneCell' = true := by
  intro v hv
  simp only [cels, List.mem_flatMap] at hv
  obtain ⟨t, _, h⟩ := hv
  simp [Tk.vals] at h
  rcases h with rfl | rfl | rfl | rfl <;> rfl
theorem cels_at : ∀ (ts : List Tk) (j i : Nat) (t : Tk), ts[j]? = some t → i < 4 → (cels ts)[j * 4 + i]? = t.vals[i]?
  | [], j, i, t, h, _ => by simp at h
  | u :: ts, 0, i, t, h, hi => by
    simp at h
    subst h
    rw [cels_cons, List.getElem?_append_left (by simp; omega), Nat.zero_mul, Nat.zero_add, Array.getElem?_toList]
  | u :: ts, j + 1, i, t, h, hi => by
    have h' : ts[j]? = some t := by simpa using h
    rw [cels_cons, List.getElem?_append_right (by simp; omega), ← cels_at ts j i t h' hi]
    congr 1
    simp
    omega

/-- A slice of tasks, owned whole. -/
def Own (base : Nat) (w : World) (v : Value) (ts : List Tk) : Prop := w.ownsRow base 48 4 v ts.length (cels ts)
/-- A slice of tasks that can be read. -/
def Rd (w : World) (v : Value) (ts : List Tk) : Prop :=
  ∃ a c, v = .slice a ts.length c ∧ (0 < ts.length → ∃ g, a = some ⟨g, 0, none⟩ ∧ g < w.heap.size ∧ ts.length ≤ c ∧ c ≤ maxLen ∧ ∀ j t, ts[j]? = some t → w.rangeAt g (j * 4) t.vals.toList)

theorem Own.lt {base : Nat} {w : World} {v : Value} {ts : List Tk} (h : Own base w v ts) {g : Nat} (hg : v.ownBlock = some g) : base ≤ g ∧ g < w.heap.size := World.ownsRow.lt h g hg
theorem Own.of_block {base : Nat} {w w' : World} {v : Value} {ts : List Tk} (h : Own base w v ts) (hb : ∀ g, v.ownBlock = some g → w'.heap[g]? = w.heap[g]?) : Own base w' v ts := by
  refine ⟨h.1, ?_⟩
  rcases h.2 with hn | ⟨g, cap, cur, rfl, h0, hgg, rest⟩
  · exact .inl hn
  · exact .inr ⟨g, cap, cur, rfl, h0, (hb g rfl).trans hgg, rest⟩
theorem Own.lower {base base' : Nat} {w : World} {v : Value} {ts : List Tk} (h : Own base w v ts) (hb : base' ≤ base) : Own base' w v ts := by
  refine ⟨h.1, ?_⟩
  rcases h.2 with h | ⟨g, cap, cur, rfl, h0, rest⟩
  · exact .inl h
  · exact .inr ⟨g, cap, cur, rfl, Nat.le_trans hb h0, rest⟩
theorem own_nil (base : Nat) (w : World) : Own base w (.slice none 0 0) [] := World.ownsRow_nil _ _ _ _
theorem Own.shape {base : Nat} {w : World} {v : Value} {ts : List Tk} (h : Own base w v ts) : ∃ a c, v = .slice a ts.length c ∧ ((a = none ∧ c = 0 ∧ ts.length = 0) ∨ ∃ g, a = some ⟨g, 0, none⟩ ∧ base ≤ g ∧ g < w.heap.size ∧ ts.length ≤ c ∧ c ≤ maxLen ∧ (∀ j, w.frozen? ⟨g, j, none⟩ = false) ∧ ∀ j t, ts[j]? = some t → w.rangeAt g (j * 4) t.vals.toList) := by
  rcases id h.2 with ⟨rfl, h0⟩ | ⟨g, cap, cur, rfl, hb, hg, h1, h2, rest⟩
  · exact ⟨none, 0, by rw [h0], .inl ⟨rfl, rfl, h0⟩⟩
  · refine ⟨_, cap, rfl, .inr ⟨g, rfl, hb, (World.ownsRow.lt h g rfl).2, h1, h2, fun j => World.ownsRow.frozenAt h j, fun j t hj i u hu => ?_⟩⟩
    have hj' : j < ts.length := (List.getElem?_eq_some_iff.1 hj).1
    have hi : i < 4 := by have := (List.getElem?_eq_some_iff.1 hu).1; simpa using this
    rw [World.ownsRow.cellAt h (j * 4 + i) (by omega), cels_at ts j i t hj hi, ← hu, Array.getElem?_toList]
theorem Own.rd {base : Nat} {w : World} {v : Value} {ts : List Tk} (h : Own base w v ts) : Rd w v ts := by
  obtain ⟨a, c, hv, hs⟩ := h.shape
  refine ⟨a, c, hv, fun h0 => ?_⟩
  rcases hs with ⟨_, _, h⟩ | ⟨g, h1, _, h2, h3, h4, _, h5⟩
  · omega
  · exact ⟨g, h1, h2, h3, h4, h5⟩
theorem rangeAt_of_block {w w' : World} {b o : Nat} {cs : List Value} (h : w.rangeAt b o cs) (hb : w'.heap[b]? = w.heap[b]?) : w'.rangeAt b o cs :=
  fun j v hv => (World.cell?_of_block (w := w) (w' := w') (a := ⟨b, o + j, none⟩) hb).trans (h j v hv)
theorem range4 {w : World} {b o : Nat} {t : Tk} (h : w.rangeAt b o t.vals.toList) : w.cell? ⟨b, o, none⟩ = some (.int .i64 t.nx) ∧ w.cell? ⟨b, o + 1, none⟩ = some (.int .u32 t.tg) ∧ w.cell? ⟨b, o + 2, none⟩ = some (.int .u8 t.ar) ∧ w.cell? ⟨b, o + 3, none⟩ = some (.bool t.st) :=
  ⟨h 0 _ rfl, h 1 _ rfl, h 2 _ rfl, h 3 _ rfl⟩
theorem Rd.below {w w' : World} {n : Nat} {v : Value} {ts : List Tk} (h : Rd w v ts) (hn : w.heap.size ≤ n) (hb : Below n w w') : Rd w' v ts := by
  obtain ⟨a, c, hv, h⟩ := h
  refine ⟨a, c, hv, fun h0 => ?_⟩
  obtain ⟨g, h1, h2, h3, h4, h5⟩ := h h0
  exact ⟨g, h1, Nat.lt_of_lt_of_le h2 hb.size, h3, h4, fun j t hj => rangeAt_of_block (h5 j t hj) (hb.block g (by omega))⟩
theorem Rd.take {w : World} {a : Option Addr} {m c : Nat} {ts : List Tk} (h : Rd w (.slice a m c) ts) (n : Nat) (hn : n ≤ ts.length) : Rd w (.slice a n c) (ts.take n) := by
  obtain ⟨a', c', hv, h⟩ := h
  simp only [Value.slice.injEq] at hv
  obtain ⟨rfl, rfl, rfl⟩ := hv
  have hl : (ts.take n).length = n := by simp; omega
  refine ⟨a, c, by rw [hl], fun h0 => ?_⟩
  obtain ⟨g, h1, h2, h3, h4, h5⟩ := h (by omega)
  refine ⟨g, h1, h2, by omega, h4, fun j t hj => h5 j t ?_⟩
  rw [List.getElem?_take] at hj
  split at hj
  · exact hj
  · cases hj

/-- The first task of which p holds; -1: none. -/
def fidx (p : Tk → Bool) : List Tk → Nat → Int
  | [], _ => -1
  | t :: r, i => if p t = true then (i : Int) else fidx p r (i + 1)

theorem hmf : ∀ (fn : Fn) (first cap : Array Value) (w : World), (Instr.makeFunc fn first cap).run Try.prog w = .ok (.func fn first cap) w := fun _ _ _ _ => rfl

/-- find's closure. -/
theorem same_any (t : Tk) (p q : Nat) (n g : Int) (w : World) (hp : w.cell? ⟨p, 0, none⟩ = some (.int .i64 n)) (hq : w.cell? ⟨q, 0, none⟩ = some (.int .u32 g)) (hpl : p < w.heap.size) (hql : q < w.heap.size) :
    Calls Try.prog 45 #[.agg t.vals, .pointer (some ⟨p, 0, none⟩), .pointer (some ⟨q, 0, none⟩)] w fun e w' => e = .returned (.bool (decide (t.nx = n ∧ t.tg = g))) ∧ Below w.heap.size w w' := by
  obtain ⟨a, b, c, d⟩ := t
  simp only [Tk.vals]
  by_cases h1 : a = n
  · subst h1
    by_cases h2 : b = g
    · subst h2
      go_enter Try.func45, Try.ntmps45
      go_wp2
      go_ret
      exact ⟨ret_bool (by simp), (Below.refl _ _).alloc (Nat.le_refl _) _⟩
    · go_enter Try.func45, Try.ntmps45
      go_wp2
      go_ret
      exact ⟨ret_bool (by simp [h2]), (Below.refl _ _).alloc (Nat.le_refl _) _⟩
  · go_enter Try.func45, Try.ntmps45
    go_wp2
    go_ret
    exact ⟨ret_bool (by simp [h1]), (Below.refl _ _).alloc (Nat.le_refl _) _⟩
/-- hasAny's closure. -/
theorem attr_any (t : Tk) (p : Nat) (n : Int) (w : World) (hp : w.cell? ⟨p, 0, none⟩ = some (.int .u8 n)) (hpl : p < w.heap.size) :
    Calls Try.prog 47 #[.agg t.vals, .pointer (some ⟨p, 0, none⟩)] w fun e w' => e = .returned (.bool (decide (t.ar = n))) ∧ Below w.heap.size w w' := by
  obtain ⟨a, b, c, d⟩ := t
  simp only [Tk.vals]
  go_enter Try.func47, Try.ntmps47
  go_wp2
  go_ret
  exact ⟨rfl, (Below.refl _ _).alloc (Nat.le_refl _) _⟩
theorem nexus_any (t : Tk) (p : Nat) (n : Int) (w : World) (hp : w.cell? ⟨p, 0, none⟩ = some (.int .i64 n)) (hpl : p < w.heap.size) :
    Calls Try.prog 40 #[.agg t.vals, .pointer (some ⟨p, 0, none⟩)] w fun e w' => e = .returned (.bool (decide (t.nx = n))) ∧ Below w.heap.size w w' := by
  obtain ⟨a, b, c, d⟩ := t
  simp only [Tk.vals]
  go_enter Try.func40, Try.ntmps40
  go_wp2
  go_ret
  exact ⟨rfl, (Below.refl _ _).alloc (Nat.le_refl _) _⟩
theorem every_any (t : Tk) (w : World) : Calls Try.prog 39 #[.agg t.vals] w fun e w' => e = .returned (.bool true) ∧ Below w.heap.size w w' := by
  obtain ⟨a, b, c, d⟩ := t
  simp only [Tk.vals]
  go_enter Try.func39, Try.ntmps39
  go_wp2
  go_ret
  exact ⟨rfl, by first | exact Below.refl _ _ | exact (Below.refl _ _).alloc (Nat.le_refl _) _⟩
theorem forACA_any (t : Tk) (w : World) : Calls Try.prog 38 #[.agg t.vals] w fun e w' => e = .returned (.bool (decide (t.ar = 3))) ∧ Below w.heap.size w w' := by
  obtain ⟨a, b, c, d⟩ := t
  simp only [Tk.vals]
  go_enter Try.func38, Try.ntmps38
  go_wp2
  go_ret
  exact ⟨rfl, (Below.refl _ _).alloc (Nat.le_refl _) _⟩
end Go.Proofs.Ytcnefmfmmgdidaa
