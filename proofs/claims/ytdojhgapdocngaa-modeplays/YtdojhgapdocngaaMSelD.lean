/-
  Three that may come up; Select of nothing.
-/
import Derived.Test.YtdojhgapdocngaaMSelC
namespace Go.Proofs.Ytdojhgapdocngaa
open Go.RowKit
set_option linter.unusedVariables false
set_option linter.unusedSimpArgs false

section
variable {P : Program} {md : Region.Mode} {ops : Array Oper} {C : World → Prop} {Q : Exit → Act → World → Prop}
/-- Three may come up. -/
theorem wpAnyC_three (i j k : Nat) {oi oj ok : Oper} {fuel : Nat} {listed : Array Bool} {a : Act} {w : World} (hC : C w) (hi : ops[i]? = some oi) (hj : ops[j]? = some oj) (hk : ops[k]? = some ok) (hr : Region.ready md ops listed = [i, j, k]) (hwi : Region.wanted oi (yielded ops a.tmps) = true) (hwj : Region.wanted oj (yielded ops a.tmps) = true) (hwk : Region.wanted ok (yielded ops a.tmps) = true)
    (h : ∀ K : Act → World → Prop, (∀ a w, wpAnyC P md ops C Q fuel (listed.setIfInBounds i true) a w → K a w) → oi.wp P a w K Q)
    (h2 : ∀ K : Act → World → Prop, (∀ a w, wpAnyC P md ops C Q fuel (listed.setIfInBounds j true) a w → K a w) → oj.wp P a w K Q)
    (h3 : ∀ K : Act → World → Prop, (∀ a w, wpAnyC P md ops C Q fuel (listed.setIfInBounds k true) a w → K a w) → ok.wp P a w K Q) : wpAnyC P md ops C Q (fuel + 1) listed a w := by
  refine ⟨hC, (fun h0 => by rw [hr] at h0; cases h0), fun x hx => ?_⟩
  rw [hr] at hx
  simp only [List.mem_cons, List.not_mem_nil, or_false] at hx
  unfold wpOp
  rcases hx with rfl | rfl | rfl
  · simp only [hi, hwi, if_true]
    exact .inl (h _ (fun _ _ h => h))
  · simp only [hj, hwj, if_true]
    exact .inl (h2 _ (fun _ _ h => h))
  · simp only [hk, hwk, if_true]
    exact .inl (h3 _ (fun _ _ h => h))
end

theorem Pg.alloc {w : World} {B : Nat} {n s : Vs} (h : Pg w B n s) (o : Obj) : Pg (w.alloc o) B n s := h.below' ((Below.refl _ _).alloc (Nat.le_refl _) _)
theorem Pg.drew {w : World} {B : Nat} {n s : Vs} (h : Pg w B n s) : Pg w.drew B n s := ⟨h.lt, h.c0, h.c1, h.c2, h.c3, h.c4, h.c5, h.free⟩
theorem Cl.alloc {w : World} {b off : Nat} {r : List Int} (h : Cl w b off r) (hl : b < w.heap.size) (o : Obj) : Cl (w.alloc o) b off r := h.below ((Below.refl _ _).alloc (Nat.le_refl _) _) hl
theorem pg_now {w : World} {B : Nat} {n s : Vs} (h : Pg w B n s) (a b c : Bool) : Pg (((w.setCell ⟨B, 0, none⟩ (.bool a)).setCell ⟨B, 1, none⟩ (.bool b)).setCell ⟨B, 2, none⟩ (.bool c)) B ⟨a, b, c⟩ s := by
  have h0 := h.c0
  have h1 := h.c1
  have h2 := h.c2
  have h3 := h.c3
  have h4 := h.c4
  have h5 := h.c5
  have hl := h.lt
  have hf := h.free
  refine ⟨?_, ?_, ?_, ?_, ?_, ?_, ?_, fun j => ?_⟩ <;> simp [go_sem, h0, h1, h2, h3, h4, h5, hl, hf]
theorem pg_saved {w : World} {B : Nat} {n s : Vs} (h : Pg w B n s) (a b c : Bool) : Pg (((w.setCell ⟨B, 3, none⟩ (.bool a)).setCell ⟨B, 4, none⟩ (.bool b)).setCell ⟨B, 5, none⟩ (.bool c)) B n ⟨a, b, c⟩ := by
  have h0 := h.c0
  have h1 := h.c1
  have h2 := h.c2
  have h3 := h.c3
  have h4 := h.c4
  have h5 := h.c5
  have hl := h.lt
  have hf := h.free
  refine ⟨?_, ?_, ?_, ?_, ?_, ?_, ?_, fun j => ?_⟩ <;> simp [go_sem, h0, h1, h2, h3, h4, h5, hl, hf]

theorem select_nil (c : Cm) (a : Option Addr) (l k : Nat) (w : World) : Calls Try.prog 12 #[.pointer none, .agg c.vals, .slice a l k] w fun e w' => e = .returned (.tuple #[.bool false, .agg noS.vals, .bool true]) ∧ Below w.heap.size w w' := by
  obtain ⟨kd, lg, lba, bl, al, fua, pr, um, ev, pg, ct, sv, se, ty, bs⟩ := c
  simp only [Cm.vals]
  go_enter Try.func12, Try.ntmps12
  go_wp2
  refine bodyPost_ret (v := .tuple #[.bool false, .agg noS.vals, .bool true]) (by simp [results, Try.results12, go_sem, noS, Sn.vals]) rfl ⟨rfl, ((Below.refl _ _).alloc (Nat.le_refl _) _).alloc (by simp) _⟩
theorem select_none (B : Nat) (c : Cm) (a : Option Addr) (k : Nat) (w : World) : Calls Try.prog 12 #[.pointer (some ⟨B, 0, none⟩), .agg c.vals, .slice a 0 k] w fun e w' => e = .returned (.tuple #[.bool false, .agg noS.vals, .bool true]) ∧ Below w.heap.size w w' := by
  obtain ⟨kd, lg, lba, bl, al, fua, pr, um, ev, pg, ct, sv, se, ty, bs⟩ := c
  simp only [Cm.vals]
  go_enter Try.func12, Try.ntmps12
  go_wp2
  refine bodyPost_ret (v := .tuple #[.bool false, .agg noS.vals, .bool true]) (by simp [results, Try.results12, go_sem, noS, Sn.vals]) rfl ⟨rfl, ((Below.refl _ _).alloc (Nat.le_refl _) _).alloc (by simp) _⟩
theorem Pg.drewN {w : World} {B : Nat} {n s : Vs} (h : Pg w B n s) (q : Nat) : Pg (w.drewN q) B n s := ⟨h.lt, h.c0, h.c1, h.c2, h.c3, h.c4, h.c5, h.free⟩
theorem Bx.set_far {w : World} {b : Nat} {cs : Array Value} (h : Bx w b cs) (a : Addr) (v : Value) (ha : a.block ≠ b) : Bx (w.setCell a v) b cs := h.grown (grown_setCell w a v) (fun e => ha (Option.some.inj e))
theorem grown_then {w w1 w2 : World} {B q : Nat} (h : w.grownBy w1 (some B)) (h2 : w1.grownBy w2 (some q)) (hq : q = B ∨ w.heap.size ≤ q) : w.grownBy w2 (some B) :=
  ⟨h2.os.trans h.os, h2.tape.trans h.tape, h2.output.trans h.output, Nat.le_trans h.size h2.size, fun k hk hne => (h2.block k (Nat.lt_of_lt_of_le hk h.size) (fun e => by
    have e' : k = q := Option.some.inj e
    rcases hq with h3 | h3
    · exact hne (by rw [e', h3])
    · omega)).trans (h.block k hk hne)⟩
theorem grown_drewN {w w1 : World} {r : Option Nat} (h : w.grownBy w1 r) (q : Nat) : w.grownBy (w1.drewN q) r := ⟨h.os, h.tape, h.output, h.size, h.block⟩
theorem pg_there {w : World} {B : Nat} {n s : Vs} (h : Pg w B n s) (o : Nat) (ho : o = 0 ∨ o = 3) : w.there B o 3 := fun j hj => by
  have h0 := h.c0
  have h1 := h.c1
  have h2 := h.c2
  have h3 := h.c3
  have h4 := h.c4
  have h5 := h.c5
  have hf := h.free
  refine ⟨?_, hf _⟩
  have hj3 : j = 0 ∨ j = 1 ∨ j = 2 := by omega
  rcases ho with rfl | rfl <;> rcases hj3 with rfl | rfl | rfl <;> simp [h0, h1, h2, h3, h4, h5]
theorem wpList_store_now {w : World} {ops : Array Oper} {rest : List Oper} {o : Oper} {a : Act} {Q : Exit → Act → World → Prop} (hgd : o.guard = none) (x y : Operand)
    (ho : o.op = .store 23 x y) (B : Nat) (v n s : Vs) (hx : a.eval x = .pointer (some ⟨B, 0, none⟩)) (hy : a.eval y = .agg v.vals) (hP : Pg w B n s) (hdst : o.dst = none)
    (h : ∀ w', Pg w' B v s → w.grownBy w' (some B) → wpList Try.prog ops Q rest a w') : wpList Try.prog ops Q (o :: rest) a w :=
  wpList_plain hgd fun K hK => wp_store_mid 23 x y ho B 0 v.vals hx hy (pg_there hP 0 (.inl rfl)) infoV (Vs.vals_one v) (hK _ _ (by rw [hdst]; exact h _ (pg_now hP v.a v.b v.c) (grown_setCells B v.vals.toList 0 w)))
theorem wpList_store_saved {w : World} {ops : Array Oper} {rest : List Oper} {o : Oper} {a : Act} {Q : Exit → Act → World → Prop} (hgd : o.guard = none) (x y : Operand)
    (ho : o.op = .store 23 x y) (B : Nat) (v n s : Vs) (hx : a.eval x = .pointer (some ⟨B, 3, none⟩)) (hy : a.eval y = .agg v.vals) (hP : Pg w B n s) (hdst : o.dst = none)
    (h : ∀ w', Pg w' B n v → w.grownBy w' (some B) → wpList Try.prog ops Q rest a w') : wpList Try.prog ops Q (o :: rest) a w :=
  wpList_plain hgd fun K hK => wp_store_mid 23 x y ho B 3 v.vals hx hy (pg_there hP 3 (.inr rfl)) infoV (Vs.vals_one v) (hK _ _ (by rw [hdst]; exact h _ (pg_saved hP v.a v.b v.c) (grown_setCells B v.vals.toList 3 w)))
def neV (x y : Vs) : Bool := (x.a != y.a) || (x.b != y.b) || (x.c != y.c)
theorem neq_vs (a b c a' b' c' : Bool) (W : World) : (binOp .neq 23 (.agg #[.bool a, .bool b, .bool c]) (.agg #[.bool a', .bool b', .bool c'])).run Try.prog W = .ok (.bool (neV ⟨a, b, c⟩ ⟨a', b', c'⟩)) W := by
  cases a <;> cases b <;> cases c <;> cases a' <;> cases b' <;> cases c' <;> kernel_rfl
theorem eql_vs (a b c a' b' c' : Bool) (W : World) : (binOp .eql 23 (.agg #[.bool a, .bool b, .bool c]) (.agg #[.bool a', .bool b', .bool c'])).run Try.prog W = .ok (.bool (!neV ⟨a, b, c⟩ ⟨a', b', c'⟩)) W := by
  cases a <;> cases b <;> cases c <;> cases a' <;> cases b' <;> cases c' <;> kernel_rfl
theorem neV_eq {x y : Vs} : neV x y = false ↔ x = y := by
  obtain ⟨a, b, c⟩ := x
  obtain ⟨a', b', c'⟩ := y
  cases a <;> cases b <;> cases c <;> cases a' <;> cases b' <;> cases c' <;> simp [neV]
end Go.Proofs.Ytdojhgapdocngaa
