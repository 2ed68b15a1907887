/-
  Queues between calls: what is known of the lists, and a row beside them.
-/
import Derived.Test.YtodppeldliliaaaAVoid
namespace Go.Proofs.Ytodppeldliliaaa
open Go.RowKit
set_option linter.unusedVariables false
set_option linter.unusedSimpArgs false

theorem upd_at {α : Type} (L : Nat → α) (n : Nat) (x : α) : upd L n x n = x := by simp [upd]
theorem upd_ne {α : Type} (L : Nat → α) (n m : Nat) (x : α) (h : m ≠ n) : upd L n x m = L m := by simp [upd, h]
theorem below_drewN {B : Nat} {a w : World} (h : Below B a w) (n : Nat) : Below B a (w.drewN n) := ⟨h.os, h.tape, h.output, h.size, h.block⟩

/-- A row of codes beside the queues. -/
def Rowb (W : World) (B : Nat) (S : Nat → Value) (a : Option Addr) (zs : List Int) : Prop :=
  0 < zs.length → ∃ g, a = some ⟨g, 0, none⟩ ∧ Beside W B S g ∧ ∀ j, j < zs.length → W.cell? ⟨g, j, none⟩ = some (.int .u16 (zs.getD j 0))

theorem Rowb.keep {w w' : World} {B : Nat} {S S' : Nat → Value} {a : Option Addr} {zs : List Int} (h : Rowb w B S a zs) (ht : Turned w w' B S S') : Rowb w' B S' a zs := fun h0 => by
  obtain ⟨g, ha, hb, hc⟩ := h h0
  obtain ⟨h1, h2⟩ := hb.keep ht
  exact ⟨g, ha, h1, fun j hj => (World.cell?_of_block (w := w) (w' := w') (a := ⟨g, j, none⟩) h2).trans (hc j hj)⟩

/-- Queues in block B, of whose lists P holds; a row beside them; all below w0 is as it was. -/
def Qs (w0 W : World) (B : Nat) (P : (Nat → List Int) → Prop) (a : Option Addr) (zs : List Int) : Prop :=
  ∃ L S, Qu B W B L S ∧ P L ∧ Rowb W B S a zs ∧ Below w0.heap.size w0 W

theorem Qs.below {w0 W : World} {B : Nat} {P : (Nat → List Int) → Prop} {a : Option Addr} {zs : List Int} (h : Qs w0 W B P a zs) : Below w0.heap.size w0 W := by
  obtain ⟨_, _, _, _, _, h⟩ := h; exact h
theorem Qs.weak {w0 W : World} {B : Nat} {P P' : (Nat → List Int) → Prop} {a : Option Addr} {zs : List Int} (h : Qs w0 W B P a zs) (hp : ∀ L, P L → P' L) : Qs w0 W B P' a zs := by
  obtain ⟨L, S, h1, h2, h3, h4⟩ := h; exact ⟨L, S, h1, hp _ h2, h3, h4⟩
theorem Qs.grow {w0 W w' : World} {B : Nat} {P : (Nat → List Int) → Prop} {a : Option Addr} {zs : List Int} (h : Qs w0 W B P a zs) (hb : Below W.heap.size W w') : Qs w0 w' B P a zs := by
  obtain ⟨L, S, h1, h2, h3, h4⟩ := h
  exact ⟨L, S, h1.below (n := 0) hb, h2, h3.keep ((Turned.refl _ _ _).below hb), h4.trans (hb.mono h4.size)⟩
theorem Qs.cell {w0 W : World} {B : Nat} {P : (Nat → List Int) → Prop} {a : Option Addr} {zs : List Int} (h : Qs w0 W B P a zs) {j : Nat} (hj : j < zs.length) : ∃ g, a = some ⟨g, 0, none⟩ ∧ W.cell? ⟨g, j, none⟩ = some (.int .u16 (zs.getD j 0)) := by
  obtain ⟨L, S, h1, h2, h3, h4⟩ := h
  obtain ⟨g, ha, _, hc⟩ := h3 (by omega)
  exact ⟨g, ha, hc j hj⟩

theorem qs_new (w0 W : World) (h : Below w0.heap.size w0 W) (P : (Nat → List Int) → Prop) (hp : P (fun _ => [])) : Qs w0 (newW W) W.heap.size P none [] :=
  ⟨_, _, qu_new W, hp, fun h => by simp at h, h.alloc h.size _⟩

theorem qs_add {w0 W : World} {B n : Nat} {P : (Nat → List Int) → Prop} {a : Option Addr} {zs : List Int} (P' : (Nat → List Int) → Prop) (c : Int) (h : Qs w0 W B P a zs) (hs : w0.heap.size ≤ B) (hn : n < 8) (hc : 0 ≤ c ∧ c ≤ 65535)
    (hp : ∀ L, P L → P' (upd L n (addL (L n) c))) : Calls Try.prog 9 #[.pointer (some ⟨B, 0, none⟩), .int .i64 n, .int .u16 c] W fun e w' => e = .returned (.tuple #[]) ∧ Qs w0 w' B P' a zs := by
  obtain ⟨L, S, h1, h2, h3, h4⟩ := h
  refine (add_any B B n L S c W h1 hn hc).mono ?_
  rintro e w' ⟨rfl, ⟨S', hq, ht⟩, hb⟩
  exact ⟨rfl, _, S', hq, hp L h2, h3.keep ht, h4.trans (hb.mono hs)⟩
theorem qs_all {w0 W : World} {B : Nat} {P : (Nat → List Int) → Prop} {a : Option Addr} {zs : List Int} (P' : (Nat → List Int) → Prop) (but c : Int) (h : Qs w0 W B P a zs) (hs : w0.heap.size ≤ B) (hc : 0 ≤ c ∧ c ≤ 65535) (hbut : -9223372036854775808 ≤ but ∧ but ≤ 9223372036854775807)
    (hp : ∀ L, P L → P' (allL L but c 8)) : Calls Try.prog 11 #[.pointer (some ⟨B, 0, none⟩), .int .i64 but, .int .u16 c] W fun e w' => e = .returned (.tuple #[]) ∧ Qs w0 w' B P' a zs := by
  obtain ⟨L, S, h1, h2, h3, h4⟩ := h
  refine (addAll_any B B but L S c W h1 hc hbut).mono ?_
  rintro e w' ⟨rfl, ⟨S', hq, ht⟩, hb⟩
  exact ⟨rfl, _, S', hq, hp L h2, h3.keep ht, h4.trans (hb.mono hs)⟩
theorem qs_next {w0 W : World} {B n : Nat} {P : (Nat → List Int) → Prop} {a : Option Addr} {zs : List Int} (P' : (Nat → List Int) → Prop) (x : Int) (h : Qs w0 W B P a zs) (hs : w0.heap.size ≤ B) (hn : n < 8)
    (hp : ∀ L, P L → 0 < (L n).length ∧ bestC (L n) = x ∧ P' (upd L n ((L n).eraseIdx (bestAt (L n))))) : Calls Try.prog 14 #[.pointer (some ⟨B, 0, none⟩), .int .i64 n] W fun e w' => e = .returned (.tuple #[.int .u16 x, .bool true]) ∧ Qs w0 w' B P' a zs := by
  obtain ⟨L, S, h1, h2, h3, h4⟩ := h
  obtain ⟨p1, p2, p3⟩ := hp L h2
  refine (next_some B B n L S W h1 hn p1).mono ?_
  rintro e w' ⟨rfl, ⟨S', hq, ht⟩, hb⟩
  exact ⟨by rw [p2], _, S', hq, p3, h3.keep ht, h4.trans (hb.mono hs)⟩
theorem qs_none {w0 W : World} {B n : Nat} {P : (Nat → List Int) → Prop} {a : Option Addr} {zs : List Int} (h : Qs w0 W B P a zs) (hn : n < 8) (hp : ∀ L, P L → L n = []) :
    Calls Try.prog 14 #[.pointer (some ⟨B, 0, none⟩), .int .i64 n] W fun e w' => e = .returned (.tuple #[.int .u16 0, .bool false]) ∧ w' = W := by
  obtain ⟨L, S, h1, h2, h3, h4⟩ := h
  exact next_none B B n L S W h1 hn (hp L h2)
theorem qs_peek {w0 W : World} {B n : Nat} {P : (Nat → List Int) → Prop} {a : Option Addr} {zs : List Int} (x : Int) (h : Qs w0 W B P a zs) (hn : n < 8)
    (hp : ∀ L, P L → 0 < (L n).length ∧ bestC (L n) = x) : Calls Try.prog 12 #[.pointer (some ⟨B, 0, none⟩), .int .i64 n] W fun e w' => e = .returned (.tuple #[.int .u16 x, .bool true]) ∧ Qs w0 w' B P a zs := by
  have hQ := h
  obtain ⟨L, S, h1, h2, h3, h4⟩ := h
  obtain ⟨p1, p2⟩ := hp L h2
  refine (peek_some B B n L S W h1 hn p1).mono ?_
  rintro e w' ⟨rfl, k, rfl⟩
  exact ⟨by rw [p2], hQ.grow (below_drewN (Below.refl _ _) k)⟩
/-- List: the row that it tells is the one beside the queues from then on. -/
theorem qs_list {w0 W : World} {B n : Nat} {P : (Nat → List Int) → Prop} {a : Option Addr} {zs : List Int} (h : Qs w0 W B P a zs) (hn : n < 8) :
    Calls Try.prog 15 #[.pointer (some ⟨B, 0, none⟩), .int .i64 n] W fun e w' => ∃ a' c ys, e = .returned (.slice a' ys.length c) ∧ ys.length ≤ 8 ∧ (∀ x ∈ ys, 0 ≤ x ∧ x ≤ 65535) ∧ Qs w0 w' B (fun L => P L ∧ L n = ys) a' ys := by
  obtain ⟨L, S, h1, h2, h3, h4⟩ := h
  refine (list_any B B n L S W h1 hn).mono ?_
  rintro e w' ⟨v, rfl, hO, hb⟩
  obtain ⟨a', c, hv, hs⟩ := hO.shape
  refine ⟨a', c, L n, by rw [hv], h1.few n hn, h1.good n hn, L, S, h1.below (n := 0) hb, ⟨h2, rfl⟩, fun h0 => ?_, h4.trans (hb.mono h4.size)⟩
  obtain ⟨g, ha, hg1, hg2, hc⟩ := hs h0
  exact ⟨g, ha, Beside.new h1 hg1 hg2, fun j hj => (hc j hj).1⟩

/-- List, where it is known what waits. -/
theorem qs_told {w0 W : World} {B n : Nat} {P : (Nat → List Int) → Prop} {a : Option Addr} {zs : List Int} (ys : List Int) (h : Qs w0 W B P a zs) (hn : n < 8) (hp : ∀ L, P L → L n = ys) :
    Calls Try.prog 15 #[.pointer (some ⟨B, 0, none⟩), .int .i64 n] W fun e w' => ∃ a' c, e = .returned (.slice a' ys.length c) ∧ Qs w0 w' B P a' ys := by
  refine (qs_list h hn).mono ?_
  rintro e w' ⟨a', c, ys', rfl, _, _, hq⟩
  obtain ⟨L, S, h1, ⟨h2, h2'⟩, h3, h4⟩ := hq
  rw [hp L h2] at h2'
  subst h2'
  exact ⟨a', c, rfl, L, S, h1, h2, h3, h4⟩
theorem Qs.bare {w0 W : World} {B : Nat} {P : (Nat → List Int) → Prop} {a : Option Addr} {zs : List Int} (h : Qs w0 W B P a zs) : Qs w0 W B P none [] := by
  obtain ⟨L, S, h1, h2, h3, h4⟩ := h; exact ⟨L, S, h1, h2, fun h => by simp at h, h4⟩

/-- A row of codes that came in. -/
def Came (w : World) (a : Option Addr) (len : Nat) (zs : List Int) : Prop :=
  len ≤ maxLen ∧ ∀ W, Below w.heap.size w W → ∀ j, j < len → ∃ b off, a = some ⟨b, off, none⟩ ∧ W.cell? ⟨b, off + j, none⟩ = some (.int .u16 (zs.getD j 0)) ∧ 0 ≤ zs.getD j 0 ∧ zs.getD j 0 ≤ 65535
theorem came {w : World} {a : Option Addr} {len cap : Nat} {zs : List Int}
    (h : (a = none ∧ len = 0 ∧ cap = 0 ∧ zs = []) ∨ ∃ x, a = some x ∧ len ≤ cap ∧ cap ≤ maxLen ∧ zs.length = cap ∧ (∀ i, i < zs.length → w.cell? (x.add i) = some (.int .u16 (zs.getD i 0))) ∧ ∀ n ∈ zs, (Lit.int .u16 n).wf = true) :
    Came w a len zs := by
  rcases h with ⟨_, h, _, _⟩ | ⟨x, ha, h1, hm, h2, hc, hw⟩
  · exact ⟨by rw [h]; exact Nat.zero_le _, fun W hb j hj => by omega⟩
  · refine ⟨Nat.le_trans h1 hm, fun W hb j hj => ?_⟩
    have hjz : j < zs.length := by omega
    obtain ⟨b, off, rfl, hc'⟩ := ints_at hc (by omega)
    have c1 := hc' j hjz
    refine ⟨b, off, ha, (hb.cell (p := ⟨b, off + j, none⟩) (World.block_lt_of_cell? w _ c1)).trans c1, ?_⟩
    have : (Lit.int .u16 (zs.getD j 0)).wf = true := hw _ (by rw [List.getD_eq_getElem?_getD, List.getElem?_eq_getElem hjz]; exact List.getElem_mem hjz)
    simp [Lit.wf, IntKind.min, IntKind.max, IntKind.bits, IntKind.signed] at this
    simp
    omega
end Go.Proofs.Ytodppeldliliaaa
