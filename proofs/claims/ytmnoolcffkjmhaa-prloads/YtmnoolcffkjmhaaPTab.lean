/-
  A table in a block; the contracts of what only looks at it.
-/
import Derived.Test.YtmnoolcffkjmhaaPQ
namespace Go.Proofs.Ytmnoolcffkjmhaa
open Go.RowKit
set_option linter.unusedVariables false
set_option linter.unusedSimpArgs false

theorem beq_d (a b : Int) : (a == b) = decide (a = b) := by by_cases h : a = b <;> simp [h]
theorem bne_d (a b : Int) : (a != b) = !decide (a = b) := by by_cases h : a = b <;> simp [h]

/-- A table. -/
structure Tb where
  ks : Nat → Int
  kd : Int
  ho : Int
  gn : Int
  la : Bool

structure Tab (w : World) (B : Nat) (t : Tb) : Prop where
  lt : B < w.heap.size
  key : ∀ j, j < 8 → w.cell? ⟨B, j, none⟩ = some (.int .u64 (t.ks j))
  c8 : w.cell? ⟨B, 8, none⟩ = some (.int .u8 t.kd)
  c9 : w.cell? ⟨B, 9, none⟩ = some (.int .i64 t.ho)
  c10 : w.cell? ⟨B, 10, none⟩ = some (.int .u32 t.gn)
  c11 : w.cell? ⟨B, 11, none⟩ = some (.bool t.la)
  free : ∀ j, w.frozen? ⟨B, j, none⟩ = false

section
variable {w w' : World} {B : Nat} {t : Tb}
theorem Tab.of_block (h : Tab w B t) (hs : B < w'.heap.size) (hb : w'.heap[B]? = w.heap[B]?) : Tab w' B t :=
  have c : ∀ j, w'.cell? ⟨B, j, none⟩ = w.cell? ⟨B, j, none⟩ := fun j => World.cell?_of_block (w := w) (w' := w') (a := ⟨B, j, none⟩) hb
  ⟨hs, fun j hj => (c j).trans (h.key j hj), (c 8).trans h.c8, (c 9).trans h.c9, (c 10).trans h.c10, (c 11).trans h.c11, fun j => (World.frozen?_of_block (w := w) (w' := w') (a := ⟨B, j, none⟩) hb).trans (h.free j)⟩
theorem Tab.below {n : Nat} (h : Tab w B t) (hb : Below n w w') (hn : B < n) : Tab w' B t := h.of_block (Nat.lt_of_lt_of_le h.lt hb.size) (hb.block B hn)
theorem Tab.below' (h : Tab w B t) (hb : Below w.heap.size w w') : Tab w' B t := h.below hb h.lt
theorem Tab.alloc (h : Tab w B t) (o : Obj) : Tab (w.alloc o) B t := h.of_block (by have := h.lt; simp; omega) (Below.heap_alloc w o B h.lt)
theorem Tab.drewN (h : Tab w B t) (n : Nat) : Tab (w.drewN n) B t := ⟨h.lt, h.key, h.c8, h.c9, h.c10, h.c11, h.free⟩
theorem Tab.drew (h : Tab w B t) : Tab w.drew B t := ⟨h.lt, h.key, h.c8, h.c9, h.c10, h.c11, h.free⟩
theorem Tab.grown {row : Option Nat} (h : Tab w B t) (hg : w.grownBy w' row) (hn : row ≠ some B) : Tab w' B t :=
  h.of_block (Nat.lt_of_lt_of_le h.lt hg.size) (hg.block B h.lt (fun e => hn e.symm))
theorem Tab.congr {t' : Tb} (h : Tab w B t) (hk : ∀ j, j < 8 → t'.ks j = t.ks j) (h1 : t'.kd = t.kd) (h2 : t'.ho = t.ho) (h3 : t'.gn = t.gn) (h4 : t'.la = t.la) : Tab w B t' :=
  ⟨h.lt, fun j hj => by rw [hk j hj]; exact h.key j hj, by rw [h1]; exact h.c8, by rw [h2]; exact h.c9, by rw [h3]; exact h.c10, by rw [h4]; exact h.c11, h.free⟩
end
theorem set_same {w : World} {B j : Nat} {u v : Value} (h : w.cell? ⟨B, j, none⟩ = some u) : (w.setCell ⟨B, j, none⟩ v).cell? ⟨B, j, none⟩ = some v := World.cell?_setCell_same' _ _ _ (by rw [h]; rfl)
theorem set_other {w : World} {B i j : Nat} {v : Value} (hn : i ≠ j) : (w.setCell ⟨B, i, none⟩ v).cell? ⟨B, j, none⟩ = w.cell? ⟨B, j, none⟩ := by
  have hne : (⟨B, i, none⟩ : Addr) ≠ ⟨B, j, none⟩ := fun e => by injection e with _ e2; omega
  first | exact World.cell?_setCell_other _ _ _ _ hne | exact World.cell?_setCell_other _ _ _ hne
/-- A key is another one. -/
def upd (f : Nat → Int) (n : Nat) (x : Int) : Nat → Int := fun i => if i = n then x else f i
section
variable {w : World} {B : Nat} {t : Tb}
theorem Tab.setKey (h : Tab w B t) (n : Nat) (hn : n < 8) (x : Int) : Tab (w.setCell ⟨B, n, none⟩ (.int .u64 x)) B { t with ks := upd t.ks n x } := by
  refine ⟨by have := h.lt; simpa using this, fun j hj => ?_, (set_other (by omega)).trans h.c8, (set_other (by omega)).trans h.c9, (set_other (by omega)).trans h.c10, (set_other (by omega)).trans h.c11, fun j => by have := h.free j; simpa using this⟩
  by_cases e : j = n
  · subst e; rw [set_same (h.key j hn)]; simp [upd]
  · rw [set_other (by omega), h.key j hj]; simp [upd, e]
theorem Tab.setKd (h : Tab w B t) (x : Int) : Tab (w.setCell ⟨B, 8, none⟩ (.int .u8 x)) B { t with kd := x } :=
  ⟨by have := h.lt; simpa using this, fun j hj => (set_other (by omega)).trans (h.key j hj), set_same h.c8, (set_other (by omega)).trans h.c9, (set_other (by omega)).trans h.c10, (set_other (by omega)).trans h.c11, fun j => by have := h.free j; simpa using this⟩
theorem Tab.setHo (h : Tab w B t) (x : Int) : Tab (w.setCell ⟨B, 9, none⟩ (.int .i64 x)) B { t with ho := x } :=
  ⟨by have := h.lt; simpa using this, fun j hj => (set_other (by omega)).trans (h.key j hj), (set_other (by omega)).trans h.c8, set_same h.c9, (set_other (by omega)).trans h.c10, (set_other (by omega)).trans h.c11, fun j => by have := h.free j; simpa using this⟩
theorem Tab.setGn (h : Tab w B t) (x : Int) : Tab (w.setCell ⟨B, 10, none⟩ (.int .u32 x)) B { t with gn := x } :=
  ⟨by have := h.lt; simpa using this, fun j hj => (set_other (by omega)).trans (h.key j hj), (set_other (by omega)).trans h.c8, (set_other (by omega)).trans h.c9, set_same h.c10, (set_other (by omega)).trans h.c11, fun j => by have := h.free j; simpa using this⟩
theorem Tab.setLa (h : Tab w B t) (x : Bool) : Tab (w.setCell ⟨B, 11, none⟩ (.bool x)) B { t with la := x } :=
  ⟨by have := h.lt; simpa using this, fun j hj => (set_other (by omega)).trans (h.key j hj), (set_other (by omega)).trans h.c8, (set_other (by omega)).trans h.c9, (set_other (by omega)).trans h.c10, set_same h.c11, fun j => by have := h.free j; simpa using this⟩
end

/-! ### What is asked of it -/
def isAll (k : Int) : Bool := decide (k = 7 ∨ k = 8)
def isTy (k : Int) : Bool := decide (k = 1 ∨ k = 3 ∨ k = 5 ∨ k = 6 ∨ k = 7 ∨ k = 8)
def Tb.reg (t : Tb) (n : Int) : Bool := decide (0 ≤ n ∧ n < 8 ∧ t.ks n.toNat ≠ 0)
def Tb.holds (t : Tb) (n : Int) : Bool := if t.kd = 0 then false else if isAll t.kd = true then t.reg n else decide (t.ho = n)
def Tb.conf (t : Tb) (n c : Int) : Bool :=
  if c = 0 ∨ t.holds n = true then false else if t.kd = 1 then decide (c ≠ 1) else if t.kd = 3 then true else if t.kd = 5 ∨ t.kd = 7 then decide (c ≠ 1) && !t.reg n else if t.kd = 6 ∨ t.kd = 8 then !t.reg n else false

theorem all_any (k : Int) (w : World) : Calls Try.prog 24 #[.int .u8 k] w fun e w' => e = .returned (.bool (isAll k)) ∧ w' = w := by
  unfold isAll
  by_cases h : k = 7
  · subst h
    go_enter Try.func24, Try.ntmps24
    go_wp2
    go_ret
    exact ⟨rfl, rfl⟩
  · have hb : ((k : Int) == 7) = false := by simp [h]
    have hd : decide (k = 7) = false := by simp [h]
    go_enter Try.func24, Try.ntmps24
    go_wp2
    go_ret
    exact ⟨ret_bool (by simp [h, beq_d]), rfl⟩
theorem isNexus_any (n : Int) (w : World) : Calls Try.prog 37 #[.int .i64 n] w fun e w' => e = .returned (.bool (decide (0 ≤ n ∧ n < 8))) ∧ w' = w := by
  by_cases h : 0 ≤ n
  · go_enter Try.func37, Try.ntmps37
    go_wp2
    go_ret
    exact ⟨ret_bool (by simp [h]), rfl⟩
  · go_enter Try.func37, Try.ntmps37
    go_wp2
    go_ret
    exact ⟨ret_bool (by simp [h]; try omega), rfl⟩
set_option maxHeartbeats 1000000 in
theorem types_any (k : Int) (w : World) : Calls Try.prog 25 #[.int .u8 k] w fun e w' => e = .returned (.bool (isTy k)) ∧ w' = w := by
  unfold isTy
  by_cases h1 : k = 1
  · subst h1; go_enter Try.func25, Try.ntmps25; go_wp2; go_ret; exact ⟨rfl, rfl⟩
  by_cases h3 : k = 3
  · subst h3; go_enter Try.func25, Try.ntmps25; go_wp2; go_ret; exact ⟨rfl, rfl⟩
  by_cases h5 : k = 5
  · subst h5; go_enter Try.func25, Try.ntmps25; go_wp2; go_ret; exact ⟨rfl, rfl⟩
  by_cases h6 : k = 6
  · subst h6; go_enter Try.func25, Try.ntmps25; go_wp2; go_ret; exact ⟨rfl, rfl⟩
  by_cases h7 : k = 7
  · subst h7; go_enter Try.func25, Try.ntmps25; go_wp2; go_ret; exact ⟨rfl, rfl⟩
  by_cases h8 : k = 8
  · subst h8; go_enter Try.func25, Try.ntmps25; go_wp2; go_ret; exact ⟨rfl, rfl⟩
  go_enter Try.func25, Try.ntmps25
  go_wp2
  go_ret
  exact ⟨ret_bool (by simp [h1, h3, h5, h6, h7, h8]), rfl⟩

set_option maxHeartbeats 1000000 in
theorem registered_any (B : Nat) (t : Tb) (n : Int) (w : World) (h : Tab w B t) : Calls Try.prog 49 #[.pointer (some ⟨B, 0, none⟩), .int .i64 n] w fun e w' => e = .returned (.bool (t.reg n)) ∧ w' = w := by
  have HN := Kpt.mk (isNexus_any n w)
  have hlt := h.lt
  by_cases hn : 0 ≤ n ∧ n < 8
  · rw [show decide (0 ≤ n ∧ n < 8) = true from by simp [hn]] at HN
    obtain ⟨m, rfl⟩ : ∃ m : Nat, n = m := ⟨n.toNat, by omega⟩
    have hm : m < 8 := by omega
    have hk := h.key m hm
    have hr : Kpt (t.reg m = decide (t.ks m ≠ 0)) := ⟨by unfold Tb.reg; simp; omega⟩
    generalize t.reg m = R at *
    generalize t.ks m = x at *
    clear h hn
    go_enter Try.func49, Try.ntmps49
    go_wp2_with (go_at_call 37; go_must (refine HN.out.mono ?_; rintro e w ⟨rfl, rfl⟩))
    go_ret
    exact ⟨ret_bool (by rw [hr.out]; simp [bne_d]), rfl⟩
  · rw [show decide (0 ≤ n ∧ n < 8) = false from by simp; omega] at HN
    have hr : Kpt (t.reg n = false) := ⟨by unfold Tb.reg; simp; omega⟩
    generalize t.reg n = R at *
    clear h hn
    go_enter Try.func49, Try.ntmps49
    go_wp2_with (go_at_call 37; go_must (refine HN.out.mono ?_; rintro e w ⟨rfl, rfl⟩))
    go_ret
    exact ⟨ret_bool (by rw [hr.out]), rfl⟩
theorem Try.infoARR : (Try.prog.info? 28).map (·.size) = some 8 := by kernel_rfl

set_option maxHeartbeats 1000000 in
theorem holds_any (B : Nat) (t : Tb) (n : Int) (w : World) (h : Tab w B t) : Calls Try.prog 22 #[.pointer (some ⟨B, 0, none⟩), .int .i64 n] w fun e w' => e = .returned (.bool (t.holds n)) ∧ w' = w := by
  have HA := Kpt.mk (all_any t.kd w)
  have HR := Kpt.mk (registered_any B t n w h)
  have hlt := h.lt
  have h8 := h.c8
  have h9 := h.c9
  have hr : Kpt (t.holds n = if t.kd = 0 then false else if isAll t.kd = true then t.reg n else decide (t.ho = n)) := ⟨rfl⟩
  generalize t.holds n = R at *
  generalize t.reg n = g at *
  generalize isAll t.kd = al at *
  generalize t.ho = o at *
  generalize t.kd = k at *
  clear h
  by_cases hk : k = 0
  · subst hk
    go_enter Try.func22, Try.ntmps22
    go_wp2
    go_ret
    exact ⟨ret_bool (by rw [hr.out]; simp), rfl⟩
  · have hb : ((k : Int) == 0) = false := by simp [hk]
    cases al with
    | true =>
      go_enter Try.func22, Try.ntmps22
      go_wp2_with (first
        | (go_at_call 49; go_must (refine HR.out.mono ?_; rintro e w ⟨rfl, rfl⟩))
        | (go_at_call 24; go_must (refine HA.out.mono ?_; rintro e w ⟨rfl, rfl⟩)))
      go_ret
      exact ⟨ret_bool (by rw [hr.out]; simp [hk]), rfl⟩
    | false =>
      go_enter Try.func22, Try.ntmps22
      go_wp2_with (go_at_call 24; go_must (refine HA.out.mono ?_; rintro e w ⟨rfl, rfl⟩))
      go_ret
      exact ⟨ret_bool (by rw [hr.out]; simp [hk, beq_d]), rfl⟩

set_option maxHeartbeats 2000000 in
theorem conflict_any (B : Nat) (t : Tb) (n c : Int) (w : World) (h : Tab w B t) : Calls Try.prog 23 #[.pointer (some ⟨B, 0, none⟩), .int .i64 n, .int .u8 c] w fun e w' => e = .returned (.bool (t.conf n c)) ∧ w' = w := by
  have HH := Kpt.mk (holds_any B t n w h)
  have HR := Kpt.mk (registered_any B t n w h)
  have hlt := h.lt
  have h8 := h.c8
  have hr : Kpt (t.conf n c = if c = 0 ∨ t.holds n = true then false else if t.kd = 1 then decide (c ≠ 1) else if t.kd = 3 then true else if t.kd = 5 ∨ t.kd = 7 then decide (c ≠ 1) && !t.reg n else if t.kd = 6 ∨ t.kd = 8 then !t.reg n else false) := ⟨rfl⟩
  generalize t.conf n c = R at *
  generalize t.reg n = g at *
  generalize t.holds n = hd at *
  generalize t.kd = k at *
  clear h
  by_cases hc : c = 0
  · subst hc
    go_enter Try.func23, Try.ntmps23
    go_wp2
    go_ret
    exact ⟨ret_bool (by rw [hr.out]; simp), rfl⟩
  have hcb : ((c : Int) == 0) = false := by simp [hc]
  cases hd with
  | true =>
    go_enter Try.func23, Try.ntmps23
    go_wp2_with (go_at_call 22; go_must (refine HH.out.mono ?_; rintro e w ⟨rfl, rfl⟩))
    go_ret
    exact ⟨ret_bool (by rw [hr.out]; simp), rfl⟩
  | false =>
    have hr2 : Kpt (R = if k = 1 then decide (c ≠ 1) else if k = 3 then true else if k = 5 ∨ k = 7 then decide (c ≠ 1) && !g else if k = 6 ∨ k = 8 then !g else false) := ⟨by rw [hr.out]; simp [hc]⟩
    clear hr
    by_cases h1 : k = 1
    · subst h1
      go_enter Try.func23, Try.ntmps23
      go_wp2_with (go_at_call 22; go_must (refine HH.out.mono ?_; rintro e w ⟨rfl, rfl⟩))
      go_ret
      exact ⟨ret_bool (by rw [hr2.out]; simp [bne_d]), rfl⟩
    by_cases h3 : k = 3
    · subst h3
      go_enter Try.func23, Try.ntmps23
      go_wp2_with (go_at_call 22; go_must (refine HH.out.mono ?_; rintro e w ⟨rfl, rfl⟩))
      go_ret
      exact ⟨ret_bool (by rw [hr2.out]; simp), rfl⟩
    by_cases hc1 : c = 1
    · subst hc1
      by_cases h5 : k = 5
      · subst h5
        go_enter Try.func23, Try.ntmps23
        go_wp2_with (first
          | (go_at_call 49; go_must (refine HR.out.mono ?_; rintro e w ⟨rfl, rfl⟩))
          | (go_at_call 22; go_must (refine HH.out.mono ?_; rintro e w ⟨rfl, rfl⟩)))
        go_ret
        exact ⟨ret_bool (by rw [hr2.out]; simp), rfl⟩
      by_cases h7 : k = 7
      · subst h7
        go_enter Try.func23, Try.ntmps23
        go_wp2_with (first
          | (go_at_call 49; go_must (refine HR.out.mono ?_; rintro e w ⟨rfl, rfl⟩))
          | (go_at_call 22; go_must (refine HH.out.mono ?_; rintro e w ⟨rfl, rfl⟩)))
        go_ret
        exact ⟨ret_bool (by rw [hr2.out]; simp), rfl⟩
      by_cases h6 : k = 6
      · subst h6
        go_enter Try.func23, Try.ntmps23
        go_wp2_with (first
          | (go_at_call 49; go_must (refine HR.out.mono ?_; rintro e w ⟨rfl, rfl⟩))
          | (go_at_call 22; go_must (refine HH.out.mono ?_; rintro e w ⟨rfl, rfl⟩)))
        go_ret
        exact ⟨ret_bool (by rw [hr2.out]; simp), rfl⟩
      by_cases h8' : k = 8
      · subst h8'
        go_enter Try.func23, Try.ntmps23
        go_wp2_with (first
          | (go_at_call 49; go_must (refine HR.out.mono ?_; rintro e w ⟨rfl, rfl⟩))
          | (go_at_call 22; go_must (refine HH.out.mono ?_; rintro e w ⟨rfl, rfl⟩)))
        go_ret
        exact ⟨ret_bool (by rw [hr2.out]; simp), rfl⟩
      go_enter Try.func23, Try.ntmps23
      go_wp2_with (go_at_call 22; go_must (refine HH.out.mono ?_; rintro e w ⟨rfl, rfl⟩))
      go_ret
      exact ⟨ret_bool (by rw [hr2.out]; simp [h1, h3, h5, h6, h7, h8']), rfl⟩
    · have hcb1 : ((c : Int) != 1) = true := by simp [hc1]
      have hcb2 : ((c : Int) == 1) = false := by simp [hc1]
      by_cases h5 : k = 5
      · subst h5
        go_enter Try.func23, Try.ntmps23
        go_wp2_with (first
          | (go_at_call 49; go_must (refine HR.out.mono ?_; rintro e w ⟨rfl, rfl⟩))
          | (go_at_call 22; go_must (refine HH.out.mono ?_; rintro e w ⟨rfl, rfl⟩)))
        go_ret
        exact ⟨ret_bool (by rw [hr2.out]; simp [hc1]), rfl⟩
      by_cases h7 : k = 7
      · subst h7
        go_enter Try.func23, Try.ntmps23
        go_wp2_with (first
          | (go_at_call 49; go_must (refine HR.out.mono ?_; rintro e w ⟨rfl, rfl⟩))
          | (go_at_call 22; go_must (refine HH.out.mono ?_; rintro e w ⟨rfl, rfl⟩)))
        go_ret
        exact ⟨ret_bool (by rw [hr2.out]; simp [hc1]), rfl⟩
      by_cases h6 : k = 6
      · subst h6
        go_enter Try.func23, Try.ntmps23
        go_wp2_with (first
          | (go_at_call 49; go_must (refine HR.out.mono ?_; rintro e w ⟨rfl, rfl⟩))
          | (go_at_call 22; go_must (refine HH.out.mono ?_; rintro e w ⟨rfl, rfl⟩)))
        go_ret
        exact ⟨ret_bool (by rw [hr2.out]; simp), rfl⟩
      by_cases h8' : k = 8
      · subst h8'
        go_enter Try.func23, Try.ntmps23
        go_wp2_with (first
          | (go_at_call 49; go_must (refine HR.out.mono ?_; rintro e w ⟨rfl, rfl⟩))
          | (go_at_call 22; go_must (refine HH.out.mono ?_; rintro e w ⟨rfl, rfl⟩)))
        go_ret
        exact ⟨ret_bool (by rw [hr2.out]; simp), rfl⟩
      go_enter Try.func23, Try.ntmps23
      go_wp2_with (go_at_call 22; go_must (refine HH.out.mono ?_; rintro e w ⟨rfl, rfl⟩))
      go_ret
      exact ⟨ret_bool (by rw [hr2.out]; simp [h1, h3, h5, h6, h7, h8']), rfl⟩

theorem lasts_any (B : Nat) (t : Tb) (w : World) (h : Tab w B t) : Calls Try.prog 29 #[.pointer (some ⟨B, 0, none⟩)] w fun e w' => e = .returned (.bool t.la) ∧ w' = w := by
  have hlt := h.lt
  have h11 := h.c11
  generalize t.la = x at *
  clear h
  go_enter Try.func29, Try.ntmps29
  go_wp2
  go_ret
  exact ⟨rfl, rfl⟩

/-- The type and the holder that are told. -/
def Tb.res (t : Tb) : Int × Int := if t.kd = 0 then (0, -1) else if isAll t.kd = true then (t.kd, -1) else (t.kd, t.ho)
set_option maxHeartbeats 1000000 in
theorem reserved_any (B : Nat) (t : Tb) (w : World) (h : Tab w B t) : Calls Try.prog 20 #[.pointer (some ⟨B, 0, none⟩)] w fun e w' => e = .returned (.tuple #[.int .u8 t.res.1, .int .i64 t.res.2]) ∧ ∃ q, w' = w.drewN q := by
  have HA := Kpt.mk (all_any t.kd w)
  have hlt := h.lt
  have h8 := h.c8
  have h9 := h.c9
  have hr : Kpt (t.res = if t.kd = 0 then (0, -1) else if isAll t.kd = true then (t.kd, -1) else (t.kd, t.ho)) := ⟨rfl⟩
  generalize t.res = R at *
  generalize isAll t.kd = al at *
  generalize t.ho = o at *
  generalize t.kd = k at *
  clear h
  obtain ⟨R1, R2⟩ := R
  by_cases hk : k = 0
  · subst hk
    go_enter Try.func20, Try.ntmps20
    go_wp2
    go_ret2
    have := hr.out
    simp at this
    obtain ⟨rfl, rfl⟩ := this
    exact ⟨rfl, 0, rfl⟩
  · have hb : ((k : Int) == 0) = false := by simp [hk]
    cases al with
    | true =>
      go_enter Try.func20, Try.ntmps20
      go_wp2_with (go_at_call 24; go_must (refine HA.out.mono ?_; rintro e w ⟨rfl, rfl⟩))
      go_ret2
      have := hr.out
      simp [hk] at this
      obtain ⟨rfl, rfl⟩ := this
      exact ⟨rfl, 0, rfl⟩
    | false =>
      go_enter Try.func20, Try.ntmps20
      go_wp2_with (go_at_call 24; go_must (refine HA.out.mono ?_; rintro e w ⟨rfl, rfl⟩))
      go_quiet (fail)
      go_wp2
      go_ret2
      have := hr.out
      simp [hk] at this
      obtain ⟨rfl, rfl⟩ := this
      exact ⟨rfl, _, rfl⟩

def zeroT : Tb := ⟨fun _ => 0, 0, 0, 0, false⟩
abbrev newT (w : World) : World := w.alloc (.cells #[.int .u64 0, .int .u64 0, .int .u64 0, .int .u64 0, .int .u64 0, .int .u64 0, .int .u64 0, .int .u64 0, .int .u8 0, .int .i64 0, .int .u32 0, .bool false] 76)
theorem new_any (w : World) : Calls Try.prog 10 #[] w fun e w' => e = .returned (.pointer (some ⟨w.heap.size, 0, none⟩)) ∧ w' = newT w := by
  go_enter Try.func10, Try.ntmps10
  go_wp2
  go_ret
  exact ⟨rfl, rfl⟩
theorem tab_new (w : World) : Tab (newT w) w.heap.size zeroT :=
  ⟨by simp, fun j hj => by
    simp only [newT, zeroT]
    obtain rfl | rfl | rfl | rfl | rfl | rfl | rfl | rfl : j = 0 ∨ j = 1 ∨ j = 2 ∨ j = 3 ∨ j = 4 ∨ j = 5 ∨ j = 6 ∨ j = 7 := by omega
    all_goals simp, by simp [zeroT], by simp [zeroT], by simp [zeroT], by simp [zeroT], fun j => by simp⟩
end Go.Proofs.Ytmnoolcffkjmhaa
