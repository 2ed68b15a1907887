/-
  The contract of Add.
-/
import Derived.Test.YtodppeldliliaaaAAdd
namespace Go.Proofs.Ytodppeldliliaaa
open Go.RowKit
set_option linter.unusedVariables false
set_option linter.unusedSimpArgs false

def upd {α : Type} (L : Nat → α) (n : Nat) (x : α) : Nat → α := fun k => if k = n then x else L k

theorem addL_few (zs : List Int) (c : Int) (h : zs.length ≤ 8) : (addL zs c).length ≤ 8 := by
  unfold addL
  split
  · simp
  · split
    · exact h
    · rename_i h1
      simp
      omega
theorem addL_good (zs : List Int) (c : Int) (hc : 0 ≤ c ∧ c ≤ 65535) (h : ∀ x ∈ zs, 0 ≤ x ∧ x ≤ 65535) : ∀ x ∈ addL zs c, 0 ≤ x ∧ x ≤ 65535 := by
  unfold addL
  intro x hx
  split at hx
  · simp at hx; rw [hx]; exact hc
  · split at hx
    · exact h x hx
    · simp at hx
      rcases hx with hx | hx
      · exact h x hx
      · rw [hx]; exact hc

theorem Own.grown {base : Nat} {w w' : World} {v : Value} {zs : List Int} {row : Option Nat} (h : Own base w v zs) (hg : w.grownBy w' row) (hne : ∀ g, v.ownBlock = some g → row ≠ some g) : Own base w' v zs :=
  h.of_block (fun g hg' => hg.block g (h.lt hg').2 (fun e => hne g hg' e.symm))

theorem Own.set {base : Nat} {w : World} {v : Value} {zs : List Int} {B k : Nat} {u : Value} (h : Own base w v zs) (hne : ∀ g, v.ownBlock = some g → g ≠ B) : Own base (w.setCell ⟨B, k, none⟩ u) v zs :=
  h.of_block (fun g hg => Below.heap_setCell _ _ _ _ (fun e => hne g hg (by simpa using e)))

/-- A queue has turned. -/
theorem Qu.turn {base : Nat} {w w1 : World} {B n : Nat} {L : Nat → List Int} {S : Nat → Value} {v : Value} {zs : List Int} (h : Qu base w B L S) (hn : n < 8) (hg : w.grownBy w1 (S n).ownBlock) (hO : Own base w1 v zs)
    (hor : v.ownBlock = (S n).ownBlock ∨ v.ownBlock = none ∨ ∃ g, v.ownBlock = some g ∧ w.heap.size ≤ g) (hf : zs.length ≤ 8) (hgood : ∀ c ∈ zs, 0 ≤ c ∧ c ≤ 65535) :
    Qu base (w1.setCell ⟨B, n, none⟩ v) B (upd L n zs) (upd S n v) := by
  have hBne : some B ≠ (S n).ownBlock := fun e => h.other n B hn e.symm rfl
  have hB1 : w1.heap[B]? = w.heap[B]? := hg.block B h.lt hBne
  have hlt1 : B < w1.heap.size := Nat.lt_of_lt_of_le h.lt hg.size
  have hvB : ∀ g, v.ownBlock = some g → g ≠ B := fun g hg' => by
    rcases hor with e | e | ⟨g2, e, hge⟩
    · exact h.other n g hn (by rw [← e]; exact hg')
    · rw [e] at hg'; cases hg'
    · rw [e] at hg'; cases hg'; have := h.lt; omega
  have hkeep : ∀ k, k < 8 → k ≠ n → Own base w1 (S k) (L k) := fun k hk hkn => (h.own k hk).grown hg (fun g hg' e => hkn (h.apart k n g hk hn hg' e))
  refine ⟨by simpa using hlt1, h.le, fun k hk => ?_, fun k => ?_, fun k hk => ?_, fun k j g hk hj hkg hjg => ?_, fun k g hk hkg => ?_, fun k hk => ?_, fun k hk => ?_⟩
  · unfold upd
    by_cases e : k = n
    · subst e
      rw [if_pos rfl]
      have hc := (World.cell?_of_block (w := w) (w' := w1) (a := ⟨B, k, none⟩) hB1).trans (h.cells k hk)
      exact World.cell?_setCell_same' _ _ _ (by rw [hc]; rfl)
    · rw [if_neg e]
      have hc := (World.cell?_of_block (w := w) (w' := w1) (a := ⟨B, k, none⟩) hB1).trans (h.cells k hk)
      have hne : (⟨B, n, none⟩ : Addr) ≠ ⟨B, k, none⟩ := fun e2 => e (by simpa using e2.symm)
      exact (by first | exact World.cell?_setCell_other _ _ _ _ hne | exact World.cell?_setCell_other _ _ _ hne : (w1.setCell ⟨B, n, none⟩ v).cell? ⟨B, k, none⟩ = w1.cell? ⟨B, k, none⟩).trans hc
  · have := (World.frozen?_of_block (w := w) (w' := w1) (a := ⟨B, k, none⟩) hB1).trans (h.free k)
    simpa using this
  · unfold upd
    by_cases e : k = n
    · rw [if_pos e, if_pos e]
      exact hO.set hvB
    · rw [if_neg e, if_neg e]
      exact (hkeep k hk e).set (h.other k · hk)
  · unfold upd at hkg hjg
    by_cases e1 : k = n
    · by_cases e2 : j = n
      · rw [e1, e2]
      · rw [if_pos e1] at hkg
        rw [if_neg e2] at hjg
        rcases hor with e | e | ⟨g2, e, hge⟩
        · exact absurd (h.apart j n g hj hn hjg (by rw [← e]; exact hkg)) e2
        · rw [e] at hkg; cases hkg
        · rw [e] at hkg; cases hkg
          have := ((h.own j hj).lt hjg).2
          omega
    · by_cases e2 : j = n
      · rw [if_neg e1] at hkg
        rw [if_pos e2] at hjg
        rcases hor with e | e | ⟨g2, e, hge⟩
        · exact absurd (h.apart k n g hk hn hkg (by rw [← e]; exact hjg)) e1
        · rw [e] at hjg; cases hjg
        · rw [e] at hjg; cases hjg
          have := ((h.own k hk).lt hkg).2
          omega
      · rw [if_neg e1] at hkg
        rw [if_neg e2] at hjg
        exact h.apart k j g hk hj hkg hjg
  · unfold upd at hkg
    by_cases e : k = n
    · rw [if_pos e] at hkg; exact hvB g hkg
    · rw [if_neg e] at hkg; exact h.other k g hk hkg
  · unfold upd
    by_cases e : k = n
    · rw [if_pos e]; exact hf
    · rw [if_neg e]; exact h.few k hk
  · unfold upd
    by_cases e : k = n
    · rw [if_pos e]; exact hgood
    · rw [if_neg e]; exact h.good k hk

theorem below_turn {base : Nat} {w w1 : World} {B n : Nat} {L : Nat → List Int} {S : Nat → Value} {u : Value} (h : Qu base w B L S) (hn : n < 8) (hg : w.grownBy w1 (S n).ownBlock) : Below base w (w1.setCell ⟨B, n, none⟩ u) :=
  ((Below.refl _ _).grown hg (Nat.le_trans h.le (Nat.le_of_lt h.lt)) (fun k hk => ((h.own n hn).lt hk).1)).setCell (p := ⟨B, n, none⟩) h.le _

/-- What a turn of queues leaves of the blocks that are not theirs, and whence theirs are. -/
structure Turned (w w' : World) (B : Nat) (S S' : Nat → Value) : Prop where
  size : w.heap.size ≤ w'.heap.size
  block : ∀ k, k < w.heap.size → k ≠ B → (∀ n, n < 8 → (S n).ownBlock ≠ some k) → w'.heap[k]? = w.heap[k]?
  came : ∀ n g, n < 8 → (S' n).ownBlock = some g → (∃ m, m < 8 ∧ (S m).ownBlock = some g) ∨ w.heap.size ≤ g

theorem Turned.refl (w : World) (B : Nat) (S : Nat → Value) : Turned w w B S S := ⟨Nat.le_refl _, fun _ _ _ _ => rfl, fun n g hn h => .inl ⟨n, hn, h⟩⟩
theorem Turned.trans {w w1 w2 : World} {B : Nat} {S S1 S2 : Nat → Value} (h : Turned w w1 B S S1) (h2 : Turned w1 w2 B S1 S2) : Turned w w2 B S S2 := by
  refine ⟨Nat.le_trans h.size h2.size, fun k hk hB hS => ?_, fun n g hn hg => ?_⟩
  · refine (h2.block k (Nat.lt_of_lt_of_le hk h.size) hB (fun n hn e => ?_)).trans (h.block k hk hB hS)
    rcases h.came n k hn e with ⟨m, hm, e2⟩ | e2
    · exact hS m hm e2
    · omega
  · rcases h2.came n g hn hg with ⟨m, hm, e2⟩ | e2
    · exact h.came m g hm e2
    · exact .inr (Nat.le_trans h.size e2)
theorem Turned.below {w w1 w2 : World} {B : Nat} {S S1 : Nat → Value} (h : Turned w w1 B S S1) (h2 : Below w1.heap.size w1 w2) : Turned w w2 B S S1 :=
  ⟨Nat.le_trans h.size h2.size, fun k hk hB hS => (h2.block k (Nat.lt_of_lt_of_le hk h.size)).trans (h.block k hk hB hS), h.came⟩

theorem turned_turn {base : Nat} {w w1 : World} {B n : Nat} {L : Nat → List Int} {S : Nat → Value} {v : Value} (h : Qu base w B L S) (hn : n < 8) (hg : w.grownBy w1 (S n).ownBlock)
    (hor : v.ownBlock = (S n).ownBlock ∨ v.ownBlock = none ∨ ∃ g, v.ownBlock = some g ∧ w.heap.size ≤ g) : Turned w (w1.setCell ⟨B, n, none⟩ v) B S (upd S n v) := by
  refine ⟨by simpa using hg.size, fun k hk hB hS => ?_, fun k g hk hkg => ?_⟩
  · exact (Below.heap_setCell _ _ _ _ (fun e => hB (by simpa using e))).trans (hg.block k hk (fun e => hS n hn e.symm))
  · unfold upd at hkg
    by_cases e : k = n
    · rw [if_pos e] at hkg
      rcases hor with e1 | e1 | ⟨g2, e1, hge⟩
      · exact .inl ⟨n, hn, by rw [← e1]; exact hkg⟩
      · rw [e1] at hkg; cases hkg
      · rw [e1] at hkg; cases hkg; exact .inr hge
    · rw [if_neg e] at hkg
      exact .inl ⟨k, hk, hkg⟩

/-- A block that is not of the queues. -/
structure Beside (w : World) (B : Nat) (S : Nat → Value) (g : Nat) : Prop where
  lt : g < w.heap.size
  ne : g ≠ B
  own : ∀ n, n < 8 → (S n).ownBlock ≠ some g
theorem Beside.keep {w w' : World} {B : Nat} {S S' : Nat → Value} {g : Nat} (h : Beside w B S g) (ht : Turned w w' B S S') : Beside w' B S' g ∧ w'.heap[g]? = w.heap[g]? :=
  ⟨⟨Nat.lt_of_lt_of_le h.lt ht.size, h.ne, fun n hn e => by
    rcases ht.came n g hn e with ⟨m, hm, e2⟩ | e2
    · exact h.own m hm e2
    · have := h.lt; omega⟩, ht.block g h.lt h.ne h.own⟩
theorem Beside.new {base : Nat} {w w' : World} {B : Nat} {L : Nat → List Int} {S : Nat → Value} {g : Nat} (h : Qu base w B L S) (hg : w.heap.size ≤ g) (hl : g < w'.heap.size) : Beside w' B S g :=
  ⟨hl, fun e => by have := h.lt; omega, fun n hn e => by have := ((h.own n hn).lt e).2; omega⟩

set_option maxRecDepth 100000 in
set_option maxHeartbeats 2000000 in
theorem add_any (base B n : Nat) (L : Nat → List Int) (S : Nat → Value) (c : Int) (w : World) (h : Qu base w B L S) (hn : n < 8) (hc : 0 ≤ c ∧ c ≤ 65535) :
    Calls Try.prog 9 #[.pointer (some ⟨B, 0, none⟩), .int .i64 n, .int .u16 c] w fun e w' => e = .returned (.tuple #[]) ∧ (∃ S', Qu base w' B (upd L n (addL (L n) c)) S' ∧ Turned w w' B S S') ∧ Below base w w' := by
  have H := Kpt.mk (has_any B n w)
  rw [show hasB (n : Int) = true from by simp [hasB]; omega] at H
  have e1 : (0 : Int) ≤ (n : Int) := by omega
  have e2 : (n : Int) < 8 := by omega
  have hcell := h.cells n hn
  have hle : base ≤ w.heap.size := Nat.le_trans h.le (Nat.le_of_lt h.lt)
  have HA : Kpt (∀ W, W.heap = w.heap → W.os = w.os → W.tape = w.tape → W.output = w.output → Calls Try.prog 19 #[S n, .int .u16 c] W (Gave base W (S n) (addL (L n) c))) := ⟨fun W hW _ _ _ => added_any base (S n) (L n) c W ((h.own n hn).of_block (fun g _ => by rw [hW])) (h.few n hn) (by rw [hW]; exact hle)⟩
  have hK := Kpt.mk h
  obtain ⟨v, hv⟩ : ∃ v, v = S n := ⟨_, rfl⟩
  rw [← hv] at hcell HA
  replace hv := Kpt.mk hv
  have hfr := h.free n
  have hBlt := h.lt
  clear h
  go_enter Try.func9, Try.ntmps9
  go_wp2_with (go_at_call 18; refine H.out.mono ?_; rintro e w' ⟨rfl, rfl⟩)
  go_region_with ((go_at_call 19; go_loud (refine (HA.out w'.drew rfl rfl rfl rfl).mono ?_; rintro e w1 ⟨v', rfl, hO1, hg1, hor⟩; have hgw : w'.grownBy w1 v.ownBlock := ⟨hg1.os, hg1.tape, hg1.output, hg1.size, hg1.block⟩; have hBv : some B ≠ v.ownBlock := fun e => hK.out.other n B hn (by rw [← hv.out]; exact e.symm) rfl; have hB1 : w1.heap[B]? = w'.heap[B]? := hgw.block B hBlt hBv; have k1 : w1.cell? ⟨B, n, none⟩ = some v := (World.cell?_of_block (w := w') (w' := w1) (a := ⟨B, n, none⟩) hB1).trans hcell; have k2 : w1.frozen? ⟨B, n, none⟩ = false := (World.frozen?_of_block (w := w') (w' := w1) (a := ⟨B, n, none⟩) hB1).trans hfr; obtain ⟨av, cv, hv', hsh⟩ := hO1.shape; obtain ⟨lv, hlv⟩ : ∃ l, l = (addL (L n) c).length := ⟨_, rfl⟩; rw [← hlv] at hv'; replace hlv := Kpt.mk hlv; have hO1K := Kpt.mk hO1; have horK := Kpt.mk hor; have hgwK := Kpt.mk hgw; clear hO1 hor hgw hg1 hBv hB1 hsh; subst hv')))
  go_wp2
  have hgS : w'.grownBy w1 (S n).ownBlock := by rw [← hv.out]; exact hgwK.out
  refine bodyPost_end (results_none rfl _ _ _) rfl ?_
  have hor : (Value.slice av lv cv).ownBlock = (S n).ownBlock ∨ (Value.slice av lv cv).ownBlock = none ∨ ∃ g, (Value.slice av lv cv).ownBlock = some g ∧ w'.heap.size ≤ g := by
    rcases horK.out with e | ⟨g, e, hge⟩
    · exact .inl (by rw [← hv.out]; exact e)
    · exact .inr (.inr ⟨g, e, hge⟩)
  exact ⟨rfl, ⟨_, hK.out.turn hn hgS hO1K.out hor (addL_few _ _ (hK.out.few n hn)) (addL_good _ _ hc (hK.out.good n hn)), turned_turn hK.out hn hgS hor⟩, below_turn hK.out hn hgS⟩
end Go.Proofs.Ytodppeldliliaaa
