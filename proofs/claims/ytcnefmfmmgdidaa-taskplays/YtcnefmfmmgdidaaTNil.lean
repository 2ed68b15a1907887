/-
  The contracts of Establish, Relieve, and of a set that there is not.
-/
import Derived.Test.YtcnefmfmmgdidaaTTake
namespace Go.Proofs.Ytcnefmfmmgdidaa
open Go.RowKit
set_option linter.unusedVariables false
set_option linter.unusedSimpArgs false

theorem establish_ok (base B : Nat) (ts : List Tk) (v : Value) (n : Int) (w : World) (h : St base w B ts (-1) v) (hn : 0 ≤ n ∧ n < 8) :
    Calls Try.prog 21 #[.pointer (some ⟨B, 0, none⟩), .int .i64 n] w fun e w' => e = .returned (.int .i64 0) ∧ St base w' B ts n v ∧ Trn w w' B v v ∧ Below base w w' := by
  have HN := fun W => Kpt.mk (isNexus_any n W)
  rw [show decide (0 ≤ n ∧ n < 8) = true from by simp [hn]] at HN
  have hF := Kpt.mk (h.stand n)
  have k1 := h.c1
  have kf := h.free 1
  have klt := h.lt
  clear h
  go_enter Try.func21, Try.ntmps21
  go_wp2_with (go_at_call 33; go_must (refine (HN _).out.mono ?_; rintro e w' ⟨rfl, rfl⟩))
  go_ret
  exact ⟨rfl, hF.out⟩
theorem establish_twice (base B : Nat) (ts : List Tk) (st : Int) (v : Value) (n : Int) (w : World) (h : St base w B ts st v) (hn : 0 ≤ n ∧ n < 8) (hs : ¬ st = -1) :
    Calls Try.prog 21 #[.pointer (some ⟨B, 0, none⟩), .int .i64 n] w fun e w' => e = .returned (.int .i64 12) ∧ w' = w := by
  have HN := fun W => Kpt.mk (isNexus_any n W)
  rw [show decide (0 ≤ n ∧ n < 8) = true from by simp [hn]] at HN
  have k1 := h.c1
  have klt := h.lt
  clear h
  go_enter Try.func21, Try.ntmps21
  go_wp2_with (go_at_call 33; go_must (refine (HN _).out.mono ?_; rintro e w' ⟨rfl, rfl⟩))
  go_ret
  exact ⟨rfl, rfl⟩
set_option maxHeartbeats 1000000 in
theorem relieve_any (base B : Nat) (ts : List Tk) (st : Int) (v : Value) (w : World) (h : St base w B ts st v) :
    Calls Try.prog 22 #[.pointer (some ⟨B, 0, none⟩)] w fun e w' => ∃ y v', e = .returned y ∧ Own w.heap.size w' y (ts.filter (fun t => decide (t.ar = 3))) ∧ St base w' B (ts.filter (fun t => !decide (t.ar = 3))) (-1) v' ∧ Trn w w' B v v' ∧ Below base w w' ∧ Off y v' := by
  obtain ⟨g1, g2, g3⟩ := h.stand (-1)
  have H := Kpt.mk (take_any 38 #[] (fun t => decide (t.ar = 3)) base B ts (-1) v (w.setCell ⟨B, 1, none⟩ (.int .i64 (-1))) g1 hcf38 (fun W hW t _ => forACA_any t W))
  have k1 := h.c1
  have kf := h.free 1
  have klt := h.lt
  have g2K := Kpt.mk g2
  have g3K := Kpt.mk g3
  clear h g1 g2 g3
  go_enter Try.func22, Try.ntmps22
  go_wp2_with (go_at_call 37; go_must (refine H.out.mono ?_; rintro e w' ⟨y, v', rfl, h1, h2, h3, h4, h5⟩; have hP : Kpt (∃ y' v', Ending.returned y = .returned y' ∧ Own w.heap.size w' y' (ts.filter (fun t => decide (t.ar = 3))) ∧ St base w' B (ts.filter (fun t => !decide (t.ar = 3))) (-1) v' ∧ Trn w w' B v v' ∧ Below base w w' ∧ Off y' v') := ⟨⟨y, v', rfl, by simpa using h1, h2, g2K.out.trans h3, g3K.out.trans h4, h5⟩⟩; clear h1 h2 h3 h4 h5))
  go_ret
  exact hP.out

theorem nil_enter (t : Tk) (w : World) : Calls Try.prog 18 #[.pointer none, .agg t.vals] w fun e w' => e = .returned (.tuple #[.int .u8 0, .int .i64 8]) ∧ Below w.heap.size w w' := by
  obtain ⟨a, b, c, d⟩ := t
  simp only [Tk.vals]
  go_enter Try.func18, Try.ntmps18
  go_wp2
  go_ret2
  exact ⟨rfl, (Below.refl _ _).alloc (Nat.le_refl _) _⟩
theorem nil_find (n g : Int) (w : World) : Calls Try.prog 34 #[.pointer none, .int .i64 n, .int .u32 g] w fun e w' => e = .returned (.int .i64 (-1)) ∧ Below w.heap.size w w' := by
  go_enter Try.func34, Try.ntmps34
  go_wp2
  go_ret
  exact ⟨rfl, ((Below.refl _ _).alloc (Nat.le_refl _) _).alloc (by simp) _⟩
theorem nil_start (n g : Int) (w : World) : Calls Try.prog 19 #[.pointer none, .int .i64 n, .int .u32 g] w fun e w' => e = .returned (.int .i64 8) ∧ Below w.heap.size w w' := by
  have H := Kpt.mk (nil_find n g w)
  go_enter Try.func19, Try.ntmps19
  go_wp2_with (go_at_call 34; go_must (refine H.out.mono ?_; rintro e w' ⟨rfl, hb⟩; replace hb := Kpt.mk hb))
  go_ret
  exact ⟨rfl, hb.out⟩
theorem nil_end (n g : Int) (w : World) : Calls Try.prog 20 #[.pointer none, .int .i64 n, .int .u32 g] w fun e w' => e = .returned (.int .i64 8) ∧ Below w.heap.size w w' := by
  have H := Kpt.mk (nil_find n g w)
  go_enter Try.func20, Try.ntmps20
  go_wp2_with (go_at_call 34; go_must (refine H.out.mono ?_; rintro e w' ⟨rfl, hb⟩; replace hb := Kpt.mk hb))
  go_ret
  exact ⟨rfl, hb.out⟩
theorem nil_ready (w : World) : Calls Try.prog 15 #[.pointer none] w fun e w' => e = .returned (.slice none 0 0) ∧ w' = w := by
  go_enter Try.func15, Try.ntmps15
  go_wp2
  go_ret
  exact ⟨rfl, rfl⟩
theorem nil_tasks (w : World) : Calls Try.prog 14 #[.pointer none] w fun e w' => e = .returned (.slice none 0 0) ∧ w' = w := by
  go_enter Try.func14, Try.ntmps14
  go_wp2
  go_ret
  exact ⟨rfl, rfl⟩
theorem nil_clear (w : World) : Calls Try.prog 23 #[.pointer none] w fun e w' => e = .returned (.slice none 0 0) ∧ w' = w := by
  go_enter Try.func23, Try.ntmps23
  go_wp2
  go_ret
  exact ⟨rfl, rfl⟩
theorem nil_stands (w : World) : Calls Try.prog 17 #[.pointer none] w fun e w' => e = .returned (.int .i64 (-1)) ∧ w' = w := by
  go_enter Try.func17, Try.ntmps17
  go_wp2
  go_ret
  exact ⟨rfl, rfl⟩
theorem nil_establish (n : Int) (w : World) : Calls Try.prog 21 #[.pointer none, .int .i64 n] w fun e w' => e = .returned (.int .i64 8) ∧ w' = w := by
  go_enter Try.func21, Try.ntmps21
  go_wp2
  go_ret
  exact ⟨rfl, rfl⟩
end Go.Proofs.Ytcnefmfmmgdidaa
