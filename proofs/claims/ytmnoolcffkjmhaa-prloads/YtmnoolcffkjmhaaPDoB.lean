/-
  The contract of Do: preempt, register; all.
-/
import Derived.Test.YtmnoolcffkjmhaaPDoA
namespace Go.Proofs.Ytmnoolcffkjmhaa
open Go.RowKit
set_option linter.unusedVariables false
set_option linter.unusedSimpArgs false

set_option maxRecDepth 100000 in
set_option maxHeartbeats 4000000 in
theorem do_preempt4 (B : Nat) (t : Tb) (n : Int) (o : Ou) (w : World) (h : Tab w B t) (hok : t.ok) (hn : 0 ≤ n ∧ n < 8) (hb : ¬ 6 < o.sv) (hal : t.allows n.toNat o = true) (hsv : o.sv = 4) :
    Calls Try.prog 15 #[.pointer (some ⟨B, 0, none⟩), .int .i64 n, .agg o.vals] w fun e w' => ∃ v, e = .returned (.tuple #[.int .u8 (t.doR n o).1, .int .u16 (t.doR n o).2, v]) ∧ Own .u16 55 w.heap.size w' v (t.doE n o) ∧ Tab w' B (t.doT n o) ∧ w.grownBy w' (some B) := by
  have hbad : t.bad n o = false := by unfold Tb.bad; simp only [decide_eq_false_iff_not]; omega
  have hbd : ¬ t.bad n o = true := by simp [hbad]
  have hE : Kpt (t.doE n o = t.preemptE n o) := ⟨by unfold Tb.doE; rw [if_neg hbd, if_neg (by simp [hal]), if_neg (by omega), if_neg (by omega), if_neg (by omega), if_pos (by omega)]⟩
  have hT : Kpt (t.doT n o = t.preempt n o) := ⟨by unfold Tb.doT; rw [if_neg hbd, if_neg (by simp [hal]), if_neg (by omega), if_neg (by omega), if_neg (by omega), if_pos (by omega)]⟩
  rw [show t.doR n o = t.preemptR o from by unfold Tb.doR; rw [if_neg hbd, if_neg (by simp [hal]), if_neg (by omega), if_neg (by omega), if_neg (by omega), if_pos (by omega)]]
  generalize t.doE n o = RE at *
  generalize t.doT n o = RT at *
  have HN := fun W => Kpt.mk (isNexus_any n W)
  rw [show decide (0 ≤ n ∧ n < 8) = true from decide_eq_true hn] at HN
  obtain ⟨m, rfl⟩ : ∃ m : Nat, n = m := ⟨n.toNat, by omega⟩
  have hm8 : m < 8 := by omega
  rw [Int.toNat_natCast] at *
  have HA : Kpt (∀ W, Tab W B t → Calls Try.prog 38 #[.pointer (some ⟨B, 0, none⟩), .int .i64 m, .agg o.vals] W fun e w' => e = .returned (.bool (t.allows m o)) ∧ Below W.heap.size W w') := ⟨fun W hW => allows_any B t m o W hW hm8⟩
  rw [hal] at HA
  have HS : Kpt (∀ W, Tab W B t → Calls Try.prog 42 #[.pointer (some ⟨B, 0, none⟩), .int .i64 m, .agg o.vals] W fun e w' => ∃ v, e = .returned (.tuple #[.int .u8 (t.preemptR o).1, .int .u16 (t.preemptR o).2, v]) ∧ Own .u16 55 W.heap.size w' v (t.preemptE m o) ∧ Tab w' B (t.preempt m o) ∧ W.grownBy w' (some B)) := ⟨fun W hW => preempt_any B t m o W hW hok⟩
  generalize t.preemptR o = RR at *
  generalize t.preempt m o = TT at *
  generalize t.preemptE m o = EE at *
  have hlt := h.lt
  obtain ⟨sv, ty, ky, ac, ap⟩ := o
  simp only [Ou.vals] at *
  obtain ⟨w0, hw0⟩ : ∃ w0, w0 = w.alloc (.cells #[.int .u8 sv, .int .u8 ty, .int .u64 ky, .int .u64 ac, .bool ap] 33) := ⟨_, rfl⟩
  have hT0 : Kpt (Tab w0 B t) := ⟨by rw [hw0]; exact h.alloc _⟩
  have hG0 : Kpt (w.grownBy w0 (some B)) := ⟨by rw [hw0]; exact grown_alloc _ _ _⟩
  have hs0 : Kpt (w0.heap.size = w.heap.size + 1) := ⟨by rw [hw0]; simp⟩
  have b0 : Kpt (w0.cell? ⟨w.heap.size, 0, none⟩ = some (.int .u8 sv)) := ⟨by rw [hw0]; simp⟩
  have b1 : Kpt (w0.cell? ⟨w.heap.size, 1, none⟩ = some (.int .u8 ty)) := ⟨by rw [hw0]; simp⟩
  have b2 : Kpt (w0.cell? ⟨w.heap.size, 2, none⟩ = some (.int .u64 ky)) := ⟨by rw [hw0]; simp⟩
  have b3 : Kpt (w0.cell? ⟨w.heap.size, 3, none⟩ = some (.int .u64 ac)) := ⟨by rw [hw0]; simp⟩
  have b4 : Kpt (w0.cell? ⟨w.heap.size, 4, none⟩ = some (.bool ap)) := ⟨by rw [hw0]; simp⟩
  replace hw0 := Kpt.mk hw0
  subst hsv
  clear hbad hbd h hn hal
  go_enter Try.func15, Try.ntmps15
  go_wp2_with (first | (go_at_call 42; go_must (refine (HS.out _ hT1.out).mono ?_; rintro e w2 ⟨v, rfl, hO2, hT2, hG2⟩; replace hT2 := Kpt.mk hT2; replace hG2 := Kpt.mk hG2; replace hO2 := Kpt.mk hO2)) | (go_at_call 38; go_must (refine (HA.out _ hT0.out).mono ?_; rintro e w1 ⟨rfl, hB1⟩; have hT1 : Kpt (Tab w1 B t) := ⟨hT0.out.below' hB1⟩; have hG1 : Kpt (w.grownBy w1 (some B)) := ⟨grown_trans hG0.out (grown_below hB1)⟩; clear d0 d1 d2 d3 d4; have d0 := (hB1.cell (p := ⟨w.heap.size, 0, none⟩) hsl).trans b0.out; have d1 := (hB1.cell (p := ⟨w.heap.size, 1, none⟩) hsl).trans b1.out; have d2 := (hB1.cell (p := ⟨w.heap.size, 2, none⟩) hsl).trans b2.out; have d3 := (hB1.cell (p := ⟨w.heap.size, 3, none⟩) hsl).trans b3.out; have d4 := (hB1.cell (p := ⟨w.heap.size, 4, none⟩) hsl).trans b4.out; have hsz1 : w.heap.size < w1.heap.size := Nat.lt_of_lt_of_le hsl hB1.size; clear hB1)) | (go_at_call 37; go_must (rw [← hw0.out]; refine (HN _).out.mono ?_; rintro e w0 ⟨rfl, rfl⟩; have d0 := b0.out; have d1 := b1.out; have d2 := b2.out; have d3 := b3.out; have d4 := b4.out; have hsl : w.heap.size < w0.heap.size := (by rw [hs0.out]; omega))))
  go_ret3
  exact ⟨_, rfl, by rw [hE.out]; exact hO2.out.lower (by omega), by rw [hT.out]; exact hT2.out, grown_trans hG1.out hG2.out⟩

set_option maxRecDepth 100000 in
set_option maxHeartbeats 4000000 in
theorem do_preempt5 (B : Nat) (t : Tb) (n : Int) (o : Ou) (w : World) (h : Tab w B t) (hok : t.ok) (hn : 0 ≤ n ∧ n < 8) (hb : ¬ 6 < o.sv) (hal : t.allows n.toNat o = true) (hsv : o.sv = 5) :
    Calls Try.prog 15 #[.pointer (some ⟨B, 0, none⟩), .int .i64 n, .agg o.vals] w fun e w' => ∃ v, e = .returned (.tuple #[.int .u8 (t.doR n o).1, .int .u16 (t.doR n o).2, v]) ∧ Own .u16 55 w.heap.size w' v (t.doE n o) ∧ Tab w' B (t.doT n o) ∧ w.grownBy w' (some B) := by
  have hbad : t.bad n o = false := by unfold Tb.bad; simp only [decide_eq_false_iff_not]; omega
  have hbd : ¬ t.bad n o = true := by simp [hbad]
  have hE : Kpt (t.doE n o = t.preemptE n o) := ⟨by unfold Tb.doE; rw [if_neg hbd, if_neg (by simp [hal]), if_neg (by omega), if_neg (by omega), if_neg (by omega), if_pos (by omega)]⟩
  have hT : Kpt (t.doT n o = t.preempt n o) := ⟨by unfold Tb.doT; rw [if_neg hbd, if_neg (by simp [hal]), if_neg (by omega), if_neg (by omega), if_neg (by omega), if_pos (by omega)]⟩
  rw [show t.doR n o = t.preemptR o from by unfold Tb.doR; rw [if_neg hbd, if_neg (by simp [hal]), if_neg (by omega), if_neg (by omega), if_neg (by omega), if_pos (by omega)]]
  generalize t.doE n o = RE at *
  generalize t.doT n o = RT at *
  have HN := fun W => Kpt.mk (isNexus_any n W)
  rw [show decide (0 ≤ n ∧ n < 8) = true from decide_eq_true hn] at HN
  obtain ⟨m, rfl⟩ : ∃ m : Nat, n = m := ⟨n.toNat, by omega⟩
  have hm8 : m < 8 := by omega
  rw [Int.toNat_natCast] at *
  have HA : Kpt (∀ W, Tab W B t → Calls Try.prog 38 #[.pointer (some ⟨B, 0, none⟩), .int .i64 m, .agg o.vals] W fun e w' => e = .returned (.bool (t.allows m o)) ∧ Below W.heap.size W w') := ⟨fun W hW => allows_any B t m o W hW hm8⟩
  rw [hal] at HA
  have HS : Kpt (∀ W, Tab W B t → Calls Try.prog 42 #[.pointer (some ⟨B, 0, none⟩), .int .i64 m, .agg o.vals] W fun e w' => ∃ v, e = .returned (.tuple #[.int .u8 (t.preemptR o).1, .int .u16 (t.preemptR o).2, v]) ∧ Own .u16 55 W.heap.size w' v (t.preemptE m o) ∧ Tab w' B (t.preempt m o) ∧ W.grownBy w' (some B)) := ⟨fun W hW => preempt_any B t m o W hW hok⟩
  generalize t.preemptR o = RR at *
  generalize t.preempt m o = TT at *
  generalize t.preemptE m o = EE at *
  have hlt := h.lt
  obtain ⟨sv, ty, ky, ac, ap⟩ := o
  simp only [Ou.vals] at *
  obtain ⟨w0, hw0⟩ : ∃ w0, w0 = w.alloc (.cells #[.int .u8 sv, .int .u8 ty, .int .u64 ky, .int .u64 ac, .bool ap] 33) := ⟨_, rfl⟩
  have hT0 : Kpt (Tab w0 B t) := ⟨by rw [hw0]; exact h.alloc _⟩
  have hG0 : Kpt (w.grownBy w0 (some B)) := ⟨by rw [hw0]; exact grown_alloc _ _ _⟩
  have hs0 : Kpt (w0.heap.size = w.heap.size + 1) := ⟨by rw [hw0]; simp⟩
  have b0 : Kpt (w0.cell? ⟨w.heap.size, 0, none⟩ = some (.int .u8 sv)) := ⟨by rw [hw0]; simp⟩
  have b1 : Kpt (w0.cell? ⟨w.heap.size, 1, none⟩ = some (.int .u8 ty)) := ⟨by rw [hw0]; simp⟩
  have b2 : Kpt (w0.cell? ⟨w.heap.size, 2, none⟩ = some (.int .u64 ky)) := ⟨by rw [hw0]; simp⟩
  have b3 : Kpt (w0.cell? ⟨w.heap.size, 3, none⟩ = some (.int .u64 ac)) := ⟨by rw [hw0]; simp⟩
  have b4 : Kpt (w0.cell? ⟨w.heap.size, 4, none⟩ = some (.bool ap)) := ⟨by rw [hw0]; simp⟩
  replace hw0 := Kpt.mk hw0
  subst hsv
  clear hbad hbd h hn hal
  go_enter Try.func15, Try.ntmps15
  go_wp2_with (first | (go_at_call 42; go_must (refine (HS.out _ hT1.out).mono ?_; rintro e w2 ⟨v, rfl, hO2, hT2, hG2⟩; replace hT2 := Kpt.mk hT2; replace hG2 := Kpt.mk hG2; replace hO2 := Kpt.mk hO2)) | (go_at_call 38; go_must (refine (HA.out _ hT0.out).mono ?_; rintro e w1 ⟨rfl, hB1⟩; have hT1 : Kpt (Tab w1 B t) := ⟨hT0.out.below' hB1⟩; have hG1 : Kpt (w.grownBy w1 (some B)) := ⟨grown_trans hG0.out (grown_below hB1)⟩; clear d0 d1 d2 d3 d4; have d0 := (hB1.cell (p := ⟨w.heap.size, 0, none⟩) hsl).trans b0.out; have d1 := (hB1.cell (p := ⟨w.heap.size, 1, none⟩) hsl).trans b1.out; have d2 := (hB1.cell (p := ⟨w.heap.size, 2, none⟩) hsl).trans b2.out; have d3 := (hB1.cell (p := ⟨w.heap.size, 3, none⟩) hsl).trans b3.out; have d4 := (hB1.cell (p := ⟨w.heap.size, 4, none⟩) hsl).trans b4.out; have hsz1 : w.heap.size < w1.heap.size := Nat.lt_of_lt_of_le hsl hB1.size; clear hB1)) | (go_at_call 37; go_must (rw [← hw0.out]; refine (HN _).out.mono ?_; rintro e w0 ⟨rfl, rfl⟩; have d0 := b0.out; have d1 := b1.out; have d2 := b2.out; have d3 := b3.out; have d4 := b4.out; have hsl : w.heap.size < w0.heap.size := (by rw [hs0.out]; omega))))
  go_ret3
  exact ⟨_, rfl, by rw [hE.out]; exact hO2.out.lower (by omega), by rw [hT.out]; exact hT2.out, grown_trans hG1.out hG2.out⟩

set_option maxRecDepth 100000 in
set_option maxHeartbeats 4000000 in
theorem do_register (B : Nat) (t : Tb) (n : Int) (o : Ou) (w : World) (h : Tab w B t) (hok : t.ok) (hn : 0 ≤ n ∧ n < 8) (hb : ¬ 6 < o.sv) (hal : t.allows n.toNat o = true) (h1 : o.sv ≠ 1) (h2 : o.sv ≠ 2) (h3 : o.sv ≠ 3) (h4 : o.sv ≠ 4) (h5 : o.sv ≠ 5) :
    Calls Try.prog 15 #[.pointer (some ⟨B, 0, none⟩), .int .i64 n, .agg o.vals] w fun e w' => ∃ v, e = .returned (.tuple #[.int .u8 (t.doR n o).1, .int .u16 (t.doR n o).2, v]) ∧ Own .u16 55 w.heap.size w' v (t.doE n o) ∧ Tab w' B (t.doT n o) ∧ w.grownBy w' (some B) := by
  have hbad : t.bad n o = false := by unfold Tb.bad; simp only [decide_eq_false_iff_not]; omega
  have hbd : ¬ t.bad n o = true := by simp [hbad]
  have hE : Kpt (t.doE n o = t.registerE n.toNat o) := ⟨by unfold Tb.doE; rw [if_neg hbd, if_neg (by simp [hal]), if_neg h1, if_neg h2, if_neg h3, if_neg (by omega)]⟩
  have hT : Kpt (t.doT n o = t.register n.toNat o) := ⟨by unfold Tb.doT; rw [if_neg hbd, if_neg (by simp [hal]), if_neg h1, if_neg h2, if_neg h3, if_neg (by omega)]⟩
  rw [show t.doR n o = (0, 0) from by unfold Tb.doR; rw [if_neg hbd, if_neg (by simp [hal]), if_neg h1, if_neg h2, if_neg h3, if_neg (by omega)]]
  generalize t.doE n o = RE at *
  generalize t.doT n o = RT at *
  have HN := fun W => Kpt.mk (isNexus_any n W)
  rw [show decide (0 ≤ n ∧ n < 8) = true from decide_eq_true hn] at HN
  obtain ⟨m, rfl⟩ : ∃ m : Nat, n = m := ⟨n.toNat, by omega⟩
  have hm8 : m < 8 := by omega
  rw [Int.toNat_natCast] at *
  have HA : Kpt (∀ W, Tab W B t → Calls Try.prog 38 #[.pointer (some ⟨B, 0, none⟩), .int .i64 m, .agg o.vals] W fun e w' => e = .returned (.bool (t.allows m o)) ∧ Below W.heap.size W w') := ⟨fun W hW => allows_any B t m o W hW hm8⟩
  rw [hal] at HA
  have HS : Kpt (∀ W, Tab W B t → Calls Try.prog 43 #[.pointer (some ⟨B, 0, none⟩), .int .i64 m, .agg o.vals] W fun e w' => ∃ v, e = .returned v ∧ Own .u16 55 W.heap.size w' v (t.registerE m o) ∧ Tab w' B (t.register m o) ∧ W.grownBy w' (some B)) := ⟨fun W hW => register_any B t m o W hW hm8 hok.kd0 hok.gn0⟩
  generalize t.register m o = TT at *
  generalize t.registerE m o = EE at *
  have hlt := h.lt
  obtain ⟨sv, ty, ky, ac, ap⟩ := o
  simp only [Ou.vals] at *
  obtain ⟨w0, hw0⟩ : ∃ w0, w0 = w.alloc (.cells #[.int .u8 sv, .int .u8 ty, .int .u64 ky, .int .u64 ac, .bool ap] 33) := ⟨_, rfl⟩
  have hT0 : Kpt (Tab w0 B t) := ⟨by rw [hw0]; exact h.alloc _⟩
  have hG0 : Kpt (w.grownBy w0 (some B)) := ⟨by rw [hw0]; exact grown_alloc _ _ _⟩
  have hs0 : Kpt (w0.heap.size = w.heap.size + 1) := ⟨by rw [hw0]; simp⟩
  have b0 : Kpt (w0.cell? ⟨w.heap.size, 0, none⟩ = some (.int .u8 sv)) := ⟨by rw [hw0]; simp⟩
  have b1 : Kpt (w0.cell? ⟨w.heap.size, 1, none⟩ = some (.int .u8 ty)) := ⟨by rw [hw0]; simp⟩
  have b2 : Kpt (w0.cell? ⟨w.heap.size, 2, none⟩ = some (.int .u64 ky)) := ⟨by rw [hw0]; simp⟩
  have b3 : Kpt (w0.cell? ⟨w.heap.size, 3, none⟩ = some (.int .u64 ac)) := ⟨by rw [hw0]; simp⟩
  have b4 : Kpt (w0.cell? ⟨w.heap.size, 4, none⟩ = some (.bool ap)) := ⟨by rw [hw0]; simp⟩
  replace hw0 := Kpt.mk hw0

  have q1 : ((sv : Int) == 1) = false := by simp [h1]
  have q2 : ((sv : Int) == 2) = false := by simp [h2]
  have q3 : ((sv : Int) == 3) = false := by simp [h3]
  have q4 : ((sv : Int) == 4) = false := by simp [h4]
  have q5 : ((sv : Int) == 5) = false := by simp [h5]
  clear hbad hbd h hn hal
  go_enter Try.func15, Try.ntmps15
  go_wp2_with (first | (go_at_call 43; go_must (refine (HS.out _ hT1.out).mono ?_; rintro e w2 ⟨v, rfl, hO2, hT2, hG2⟩; replace hT2 := Kpt.mk hT2; replace hG2 := Kpt.mk hG2; replace hO2 := Kpt.mk hO2)) | (go_at_call 38; go_must (refine (HA.out _ hT0.out).mono ?_; rintro e w1 ⟨rfl, hB1⟩; have hT1 : Kpt (Tab w1 B t) := ⟨hT0.out.below' hB1⟩; have hG1 : Kpt (w.grownBy w1 (some B)) := ⟨grown_trans hG0.out (grown_below hB1)⟩; clear d0 d1 d2 d3 d4; have d0 := (hB1.cell (p := ⟨w.heap.size, 0, none⟩) hsl).trans b0.out; have d1 := (hB1.cell (p := ⟨w.heap.size, 1, none⟩) hsl).trans b1.out; have d2 := (hB1.cell (p := ⟨w.heap.size, 2, none⟩) hsl).trans b2.out; have d3 := (hB1.cell (p := ⟨w.heap.size, 3, none⟩) hsl).trans b3.out; have d4 := (hB1.cell (p := ⟨w.heap.size, 4, none⟩) hsl).trans b4.out; have hsz1 : w.heap.size < w1.heap.size := Nat.lt_of_lt_of_le hsl hB1.size; clear hB1)) | (go_at_call 37; go_must (rw [← hw0.out]; refine (HN _).out.mono ?_; rintro e w0 ⟨rfl, rfl⟩; have d0 := b0.out; have d1 := b1.out; have d2 := b2.out; have d3 := b3.out; have d4 := b4.out; have hsl : w.heap.size < w0.heap.size := (by rw [hs0.out]; omega))))
  go_ret3
  exact ⟨_, rfl, by rw [hE.out]; exact hO2.out.lower (by omega), by rw [hT.out]; exact hT2.out, grown_trans hG1.out hG2.out⟩

theorem do_any (B : Nat) (t : Tb) (n : Int) (o : Ou) (w : World) (h : Tab w B t) (hok : t.ok) :
    Calls Try.prog 15 #[.pointer (some ⟨B, 0, none⟩), .int .i64 n, .agg o.vals] w fun e w' => ∃ v, e = .returned (.tuple #[.int .u8 (t.doR n o).1, .int .u16 (t.doR n o).2, v]) ∧ Own .u16 55 w.heap.size w' v (t.doE n o) ∧ Tab w' B (t.doT n o) ∧ w.grownBy w' (some B) := by
  by_cases hn : 0 ≤ n ∧ n < 8
  · by_cases hb : 6 < o.sv
    · exact do_service B t n o w h hok hn hb
    · cases hal : t.allows n.toNat o with
      | false => exact do_conflict B t n o w h hok hn hb hal
      | true =>
        by_cases h1 : o.sv = 1
        · exact do_reserve B t n o w h hok hn hb hal h1
        by_cases h2 : o.sv = 2
        · exact do_release B t n o w h hok hn hb hal h2
        by_cases h3 : o.sv = 3
        · exact do_clear B t n o w h hok hn hb hal h3
        by_cases h4 : o.sv = 4
        · exact do_preempt4 B t n o w h hok hn hb hal h4
        by_cases h5 : o.sv = 5
        · exact do_preempt5 B t n o w h hok hn hb hal h5
        exact do_register B t n o w h hok hn hb hal h1 h2 h3 h4 h5
  · exact do_none B t n o w h hok hn
end Go.Proofs.Ytmnoolcffkjmhaa
