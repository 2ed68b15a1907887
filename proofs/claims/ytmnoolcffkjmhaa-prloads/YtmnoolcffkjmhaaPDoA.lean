/-
  The contract of Do.
-/
import Derived.Test.YtmnoolcffkjmhaaPPreB
import Derived.Test.YtmnoolcffkjmhaaPPreC
namespace Go.Proofs.Ytmnoolcffkjmhaa
open Go.RowKit
set_option linter.unusedVariables false
set_option linter.unusedSimpArgs false

/-- What a table is, always. -/
structure Tb.ok (t : Tb) : Prop where
  fit : t.fit
  kd0 : 0 ≤ t.kd
  gn0 : 0 ≤ t.gn ∧ t.gn < 4294967296

theorem preempt_any (B : Nat) (t : Tb) (n : Int) (o : Ou) (w : World) (h : Tab w B t) (hok : t.ok) :
    Calls Try.prog 42 #[.pointer (some ⟨B, 0, none⟩), .int .i64 n, .agg o.vals] w fun e w' => ∃ v, e = .returned (.tuple #[.int .u8 (t.preemptR o).1, .int .u16 (t.preemptR o).2, v]) ∧ Own .u16 55 w.heap.size w' v (t.preemptE n o) ∧ Tab w' B (t.preempt n o) ∧ w.grownBy w' (some B) := by
  obtain ⟨hf, hk, hg⟩ := hok
  cases htk : t.taken o.ac with
  | false =>
    by_cases hac : o.ac = 0
    · exact preempt_param B t n o w h hf hk hg hac htk
    · cases hha : t.has o.ac with
      | false => exact preempt_confF B t n o w h hf hk hg hac htk hha
      | true => exact preempt_rm B t n o w h hf hk hg hac htk hha
  | true =>
    cases hty : isTy o.ty with
    | false => exact preempt_field B t n o w h hf hk hg htk hty
    | true =>
      by_cases hac : o.ac = 0
      · by_cases h5 : 5 ≤ t.kd
        · by_cases hne : t.kd = o.ty
          · exact preempt_doneZs B t n o w h hf hk hg hac htk hty h5 hne
          · exact preempt_doneZ B t n o w h hf hk hg hac htk hty h5 hne
        · exact preempt_doneZn B t n o w h hf hk hg hac htk hty h5
      · cases hha : t.has o.ac with
        | false => exact preempt_confT B t n o w h hf hk hg hac htk hty hha
        | true =>
          by_cases h5 : 5 ≤ t.kd
          · by_cases hne : t.kd = o.ty
            · exact preempt_doneS B t n o w h hf hk hg hac htk hty hha h5 hne
            · exact preempt_done B t n o w h hf hk hg hac htk hty hha h5 hne
          · exact preempt_doneN B t n o w h hf hk hg hac htk hty hha h5

def Tb.bad (t : Tb) (n : Int) (o : Ou) : Bool := decide (¬ (0 ≤ n ∧ n < 8) ∨ 6 < o.sv)
def Tb.doR (t : Tb) (n : Int) (o : Ou) : Int × Int :=
  if t.bad n o = true then (2, 9216) else if t.allows n.toNat o = false then (24, 0) else if o.sv = 1 then t.reserveR n o.ty else if o.sv = 2 then t.releaseR n o.ty else if o.sv = 3 then (0, 0) else if o.sv = 4 ∨ o.sv = 5 then t.preemptR o else (0, 0)
def Tb.doT (t : Tb) (n : Int) (o : Ou) : Tb :=
  if t.bad n o = true then t else if t.allows n.toNat o = false then t else if o.sv = 1 then t.reserve n o.ty else if o.sv = 2 then t.release n o.ty else if o.sv = 3 then t.clear else if o.sv = 4 ∨ o.sv = 5 then t.preempt n o else t.register n.toNat o
def Tb.doE (t : Tb) (n : Int) (o : Ou) : List (Int × Int) :=
  if t.bad n o = true then [] else if t.allows n.toNat o = false then [] else if o.sv = 1 then [] else if o.sv = 2 then t.releaseE n o.ty else if o.sv = 3 then othersL n 10755 t.regs else if o.sv = 4 ∨ o.sv = 5 then t.preemptE n o else t.registerE n.toNat o

set_option maxRecDepth 100000 in
set_option maxHeartbeats 4000000 in
theorem do_none (B : Nat) (t : Tb) (n : Int) (o : Ou) (w : World) (h : Tab w B t) (hok : t.ok) (hb : ¬ (0 ≤ n ∧ n < 8)) :
    Calls Try.prog 15 #[.pointer (some ⟨B, 0, none⟩), .int .i64 n, .agg o.vals] w fun e w' => ∃ v, e = .returned (.tuple #[.int .u8 (t.doR n o).1, .int .u16 (t.doR n o).2, v]) ∧ Own .u16 55 w.heap.size w' v (t.doE n o) ∧ Tab w' B (t.doT n o) ∧ w.grownBy w' (some B) := by
  have hbad : t.bad n o = true := by unfold Tb.bad; simp only [decide_eq_true_eq]; exact .inl hb
  have hE : Kpt (t.doE n o = []) := ⟨by unfold Tb.doE; rw [if_pos hbad]⟩
  have hT : Kpt (t.doT n o = t) := ⟨by unfold Tb.doT; rw [if_pos hbad]⟩
  rw [show t.doR n o = (2, 9216) from by unfold Tb.doR; rw [if_pos hbad]]
  generalize t.doE n o = RE at *
  generalize t.doT n o = RT at *
  have HN := fun W => Kpt.mk (isNexus_any n W)
  rw [show decide (0 ≤ n ∧ n < 8) = false from decide_eq_false hb] at HN
  have hlt := h.lt
  obtain ⟨sv, ty, ky, ac, ap⟩ := o
  simp only [Ou.vals] at *
  obtain ⟨w0, hw0⟩ : ∃ w0, w0 = w.alloc (.cells #[.int .u8 sv, .int .u8 ty, .int .u64 ky, .int .u64 ac, .bool ap] 33) := ⟨_, rfl⟩
  have hT0 : Kpt (Tab w0 B t) := ⟨by rw [hw0]; exact h.alloc _⟩
  have hG0 : Kpt (w.grownBy w0 (some B)) := ⟨by rw [hw0]; exact grown_alloc _ _ _⟩
  have hs0 : Kpt (w0.heap.size = w.heap.size + 1) := ⟨by rw [hw0]; simp⟩
  have b0 : Kpt (w0.cell? ⟨w.heap.size, 0, none⟩ = some (.int .u8 sv)) := ⟨by rw [hw0]; simp⟩
  have b1 : Kpt (w0.cell? ⟨w.heap.size, 1, none⟩ = some (.int .u8 ty)) := ⟨by rw [hw0]; simp⟩
  have b2 : Kpt (w0.cell? ⟨w.heap.size, 2, none⟩ = some (.int .u64 ky)) := ⟨by rw [hw0]; simp⟩
  have b3 : Kpt (w0.cell? ⟨w.heap.size, 3, none⟩ = some (.int .u64 ac)) := ⟨by rw [hw0]; simp⟩
  have b4 : Kpt (w0.cell? ⟨w.heap.size, 4, none⟩ = some (.bool ap)) := ⟨by rw [hw0]; simp⟩
  replace hw0 := Kpt.mk hw0
  clear hbad hb h
  go_enter Try.func15, Try.ntmps15
  go_wp2_with (go_at_call 37; go_must (rw [← hw0.out]; refine (HN _).out.mono ?_; rintro e w0 ⟨rfl, rfl⟩))
  go_ret3
  exact ⟨_, rfl, by rw [hE.out]; exact own_nil _ _ _ _, by rw [hT.out]; exact hT0.out, hG0.out⟩

set_option maxRecDepth 100000 in
set_option maxHeartbeats 4000000 in
theorem do_service (B : Nat) (t : Tb) (n : Int) (o : Ou) (w : World) (h : Tab w B t) (hok : t.ok) (hn : 0 ≤ n ∧ n < 8) (hb : 6 < o.sv) :
    Calls Try.prog 15 #[.pointer (some ⟨B, 0, none⟩), .int .i64 n, .agg o.vals] w fun e w' => ∃ v, e = .returned (.tuple #[.int .u8 (t.doR n o).1, .int .u16 (t.doR n o).2, v]) ∧ Own .u16 55 w.heap.size w' v (t.doE n o) ∧ Tab w' B (t.doT n o) ∧ w.grownBy w' (some B) := by
  have hbad : t.bad n o = true := by unfold Tb.bad; simp only [decide_eq_true_eq]; exact .inr hb
  have hE : Kpt (t.doE n o = []) := ⟨by unfold Tb.doE; rw [if_pos hbad]⟩
  have hT : Kpt (t.doT n o = t) := ⟨by unfold Tb.doT; rw [if_pos hbad]⟩
  rw [show t.doR n o = (2, 9216) from by unfold Tb.doR; rw [if_pos hbad]]
  generalize t.doE n o = RE at *
  generalize t.doT n o = RT at *
  have HN := fun W => Kpt.mk (isNexus_any n W)
  rw [show decide (0 ≤ n ∧ n < 8) = true from decide_eq_true hn] at HN
  have hlt := h.lt
  obtain ⟨sv, ty, ky, ac, ap⟩ := o
  simp only [Ou.vals] at *
  obtain ⟨w0, hw0⟩ : ∃ w0, w0 = w.alloc (.cells #[.int .u8 sv, .int .u8 ty, .int .u64 ky, .int .u64 ac, .bool ap] 33) := ⟨_, rfl⟩
  have hT0 : Kpt (Tab w0 B t) := ⟨by rw [hw0]; exact h.alloc _⟩
  have hG0 : Kpt (w.grownBy w0 (some B)) := ⟨by rw [hw0]; exact grown_alloc _ _ _⟩
  have hs0 : Kpt (w0.heap.size = w.heap.size + 1) := ⟨by rw [hw0]; simp⟩
  have b0 : Kpt (w0.cell? ⟨w.heap.size, 0, none⟩ = some (.int .u8 sv)) := ⟨by rw [hw0]; simp⟩
  have b1 : Kpt (w0.cell? ⟨w.heap.size, 1, none⟩ = some (.int .u8 ty)) := ⟨by rw [hw0]; simp⟩
  have b2 : Kpt (w0.cell? ⟨w.heap.size, 2, none⟩ = some (.int .u64 ky)) := ⟨by rw [hw0]; simp⟩
  have b3 : Kpt (w0.cell? ⟨w.heap.size, 3, none⟩ = some (.int .u64 ac)) := ⟨by rw [hw0]; simp⟩
  have b4 : Kpt (w0.cell? ⟨w.heap.size, 4, none⟩ = some (.bool ap)) := ⟨by rw [hw0]; simp⟩
  replace hw0 := Kpt.mk hw0
  clear hbad h hn
  go_enter Try.func15, Try.ntmps15
  go_wp2_with (go_at_call 37; go_must (rw [← hw0.out]; refine (HN _).out.mono ?_; rintro e w0 ⟨rfl, rfl⟩; have b0 := b0.out; have hsl : w.heap.size < w0.heap.size := (by rw [hs0.out]; omega)))
  go_ret3
  exact ⟨_, rfl, by rw [hE.out]; exact own_nil _ _ _ _, by rw [hT.out]; exact hT0.out, hG0.out⟩

set_option maxRecDepth 100000 in
set_option maxHeartbeats 4000000 in
theorem do_conflict (B : Nat) (t : Tb) (n : Int) (o : Ou) (w : World) (h : Tab w B t) (hok : t.ok) (hn : 0 ≤ n ∧ n < 8) (hb : ¬ 6 < o.sv) (hal : t.allows n.toNat o = false)  :
    Calls Try.prog 15 #[.pointer (some ⟨B, 0, none⟩), .int .i64 n, .agg o.vals] w fun e w' => ∃ v, e = .returned (.tuple #[.int .u8 (t.doR n o).1, .int .u16 (t.doR n o).2, v]) ∧ Own .u16 55 w.heap.size w' v (t.doE n o) ∧ Tab w' B (t.doT n o) ∧ w.grownBy w' (some B) := by
  have hbad : t.bad n o = false := by unfold Tb.bad; simp only [decide_eq_false_iff_not]; omega
  have hbd : ¬ t.bad n o = true := by simp [hbad]
  have hE : Kpt (t.doE n o = []) := ⟨by unfold Tb.doE; rw [if_neg hbd, if_pos hal]⟩
  have hT : Kpt (t.doT n o = t) := ⟨by unfold Tb.doT; rw [if_neg hbd, if_pos hal]⟩
  rw [show t.doR n o = (24, 0) from by unfold Tb.doR; rw [if_neg hbd, if_pos hal]]
  generalize t.doE n o = RE at *
  generalize t.doT n o = RT at *
  have HN := fun W => Kpt.mk (isNexus_any n W)
  rw [show decide (0 ≤ n ∧ n < 8) = true from decide_eq_true hn] at HN
  obtain ⟨m, rfl⟩ : ∃ m : Nat, n = m := ⟨n.toNat, by omega⟩
  have hm8 : m < 8 := by omega
  rw [Int.toNat_natCast] at *
  have HA : Kpt (∀ W, Tab W B t → Calls Try.prog 38 #[.pointer (some ⟨B, 0, none⟩), .int .i64 m, .agg o.vals] W fun e w' => e = .returned (.bool (t.allows m o)) ∧ Below W.heap.size W w') := ⟨fun W hW => allows_any B t m o W hW hm8⟩
  rw [hal] at HA
  have hlt := h.lt
  obtain ⟨sv, ty, ky, ac, ap⟩ := o
  simp only [Ou.vals] at *
  obtain ⟨w0, hw0⟩ : ∃ w0, w0 = w.alloc (.cells #[.int .u8 sv, .int .u8 ty, .int .u64 ky, .int .u64 ac, .bool ap] 33) := ⟨_, rfl⟩
  have hT0 : Kpt (Tab w0 B t) := ⟨by rw [hw0]; exact h.alloc _⟩
  have hG0 : Kpt (w.grownBy w0 (some B)) := ⟨by rw [hw0]; exact grown_alloc _ _ _⟩
  have hs0 : Kpt (w0.heap.size = w.heap.size + 1) := ⟨by rw [hw0]; simp⟩
  have b0 : Kpt (w0.cell? ⟨w.heap.size, 0, none⟩ = some (.int .u8 sv)) := ⟨by rw [hw0]; simp⟩
  have b1 : Kpt (w0.cell? ⟨w.heap.size, 1, none⟩ = some (.int .u8 ty)) := ⟨by rw [hw0]; simp⟩
  have b2 : Kpt (w0.cell? ⟨w.heap.size, 2, none⟩ = some (.int .u64 ky)) := ⟨by rw [hw0]; simp⟩
  have b3 : Kpt (w0.cell? ⟨w.heap.size, 3, none⟩ = some (.int .u64 ac)) := ⟨by rw [hw0]; simp⟩
  have b4 : Kpt (w0.cell? ⟨w.heap.size, 4, none⟩ = some (.bool ap)) := ⟨by rw [hw0]; simp⟩
  replace hw0 := Kpt.mk hw0
  clear hbad hbd h hn hal
  go_enter Try.func15, Try.ntmps15
  go_wp2_with (first | (go_at_call 38; go_must (refine (HA.out _ hT0.out).mono ?_; rintro e w1 ⟨rfl, hB1⟩; have hT1 : Kpt (Tab w1 B t) := ⟨hT0.out.below' hB1⟩; have hG1 : Kpt (w.grownBy w1 (some B)) := ⟨grown_trans hG0.out (grown_below hB1)⟩; clear d0 d1 d2 d3 d4; have d0 := (hB1.cell (p := ⟨w.heap.size, 0, none⟩) hsl).trans b0.out; have d1 := (hB1.cell (p := ⟨w.heap.size, 1, none⟩) hsl).trans b1.out; have d2 := (hB1.cell (p := ⟨w.heap.size, 2, none⟩) hsl).trans b2.out; have d3 := (hB1.cell (p := ⟨w.heap.size, 3, none⟩) hsl).trans b3.out; have d4 := (hB1.cell (p := ⟨w.heap.size, 4, none⟩) hsl).trans b4.out; have hsz1 : w.heap.size < w1.heap.size := Nat.lt_of_lt_of_le hsl hB1.size; clear hB1)) | (go_at_call 37; go_must (rw [← hw0.out]; refine (HN _).out.mono ?_; rintro e w0 ⟨rfl, rfl⟩; have d0 := b0.out; have d1 := b1.out; have d2 := b2.out; have d3 := b3.out; have d4 := b4.out; have hsl : w.heap.size < w0.heap.size := (by rw [hs0.out]; omega))))
  go_ret3
  exact ⟨_, rfl, by rw [hE.out]; exact own_nil _ _ _ _, by rw [hT.out]; exact hT1.out, hG1.out⟩

set_option maxRecDepth 100000 in
set_option maxHeartbeats 4000000 in
theorem do_reserve (B : Nat) (t : Tb) (n : Int) (o : Ou) (w : World) (h : Tab w B t) (hok : t.ok) (hn : 0 ≤ n ∧ n < 8) (hb : ¬ 6 < o.sv) (hal : t.allows n.toNat o = true) (hsv : o.sv = 1) :
    Calls Try.prog 15 #[.pointer (some ⟨B, 0, none⟩), .int .i64 n, .agg o.vals] w fun e w' => ∃ v, e = .returned (.tuple #[.int .u8 (t.doR n o).1, .int .u16 (t.doR n o).2, v]) ∧ Own .u16 55 w.heap.size w' v (t.doE n o) ∧ Tab w' B (t.doT n o) ∧ w.grownBy w' (some B) := by
  have hbad : t.bad n o = false := by unfold Tb.bad; simp only [decide_eq_false_iff_not]; omega
  have hbd : ¬ t.bad n o = true := by simp [hbad]
  have hE : Kpt (t.doE n o = []) := ⟨by unfold Tb.doE; rw [if_neg hbd, if_neg (by simp [hal]), if_pos hsv]⟩
  have hT : Kpt (t.doT n o = t.reserve n o.ty) := ⟨by unfold Tb.doT; rw [if_neg hbd, if_neg (by simp [hal]), if_pos hsv]⟩
  rw [show t.doR n o = t.reserveR n o.ty from by unfold Tb.doR; rw [if_neg hbd, if_neg (by simp [hal]), if_pos hsv]]
  generalize t.doE n o = RE at *
  generalize t.doT n o = RT at *
  have HN := fun W => Kpt.mk (isNexus_any n W)
  rw [show decide (0 ≤ n ∧ n < 8) = true from decide_eq_true hn] at HN
  obtain ⟨m, rfl⟩ : ∃ m : Nat, n = m := ⟨n.toNat, by omega⟩
  have hm8 : m < 8 := by omega
  rw [Int.toNat_natCast] at *
  have HA : Kpt (∀ W, Tab W B t → Calls Try.prog 38 #[.pointer (some ⟨B, 0, none⟩), .int .i64 m, .agg o.vals] W fun e w' => e = .returned (.bool (t.allows m o)) ∧ Below W.heap.size W w') := ⟨fun W hW => allows_any B t m o W hW hm8⟩
  rw [hal] at HA
  have HS : Kpt (∀ W, Tab W B t → Calls Try.prog 39 #[.pointer (some ⟨B, 0, none⟩), .int .i64 m, .int .u8 o.ty] W fun e w' => e = .returned (.tuple #[.int .u8 (t.reserveR m o.ty).1, .int .u16 (t.reserveR m o.ty).2, .slice none 0 0]) ∧ Tab w' B (t.reserve m o.ty) ∧ W.grownBy w' (some B)) := ⟨fun W hW => reserve_any B t m o.ty W hW⟩
  generalize t.reserveR m o.ty = RR at *
  generalize t.reserve m o.ty = TT at *
  have hlt := h.lt
  obtain ⟨sv, ty, ky, ac, ap⟩ := o
  simp only [Ou.vals] at *
  obtain ⟨w0, hw0⟩ : ∃ w0, w0 = w.alloc (.cells #[.int .u8 sv, .int .u8 ty, .int .u64 ky, .int .u64 ac, .bool ap] 33) := ⟨_, rfl⟩
  have hT0 : Kpt (Tab w0 B t) := ⟨by rw [hw0]; exact h.alloc _⟩
  have hG0 : Kpt (w.grownBy w0 (some B)) := ⟨by rw [hw0]; exact grown_alloc _ _ _⟩
  have hs0 : Kpt (w0.heap.size = w.heap.size + 1) := ⟨by rw [hw0]; simp⟩
  have b0 : Kpt (w0.cell? ⟨w.heap.size, 0, none⟩ = some (.int .u8 sv)) := ⟨by rw [hw0]; simp⟩
  have b1 : Kpt (w0.cell? ⟨w.heap.size, 1, none⟩ = some (.int .u8 ty)) := ⟨by rw [hw0]; simp⟩
  have b2 : Kpt (w0.cell? ⟨w.heap.size, 2, none⟩ = some (.int .u64 ky)) := ⟨by rw [hw0]; simp⟩
  have b3 : Kpt (w0.cell? ⟨w.heap.size, 3, none⟩ = some (.int .u64 ac)) := ⟨by rw [hw0]; simp⟩
  have b4 : Kpt (w0.cell? ⟨w.heap.size, 4, none⟩ = some (.bool ap)) := ⟨by rw [hw0]; simp⟩
  replace hw0 := Kpt.mk hw0
  subst hsv
  clear hbad hbd h hn hal
  go_enter Try.func15, Try.ntmps15
  go_wp2_with (first | (go_at_call 39; go_must (refine (HS.out _ hT1.out).mono ?_; rintro e w2 ⟨rfl, hT2, hG2⟩; replace hT2 := Kpt.mk hT2; replace hG2 := Kpt.mk hG2)) | (go_at_call 38; go_must (refine (HA.out _ hT0.out).mono ?_; rintro e w1 ⟨rfl, hB1⟩; have hT1 : Kpt (Tab w1 B t) := ⟨hT0.out.below' hB1⟩; have hG1 : Kpt (w.grownBy w1 (some B)) := ⟨grown_trans hG0.out (grown_below hB1)⟩; clear d0 d1 d2 d3 d4; have d0 := (hB1.cell (p := ⟨w.heap.size, 0, none⟩) hsl).trans b0.out; have d1 := (hB1.cell (p := ⟨w.heap.size, 1, none⟩) hsl).trans b1.out; have d2 := (hB1.cell (p := ⟨w.heap.size, 2, none⟩) hsl).trans b2.out; have d3 := (hB1.cell (p := ⟨w.heap.size, 3, none⟩) hsl).trans b3.out; have d4 := (hB1.cell (p := ⟨w.heap.size, 4, none⟩) hsl).trans b4.out; have hsz1 : w.heap.size < w1.heap.size := Nat.lt_of_lt_of_le hsl hB1.size; clear hB1)) | (go_at_call 37; go_must (rw [← hw0.out]; refine (HN _).out.mono ?_; rintro e w0 ⟨rfl, rfl⟩; have d0 := b0.out; have d1 := b1.out; have d2 := b2.out; have d3 := b3.out; have d4 := b4.out; have hsl : w.heap.size < w0.heap.size := (by rw [hs0.out]; omega))))
  go_ret3
  exact ⟨_, rfl, by rw [hE.out]; exact own_nil _ _ _ _, by rw [hT.out]; exact hT2.out, grown_trans hG1.out hG2.out⟩

set_option maxRecDepth 100000 in
set_option maxHeartbeats 4000000 in
theorem do_release (B : Nat) (t : Tb) (n : Int) (o : Ou) (w : World) (h : Tab w B t) (hok : t.ok) (hn : 0 ≤ n ∧ n < 8) (hb : ¬ 6 < o.sv) (hal : t.allows n.toNat o = true) (hsv : o.sv = 2) :
    Calls Try.prog 15 #[.pointer (some ⟨B, 0, none⟩), .int .i64 n, .agg o.vals] w fun e w' => ∃ v, e = .returned (.tuple #[.int .u8 (t.doR n o).1, .int .u16 (t.doR n o).2, v]) ∧ Own .u16 55 w.heap.size w' v (t.doE n o) ∧ Tab w' B (t.doT n o) ∧ w.grownBy w' (some B) := by
  have hbad : t.bad n o = false := by unfold Tb.bad; simp only [decide_eq_false_iff_not]; omega
  have hbd : ¬ t.bad n o = true := by simp [hbad]
  have hE : Kpt (t.doE n o = t.releaseE n o.ty) := ⟨by unfold Tb.doE; rw [if_neg hbd, if_neg (by simp [hal]), if_neg (by omega), if_pos hsv]⟩
  have hT : Kpt (t.doT n o = t.release n o.ty) := ⟨by unfold Tb.doT; rw [if_neg hbd, if_neg (by simp [hal]), if_neg (by omega), if_pos hsv]⟩
  rw [show t.doR n o = t.releaseR n o.ty from by unfold Tb.doR; rw [if_neg hbd, if_neg (by simp [hal]), if_neg (by omega), if_pos hsv]]
  generalize t.doE n o = RE at *
  generalize t.doT n o = RT at *
  have HN := fun W => Kpt.mk (isNexus_any n W)
  rw [show decide (0 ≤ n ∧ n < 8) = true from decide_eq_true hn] at HN
  obtain ⟨m, rfl⟩ : ∃ m : Nat, n = m := ⟨n.toNat, by omega⟩
  have hm8 : m < 8 := by omega
  rw [Int.toNat_natCast] at *
  have HA : Kpt (∀ W, Tab W B t → Calls Try.prog 38 #[.pointer (some ⟨B, 0, none⟩), .int .i64 m, .agg o.vals] W fun e w' => e = .returned (.bool (t.allows m o)) ∧ Below W.heap.size W w') := ⟨fun W hW => allows_any B t m o W hW hm8⟩
  rw [hal] at HA
  have HS : Kpt (∀ W, Tab W B t → Calls Try.prog 40 #[.pointer (some ⟨B, 0, none⟩), .int .i64 m, .int .u8 o.ty] W fun e w' => ∃ v, e = .returned (.tuple #[.int .u8 (t.releaseR m o.ty).1, .int .u16 (t.releaseR m o.ty).2, v]) ∧ Own .u16 55 W.heap.size w' v (t.releaseE m o.ty) ∧ Tab w' B (t.release m o.ty) ∧ W.grownBy w' (some B)) := ⟨fun W hW => release_any B t m o.ty W hW hok.kd0⟩
  generalize t.releaseR m o.ty = RR at *
  generalize t.release m o.ty = TT at *
  generalize t.releaseE m o.ty = EE at *
  have hlt := h.lt
  obtain ⟨sv, ty, ky, ac, ap⟩ := o
  simp only [Ou.vals] at *
  obtain ⟨w0, hw0⟩ : ∃ w0, w0 = w.alloc (.cells #[.int .u8 sv, .int .u8 ty, .int .u64 ky, .int .u64 ac, .bool ap] 33) := ⟨_, rfl⟩
  have hT0 : Kpt (Tab w0 B t) := ⟨by rw [hw0]; exact h.alloc _⟩
  have hG0 : Kpt (w.grownBy w0 (some B)) := ⟨by rw [hw0]; exact grown_alloc _ _ _⟩
  have hs0 : Kpt (w0.heap.size = w.heap.size + 1) := ⟨by rw [hw0]; simp⟩
  have b0 : Kpt (w0.cell? ⟨w.heap.size, 0, none⟩ = some (.int .u8 sv)) := ⟨by rw [hw0]; simp⟩
  have b1 : Kpt (w0.cell? ⟨w.heap.size, 1, none⟩ = some (.int .u8 ty)) := ⟨by rw [hw0]; simp⟩
  have b2 : Kpt (w0.cell? ⟨w.heap.size, 2, none⟩ = some (.int .u64 ky)) := ⟨by rw [hw0]; simp⟩
  have b3 : Kpt (w0.cell? ⟨w.heap.size, 3, none⟩ = some (.int .u64 ac)) := ⟨by rw [hw0]; simp⟩
  have b4 : Kpt (w0.cell? ⟨w.heap.size, 4, none⟩ = some (.bool ap)) := ⟨by rw [hw0]; simp⟩
  replace hw0 := Kpt.mk hw0
  subst hsv
  clear hbad hbd h hn hal
  go_enter Try.func15, Try.ntmps15
  go_wp2_with (first | (go_at_call 40; go_must (refine (HS.out _ hT1.out).mono ?_; rintro e w2 ⟨v, rfl, hO2, hT2, hG2⟩; replace hT2 := Kpt.mk hT2; replace hG2 := Kpt.mk hG2; replace hO2 := Kpt.mk hO2)) | (go_at_call 38; go_must (refine (HA.out _ hT0.out).mono ?_; rintro e w1 ⟨rfl, hB1⟩; have hT1 : Kpt (Tab w1 B t) := ⟨hT0.out.below' hB1⟩; have hG1 : Kpt (w.grownBy w1 (some B)) := ⟨grown_trans hG0.out (grown_below hB1)⟩; clear d0 d1 d2 d3 d4; have d0 := (hB1.cell (p := ⟨w.heap.size, 0, none⟩) hsl).trans b0.out; have d1 := (hB1.cell (p := ⟨w.heap.size, 1, none⟩) hsl).trans b1.out; have d2 := (hB1.cell (p := ⟨w.heap.size, 2, none⟩) hsl).trans b2.out; have d3 := (hB1.cell (p := ⟨w.heap.size, 3, none⟩) hsl).trans b3.out; have d4 := (hB1.cell (p := ⟨w.heap.size, 4, none⟩) hsl).trans b4.out; have hsz1 : w.heap.size < w1.heap.size := Nat.lt_of_lt_of_le hsl hB1.size; clear hB1)) | (go_at_call 37; go_must (rw [← hw0.out]; refine (HN _).out.mono ?_; rintro e w0 ⟨rfl, rfl⟩; have d0 := b0.out; have d1 := b1.out; have d2 := b2.out; have d3 := b3.out; have d4 := b4.out; have hsl : w.heap.size < w0.heap.size := (by rw [hs0.out]; omega))))
  go_ret3
  exact ⟨_, rfl, by rw [hE.out]; exact hO2.out.lower (by omega), by rw [hT.out]; exact hT2.out, grown_trans hG1.out hG2.out⟩

set_option maxRecDepth 100000 in
set_option maxHeartbeats 4000000 in
theorem do_clear (B : Nat) (t : Tb) (n : Int) (o : Ou) (w : World) (h : Tab w B t) (hok : t.ok) (hn : 0 ≤ n ∧ n < 8) (hb : ¬ 6 < o.sv) (hal : t.allows n.toNat o = true) (hsv : o.sv = 3) :
    Calls Try.prog 15 #[.pointer (some ⟨B, 0, none⟩), .int .i64 n, .agg o.vals] w fun e w' => ∃ v, e = .returned (.tuple #[.int .u8 (t.doR n o).1, .int .u16 (t.doR n o).2, v]) ∧ Own .u16 55 w.heap.size w' v (t.doE n o) ∧ Tab w' B (t.doT n o) ∧ w.grownBy w' (some B) := by
  have hbad : t.bad n o = false := by unfold Tb.bad; simp only [decide_eq_false_iff_not]; omega
  have hbd : ¬ t.bad n o = true := by simp [hbad]
  have hE : Kpt (t.doE n o = othersL n 10755 t.regs) := ⟨by unfold Tb.doE; rw [if_neg hbd, if_neg (by simp [hal]), if_neg (by omega), if_neg (by omega), if_pos hsv]⟩
  have hT : Kpt (t.doT n o = t.clear) := ⟨by unfold Tb.doT; rw [if_neg hbd, if_neg (by simp [hal]), if_neg (by omega), if_neg (by omega), if_pos hsv]⟩
  rw [show t.doR n o = (0, 0) from by unfold Tb.doR; rw [if_neg hbd, if_neg (by simp [hal]), if_neg (by omega), if_neg (by omega), if_pos hsv]]
  generalize t.doE n o = RE at *
  generalize t.doT n o = RT at *
  have HN := fun W => Kpt.mk (isNexus_any n W)
  rw [show decide (0 ≤ n ∧ n < 8) = true from decide_eq_true hn] at HN
  obtain ⟨m, rfl⟩ : ∃ m : Nat, n = m := ⟨n.toNat, by omega⟩
  have hm8 : m < 8 := by omega
  rw [Int.toNat_natCast] at *
  have HA : Kpt (∀ W, Tab W B t → Calls Try.prog 38 #[.pointer (some ⟨B, 0, none⟩), .int .i64 m, .agg o.vals] W fun e w' => e = .returned (.bool (t.allows m o)) ∧ Below W.heap.size W w') := ⟨fun W hW => allows_any B t m o W hW hm8⟩
  rw [hal] at HA
  have HS : Kpt (∀ W, Tab W B t → Calls Try.prog 41 #[.pointer (some ⟨B, 0, none⟩), .int .i64 m] W fun e w' => ∃ v, e = .returned v ∧ Own .u16 55 W.heap.size w' v (othersL m 10755 t.regs) ∧ Tab w' B t.clear ∧ W.grownBy w' (some B)) := ⟨fun W hW => clear_any B t m W hW hok.gn0⟩
  generalize t.clear = TT at *
  generalize othersL m 10755 t.regs = EE at *
  have hlt := h.lt
  obtain ⟨sv, ty, ky, ac, ap⟩ := o
  simp only [Ou.vals] at *
  obtain ⟨w0, hw0⟩ : ∃ w0, w0 = w.alloc (.cells #[.int .u8 sv, .int .u8 ty, .int .u64 ky, .int .u64 ac, .bool ap] 33) := ⟨_, rfl⟩
  have hT0 : Kpt (Tab w0 B t) := ⟨by rw [hw0]; exact h.alloc _⟩
  have hG0 : Kpt (w.grownBy w0 (some B)) := ⟨by rw [hw0]; exact grown_alloc _ _ _⟩
  have hs0 : Kpt (w0.heap.size = w.heap.size + 1) := ⟨by rw [hw0]; simp⟩
  have b0 : Kpt (w0.cell? ⟨w.heap.size, 0, none⟩ = some (.int .u8 sv)) := ⟨by rw [hw0]; simp⟩
  have b1 : Kpt (w0.cell? ⟨w.heap.size, 1, none⟩ = some (.int .u8 ty)) := ⟨by rw [hw0]; simp⟩
  have b2 : Kpt (w0.cell? ⟨w.heap.size, 2, none⟩ = some (.int .u64 ky)) := ⟨by rw [hw0]; simp⟩
  have b3 : Kpt (w0.cell? ⟨w.heap.size, 3, none⟩ = some (.int .u64 ac)) := ⟨by rw [hw0]; simp⟩
  have b4 : Kpt (w0.cell? ⟨w.heap.size, 4, none⟩ = some (.bool ap)) := ⟨by rw [hw0]; simp⟩
  replace hw0 := Kpt.mk hw0
  subst hsv
  clear hbad hbd h hn hal
  go_enter Try.func15, Try.ntmps15
  go_wp2_with (first | (go_at_call 41; go_must (refine (HS.out _ hT1.out).mono ?_; rintro e w2 ⟨v, rfl, hO2, hT2, hG2⟩; replace hT2 := Kpt.mk hT2; replace hG2 := Kpt.mk hG2; replace hO2 := Kpt.mk hO2)) | (go_at_call 38; go_must (refine (HA.out _ hT0.out).mono ?_; rintro e w1 ⟨rfl, hB1⟩; have hT1 : Kpt (Tab w1 B t) := ⟨hT0.out.below' hB1⟩; have hG1 : Kpt (w.grownBy w1 (some B)) := ⟨grown_trans hG0.out (grown_below hB1)⟩; clear d0 d1 d2 d3 d4; have d0 := (hB1.cell (p := ⟨w.heap.size, 0, none⟩) hsl).trans b0.out; have d1 := (hB1.cell (p := ⟨w.heap.size, 1, none⟩) hsl).trans b1.out; have d2 := (hB1.cell (p := ⟨w.heap.size, 2, none⟩) hsl).trans b2.out; have d3 := (hB1.cell (p := ⟨w.heap.size, 3, none⟩) hsl).trans b3.out; have d4 := (hB1.cell (p := ⟨w.heap.size, 4, none⟩) hsl).trans b4.out; have hsz1 : w.heap.size < w1.heap.size := Nat.lt_of_lt_of_le hsl hB1.size; clear hB1)) | (go_at_call 37; go_must (rw [← hw0.out]; refine (HN _).out.mono ?_; rintro e w0 ⟨rfl, rfl⟩; have d0 := b0.out; have d1 := b1.out; have d2 := b2.out; have d3 := b3.out; have d4 := b4.out; have hsl : w.heap.size < w0.heap.size := (by rw [hs0.out]; omega))))
  go_ret3
  exact ⟨_, rfl, by rw [hE.out]; exact hO2.out.lower (by omega), by rw [hT.out]; exact hT2.out, grown_trans hG1.out hG2.out⟩

end Go.Proofs.Ytmnoolcffkjmhaa
