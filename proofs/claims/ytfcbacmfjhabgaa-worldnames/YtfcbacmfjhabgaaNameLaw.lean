/-
  The law on names.
-/
import Derived.Test.YtfcbacmfjhabgaaName
namespace Go.Proofs.Ytfcbacmfjhabgaa
open Go.RowKit Go.Maps
set_option linter.unusedVariables false
set_option linter.unusedSimpArgs false

def nA : ByteArray := ⟨#[97]⟩
def nB : ByteArray := ⟨#[98]⟩
def nC : ByteArray := ⟨#[99]⟩
def nX : ByteArray := ⟨#[120]⟩
def nO : ByteArray := ⟨#[110, 111, 110, 101]⟩
theorem nBA : nB ≠ nA := by decide
theorem nOA : nO ≠ nA := by decide
theorem nOB : nO ≠ nB := by decide

def g1 (d0 : List Int) : St := stW st0 nA 0 d0
def g2 (d0 d1 : List Int) : St := stW (g1 d0) nB 0 d1
def g3 (d0 d1 : List Int) (to : ByteArray) : St := stA (g2 d0 d1) (.rn nA to)
def g4 (d0 d1 : List Int) (to : ByteArray) : St := stR (g3 d0 d1 to)
def g5 (d0 d1 : List Int) (to : ByteArray) : St := stR (g4 d0 d1 to)
def g6 (d0 d1 : List Int) (to : ByteArray) : St := stR (g5 d0 d1 to)
def g7 (d0 d1 : List Int) (to : ByteArray) : St := stA (g6 d0 d1 to) (.rm to)

theorem g2_a (d0 d1 : List Int) : (g2 d0 d1).seen nA = some d0 := by
  simp [g2, g1, stW, st0, Chg.run, updF_other _ _ nBA.symm, laidL_nil]
theorem g3_to (d0 d1 : List Int) (to : ByteArray) : (g3 d0 d1 to).seen to = some d0 := by
  simp [g3, stA, Chg.run, g2_a]
theorem g3_a (d0 d1 : List Int) : (g3 d0 d1 nB).seen nA = none := by
  simp [g3, stA, Chg.run, updF_other _ _ nBA.symm]
theorem g3_none (d0 d1 : List Int) (to : ByteArray) (h : nO ≠ to) : (g3 d0 d1 to).seen nO = none := by
  simp [g3, stA, Chg.run, updF_other _ _ h, updF_other _ _ nOA, g2, g1, stW, st0, updF_other _ _ nOB]
theorem g7_to (d0 d1 : List Int) (to : ByteArray) : (g7 d0 d1 to).seen to = none := by
  simp [g7, stA, Chg.run]
theorem g_cnt (d0 d1 : List Int) (to : ByteArray) : (g1 d0).cnt ≤ 2 ∧ (g2 d0 d1).cnt < 549755813888 ∧ (g3 d0 d1 to).cnt < 549755813888 ∧ (g4 d0 d1 to).cnt < 549755813888 ∧ (g5 d0 d1 to).cnt < 549755813888 ∧ (g6 d0 d1 to).cnt < 549755813888 ∧ (g7 d0 d1 to).cnt < 549755813888 := by
  refine ⟨?_, ?_, ?_, ?_, ?_, ?_, ?_⟩ <;> simp [g7, g6, g5, g4, g3, g2, g1, stA, stR, stW, st0]

set_option maxRecDepth 100000 in
set_option maxHeartbeats 2000000 in
theorem names_other (w : World) (a0 a1 : Option Addr) (c0 c1 : Nat) (d0 d1 : List Int) (h0 : RdAt w (.slice a0 d0.length c0) d0) (h1 : RdAt w (.slice a1 d1.length c1) d1) (m0 : d0.length ≤ 2000) (m1 : d1.length ≤ 2000) :
    Calls Try.prog 7 #[.slice a0 d0.length c0, .slice a1 d1.length c1, .bool false] w fun e w' => e = .returned (.bool true) ∧ Below w.heap.size w w' := by
  have M0 : ¬ ((2000 : Int) < (d0.length : Int)) := by omega
  have M1 : ¬ ((2000 : Int) < (d1.length : Int)) := by omega
  obtain ⟨k1, k2, k3, k4, k5, k6, k7⟩ := g_cnt d0 d1 nB
  have c1' : Calm (g1 d0) 2 := ⟨fun _ => rfl, k1⟩
  have s2 := g2_a d0 d1
  have s3 : (g3 d0 d1 nB).seen nO = none := g3_none d0 d1 nB (by decide)
  have s4 : (g4 d0 d1 nB).seen nO = none := s3
  have s5 : (g5 d0 d1 nB).seen nB = some d0 := g3_to d0 d1 nB
  have s6 : (g6 d0 d1 nB).seen nB = some d0 := s5
  have s7 := g7_to d0 d1 nB
  have a5 : (g6 d0 d1 nB).seen nA = none := g3_a d0 d1
  have hRd : (d0.drop 0).take 5000 = d0 := by rw [List.drop_zero, List.take_of_length_le (by omega)]
  have o0 : 0 + d0.length ≤ 1048576 := by omega
  have o1 : 0 + d1.length ≤ 1048576 := by omega
  replace k2 := Kpt.mk k2
  replace k3 := Kpt.mk k3
  replace k4 := Kpt.mk k4
  replace k5 := Kpt.mk k5
  replace k6 := Kpt.mk k6
  replace k7 := Kpt.mk k7
  replace c1' := Kpt.mk c1'
  replace s2 := Kpt.mk s2
  replace s3 := Kpt.mk s3
  replace s4 := Kpt.mk s4
  replace s5 := Kpt.mk s5
  replace s6 := Kpt.mk s6
  replace s7 := Kpt.mk s7
  replace a5 := Kpt.mk a5
  replace hRd := Kpt.mk hRd
  replace o0 := Kpt.mk o0
  replace o1 := Kpt.mk o1
  replace h0 := Kpt.mk h0
  replace h1 := Kpt.mk h1
  clear k1
  go_enter Try.func7, Try.ntmps7
  go_wp2_with (first
    | (go_at_call 16; refine (rename_none _ B t7 (g7 d0 d1 nB) hW7 k7.out rfl nB nC (by decide) (by decide) (by decide) (by decide) s7.out).mono ?_; rintro e w8 ⟨rfl, hW8, hs8⟩; obtain ⟨hb8', ht8⟩ := hs8.below hb7.size ht7; have hb8 := hb7.trans hb8')
    | (go_at_call 15; refine (size_none _ B t7 (g7 d0 d1 nB) hW7 nB (by decide) s7.out).mono ?_; rintro e w' ⟨rfl, hw'⟩; rw [hw'])
    | (go_at_call 17; refine (remove_some _ B t5 (g6 d0 d1 nB) hW6 k6.out rfl nB (by decide) (by decide) d0 s6.out).mono ?_; rintro e w7 ⟨rfl, t7, hW7, hs7⟩; obtain ⟨hb7', ht7⟩ := hs7.below hb6.size ht6; have hb7 := hb6.trans hb7')
    | (go_at_call 15; refine (size_none _ B t5 (g6 d0 d1 nB) hW6 nA (by decide) a5.out).mono ?_; rintro e w' ⟨rfl, hw'⟩; rw [hw'])
    | (go_at_call 14; refine (read_ok _ B t5 (g5 d0 d1 nB) hW5 k5.out rfl nB (by decide) (by decide) 0 5000 (by decide) (by decide) d0 s5.out).mono ?_; rintro e w6 ⟨v6, rfl, hW6, hs6, hr6, hn6⟩; obtain ⟨hb6', ht6⟩ := hs6.below hb5.size ht5; have hb6 := hb5.trans hb6'; rw [hRd.out] at hr6; obtain ⟨av, cv, rfl, _⟩ := rd_shape hr6.rd; have hC1 := conv_rd _ _ _ hr6.rd; have hC2 := conv_rd _ _ _ (h0.out.low hb6))
    | (go_at_call 17; refine (remove_none _ B t5 (g4 d0 d1 nB) hW4 k4.out rfl nO (by decide) (by decide) s4.out).mono ?_; rintro e w5 ⟨rfl, hW5, hs5⟩; obtain ⟨hb5', ht5⟩ := hs5.below hb4.size ht4; have hb5 := hb4.trans hb5')
    | (go_at_call 16; refine (rename_none _ B t5 (g3 d0 d1 nB) hW3 k3.out rfl nO nX (by decide) (by decide) (by decide) (by decide) s3.out).mono ?_; rintro e w4 ⟨rfl, hW4, hs4⟩; obtain ⟨hb4', ht4⟩ := hs4.below hb3.size ht3; have hb4 := hb3.trans hb4')
    | (go_at_call 16; refine (rename_some _ B t2 (g2 d0 d1) hW2 k2.out rfl nA nB (by decide) (by decide) (by decide) (by decide) d0 s2.out).mono ?_; rintro e w3 ⟨rfl, t5, hW3, hs3⟩; obtain ⟨hb3', ht3⟩ := hs3.below hb2.size ht2; have hb3 := hb2.trans hb3')
    | (go_at_call 10; refine (write_ok _ B t1 (g1 d0) hW1 2 c1'.out (by omega) nB (by decide) (by decide) 0 0 rfl _ d1 (h1.out.low hb1) (h1.out.bare ht1) o1.out).mono ?_; rintro e w2 ⟨rfl, t2, hW2, hs2⟩; obtain ⟨hb2', ht2⟩ := hs2.below hb1.size ht1; have hb2 := hb1.trans hb2')
    | (go_at_call 10; refine (write_ok _ B tN st0 hWN 0 calm0 (by omega) nA (by decide) (by decide) 0 0 rfl _ d0 (h0.out.low hbN) (h0.out.bare htN) o0.out).mono ?_; rintro e w1 ⟨rfl, t1, hW1, hs1⟩; obtain ⟨hb1', ht1⟩ := hs1.below hbN.size htN; have hb1 := hbN.trans hb1')
    | (go_at_call 9; refine (new_any _).mono ?_; rintro e wN ⟨B, tN, rfl, hWN, hgN, htN'⟩; have hbN := below_new hbA hgN; have htN : ∀ i, i < w.heap.size → tN i = none := fun i hi => htN' i (Nat.lt_of_lt_of_le hi hbA.size))
    | (go_at_call 8; refine (awake_any _).mono ?_; rintro e wA ⟨rfl, hgA⟩; have hbA := below_grown hgA))
  go_ret
  exact ⟨rfl, hb8⟩

set_option maxRecDepth 100000 in
set_option maxHeartbeats 2000000 in
theorem names_same (w : World) (a0 a1 : Option Addr) (c0 c1 : Nat) (d0 d1 : List Int) (h0 : RdAt w (.slice a0 d0.length c0) d0) (h1 : RdAt w (.slice a1 d1.length c1) d1) (m0 : d0.length ≤ 2000) (m1 : d1.length ≤ 2000) :
    Calls Try.prog 7 #[.slice a0 d0.length c0, .slice a1 d1.length c1, .bool true] w fun e w' => e = .returned (.bool true) ∧ Below w.heap.size w w' := by
  have M0 : ¬ ((2000 : Int) < (d0.length : Int)) := by omega
  have M1 : ¬ ((2000 : Int) < (d1.length : Int)) := by omega
  have Z : (0 : Int) ≤ (d0.length : Int) := by omega
  obtain ⟨k1, k2, k3, k4, k5, k6, k7⟩ := g_cnt d0 d1 nA
  have c1' : Calm (g1 d0) 2 := ⟨fun _ => rfl, k1⟩
  have s2 := g2_a d0 d1
  have s3 : (g3 d0 d1 nA).seen nO = none := g3_none d0 d1 nA (by decide)
  have s4 : (g4 d0 d1 nA).seen nO = none := s3
  have s5 : (g5 d0 d1 nA).seen nA = some d0 := g3_to d0 d1 nA
  have s6 : (g6 d0 d1 nA).seen nA = some d0 := s5
  have s7 := g7_to d0 d1 nA
  have a5 : (g6 d0 d1 nA).seen nA = some d0 := g3_to d0 d1 nA
  have hRd : (d0.drop 0).take 5000 = d0 := by rw [List.drop_zero, List.take_of_length_le (by omega)]
  have o0 : 0 + d0.length ≤ 1048576 := by omega
  have o1 : 0 + d1.length ≤ 1048576 := by omega
  replace k2 := Kpt.mk k2
  replace k3 := Kpt.mk k3
  replace k4 := Kpt.mk k4
  replace k5 := Kpt.mk k5
  replace k6 := Kpt.mk k6
  replace k7 := Kpt.mk k7
  replace c1' := Kpt.mk c1'
  replace s2 := Kpt.mk s2
  replace s3 := Kpt.mk s3
  replace s4 := Kpt.mk s4
  replace s5 := Kpt.mk s5
  replace s6 := Kpt.mk s6
  replace s7 := Kpt.mk s7
  replace a5 := Kpt.mk a5
  replace hRd := Kpt.mk hRd
  replace o0 := Kpt.mk o0
  replace o1 := Kpt.mk o1
  replace h0 := Kpt.mk h0
  replace h1 := Kpt.mk h1
  clear k1
  go_enter Try.func7, Try.ntmps7
  go_wp2_with (first
    | (go_at_call 16; refine (rename_none _ B t7 (g7 d0 d1 nA) hW7 k7.out rfl nA nC (by decide) (by decide) (by decide) (by decide) s7.out).mono ?_; rintro e w8 ⟨rfl, hW8, hs8⟩; obtain ⟨hb8', ht8⟩ := hs8.below hb7.size ht7; have hb8 := hb7.trans hb8')
    | (go_at_call 15; refine (size_none _ B t7 (g7 d0 d1 nA) hW7 nA (by decide) s7.out).mono ?_; rintro e w' ⟨rfl, hw'⟩; rw [hw'])
    | (go_at_call 17; refine (remove_some _ B t5 (g6 d0 d1 nA) hW6 k6.out rfl nA (by decide) (by decide) d0 s6.out).mono ?_; rintro e w7 ⟨rfl, t7, hW7, hs7⟩; obtain ⟨hb7', ht7⟩ := hs7.below hb6.size ht6; have hb7 := hb6.trans hb7')
    | (go_at_call 15; refine (size_some _ B t5 (g6 d0 d1 nA) hW6 nA (by decide) d0 a5.out).mono ?_; rintro e w' ⟨rfl, hw'⟩; rw [hw'])
    | (go_at_call 14; refine (read_ok _ B t5 (g5 d0 d1 nA) hW5 k5.out rfl nA (by decide) (by decide) 0 5000 (by decide) (by decide) d0 s5.out).mono ?_; rintro e w6 ⟨v6, rfl, hW6, hs6, hr6, hn6⟩; obtain ⟨hb6', ht6⟩ := hs6.below hb5.size ht5; have hb6 := hb5.trans hb6'; rw [hRd.out] at hr6; obtain ⟨av, cv, rfl, _⟩ := rd_shape hr6.rd; have hC1 := conv_rd _ _ _ hr6.rd; have hC2 := conv_rd _ _ _ (h0.out.low hb6))
    | (go_at_call 17; refine (remove_none _ B t5 (g4 d0 d1 nA) hW4 k4.out rfl nO (by decide) (by decide) s4.out).mono ?_; rintro e w5 ⟨rfl, hW5, hs5⟩; obtain ⟨hb5', ht5⟩ := hs5.below hb4.size ht4; have hb5 := hb4.trans hb5')
    | (go_at_call 16; refine (rename_none _ B t5 (g3 d0 d1 nA) hW3 k3.out rfl nO nX (by decide) (by decide) (by decide) (by decide) s3.out).mono ?_; rintro e w4 ⟨rfl, hW4, hs4⟩; obtain ⟨hb4', ht4⟩ := hs4.below hb3.size ht3; have hb4 := hb3.trans hb4')
    | (go_at_call 16; refine (rename_some _ B t2 (g2 d0 d1) hW2 k2.out rfl nA nA (by decide) (by decide) (by decide) (by decide) d0 s2.out).mono ?_; rintro e w3 ⟨rfl, t5, hW3, hs3⟩; obtain ⟨hb3', ht3⟩ := hs3.below hb2.size ht2; have hb3 := hb2.trans hb3')
    | (go_at_call 10; refine (write_ok _ B t1 (g1 d0) hW1 2 c1'.out (by omega) nB (by decide) (by decide) 0 0 rfl _ d1 (h1.out.low hb1) (h1.out.bare ht1) o1.out).mono ?_; rintro e w2 ⟨rfl, t2, hW2, hs2⟩; obtain ⟨hb2', ht2⟩ := hs2.below hb1.size ht1; have hb2 := hb1.trans hb2')
    | (go_at_call 10; refine (write_ok _ B tN st0 hWN 0 calm0 (by omega) nA (by decide) (by decide) 0 0 rfl _ d0 (h0.out.low hbN) (h0.out.bare htN) o0.out).mono ?_; rintro e w1 ⟨rfl, t1, hW1, hs1⟩; obtain ⟨hb1', ht1⟩ := hs1.below hbN.size htN; have hb1 := hbN.trans hb1')
    | (go_at_call 9; refine (new_any _).mono ?_; rintro e wN ⟨B, tN, rfl, hWN, hgN, htN'⟩; have hbN := below_new hbA hgN; have htN : ∀ i, i < w.heap.size → tN i = none := fun i hi => htN' i (Nat.lt_of_lt_of_le hi hbA.size))
    | (go_at_call 8; refine (awake_any _).mono ?_; rintro e wA ⟨rfl, hgA⟩; have hbA := below_grown hgA))
  go_ret
  exact ⟨rfl, hb8⟩

set_option maxRecDepth 100000 in
theorem names_long (w : World) (a0 a1 : Option Addr) (c0 c1 n0 n1 : Nat) (h : 2000 < n0 ∨ 2000 < n1) (m0 : n0 ≤ maxLen) (m1 : n1 ≤ maxLen) (x : Bool) :
    Calls Try.prog 7 #[.slice a0 n0 c0, .slice a1 n1 c1, .bool x] w fun e w' => e = .returned (.bool true) ∧ Below w.heap.size w w' := by
  have two : ∀ wA wB : World, w.grownBy wA none → wA.grownBy wB none → Below w.heap.size w wB := by
    intro wA wB h1 h2
    have g := h1.andThen h2 (by simp)
    exact ⟨g.os, g.tape, g.output, g.size, fun i hi => g.block i hi (by simp)⟩
  replace two := Kpt.mk two
  by_cases h0 : 2000 < n0
  · have H0 : (2000 : Int) < (n0 : Int) := by omega
    go_enter Try.func7, Try.ntmps7
    go_wp2_with (first
      | (go_at_call 8; refine (awake_any wA).mono ?_; rintro e wB ⟨rfl, hgB⟩)
      | (go_at_call 8; refine (awake_any _).mono ?_; rintro e wA ⟨rfl, hgA⟩))
    go_ret
    exact ⟨rfl, two.out _ _ hgA hgB⟩
  · have H0 : ¬ ((2000 : Int) < (n0 : Int)) := by omega
    have H1 : (2000 : Int) < (n1 : Int) := by omega
    go_enter Try.func7, Try.ntmps7
    go_wp2_with (first
      | (go_at_call 8; refine (awake_any wA).mono ?_; rintro e wB ⟨rfl, hgB⟩)
      | (go_at_call 8; refine (awake_any _).mono ?_; rintro e wA ⟨rfl, hgA⟩))
    go_ret
    exact ⟨rfl, two.out _ _ hgA hgB⟩
end Go.Proofs.Ytfcbacmfjhabgaa
