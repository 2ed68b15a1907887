/-
  What a crash loses, and what it keeps.
-/
import Derived.Test.YtfcbacmfjhabgaaTorn
namespace Go.Proofs.Ytfcbacmfjhabgaa
open Go.RowKit Go.Maps
set_option linter.unusedVariables false
set_option linter.unusedSimpArgs false

def nG : ByteArray := ⟨#[103]⟩
theorem nG_ne : nG ≠ nF := by decide

def lS4 (d0 d1 : List Int) : St := stW (tS3 d0 d1) nG 0 d1
def lS5 (d0 d1 : List Int) : St := { stC (lS4 d0 d1) 0 0 with cnt := (lS4 d0 d1).cnt + 0 + 1 }
def lA5 (d0 d1 : List Int) : St := { stC (lS4 d0 d1) (lS4 d0 d1).waits.length 0 with cnt := (lS4 d0 d1).cnt + (lS4 d0 d1).waits.length }

theorem lS4_waits (d0 d1 : List Int) : (lS4 d0 d1).waits = [.wr nF 0 d1, .wr nG 0 d1] := rfl
theorem lS4_dur (d0 d1 : List Int) : (lS4 d0 d1).dur = (tS2 d0).dur := rfl
theorem tS2_durG (d0 : List Int) : (tS2 d0).dur nG = none := by
  simp [tS2, stS, tS1, stW, st0, runs, Chg.run, updF_other _ _ nG_ne]

theorem lS5_seen (d0 d1 : List Int) : (lS5 d0 d1).seen nF = some d0 ∧ (lS5 d0 d1).seen nG = none := by
  have e : (lS5 d0 d1).seen = (tS2 d0).dur := by
    show crashed (lS4 d0 d1).waits 0 0 (lS4 d0 d1).dur = _
    rw [lS4_waits, lS4_dur]
    simp [crashed, torn, runs]
  rw [e]
  exact ⟨tS2_dur d0, tS2_durG d0⟩

theorem lA5_seen (d0 d1 : List Int) : (lA5 d0 d1).seen nF = some (d1 ++ d0.drop d1.length) ∧ (lA5 d0 d1).seen nG = some d1 := by
  have e : (lA5 d0 d1).seen = runs [.wr nF 0 d1, .wr nG 0 d1] (tS2 d0).dur := by
    show crashed (lS4 d0 d1).waits (lS4 d0 d1).waits.length 0 (lS4 d0 d1).dur = _
    rw [lS4_waits, lS4_dur]
    simp [crashed]
  rw [e]
  constructor
  · simp [runs, Chg.run, updF_other _ _ nG_ne.symm, tS2_dur, laidL_zero]
  · simp [runs, Chg.run, updF_other _ _ nG_ne, tS2_durG, laidL_zero]

theorem below_new {w wA wN : World} (hbA : Below w.heap.size w wA) (hg : wA.grownBy wN none) : Below w.heap.size w wN :=
  hbA.trans ⟨hg.os, hg.tape, hg.output, hg.size, fun i hi => hg.block i (Nat.lt_of_lt_of_le hi hbA.size) (by simp)⟩
theorem below_grown {w wA : World} (hg : w.grownBy wA none) : Below w.heap.size w wA := ⟨hg.os, hg.tape, hg.output, hg.size, fun i hi => hg.block i hi (by simp)⟩

set_option maxRecDepth 100000 in
set_option maxHeartbeats 2000000 in
theorem lose_none (w : World) (a0 a1 : Option Addr) (c0 c1 : Nat) (d0 d1 : List Int) (h0 : RdAt w (.slice a0 d0.length c0) d0) (h1 : RdAt w (.slice a1 d1.length c1) d1) (m0 : d0.length ≤ 10000) (m1 : d1.length ≤ 10000) :
    Calls Try.prog 3 #[.slice a0 d0.length c0, .slice a1 d1.length c1, .bool false] w fun e w' => e = .returned (.bool true) ∧ Below w.heap.size w w' := by
  have M0 : ¬ ((10000 : Int) < (d0.length : Int)) := by omega
  have M1 : ¬ ((10000 : Int) < (d1.length : Int)) := by omega
  have s1 : (tS1 d0).cnt + (tS1 d0).waits.length < 549755813888 := by simp [tS1, stW, st0]
  have wr1 : Wrs (tS1 d0).waits := by intro c hc; simp [tS1, stW, st0] at hc; exact ⟨_, _, _, hc⟩
  have c2 : Calm (tS2 d0) 4 := ⟨fun _ => rfl, by simp [tS2, stS, tS1, stW, st0]⟩
  have c3 : Calm (tS3 d0 d1) 6 := ⟨fun _ => rfl, by simp [tS3, tS2, stS, tS1, stW, st0]⟩
  have s4 : (lS4 d0 d1).cnt + (lS4 d0 d1).waits.length < 549755813888 := by rw [lS4_waits]; simp [lS4, tS3, tS2, stS, tS1, stW, st0]
  have wr4 : Wrs (lS4 d0 d1).waits := by rw [lS4_waits]; intro c hc; simp at hc; rcases hc with h | h <;> exact ⟨_, _, _, h⟩
  have k4 : 0 < (lS4 d0 d1).waits.length := by rw [lS4_waits]; simp
  have l4 : (lS4 d0 d1).waits.length = 2 := by rw [lS4_waits]; rfl
  have c5 : (lS5 d0 d1).cnt < 549755813888 := by simp [lS5, lS4, tS3, tS2, stS, tS1, stW, st0]
  obtain ⟨f5, g5⟩ := lS5_seen d0 d1
  have hRd : (d0.drop 0).take 20000 = d0 := by rw [List.drop_zero, List.take_of_length_le (by omega)]
  replace s1 := Kpt.mk s1
  replace wr1 := Kpt.mk wr1
  replace c2 := Kpt.mk c2
  replace c3 := Kpt.mk c3
  replace s4 := Kpt.mk s4
  replace wr4 := Kpt.mk wr4
  replace k4 := Kpt.mk k4
  replace l4 := Kpt.mk l4
  replace c5 := Kpt.mk c5
  replace f5 := Kpt.mk f5
  replace g5 := Kpt.mk g5
  replace hRd := Kpt.mk hRd
  replace h0 := Kpt.mk h0
  replace h1 := Kpt.mk h1
  go_enter Try.func3, Try.ntmps3
  go_wp2_with (first
    | (go_at_call 15; refine (size_none _ B t5 (stR (lS5 d0 d1)) hW6 nG (by decide) g5.out).mono ?_; rintro e w7 ⟨rfl, hw7⟩; rw [hw7])
    | (go_at_call 14; refine (read_ok _ B t5 (lS5 d0 d1) hW5 c5.out rfl nF (by decide) (by decide) 0 20000 (by decide) (by decide) d0 f5.out).mono ?_; rintro e w6 ⟨v6, rfl, hW6, hs6, hr6, hn6⟩; obtain ⟨hb6', ht6⟩ := hs6.below hb5.size ht5; have hb6 := hb5.trans hb6'; rw [hRd.out] at hr6; obtain ⟨av, cv, rfl, _⟩ := rd_shape hr6.rd; have hC1 := conv_rd _ _ _ hr6.rd; have hC2 := conv_rd _ _ _ (h0.out.low hb6))
    | (go_at_call 13; refine (crash_in _ B t4 (lS4 d0 d1) hW4 s4.out wr4.out 0 0 k4.out (by decide)).mono ?_; rintro e w5 ⟨rfl, t5, hW5, hs5⟩; obtain ⟨hb5', ht5⟩ := hs5.below hb4.size ht4; have hb5 := hb4.trans hb5')
    | (go_at_call 12; refine (waits_any _ B t4 (lS4 d0 d1) hW4).mono ?_; rintro e w' ⟨rfl, hw'⟩; rw [hw', l4.out])
    | (go_at_call 10; refine (write_ok _ B t3 (tS3 d0 d1) hW3 6 c3.out (by omega) nG (by decide) (by decide) 0 0 rfl _ d1 (h1.out.low hb3) (h1.out.bare ht3) (by omega)).mono ?_; rintro e w4 ⟨rfl, t4, hW4, hs4⟩; obtain ⟨hb4', ht4⟩ := hs4.below hb3.size ht3; have hb4 := hb3.trans hb4')
    | (go_at_call 10; refine (write_ok _ B t2 (tS2 d0) hW2 4 c2.out (by omega) nF (by decide) (by decide) 0 0 rfl _ d1 (h1.out.low hb2) (h1.out.bare ht2) (by omega)).mono ?_; rintro e w3 ⟨rfl, t3, hW3, hs3⟩; obtain ⟨hb3', ht3⟩ := hs3.below hb2.size ht2; have hb3 := hb2.trans hb3')
    | (go_at_call 11; refine (sync_any _ B t1 (tS1 d0) hW1 s1.out rfl wr1.out).mono ?_; rintro e w2 ⟨rfl, t2, hW2, hs2⟩; obtain ⟨hb2', ht2⟩ := hs2.below hb1.size ht1; have hb2 := hb1.trans hb2')
    | (go_at_call 10; refine (write_ok _ B tN st0 hWN 0 calm0 (by omega) nF (by decide) (by decide) 0 0 rfl _ d0 (h0.out.low hbN) (h0.out.bare htN) (by omega)).mono ?_; rintro e w1 ⟨rfl, t1, hW1, hs1⟩; obtain ⟨hb1', ht1⟩ := hs1.below hbN.size htN; have hb1 := hbN.trans hb1')
    | (go_at_call 9; refine (new_any _).mono ?_; rintro e wN ⟨B, tN, rfl, hWN, hgN, htN'⟩; have hbN := below_new hbA hgN; have htN : ∀ i, i < w.heap.size → tN i = none := fun i hi => htN' i (Nat.lt_of_lt_of_le hi hbA.size))
    | (go_at_call 8; refine (awake_any _).mono ?_; rintro e wA ⟨rfl, hgA⟩; have hbA := below_grown hgA))
  go_ret
  exact ⟨rfl, hb6⟩

theorem bare_new {w : World} {B : Nat} {tag : Tags} {st : St} (h : Wd w B tag st) {g : Nat} (hg : w.heap.size ≤ g) : tag g = none := by
  cases hh : tag g with
  | none => rfl
  | some t => have := h.lt g (by rw [hh]; simp); omega

theorem rd_head' {w : World} {a : Option Addr} {c n : Nat} {zs : List Int} (h : RdAt w (.slice a n c) zs) (hn : n = zs.length) (k : Nat) (hk : k ≤ zs.length) :
    ∃ V, (∀ W : World, (Instr.slice 22 (.slice a n c) none (some (.int .i64 (k : Int))) none).run Try.prog W = .ok V W) ∧ RdAt w V (zs.take k) := by subst hn; exact rd_head h k hk
theorem rd_tail' {w : World} {a : Option Addr} {c n : Nat} {zs : List Int} (h : RdAt w (.slice a n c) zs) (hn : n = zs.length) (k : Nat) (hk : k ≤ zs.length) :
    ∃ V, (∀ W : World, (Instr.slice 22 (.slice a n c) (some (.int .i64 (k : Int))) none none).run Try.prog W = .ok V W) ∧ RdAt w V (zs.drop k) := by subst hn; exact rd_tail h k hk

set_option maxRecDepth 100000 in
set_option maxHeartbeats 2000000 in
theorem lose_allA (w : World) (a0 a1 : Option Addr) (c0 c1 : Nat) (n0 n1 : Nat) (d0 d1 : List Int) (e0 : n0 = d0.length) (e1 : n1 = d1.length) (h0 : RdAt w (.slice a0 n0 c0) d0) (h1 : RdAt w (.slice a1 n1 c1) d1) (m0 : n0 ≤ 10000) (m1 : n1 ≤ 10000) (hr : n1 < n0) :
    Calls Try.prog 3 #[.slice a0 n0 c0, .slice a1 n1 c1, .bool true] w fun e w' => e = .returned (.bool true) ∧ Below w.heap.size w w' := by
  have M0 : ¬ ((10000 : Int) < (n0 : Int)) := by omega
  have M1 : ¬ ((10000 : Int) < (n1 : Int)) := by omega
  have R1 : ((n1 : Int) < (n0 : Int)) := by omega
  have R2 : ¬ ((n0 : Int) < (n1 : Int)) := by omega
  have R3 : ((n1 : Int) ≤ (n0 : Int)) := by omega
  have R4 : ¬ ((n0 : Int) ≤ (n1 : Int)) := by omega
  have s1 : (tS1 d0).cnt + (tS1 d0).waits.length < 549755813888 := by simp [tS1, stW, st0]
  have wr1 : Wrs (tS1 d0).waits := by intro c hc; simp [tS1, stW, st0] at hc; exact ⟨_, _, _, hc⟩
  have c2 : Calm (tS2 d0) 4 := ⟨fun _ => rfl, by simp [tS2, stS, tS1, stW, st0]⟩
  have c3 : Calm (tS3 d0 d1) 6 := ⟨fun _ => rfl, by simp [tS3, tS2, stS, tS1, stW, st0]⟩
  have s4 : (lS4 d0 d1).cnt + (lS4 d0 d1).waits.length < 549755813888 := by rw [lS4_waits]; simp [lS4, tS3, tS2, stS, tS1, stW, st0]
  have wr4 : Wrs (lS4 d0 d1).waits := by rw [lS4_waits]; intro c hc; simp at hc; rcases hc with h | h <;> exact ⟨_, _, _, h⟩
  have k4 : (lS4 d0 d1).waits.length ≤ 2 := by rw [lS4_waits]; simp
  have l4 : (lS4 d0 d1).waits.length = 2 := by rw [lS4_waits]; rfl
  have c5 : (lA5 d0 d1).cnt < 549755813888 := by unfold lA5; rw [lS4_waits]; simp [lS4, tS3, tS2, stS, tS1, stW, st0]
  have c6 : (stR (lA5 d0 d1)).cnt < 549755813888 := by unfold stR lA5; rw [lS4_waits]; simp [lS4, tS3, tS2, stS, tS1, stW, st0]
  obtain ⟨P, hP⟩ : ∃ P, P = d1 ++ d0.drop d1.length := ⟨_, rfl⟩
  obtain ⟨f5, g5⟩ := lA5_seen d0 d1
  rw [← hP] at f5
  have hPl : P.length = max d0.length d1.length := by rw [hP]; simp; omega
  have hPk : d1.length ≤ P.length := by omega
  have hP1 : P.take d1.length = d1 := by rw [hP]; simp
  have hP2 : P.drop d1.length = d0.drop d1.length := by rw [hP]; simp
  have hRd : (P.drop 0).take 20000 = P := by rw [List.drop_zero, List.take_of_length_le (by omega)]
  have hRg : (d1.drop 0).take 20000 = d1 := by rw [List.drop_zero, List.take_of_length_le (by omega)]
  have hPn : P.length = n0 := by omega
  have hdr : d0.drop d1.length = d0.drop n1 := by rw [← e1]
  replace hdr := Kpt.mk hdr
  replace hPn := Kpt.mk hPn
  replace e0 := Kpt.mk e0
  replace e1 := Kpt.mk e1
  have o0 : 0 + d0.length ≤ 1048576 := by have := e0.out; omega
  have o1 : 0 + d1.length ≤ 1048576 := by have := e1.out; omega
  replace o0 := Kpt.mk o0
  replace o1 := Kpt.mk o1
  replace c6 := Kpt.mk c6
  replace hP := Kpt.mk hP
  replace hPl := Kpt.mk hPl
  replace hP1 := Kpt.mk hP1
  replace hP2 := Kpt.mk hP2
  replace hRg := Kpt.mk hRg
  replace s1 := Kpt.mk s1
  replace wr1 := Kpt.mk wr1
  replace c2 := Kpt.mk c2
  replace c3 := Kpt.mk c3
  replace s4 := Kpt.mk s4
  replace wr4 := Kpt.mk wr4
  replace k4 := Kpt.mk k4
  replace l4 := Kpt.mk l4
  replace c5 := Kpt.mk c5
  replace f5 := Kpt.mk f5
  replace g5 := Kpt.mk g5
  replace hRd := Kpt.mk hRd
  replace h0 := Kpt.mk h0
  replace h1 := Kpt.mk h1
  go_enter Try.func3, Try.ntmps3
  go_wp2_with (first
    | (go_at_call 14; refine (read_ok _ B t5 (stR (lA5 d0 d1)) hW6 c6.out rfl nG (by decide) (by decide) 0 20000 (by decide) (by decide) d1 g5.out).mono ?_; rintro e w7 ⟨v7, rfl, hW7, hs7, hr7, hn7⟩; obtain ⟨hb7', ht7⟩ := hs7.below hb6.size ht6; have hb7 := hb6.trans hb7'; rw [hRg.out] at hr7; obtain ⟨ag, cg, hv7, _⟩ := rd_shape hr7.rd; rw [← e1.out] at hv7; subst hv7; have hbare : ∀ g, (Value.slice av n0 cv).ownBlock = some g → t5 g = none := (fun g hg => bare_new hW5 (hn6 g hg)); have hr6' := (hr6.keep hs7 hbare).1)
    | (go_at_call 14; refine (read_ok _ B t5 (lA5 d0 d1) hW5 c5.out rfl nF (by decide) (by decide) 0 20000 (by decide) (by decide) P f5.out).mono ?_; rintro e w6 ⟨v6, rfl, hW6, hs6, hr6, hn6⟩; obtain ⟨hb6', ht6⟩ := hs6.below hb5.size ht5; have hb6 := hb5.trans hb6'; rw [hRd.out] at hr6; obtain ⟨av, cv, hv6, _⟩ := rd_shape hr6.rd; rw [hPn.out] at hv6; subst hv6)
    | (go_at_call 13; refine (crash_all _ B t4 (lS4 d0 d1) hW4 s4.out wr4.out 2 0 k4.out (by decide)).mono ?_; rintro e w5 ⟨rfl, t5, hW5, hs5⟩; obtain ⟨hb5', ht5⟩ := hs5.below hb4.size ht4; have hb5 := hb4.trans hb5')
    | (go_at_call 12; refine (waits_any _ B t4 (lS4 d0 d1) hW4).mono ?_; rintro e w' ⟨rfl, hw'⟩; rw [hw', l4.out])
    | (go_at_call 10; refine (write_ok _ B t3 (tS3 d0 d1) hW3 6 c3.out (by omega) nG (by decide) (by decide) 0 0 rfl _ d1 (h1.out.low hb3) (h1.out.bare ht3) o1.out).mono ?_; rintro e w4 ⟨rfl, t4, hW4, hs4⟩; obtain ⟨hb4', ht4⟩ := hs4.below hb3.size ht3; have hb4 := hb3.trans hb4')
    | (go_at_call 10; refine (write_ok _ B t2 (tS2 d0) hW2 4 c2.out (by omega) nF (by decide) (by decide) 0 0 rfl _ d1 (h1.out.low hb2) (h1.out.bare ht2) o1.out).mono ?_; rintro e w3 ⟨rfl, t3, hW3, hs3⟩; obtain ⟨hb3', ht3⟩ := hs3.below hb2.size ht2; have hb3 := hb2.trans hb3')
    | (go_at_call 11; refine (sync_any _ B t1 (tS1 d0) hW1 s1.out rfl wr1.out).mono ?_; rintro e w2 ⟨rfl, t2, hW2, hs2⟩; obtain ⟨hb2', ht2⟩ := hs2.below hb1.size ht1; have hb2 := hb1.trans hb2')
    | (go_at_call 10; refine (write_ok _ B tN st0 hWN 0 calm0 (by omega) nF (by decide) (by decide) 0 0 rfl _ d0 (h0.out.low hbN) (h0.out.bare htN) o0.out).mono ?_; rintro e w1 ⟨rfl, t1, hW1, hs1⟩; obtain ⟨hb1', ht1⟩ := hs1.below hbN.size htN; have hb1 := hbN.trans hb1')
    | (go_at_call 9; refine (new_any _).mono ?_; rintro e wN ⟨B, tN, rfl, hWN, hgN, htN'⟩; have hbN := below_new hbA hgN; have htN : ∀ i, i < w.heap.size → tN i = none := fun i hi => htN' i (Nat.lt_of_lt_of_le hi hbA.size))
    | (go_at_call 8; refine (awake_any _).mono ?_; rintro e wA ⟨rfl, hgA⟩; have hbA := below_grown hgA))
  obtain ⟨V1, hV1, hV1r⟩ := rd_head' hr6'.rd hPn.out.symm n1 (by have := e1.out; omega)
  obtain ⟨V3, hV3, hV3r⟩ := rd_tail' hr6'.rd hPn.out.symm n1 (by have := e1.out; omega)
  obtain ⟨V4, hV4, hV4r⟩ := rd_tail' (h0.out.low hb7) e0.out n1 (by have := e0.out; omega)
  have hC1 := rd_conv hV1r
  have hC2 := rd_conv (h1.out.low hb7)
  have hC3 := rd_conv hV3r
  have hC4 := rd_conv hV4r
  have hC5 := rd_conv hr7.rd
  rw [show P.take n1 = d1 by rw [e1.out]; exact hP1.out] at hC1
  rw [show P.drop n1 = d0.drop n1 from (congrArg (fun k => P.drop k) e1.out).trans (hP2.out.trans hdr.out)] at hC3
  obtain ⟨S1, hS1⟩ : ∃ S, S = strOfNums d1 := ⟨_, rfl⟩
  obtain ⟨S2, hS2⟩ : ∃ S, S = strOfNums (d0.drop n1) := ⟨_, rfl⟩
  rw [← hS1] at hC1 hC2 hC5
  rw [← hS2] at hC3 hC4
  have hbK := Kpt.mk hb7
  clear hS1 hS2 hV1r hV3r hV4r hb7 hb7' ht7 hW7 hs7 hr7 hn7 hr6' hbare hb6 hb6' ht6 hW6 hs6 hr6 hn6 hb5 hb5' ht5 hW5 hs5 hb4 hb4' ht4 hW4 hs4 hb3 hb3' ht3 hW3 hs3 hb2 hb2' ht2 hW2 hs2 hb1 hb1' ht1 hW1 hs1 hbN htN hWN hgN htN' hbA hgA hPk
  go_quiet (fail)
  go_wp2
  go_ret
  have hb := hbK.out
  exact ⟨rfl, ⟨hb.os, hb.tape, hb.output, hb.size, hb.block⟩⟩

set_option maxRecDepth 100000 in
set_option maxHeartbeats 2000000 in
theorem lose_allB (w : World) (a0 a1 : Option Addr) (c0 c1 : Nat) (n0 n1 : Nat) (d0 d1 : List Int) (e0 : n0 = d0.length) (e1 : n1 = d1.length) (h0 : RdAt w (.slice a0 n0 c0) d0) (h1 : RdAt w (.slice a1 n1 c1) d1) (m0 : n0 ≤ 10000) (m1 : n1 ≤ 10000) (hr : n0 < n1) :
    Calls Try.prog 3 #[.slice a0 n0 c0, .slice a1 n1 c1, .bool true] w fun e w' => e = .returned (.bool true) ∧ Below w.heap.size w w' := by
  have M0 : ¬ ((10000 : Int) < (n0 : Int)) := by omega
  have M1 : ¬ ((10000 : Int) < (n1 : Int)) := by omega
  have R1 : ((n0 : Int) < (n1 : Int)) := by omega
  have R2 : ¬ ((n1 : Int) < (n0 : Int)) := by omega
  have R3 : ((n0 : Int) ≤ (n1 : Int)) := by omega
  have R4 : ¬ ((n1 : Int) ≤ (n0 : Int)) := by omega
  have s1 : (tS1 d0).cnt + (tS1 d0).waits.length < 549755813888 := by simp [tS1, stW, st0]
  have wr1 : Wrs (tS1 d0).waits := by intro c hc; simp [tS1, stW, st0] at hc; exact ⟨_, _, _, hc⟩
  have c2 : Calm (tS2 d0) 4 := ⟨fun _ => rfl, by simp [tS2, stS, tS1, stW, st0]⟩
  have c3 : Calm (tS3 d0 d1) 6 := ⟨fun _ => rfl, by simp [tS3, tS2, stS, tS1, stW, st0]⟩
  have s4 : (lS4 d0 d1).cnt + (lS4 d0 d1).waits.length < 549755813888 := by rw [lS4_waits]; simp [lS4, tS3, tS2, stS, tS1, stW, st0]
  have wr4 : Wrs (lS4 d0 d1).waits := by rw [lS4_waits]; intro c hc; simp at hc; rcases hc with h | h <;> exact ⟨_, _, _, h⟩
  have k4 : (lS4 d0 d1).waits.length ≤ 2 := by rw [lS4_waits]; simp
  have l4 : (lS4 d0 d1).waits.length = 2 := by rw [lS4_waits]; rfl
  have c5 : (lA5 d0 d1).cnt < 549755813888 := by unfold lA5; rw [lS4_waits]; simp [lS4, tS3, tS2, stS, tS1, stW, st0]
  have c6 : (stR (lA5 d0 d1)).cnt < 549755813888 := by unfold stR lA5; rw [lS4_waits]; simp [lS4, tS3, tS2, stS, tS1, stW, st0]
  obtain ⟨P, hP⟩ : ∃ P, P = d1 ++ d0.drop d1.length := ⟨_, rfl⟩
  obtain ⟨f5, g5⟩ := lA5_seen d0 d1
  rw [← hP] at f5
  have hPl : P.length = max d0.length d1.length := by rw [hP]; simp; omega
  have hPk : d1.length ≤ P.length := by omega
  have hP1 : P.take d1.length = d1 := by rw [hP]; simp
  have hP2 : P.drop d1.length = d0.drop d1.length := by rw [hP]; simp
  have hRd : (P.drop 0).take 20000 = P := by rw [List.drop_zero, List.take_of_length_le (by omega)]
  have hRg : (d1.drop 0).take 20000 = d1 := by rw [List.drop_zero, List.take_of_length_le (by omega)]
  have hPn : P.length = n1 := by omega
  have hdr : d0.drop d1.length = d0.drop n0 := by rw [List.drop_eq_nil_of_le (by omega), List.drop_eq_nil_of_le (by omega)]
  replace hdr := Kpt.mk hdr
  replace hPn := Kpt.mk hPn
  replace e0 := Kpt.mk e0
  replace e1 := Kpt.mk e1
  have o0 : 0 + d0.length ≤ 1048576 := by have := e0.out; omega
  have o1 : 0 + d1.length ≤ 1048576 := by have := e1.out; omega
  replace o0 := Kpt.mk o0
  replace o1 := Kpt.mk o1
  replace c6 := Kpt.mk c6
  replace hP := Kpt.mk hP
  replace hPl := Kpt.mk hPl
  replace hP1 := Kpt.mk hP1
  replace hP2 := Kpt.mk hP2
  replace hRg := Kpt.mk hRg
  replace s1 := Kpt.mk s1
  replace wr1 := Kpt.mk wr1
  replace c2 := Kpt.mk c2
  replace c3 := Kpt.mk c3
  replace s4 := Kpt.mk s4
  replace wr4 := Kpt.mk wr4
  replace k4 := Kpt.mk k4
  replace l4 := Kpt.mk l4
  replace c5 := Kpt.mk c5
  replace f5 := Kpt.mk f5
  replace g5 := Kpt.mk g5
  replace hRd := Kpt.mk hRd
  replace h0 := Kpt.mk h0
  replace h1 := Kpt.mk h1
  go_enter Try.func3, Try.ntmps3
  go_wp2_with (first
    | (go_at_call 14; refine (read_ok _ B t5 (stR (lA5 d0 d1)) hW6 c6.out rfl nG (by decide) (by decide) 0 20000 (by decide) (by decide) d1 g5.out).mono ?_; rintro e w7 ⟨v7, rfl, hW7, hs7, hr7, hn7⟩; obtain ⟨hb7', ht7⟩ := hs7.below hb6.size ht6; have hb7 := hb6.trans hb7'; rw [hRg.out] at hr7; obtain ⟨ag, cg, hv7, _⟩ := rd_shape hr7.rd; rw [← e1.out] at hv7; subst hv7; have hbare : ∀ g, (Value.slice av n1 cv).ownBlock = some g → t5 g = none := (fun g hg => bare_new hW5 (hn6 g hg)); have hr6' := (hr6.keep hs7 hbare).1)
    | (go_at_call 14; refine (read_ok _ B t5 (lA5 d0 d1) hW5 c5.out rfl nF (by decide) (by decide) 0 20000 (by decide) (by decide) P f5.out).mono ?_; rintro e w6 ⟨v6, rfl, hW6, hs6, hr6, hn6⟩; obtain ⟨hb6', ht6⟩ := hs6.below hb5.size ht5; have hb6 := hb5.trans hb6'; rw [hRd.out] at hr6; obtain ⟨av, cv, hv6, _⟩ := rd_shape hr6.rd; rw [hPn.out] at hv6; subst hv6)
    | (go_at_call 13; refine (crash_all _ B t4 (lS4 d0 d1) hW4 s4.out wr4.out 2 0 k4.out (by decide)).mono ?_; rintro e w5 ⟨rfl, t5, hW5, hs5⟩; obtain ⟨hb5', ht5⟩ := hs5.below hb4.size ht4; have hb5 := hb4.trans hb5')
    | (go_at_call 12; refine (waits_any _ B t4 (lS4 d0 d1) hW4).mono ?_; rintro e w' ⟨rfl, hw'⟩; rw [hw', l4.out])
    | (go_at_call 10; refine (write_ok _ B t3 (tS3 d0 d1) hW3 6 c3.out (by omega) nG (by decide) (by decide) 0 0 rfl _ d1 (h1.out.low hb3) (h1.out.bare ht3) o1.out).mono ?_; rintro e w4 ⟨rfl, t4, hW4, hs4⟩; obtain ⟨hb4', ht4⟩ := hs4.below hb3.size ht3; have hb4 := hb3.trans hb4')
    | (go_at_call 10; refine (write_ok _ B t2 (tS2 d0) hW2 4 c2.out (by omega) nF (by decide) (by decide) 0 0 rfl _ d1 (h1.out.low hb2) (h1.out.bare ht2) o1.out).mono ?_; rintro e w3 ⟨rfl, t3, hW3, hs3⟩; obtain ⟨hb3', ht3⟩ := hs3.below hb2.size ht2; have hb3 := hb2.trans hb3')
    | (go_at_call 11; refine (sync_any _ B t1 (tS1 d0) hW1 s1.out rfl wr1.out).mono ?_; rintro e w2 ⟨rfl, t2, hW2, hs2⟩; obtain ⟨hb2', ht2⟩ := hs2.below hb1.size ht1; have hb2 := hb1.trans hb2')
    | (go_at_call 10; refine (write_ok _ B tN st0 hWN 0 calm0 (by omega) nF (by decide) (by decide) 0 0 rfl _ d0 (h0.out.low hbN) (h0.out.bare htN) o0.out).mono ?_; rintro e w1 ⟨rfl, t1, hW1, hs1⟩; obtain ⟨hb1', ht1⟩ := hs1.below hbN.size htN; have hb1 := hbN.trans hb1')
    | (go_at_call 9; refine (new_any _).mono ?_; rintro e wN ⟨B, tN, rfl, hWN, hgN, htN'⟩; have hbN := below_new hbA hgN; have htN : ∀ i, i < w.heap.size → tN i = none := fun i hi => htN' i (Nat.lt_of_lt_of_le hi hbA.size))
    | (go_at_call 8; refine (awake_any _).mono ?_; rintro e wA ⟨rfl, hgA⟩; have hbA := below_grown hgA))
  obtain ⟨V1, hV1, hV1r⟩ := rd_head' hr6'.rd hPn.out.symm n1 (by have := e1.out; omega)
  obtain ⟨V3, hV3, hV3r⟩ := rd_tail' hr6'.rd hPn.out.symm n1 (by have := e1.out; omega)
  obtain ⟨V4, hV4, hV4r⟩ := rd_tail' (h0.out.low hb7) e0.out n0 (by have := e0.out; omega)
  have hC1 := rd_conv hV1r
  have hC2 := rd_conv (h1.out.low hb7)
  have hC3 := rd_conv hV3r
  have hC4 := rd_conv hV4r
  have hC5 := rd_conv hr7.rd
  rw [show P.take n1 = d1 by rw [e1.out]; exact hP1.out] at hC1
  rw [show P.drop n1 = d0.drop n0 from (congrArg (fun k => P.drop k) e1.out).trans (hP2.out.trans hdr.out)] at hC3
  obtain ⟨S1, hS1⟩ : ∃ S, S = strOfNums d1 := ⟨_, rfl⟩
  obtain ⟨S2, hS2⟩ : ∃ S, S = strOfNums (d0.drop n0) := ⟨_, rfl⟩
  rw [← hS1] at hC1 hC2 hC5
  rw [← hS2] at hC3 hC4
  have hbK := Kpt.mk hb7
  clear hS1 hS2 hV1r hV3r hV4r hb7 hb7' ht7 hW7 hs7 hr7 hn7 hr6' hbare hb6 hb6' ht6 hW6 hs6 hr6 hn6 hb5 hb5' ht5 hW5 hs5 hb4 hb4' ht4 hW4 hs4 hb3 hb3' ht3 hW3 hs3 hb2 hb2' ht2 hW2 hs2 hb1 hb1' ht1 hW1 hs1 hbN htN hWN hgN htN' hbA hgA hPk
  go_quiet (fail)
  go_wp2
  go_ret
  have hb := hbK.out
  exact ⟨rfl, ⟨hb.os, hb.tape, hb.output, hb.size, hb.block⟩⟩

set_option maxRecDepth 100000 in
set_option maxHeartbeats 2000000 in
theorem lose_allE (w : World) (a0 a1 : Option Addr) (c0 c1 : Nat) (n0 : Nat) (d0 d1 : List Int) (e0 : n0 = d0.length) (e1 : n0 = d1.length) (h0 : RdAt w (.slice a0 n0 c0) d0) (h1 : RdAt w (.slice a1 n0 c1) d1) (m0 : n0 ≤ 10000) (m1 : n0 ≤ 10000) :
    Calls Try.prog 3 #[.slice a0 n0 c0, .slice a1 n0 c1, .bool true] w fun e w' => e = .returned (.bool true) ∧ Below w.heap.size w w' := by
  have M0 : ¬ ((10000 : Int) < (n0 : Int)) := by omega
  have M1 : ¬ ((10000 : Int) < (n0 : Int)) := by omega
  have s1 : (tS1 d0).cnt + (tS1 d0).waits.length < 549755813888 := by simp [tS1, stW, st0]
  have wr1 : Wrs (tS1 d0).waits := by intro c hc; simp [tS1, stW, st0] at hc; exact ⟨_, _, _, hc⟩
  have c2 : Calm (tS2 d0) 4 := ⟨fun _ => rfl, by simp [tS2, stS, tS1, stW, st0]⟩
  have c3 : Calm (tS3 d0 d1) 6 := ⟨fun _ => rfl, by simp [tS3, tS2, stS, tS1, stW, st0]⟩
  have s4 : (lS4 d0 d1).cnt + (lS4 d0 d1).waits.length < 549755813888 := by rw [lS4_waits]; simp [lS4, tS3, tS2, stS, tS1, stW, st0]
  have wr4 : Wrs (lS4 d0 d1).waits := by rw [lS4_waits]; intro c hc; simp at hc; rcases hc with h | h <;> exact ⟨_, _, _, h⟩
  have k4 : (lS4 d0 d1).waits.length ≤ 2 := by rw [lS4_waits]; simp
  have l4 : (lS4 d0 d1).waits.length = 2 := by rw [lS4_waits]; rfl
  have c5 : (lA5 d0 d1).cnt < 549755813888 := by unfold lA5; rw [lS4_waits]; simp [lS4, tS3, tS2, stS, tS1, stW, st0]
  have c6 : (stR (lA5 d0 d1)).cnt < 549755813888 := by unfold stR lA5; rw [lS4_waits]; simp [lS4, tS3, tS2, stS, tS1, stW, st0]
  obtain ⟨P, hP⟩ : ∃ P, P = d1 ++ d0.drop d1.length := ⟨_, rfl⟩
  obtain ⟨f5, g5⟩ := lA5_seen d0 d1
  rw [← hP] at f5
  have hPl : P.length = max d0.length d1.length := by rw [hP]; simp; omega
  have hPk : d1.length ≤ P.length := by omega
  have hP1 : P.take d1.length = d1 := by rw [hP]; simp
  have hP2 : P.drop d1.length = d0.drop d1.length := by rw [hP]; simp
  have hRd : (P.drop 0).take 20000 = P := by rw [List.drop_zero, List.take_of_length_le (by omega)]
  have hRg : (d1.drop 0).take 20000 = d1 := by rw [List.drop_zero, List.take_of_length_le (by omega)]
  have hPn : P.length = n0 := by omega
  have hdr : d0.drop d1.length = d0.drop n0 := by rw [← e1]
  replace hdr := Kpt.mk hdr
  replace hPn := Kpt.mk hPn
  replace e0 := Kpt.mk e0
  replace e1 := Kpt.mk e1
  have o0 : 0 + d0.length ≤ 1048576 := by have := e0.out; omega
  have o1 : 0 + d1.length ≤ 1048576 := by have := e1.out; omega
  replace o0 := Kpt.mk o0
  replace o1 := Kpt.mk o1
  replace c6 := Kpt.mk c6
  replace hP := Kpt.mk hP
  replace hPl := Kpt.mk hPl
  replace hP1 := Kpt.mk hP1
  replace hP2 := Kpt.mk hP2
  replace hRg := Kpt.mk hRg
  replace s1 := Kpt.mk s1
  replace wr1 := Kpt.mk wr1
  replace c2 := Kpt.mk c2
  replace c3 := Kpt.mk c3
  replace s4 := Kpt.mk s4
  replace wr4 := Kpt.mk wr4
  replace k4 := Kpt.mk k4
  replace l4 := Kpt.mk l4
  replace c5 := Kpt.mk c5
  replace f5 := Kpt.mk f5
  replace g5 := Kpt.mk g5
  replace hRd := Kpt.mk hRd
  replace h0 := Kpt.mk h0
  replace h1 := Kpt.mk h1
  go_enter Try.func3, Try.ntmps3
  go_wp2_with (first
    | (go_at_call 14; refine (read_ok _ B t5 (stR (lA5 d0 d1)) hW6 c6.out rfl nG (by decide) (by decide) 0 20000 (by decide) (by decide) d1 g5.out).mono ?_; rintro e w7 ⟨v7, rfl, hW7, hs7, hr7, hn7⟩; obtain ⟨hb7', ht7⟩ := hs7.below hb6.size ht6; have hb7 := hb6.trans hb7'; rw [hRg.out] at hr7; obtain ⟨ag, cg, hv7, _⟩ := rd_shape hr7.rd; rw [← e1.out] at hv7; subst hv7; have hbare : ∀ g, (Value.slice av n0 cv).ownBlock = some g → t5 g = none := (fun g hg => bare_new hW5 (hn6 g hg)); have hr6' := (hr6.keep hs7 hbare).1)
    | (go_at_call 14; refine (read_ok _ B t5 (lA5 d0 d1) hW5 c5.out rfl nF (by decide) (by decide) 0 20000 (by decide) (by decide) P f5.out).mono ?_; rintro e w6 ⟨v6, rfl, hW6, hs6, hr6, hn6⟩; obtain ⟨hb6', ht6⟩ := hs6.below hb5.size ht5; have hb6 := hb5.trans hb6'; rw [hRd.out] at hr6; obtain ⟨av, cv, hv6, _⟩ := rd_shape hr6.rd; rw [hPn.out] at hv6; subst hv6)
    | (go_at_call 13; refine (crash_all _ B t4 (lS4 d0 d1) hW4 s4.out wr4.out 2 0 k4.out (by decide)).mono ?_; rintro e w5 ⟨rfl, t5, hW5, hs5⟩; obtain ⟨hb5', ht5⟩ := hs5.below hb4.size ht4; have hb5 := hb4.trans hb5')
    | (go_at_call 12; refine (waits_any _ B t4 (lS4 d0 d1) hW4).mono ?_; rintro e w' ⟨rfl, hw'⟩; rw [hw', l4.out])
    | (go_at_call 10; refine (write_ok _ B t3 (tS3 d0 d1) hW3 6 c3.out (by omega) nG (by decide) (by decide) 0 0 rfl _ d1 (h1.out.low hb3) (h1.out.bare ht3) o1.out).mono ?_; rintro e w4 ⟨rfl, t4, hW4, hs4⟩; obtain ⟨hb4', ht4⟩ := hs4.below hb3.size ht3; have hb4 := hb3.trans hb4')
    | (go_at_call 10; refine (write_ok _ B t2 (tS2 d0) hW2 4 c2.out (by omega) nF (by decide) (by decide) 0 0 rfl _ d1 (h1.out.low hb2) (h1.out.bare ht2) o1.out).mono ?_; rintro e w3 ⟨rfl, t3, hW3, hs3⟩; obtain ⟨hb3', ht3⟩ := hs3.below hb2.size ht2; have hb3 := hb2.trans hb3')
    | (go_at_call 11; refine (sync_any _ B t1 (tS1 d0) hW1 s1.out rfl wr1.out).mono ?_; rintro e w2 ⟨rfl, t2, hW2, hs2⟩; obtain ⟨hb2', ht2⟩ := hs2.below hb1.size ht1; have hb2 := hb1.trans hb2')
    | (go_at_call 10; refine (write_ok _ B tN st0 hWN 0 calm0 (by omega) nF (by decide) (by decide) 0 0 rfl _ d0 (h0.out.low hbN) (h0.out.bare htN) o0.out).mono ?_; rintro e w1 ⟨rfl, t1, hW1, hs1⟩; obtain ⟨hb1', ht1⟩ := hs1.below hbN.size htN; have hb1 := hbN.trans hb1')
    | (go_at_call 9; refine (new_any _).mono ?_; rintro e wN ⟨B, tN, rfl, hWN, hgN, htN'⟩; have hbN := below_new hbA hgN; have htN : ∀ i, i < w.heap.size → tN i = none := fun i hi => htN' i (Nat.lt_of_lt_of_le hi hbA.size))
    | (go_at_call 8; refine (awake_any _).mono ?_; rintro e wA ⟨rfl, hgA⟩; have hbA := below_grown hgA))
  obtain ⟨V1, hV1, hV1r⟩ := rd_head' hr6'.rd hPn.out.symm n0 (by have := e1.out; omega)
  obtain ⟨V3, hV3, hV3r⟩ := rd_tail' hr6'.rd hPn.out.symm n0 (by have := e1.out; omega)
  obtain ⟨V4, hV4, hV4r⟩ := rd_tail' (h0.out.low hb7) e0.out n0 (by have := e0.out; omega)
  have hC1 := rd_conv hV1r
  have hC2 := rd_conv (h1.out.low hb7)
  have hC3 := rd_conv hV3r
  have hC4 := rd_conv hV4r
  have hC5 := rd_conv hr7.rd
  rw [show P.take n0 = d1 by rw [e1.out]; exact hP1.out] at hC1
  rw [show P.drop n0 = d0.drop n0 from (congrArg (fun k => P.drop k) e1.out).trans (hP2.out.trans hdr.out)] at hC3
  obtain ⟨S1, hS1⟩ : ∃ S, S = strOfNums d1 := ⟨_, rfl⟩
  obtain ⟨S2, hS2⟩ : ∃ S, S = strOfNums (d0.drop n0) := ⟨_, rfl⟩
  rw [← hS1] at hC1 hC2 hC5
  rw [← hS2] at hC3 hC4
  have hbK := Kpt.mk hb7
  clear hS1 hS2 hV1r hV3r hV4r hb7 hb7' ht7 hW7 hs7 hr7 hn7 hr6' hbare hb6 hb6' ht6 hW6 hs6 hr6 hn6 hb5 hb5' ht5 hW5 hs5 hb4 hb4' ht4 hW4 hs4 hb3 hb3' ht3 hW3 hs3 hb2 hb2' ht2 hW2 hs2 hb1 hb1' ht1 hW1 hs1 hbN htN hWN hgN htN' hbA hgA hPk
  go_quiet (fail)
  go_wp2
  go_ret
  have hb := hbK.out
  exact ⟨rfl, ⟨hb.os, hb.tape, hb.output, hb.size, hb.block⟩⟩

set_option maxRecDepth 100000 in
theorem lose_long (w : World) (a0 a1 : Option Addr) (c0 c1 n0 n1 : Nat) (h : 10000 < n0 ∨ 10000 < n1) (m0 : n0 ≤ maxLen) (m1 : n1 ≤ maxLen) (x : Bool) :
    Calls Try.prog 3 #[.slice a0 n0 c0, .slice a1 n1 c1, .bool x] w fun e w' => e = .returned (.bool true) ∧ Below w.heap.size w w' := by
  have two : ∀ wA wB : World, w.grownBy wA none → wA.grownBy wB none → Below w.heap.size w wB := by
    intro wA wB h1 h2
    have g := h1.andThen h2 (by simp)
    exact ⟨g.os, g.tape, g.output, g.size, fun i hi => g.block i hi (by simp)⟩
  replace two := Kpt.mk two
  by_cases h0 : 10000 < n0
  · have H0 : (10000 : Int) < (n0 : Int) := by omega
    go_enter Try.func3, Try.ntmps3
    go_wp2_with (first
      | (go_at_call 8; refine (awake_any wA).mono ?_; rintro e wB ⟨rfl, hgB⟩)
      | (go_at_call 8; refine (awake_any _).mono ?_; rintro e wA ⟨rfl, hgA⟩))
    go_ret
    exact ⟨rfl, two.out _ _ hgA hgB⟩
  · have H0 : ¬ ((10000 : Int) < (n0 : Int)) := by omega
    have H1 : (10000 : Int) < (n1 : Int) := by omega
    go_enter Try.func3, Try.ntmps3
    go_wp2_with (first
      | (go_at_call 8; refine (awake_any wA).mono ?_; rintro e wB ⟨rfl, hgB⟩)
      | (go_at_call 8; refine (awake_any _).mono ?_; rintro e wA ⟨rfl, hgA⟩))
    go_ret
    exact ⟨rfl, two.out _ _ hgA hgB⟩
end Go.Proofs.Ytfcbacmfjhabgaa
