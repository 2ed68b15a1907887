/-
  A write that was cut by a crash.
-/
import Derived.Test.YtfcbacmfjhabgaaCrash
namespace Go.Proofs.Ytfcbacmfjhabgaa
open Go.RowKit Go.Maps
set_option linter.unusedVariables false
set_option linter.unusedSimpArgs false

/-- A row that came in can be read. -/
theorem rd_of_row {w : World} {a : Option Addr} {len cap : Nat} {zs : List Int}
    (h : (a = none ∧ len = 0 ∧ cap = 0 ∧ zs = []) ∨
      ∃ x, a = some x ∧ len ≤ cap ∧ cap ≤ maxLen ∧ zs.length = cap ∧ (∀ i, i < zs.length → w.cell? (x.add i) = some (.int .u8 (zs.getD i 0))) ∧ ∀ n ∈ zs, (Lit.int .u8 n).wf = true) :
    ∃ d : List Int, len = d.length ∧ RdAt w (.slice a d.length cap) d ∧ d.length ≤ maxLen := by
  rcases h with ⟨rfl, rfl, rfl, rfl⟩ | ⟨x, rfl, hl, hm, hz, hc, hw⟩
  · exact ⟨[], rfl, rd_nil w, Nat.zero_le _⟩
  · have hlen : (zs.take len).length = len := by simp; omega
    refine ⟨zs.take len, hlen.symm, ⟨some x, cap, rfl, by simp, by omega, ?_⟩, by omega⟩
    by_cases h0 : len = 0
    · left; omega
    · right
      obtain ⟨b, off, rfl, hcell⟩ := ints_at hc (by omega)
      refine ⟨b, off, rfl, fun j u hu => ?_⟩
      have hj : j < len := by
        by_cases hj : j < len
        · exact hj
        · rw [List.getElem?_eq_none (by simp; omega)] at hu; cases hu
      rw [hcell j (by omega)]
      simp only [cels, List.getElem?_map, List.getElem?_take, if_pos hj] at hu
      rw [List.getElem?_eq_getElem (by omega)] at hu
      rw [List.getD_eq_getElem?_getD, List.getElem?_eq_getElem (by omega)]
      simpa using hu

def nF : ByteArray := ⟨#[102]⟩

theorem over_zero (zs ds : List Int) (h : ds.length ≤ zs.length) : over zs 0 ds = ds ++ zs.drop ds.length := by simp [over]
theorem laidL_zero (zs ds : List Int) : laidL zs 0 ds = ds ++ zs.drop ds.length := by
  unfold laidL over
  simp only [Nat.zero_add, List.take_zero, List.nil_append]
  congr 1
  by_cases h : ds.length ≤ zs.length
  · rw [show ds.length - zs.length = 0 by omega]; simp
  · rw [List.drop_eq_nil_of_le (by simp; omega), List.drop_eq_nil_of_le (by omega)]

/-- The states of the law. -/
def tS1 (d0 : List Int) : St := stW st0 nF 0 d0
def tS2 (d0 : List Int) : St := stS (tS1 d0)
def tS3 (d0 d1 : List Int) : St := stW (tS2 d0) nF 0 d1
def tS4 (d0 d1 : List Int) (k : Nat) : St := { stC (tS3 d0 d1) 0 k with cnt := (tS3 d0 d1).cnt + 0 + 1 }

theorem tS2_dur (d0 : List Int) : (tS2 d0).dur nF = some d0 := by
  simp [tS2, stS, tS1, stW, st0, runs, Chg.run, laidL_nil]

theorem tS4_seen (d0 d1 : List Int) (k : Nat) (hk : k ≤ d1.length) : (tS4 d0 d1 k).seen nF = some (d1.take k ++ d0.drop k) := by
  have hl : (d1.take k).length = k := by simp; omega
  have e1 : (tS3 d0 d1).waits = [.wr nF 0 d1] := rfl
  have e2 : (tS3 d0 d1).dur = (tS2 d0).dur := rfl
  show crashed (tS3 d0 d1).waits 0 k (tS3 d0 d1).dur nF = _
  rw [e1, e2]
  simp only [crashed, List.getElem?_cons_zero, List.take_zero, runs_nil, torn]
  by_cases h0 : k = 0
  · subst h0; simp [tS2_dur]
  · rw [if_neg h0]
    simp only [Chg.run, updF_same, tS2_dur, Option.getD_some]
    rw [laidL_zero, hl]

/-- Cuts of a row that can be read. -/
theorem rd_head {w : World} {a : Option Addr} {c : Nat} {zs : List Int} (h : RdAt w (.slice a zs.length c) zs) (k : Nat) (hk : k ≤ zs.length) :
    ∃ V, (∀ W : World, (Instr.slice 22 (.slice a zs.length c) none (some (.int .i64 (k : Int))) none).run Try.prog W = .ok V W) ∧ RdAt w V (zs.take k) := by
  obtain ⟨i, hi, hz, hsize, hby⟩ := info_parts Try.info5
  have hlt : (zs.take k).length = k := by simp; omega
  obtain ⟨a', c', hx, hn, hlc, hr⟩ := h
  simp only [Value.slice.injEq, true_and] at hx
  obtain ⟨rfl, rfl⟩ := hx
  refine ⟨sliced a 0 k c 1, fun W => ?_, ?_⟩
  · have hel : Try.prog.underlying 22 = some (.slice (Try.prog.elem 22)) := by rw [show Try.prog.elem 22 = 5 from by kernel_rfl]; exact Try.underlying22
    rw [Go.run_slice_h (P := Try.prog) W 22 a zs.length c hel .i64 (k : Int) (by omega) (by omega)]
    rw [show Try.prog.elem 22 = 5 from by kernel_rfl]
    simp [sizeOf, typeInfo, hi, hsize, Result.andThen]
  · refine ⟨if c = 0 then a else a.map (·.add (0 * 1)), c - 0, by rw [hlt]; rfl, ?_, by omega, ?_⟩
    · intro e
      have : a = none := by cases a with | none => rfl | some x => by_cases hc : c = 0 <;> simp [hc] at e
      have := hn this
      omega
    · by_cases h0 : k = 0
      · left; omega
      · right
        rcases hr with h1 | ⟨b, off, rfl, hc⟩
        · omega
        · refine ⟨b, off, ?_, fun j u hu => hc j u ?_⟩
          · have : ¬ c = 0 := by omega
            simp [this, Go.WideShapes.add_plain]
          · simp only [cels, List.map_take, List.getElem?_take] at hu
            split at hu
            · exact hu
            · cases hu

theorem rd_tail {w : World} {a : Option Addr} {c : Nat} {zs : List Int} (h : RdAt w (.slice a zs.length c) zs) (k : Nat) (hk : k ≤ zs.length) :
    ∃ V, (∀ W : World, (Instr.slice 22 (.slice a zs.length c) (some (.int .i64 (k : Int))) none none).run Try.prog W = .ok V W) ∧ RdAt w V (zs.drop k) := by
  obtain ⟨i, hi, hz, hsize, hby⟩ := info_parts Try.info5
  have hlt : (zs.drop k).length = zs.length - k := by simp
  obtain ⟨a', c', hx, hn, hlc, hr⟩ := h
  simp only [Value.slice.injEq, true_and] at hx
  obtain ⟨rfl, rfl⟩ := hx
  refine ⟨sliced a k zs.length c 1, fun W => ?_, ?_⟩
  · have hel : Try.prog.underlying 22 = some (.slice (Try.prog.elem 22)) := by rw [show Try.prog.elem 22 = 5 from by kernel_rfl]; exact Try.underlying22
    rw [Go.run_slice_l (P := Try.prog) W 22 a zs.length c hel .i64 (k : Int) (by omega) (by omega)]
    rw [show Try.prog.elem 22 = 5 from by kernel_rfl]
    simp [sizeOf, typeInfo, hi, hsize, Result.andThen]
  · refine ⟨if c = k then a else a.map (·.add (k * 1)), c - k, by rw [hlt]; rfl, ?_, by omega, ?_⟩
    · intro e
      have : a = none := by cases a with | none => rfl | some x => by_cases hc : c = k <;> simp [hc] at e
      have := hn this
      omega
    · by_cases h0 : zs.length - k = 0
      · left; omega
      · right
        rcases hr with h1 | ⟨b, off, rfl, hc⟩
        · omega
        · refine ⟨b, off + k, ?_, fun j u hu => ?_⟩
          · have : ¬ c = k := by omega
            simp [this, Go.WideShapes.add_plain]
          · have := hc (k + j) u (by
              simp only [cels, List.map_drop, List.getElem?_drop] at hu ⊢
              exact hu)
            rw [Nat.add_assoc]
            exact this

theorem rd_conv {w : World} {V : Value} {zs : List Int} (h : RdAt w V zs) : ∀ m, (convert 22 9 V).run Try.prog (w.drewN m) = .ok (.string (strOfNums zs)) (w.drewN m) := fun m => conv_rd (w.drewN m) V zs h

set_option maxRecDepth 100000 in
set_option maxHeartbeats 2000000 in
theorem torn_any (w : World) (a0 a1 : Option Addr) (c0 c1 : Nat) (d0 d1 : List Int) (h0 : RdAt w (.slice a0 d0.length c0) d0) (h1 : RdAt w (.slice a1 d1.length c1) d1) (m0 : d0.length ≤ 5000) (m1 : d1.length ≤ 5000) (x : Int) (hx0 : 0 ≤ x) (hx1 : x ≤ 65535) :
    Calls Try.prog 4 #[.slice a0 d0.length c0, .slice a1 d1.length c1, .int .u16 x] w fun e w' => e = .returned (.bool true) ∧ Below w.heap.size w w' := by
  have M0 : ¬ ((5000 : Int) < (d0.length : Int)) := by omega
  have M1 : ¬ ((5000 : Int) < (d1.length : Int)) := by omega
  have M0' : ¬ (5000 < d0.length) := by omega
  have M1' : ¬ (5000 < d1.length) := by omega
  have s1 : (tS1 d0).cnt + (tS1 d0).waits.length < 549755813888 := by simp [tS1, stW, st0]
  have wr1 : Wrs (tS1 d0).waits := by intro c hc; simp [tS1, stW, st0] at hc; exact ⟨_, _, _, hc⟩
  have c2 : Calm (tS2 d0) 4 := ⟨fun _ => rfl, by simp [tS2, stS, tS1, stW, st0]⟩
  have s3 : (tS3 d0 d1).cnt + (tS3 d0 d1).waits.length < 549755813888 := by simp [tS3, tS2, stS, tS1, stW, st0]
  have wr3 : Wrs (tS3 d0 d1).waits := by intro c hc; simp [tS3, tS2, stS, stW] at hc; exact ⟨_, _, _, hc⟩
  have k3 : 0 < (tS3 d0 d1).waits.length := by simp [tS3, tS2, stS, stW]
  obtain ⟨k, hk⟩ : ∃ k : Nat, x % ((d1.length : Int) + 1) = (k : Int) := ⟨(x % ((d1.length : Int) + 1)).toNat, by have := Int.emod_nonneg x (b := (d1.length : Int) + 1) (by omega); omega⟩
  have hkl : k ≤ d1.length := by have := Int.emod_lt_of_pos x (b := (d1.length : Int) + 1) (by omega); omega
  obtain ⟨P, hP⟩ : ∃ P, P = d1.take k ++ d0.drop k := ⟨_, rfl⟩
  have hlk : (d1.take k).length = k := by simp; omega
  have hPl : P.length = max d0.length k := by rw [hP]; simp; omega
  have hPk : k ≤ P.length := by omega
  have hP1 : P.take k = d1.take k := by rw [hP, List.take_append_of_le_length (by omega), List.take_of_length_le (by omega)]
  have hP2 : P.drop k = d0.drop k := by rw [hP, List.drop_append_of_le_length (by omega), List.drop_eq_nil_of_le (by omega)]; simp
  have hS4 : (tS4 d0 d1 k).seen nF = some P := by rw [hP]; exact tS4_seen d0 d1 k hkl
  have hRd : (P.drop 0).take 10000 = P := by rw [List.drop_zero, List.take_of_length_le (by omega)]
  have c4 : (tS4 d0 d1 k).cnt < 549755813888 := by simp [tS4, tS3, tS2, stS, tS1, stW, st0]
  replace c4 := Kpt.mk c4
  replace hS4 := Kpt.mk hS4
  replace hRd := Kpt.mk hRd
  replace hP := Kpt.mk hP
  replace hP1 := Kpt.mk hP1
  replace hP2 := Kpt.mk hP2
  replace hlk := Kpt.mk hlk
  replace hPl := Kpt.mk hPl
  replace s1 := Kpt.mk s1
  replace wr1 := Kpt.mk wr1
  replace c2 := Kpt.mk c2
  replace s3 := Kpt.mk s3
  replace wr3 := Kpt.mk wr3
  replace k3 := Kpt.mk k3
  replace h0 := Kpt.mk h0
  replace h1 := Kpt.mk h1
  go_enter Try.func4, Try.ntmps4
  go_wp2_with (first
    | (go_at_call 14; refine (read_ok _ B t4 (tS4 d0 d1 k) hW4 c4.out rfl nF (by decide) (by decide) 0 10000 (by decide) (by decide) P hS4.out).mono ?_; rintro e w5 ⟨v5, rfl, hW5, hs5, hr5, hn5⟩; obtain ⟨hb5', ht5⟩ := hs5.below hb4.size ht4; have hb5 := hb4.trans hb5'; rw [hRd.out] at hr5; obtain ⟨av, cv, rfl, _⟩ := rd_shape hr5.rd; obtain ⟨V1, hV1, hV1r⟩ := rd_head hr5.rd k hPk; obtain ⟨V2, hV2, hV2r⟩ := rd_head (h1.out.low hb5) k hkl; have hC1 := rd_conv hV1r; have hC2 := rd_conv hV2r; rw [hP1.out] at hC1)
    | (go_at_call 13; refine (crash_in _ B t3 (tS3 d0 d1) hW3 s3.out wr3.out 0 k k3.out (by omega)).mono ?_; rintro e w4 ⟨rfl, t4, hW4, hs4⟩; obtain ⟨hb4', ht4⟩ := hs4.below hb3.size ht3; have hb4 := hb3.trans hb4')
    | (go_at_call 10; refine (write_ok _ B t2 (tS2 d0) hW2 4 c2.out (by omega) nF (by decide) (by decide) 0 0 rfl _ d1 (h1.out.low hb2) (h1.out.bare ht2) (by omega)).mono ?_; rintro e w3 ⟨rfl, t3, hW3, hs3⟩; obtain ⟨hb3', ht3⟩ := hs3.below hb2.size ht2; have hb3 := hb2.trans hb3')
    | (go_at_call 11; refine (sync_any _ B t1 (tS1 d0) hW1 s1.out rfl wr1.out).mono ?_; rintro e w2 ⟨rfl, t2, hW2, hs2⟩; obtain ⟨hb2', ht2⟩ := hs2.below hb1.size ht1; have hb2 := hb1.trans hb2')
    | (go_at_call 10; refine (write_ok _ B tN st0 hWN 0 calm0 (by omega) nF (by decide) (by decide) 0 0 rfl _ d0 (h0.out.low hbN) (h0.out.bare htN) (by omega)).mono ?_; rintro e w1 ⟨rfl, t1, hW1, hs1⟩; obtain ⟨hb1', ht1⟩ := hs1.below hbN.size htN; have hb1 := hbN.trans hb1')
    | (go_at_call 9; refine (new_any _).mono ?_; rintro e wN ⟨B, tN, rfl, hWN, hgN, htN'⟩; have hbN : Below w.heap.size w wN := hbA.trans ⟨hgN.os, hgN.tape, hgN.output, hgN.size, fun i hi => hgN.block i (Nat.lt_of_lt_of_le hi hbA.size) (by simp)⟩; have htN : ∀ i, i < w.heap.size → tN i = none := fun i hi => htN' i (Nat.lt_of_lt_of_le hi hbA.size))
    | (go_at_call 8; refine (awake_any _).mono ?_; rintro e wA ⟨rfl, hgA⟩; have hbA : Below w.heap.size w wA := ⟨hgA.os, hgA.tape, hgA.output, hgA.size, fun i hi => hgA.block i hi (by simp)⟩))
  obtain ⟨S1, hS1⟩ : ∃ S, S = strOfNums (d1.take k) := ⟨_, rfl⟩
  rw [← hS1] at hC1 hC2
  clear hS1
  have hold := h0.out.low hb5
  have hmine := hr5.rd
  have hbK := Kpt.mk hb5
  have hpl := hPl.out
  clear hb5 hb5' ht5 hW5 hs5 hr5 hn5 hV1r hV2r hb4 hb4' ht4 hW4 hs4 hb3 hb3' ht3 hW3 hs3 hb2 hb2' ht2 hW2 hs2 hb1 hb1' ht1 hW1 hs1 hbN htN hWN hgN htN' hbA hgA
  by_cases hlt : k < d0.length
  · have hA : P.length = d0.length := by omega
    obtain ⟨V3, hV3, hV3r⟩ := rd_tail hmine k hPk
    obtain ⟨V4, hV4, hV4r⟩ := rd_tail hold k (by omega)
    have hC3 := rd_conv hV3r
    have hC4 := rd_conv hV4r
    rw [hP2.out] at hC3
    obtain ⟨S2, hS2⟩ : ∃ S, S = strOfNums (d0.drop k) := ⟨_, rfl⟩
    rw [← hS2] at hC3 hC4
    clear hS2 hV3r hV4r hold hmine hpl
    rw [hA] at hV1 hV3 hPk ⊢
    clear hA
    have L1 : (k : Int) < (d0.length : Int) := by omega
    have L2 : ¬ ((d0.length : Int) ≤ (k : Int)) := by omega
    have L3 : ¬ ((d0.length : Int) < (k : Int)) := by omega
    have L4 : (k : Int) ≤ (d0.length : Int) := by omega
    go_quiet (fail)
    go_wp2
    go_quiet (fail)
    go_wp2
    go_ret
    have hb := hbK.out
    exact ⟨rfl, ⟨hb.os, hb.tape, hb.output, hb.size, hb.block⟩⟩
  · have hA : P.length = k := by omega
    rw [hA] at hV1 hPk ⊢
    clear hA hold hmine hpl
    have L1 : ¬ ((k : Int) < (d0.length : Int)) := by omega
    have L2 : ((d0.length : Int) ≤ (k : Int)) := by omega
    by_cases heq : d0.length = k
    · have L5 : ((k : Int) == (d0.length : Int)) = true := by simp [heq]
      go_quiet (fail)
      go_wp2
      go_quiet (fail)
      go_wp2
      go_ret
      have hb := hbK.out
      exact ⟨rfl, ⟨hb.os, hb.tape, hb.output, hb.size, hb.block⟩⟩
    · have L3 : ((d0.length : Int) < (k : Int)) := by omega
      have L4 : ¬ ((k : Int) ≤ (d0.length : Int)) := by omega
      go_quiet (fail)
      go_wp2
      go_quiet (fail)
      go_wp2
      go_ret
      have hb := hbK.out
      exact ⟨rfl, ⟨hb.os, hb.tape, hb.output, hb.size, hb.block⟩⟩

set_option maxRecDepth 100000 in
theorem torn_long (w : World) (a0 a1 : Option Addr) (c0 c1 n0 n1 : Nat) (h : 5000 < n0 ∨ 5000 < n1) (m0 : n0 ≤ maxLen) (m1 : n1 ≤ maxLen) (x : Int) :
    Calls Try.prog 4 #[.slice a0 n0 c0, .slice a1 n1 c1, .int .u16 x] w fun e w' => e = .returned (.bool true) ∧ Below w.heap.size w w' := by
  have two : ∀ wA wB : World, w.grownBy wA none → wA.grownBy wB none → Below w.heap.size w wB := by
    intro wA wB h1 h2
    have g := h1.andThen h2 (by simp)
    exact ⟨g.os, g.tape, g.output, g.size, fun i hi => g.block i hi (by simp)⟩
  replace two := Kpt.mk two
  by_cases h0 : 5000 < n0
  · have H0 : (5000 : Int) < (n0 : Int) := by omega
    go_enter Try.func4, Try.ntmps4
    go_wp2_with (first
      | (go_at_call 8; refine (awake_any wA).mono ?_; rintro e wB ⟨rfl, hgB⟩)
      | (go_at_call 8; refine (awake_any _).mono ?_; rintro e wA ⟨rfl, hgA⟩))
    go_ret
    exact ⟨rfl, two.out _ _ hgA hgB⟩
  · have H0 : ¬ ((5000 : Int) < (n0 : Int)) := by omega
    have H1 : (5000 : Int) < (n1 : Int) := by omega
    go_enter Try.func4, Try.ntmps4
    go_wp2_with (first
      | (go_at_call 8; refine (awake_any wA).mono ?_; rintro e wB ⟨rfl, hgB⟩)
      | (go_at_call 8; refine (awake_any _).mono ?_; rintro e wA ⟨rfl, hgA⟩))
    go_ret
    exact ⟨rfl, two.out _ _ hgA hgB⟩
end Go.Proofs.Ytfcbacmfjhabgaa
