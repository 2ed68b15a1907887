/-
  The walk of PrLoads.
-/
import Derived.Test.YtmnoolcffkjmhaaPLds
namespace Go.Proofs.Ytmnoolcffkjmhaa
open Go.RowKit
set_option linter.unusedVariables false
set_option linter.unusedSimpArgs false

theorem ints_at {w : World} {x : Addr} {zs : List Int} (h : ∀ i, i < zs.length → w.cell? (x.add i) = some (.int .u8 (zs.getD i 0))) (h0 : 0 < zs.length) :
    ∃ b off, x = ⟨b, off, none⟩ ∧ ∀ i, i < zs.length → w.cell? ⟨b, off + i, none⟩ = some (.int .u8 (zs.getD i 0)) := by
  cases x with | mk b o s =>
  have hs : s = none := by
    cases s with
    | none => rfl
    | some t =>
      exfalso
      have h1 := h 0 h0
      unfold Addr.add World.cell? at h1
      simp only [if_true] at h1
      split at h1
      · simp at h1
      · cases h1
  subst hs
  refine ⟨b, o, rfl, fun i hi => ?_⟩
  rw [← Go.WideShapes.add_plain]
  exact h i hi

set_option maxRecDepth 100000 in
set_option maxHeartbeats 1000000 in
theorem loads_yes (a : Option Addr) (n c : Nat) (t : Tb) (hg : t.good) (w : World)
    (HL : ∀ W, Below w.heap.size w W → Calls Try.prog 11 #[.slice a n c] W fun e w' => ∃ B, e = .returned (.tuple #[.pointer (some ⟨B, 0, none⟩), .int .i64 0]) ∧ W.heap.size ≤ B ∧ Tab w' B t ∧ Below W.heap.size W w')
    (HR : ∀ W, Below w.heap.size w W → Calls Try.prog 13 #[.slice a n c] W fun e w' => ∃ C y, e = .returned (.tuple #[.pointer (some ⟨C, 0, none⟩), .int .i64 0]) ∧ W.heap.size ≤ C ∧ RTab w' C t y ∧ Below W.heap.size W w') :
    Calls Try.prog 4 #[.slice a n c] w fun e w' => e = .returned (.bool true) ∧ Below w.heap.size w w' := by
  have HA := Kpt.mk (awake_any w)
  replace HL := Kpt.mk HL
  replace HR := Kpt.mk HR
  go_enter Try.func4, Try.ntmps4
  go_wp2_with (first
    | (go_at_call 17; go_must (refine (looks_any B C t y _ hB3.out hC3.out hg).mono ?_; rintro e w4 ⟨rfl, hB4⟩; have hb4 := Kpt.mk (hb3.out.trans (hB4.mono hb3.out.size)); clear hB4))
    | (go_at_call 13; go_must (refine (HR.out _ hb2.out).mono ?_; rintro e w3 ⟨C, y, rfl, hCl, hC3, hB3b⟩; have hB3 := Kpt.mk (hB2.out.below' hB3b); replace hC3 := Kpt.mk hC3; have hb3 := Kpt.mk (hb2.out.trans (hB3b.mono hb2.out.size)); clear hB3b HR))
    | (go_at_call 11; go_must (refine (HL.out _ hb1.out).mono ?_; rintro e w2 ⟨B, rfl, hBl, hB2, hB2b⟩; replace hB2 := Kpt.mk hB2; have hb2 := Kpt.mk (hb1.out.trans (hB2b.mono hb1.out.size)); clear hB2b HL))
    | (go_at_call 9; go_must (refine HA.out.mono ?_; rintro e w1 ⟨rfl, hb1⟩; replace hb1 := Kpt.mk hb1; clear HA)))
  go_ret
  exact ⟨rfl, hb4.out⟩

set_option maxRecDepth 100000 in
set_option maxHeartbeats 1000000 in
theorem loads_no (a : Option Addr) (n c : Nat) (w : World)
    (HL : ∀ W, Below w.heap.size w W → Calls Try.prog 11 #[.slice a n c] W fun e w' => e = .returned (.tuple #[.pointer none, .int .i64 3]) ∧ Below W.heap.size W w')
    (HR : ∀ W, Below w.heap.size w W → Calls Try.prog 13 #[.slice a n c] W fun e w' => e = .returned (.tuple #[.pointer none, .int .i64 3]) ∧ Below W.heap.size W w') :
    Calls Try.prog 4 #[.slice a n c] w fun e w' => e = .returned (.bool true) ∧ Below w.heap.size w w' := by
  have HA := Kpt.mk (awake_any w)
  replace HL := Kpt.mk HL
  replace HR := Kpt.mk HR
  go_enter Try.func4, Try.ntmps4
  go_wp2_with (first
    | (go_at_call 13; go_must (refine (HR.out _ hb2.out).mono ?_; rintro e w3 ⟨rfl, hB3b⟩; have hb3 := Kpt.mk (hb2.out.trans (hB3b.mono hb2.out.size)); clear hB3b HR))
    | (go_at_call 11; go_must (refine (HL.out _ hb1.out).mono ?_; rintro e w2 ⟨rfl, hB2b⟩; have hb2 := Kpt.mk (hb1.out.trans (hB2b.mono hb1.out.size)); clear hB2b HL))
    | (go_at_call 9; go_must (refine HA.out.mono ?_; rintro e w1 ⟨rfl, hb1⟩; replace hb1 := Kpt.mk hb1; clear HA)))
  go_ret
  exact ⟨rfl, hb3.out⟩

theorem loads_nil (a : Option Addr) (c : Nat) (w : World) : Calls Try.prog 4 #[.slice a 0 c] w fun e w' => e = .returned (.bool true) ∧ Below w.heap.size w w' :=
  loads_yes a 0 c zeroT zero_good w
    (fun W _ => (load_nil a c [] W).mono fun e w' ⟨h1, B, h2, h3, h4⟩ => ⟨B, h2, h3, h4, h1⟩)
    (fun W _ => rload_nil a c W)
theorem loads_some (b off n c : Nat) (Z : List Int) (w : World) (hcl : ∀ j, j < n → w.cell? ⟨b, off + j, none⟩ = some (.int .u8 (Z.getD j 0))) (hl : Z.length = n) (hby : Go.Proofs.Ytmnoolcffkjmhaa.B.Bytes Z) (hbl : b < w.heap.size) (hc : n ≤ c ∧ c ≤ maxLen) (h0 : n ≠ 0) :
    Calls Try.prog 4 #[.slice (some ⟨b, off, none⟩) n c] w fun e w' => e = .returned (.bool true) ∧ Below w.heap.size w w' := by
  have hclW : ∀ W, Below w.heap.size w W → ∀ j, j < n → W.cell? ⟨b, off + j, none⟩ = some (.int .u8 (Z.getD j 0)) := fun W hW j hj =>
    (World.cell?_of_block (w := w) (w' := W) (a := ⟨b, off + j, none⟩) (hW.block b hbl)).trans (hcl j hj)
  have hP : ∀ W, Below w.heap.size w W → Calls Try.prog 11 #[.slice (some ⟨b, off, none⟩) n c] W fun e w' => Below W.heap.size W w' ∧ Loaded W w' e (loadM n Z) := fun W hW =>
    load_any b off n c Z W ⟨.inr ⟨b, off, rfl, hclW W hW⟩, hby, hc⟩ (Nat.lt_of_lt_of_le hbl hW.size)
  cases hL : loadM n Z with
  | none =>
    rw [hL] at hP
    exact loads_no _ n c w (fun W hW => (hP W hW).mono fun e w' ⟨h1, h2⟩ => ⟨h2, h1⟩)
      (fun W hW => rl_none b off n c Z W (hclW W hW) hl hby (Nat.lt_of_lt_of_le hbl hW.size) hc h0 hL)
  | some t =>
    rw [hL] at hP
    have hg := (rl_some b off n c Z w hcl hl hby hbl hc h0 t hL).1
    exact loads_yes _ n c t hg w (fun W hW => (hP W hW).mono fun e w' ⟨h1, B, h2, h3, h4⟩ => ⟨B, h2, h3, h4, h1⟩)
      (fun W hW => (rl_some b off n c Z W (hclW W hW) hl hby (Nat.lt_of_lt_of_le hbl hW.size) hc h0 t hL).2)
end Go.Proofs.Ytmnoolcffkjmhaa
