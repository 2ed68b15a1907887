/-
  The contract of play.
-/
import Derived.Test.YtmnoolcffkjmhaaPAct
import Derived.Test.YtmnoolcffkjmhaaPRes
namespace Go.Proofs.Ytmnoolcffkjmhaa
open Go.RowKit
set_option linter.unusedVariables false
set_option linter.unusedSimpArgs false

theorem range7 {w : World} {b o : Nat} {N : Int} {u : Ou} {A : Bool} (h : w.rangeAt b o (actV N u A)) : w.cell? ⟨b, o, none⟩ = some (.int .i64 N) ∧ w.cell? ⟨b, o + 1, none⟩ = some (.int .u8 u.sv) ∧ w.cell? ⟨b, o + 2, none⟩ = some (.int .u8 u.ty) ∧ w.cell? ⟨b, o + 3, none⟩ = some (.int .u64 u.ky) ∧ w.cell? ⟨b, o + 4, none⟩ = some (.int .u64 u.ac) ∧ w.cell? ⟨b, o + 5, none⟩ = some (.bool u.ap) ∧ w.cell? ⟨b, o + 6, none⟩ = some (.bool A) :=
  ⟨h 0 _ rfl, h 1 _ rfl, h 2 _ rfl, h 3 _ rfl, h 4 _ rfl, h 5 _ rfl, h 6 _ rfl⟩

theorem Ss.drew {w0 w : World} {B : Nat} {t : Tb} (h : Ss w0 w B t) : Ss w0 w.drew B t := ⟨h.tab.drew, h.new, below_drewN h.bel 1, h.good⟩
set_option maxRecDepth 100000 in
set_option maxHeartbeats 4000000 in
theorem play_any (a : Option Addr) (m c : Nat) (w0 w : World) (hA : Acts w0 a m) (hb : Below w0.heap.size w0 w) :
    Calls Try.prog 18 #[.slice a m c] w fun e w' => ∃ B t, e = .returned (.pointer (some ⟨B, 0, none⟩)) ∧ Ss w0 w' B t := by
  have hml : m ≤ maxLen := hA.1
  replace hA := Kpt.mk hA.2
  replace hb := Kpt.mk hb
  have HN := Kpt.mk (new_from hb.out)
  have hmi : (m : Int) ≤ 9223372036854775807 := by unfold maxLen at hml; omega
  go_enter Try.func18, Try.ntmps18
  go_wp2_with (go_at_call 10; go_must (refine HN.out.mono ?_; rintro e w1 ⟨B, rfl, hS1, _, _⟩; replace hS1 := Kpt.mk hS1))
  go_loopw [4] (fun r wr => ∃ (k : Nat) (t : Tb), k ≤ 60 ∧ k ≤ m ∧ r = .int .i64 k ∧ Kpt (Ss w0 wr B t)) (fun r _ => 60 - (intOf r).toNat)
  case atStart => exact ⟨0, _, by omega, by omega, rfl, hS1⟩
  case round =>
    obtain ⟨k, t, hk60, hkm, rfl, hS⟩ := hrel
    by_cases hc : k < m ∧ k < 60
    · obtain ⟨hc1, hc2⟩ := hc
      have e1 : (k : Int) < m := by omega
      have e2 : (k : Int) < 60 := by omega
      obtain ⟨b, off, rfl, hbl, N, o, A, hr, ho, hN⟩ := hA.out wr hS.out.bel k hc1
      obtain ⟨r0, r1, r2, r3, r4, r5, r6⟩ := range7 hr
      have hblr : b < wr.heap.size := Nat.lt_of_lt_of_le hbl hS.out.bel.size
      have hsv := ho.sv
      have hky := ho.ky
      have hac := ho.ac
      obtain ⟨sv, ty, ky, ac, ap⟩ := o
      simp only at r1 r2 r3 r4 r5 hsv hky hac
      clear hr ho
      go_wp2_with fail
      have hS8 : Kpt (Ss w0 (wr.alloc (.cells #[.int .u8 (sv % 7), .int .u8 ty, .int .u64 (ky % 4), .int .u64 (ac % 4), .bool ap] 33)) B t) := ⟨hS.out.below ((Below.refl _ _).alloc (Nat.le_refl _) _)⟩
      go_region_with ((go_at_call 15; go_must (refine (ss_do hS8.out.drew _ ⟨sv % 7, ty, ky % 4, ac % 4, ap⟩ (by simp only; omega)).mono ?_; rintro e w3 ⟨v, rfl, _, hS3, _⟩; replace hS3 := Kpt.mk hS3)))
      all_goals
        go_wp2
        go_roundw
        case rel => exact ⟨k + 1, _, by omega, by omega, by go_num, hS3⟩
        case measure => simp [intOf]; omega
    · by_cases hc1 : k < m
      · have e1 : (k : Int) < m := by omega
        have e2 : ¬ (k : Int) < 60 := by omega
        go_wp2
        go_ret
        exact ⟨B, rfl, t, hS.out⟩
      · have e1 : ¬ (k : Int) < m := by omega
        go_wp2
        go_ret
        exact ⟨B, rfl, t, hS.out⟩
end Go.Proofs.Ytmnoolcffkjmhaa
