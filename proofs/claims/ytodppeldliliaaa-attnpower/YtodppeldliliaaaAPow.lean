/-
  AttnPower.
-/
import Derived.Test.YtodppeldliliaaaAQs
namespace Go.Proofs.Ytodppeldliliaaa.attnPower
open Go.Proofs.Ytodppeldliliaaa
open Go.RowKit
set_option linter.unusedVariables false
set_option linter.unusedSimpArgs false

theorem rnk_nonneg (c : Int) : 0 ≤ rnk c := by unfold rnk; split; decide; split; decide; split <;> decide
theorem best_zero (zs : List Int) (h : rnk (zs.getD 0 0) = 0) : ∀ f i, bestFrom zs f i 0 = 0
  | 0, _ => rfl
  | f + 1, i => by
    unfold bestFrom
    rw [if_neg (by rw [h]; have := rnk_nonneg (zs.getD i 0); omega)]
    exact best_zero zs h f (i + 1)
theorem pow_first (t : List Int) : bestC (10496 :: t) = 10496 := by
  unfold bestC
  rw [best_zero _ (by simp [rnk])]
  rfl
theorem pow_add (t : List Int) (c : Int) : ∃ t', addL (10496 :: t) c = 10496 :: t' := by
  unfold addL
  split
  · rename_i h; exact ⟨[], by rw [h]⟩
  · split
    · exact ⟨t, rfl⟩
    · exact ⟨t ++ [c], rfl⟩

/-- Behind the power on. -/
def P1 (L : Nat → List Int) : Prop := ∀ k, k < 8 → L k = [10496]
def P2 (n m : Nat) (L : Nat → List Int) : Prop := (∃ t, L n = 10496 :: t) ∧ L m = [10496]
theorem all_P1 (L : Nat → List Int) : P1 (allL L (-1) 10496 8) := fun k hk => by
  unfold allL addL
  rw [if_pos ⟨hk, by omega⟩, if_pos rfl]
theorem P2_add {n m : Nat} (h : m ≠ n) {L : Nat → List Int} (c : Int) (hp : P2 n m L) : P2 n m (upd L n (addL (L n) c)) := by
  obtain ⟨⟨t, ht⟩, hm⟩ := hp
  refine ⟨?_, by rw [upd_ne _ _ _ _ h]; exact hm⟩
  rw [upd_at, ht]
  exact pow_add t c

set_option maxHeartbeats 2000000 in
theorem pow_walk (a0 a1 : Option Addr) (l0 c0 l1 c1 : Nat) (z0 z1 : List Int) (a : Int) (w : World) (h0 : Came w a0 l0 z0) (h1 : Came w a1 l1 z1) (ha : 0 ≤ a ∧ a ≤ 255) :
    Calls Try.prog 5 #[.slice a0 l0 c0, .slice a1 l1 c1, .int .u8 a] w fun e w' => e = .returned (.bool true) ∧ Below w.heap.size w w' := by
  have HW := Kpt.mk (awake_any w)
  have hm0 := h0.1
  have hm1 := h1.1
  unfold maxLen at hm0 hm1
  replace h0 := Kpt.mk h0.2
  replace h1 := Kpt.mk h1.2
  obtain ⟨N, hN⟩ : ∃ N : Nat, (N : Int) = a % 8 := ⟨(a % 8).toNat, by omega⟩
  have hN8 : N < 8 := by omega
  obtain ⟨M, hM⟩ : ∃ M : Nat, M = (N + 3) % 8 := ⟨_, rfl⟩
  have hM8 : M < 8 := by omega
  have hMN : M ≠ N := by omega
  have eM : ((N : Int) + 3) % 8 = (M : Int) := by omega
  go_enter Try.func5, Try.ntmps5
  go_wp2_with (first
    | (go_at_call 7; refine HW.out.mono ?_; rintro e w0 ⟨rfl, hb0⟩; have HN := Kpt.mk (new_any w0); replace hb0 := Kpt.mk hb0)
    | (go_at_call 8; refine HN.out.mono ?_; rintro e w1 ⟨rfl, rfl⟩))
  have hq0 := qs_new w w0 hb0.out (fun _ => True) trivial
  obtain ⟨B, hB⟩ : ∃ B, B = w0.heap.size := ⟨_, rfl⟩
  rw [← hB] at hq0 ⊢
  have hsB : w.heap.size ≤ B := by rw [hB]; exact hb0.out.size
  obtain ⟨wq, hwq⟩ : ∃ wq, wq = newW w0 := ⟨_, rfl⟩
  rw [← hwq] at hq0
  rw [show (w0.alloc (.cells #[.slice none 0 0, .slice none 0 0, .slice none 0 0, .slice none 0 0, .slice none 0 0, .slice none 0 0, .slice none 0 0, .slice none 0 0] 46)) = wq from hwq.symm]
  rw [← hN]
  replace hq0 := Kpt.mk hq0
  replace hM := Kpt.mk hM
  replace hN := Kpt.mk hN
  clear hB hwq hb0 HW HN
  go_loopw [9] (fun t wr => ∃ (k : Nat), k ≤ l0 ∧ k ≤ 20 ∧ t = .int .i64 k ∧ Kpt (Qs w wr B (fun _ => True) none [])) (fun t _ => 20 - (intOf t).toNat)
  case atStart => exact ⟨0, Nat.zero_le _, Nat.zero_le _, rfl, hq0⟩
  case round =>
    obtain ⟨k, hk, hk20, rfl, hQ⟩ := hrel
    clear hq0
    by_cases hlt : k < l0 ∧ k < 20
    · obtain ⟨b, off, rfl, hc, hr⟩ := h0.out wr hQ.out.below k hlt.1
      have e1 : (k : Int) < l0 := by omega
      have e2 : (k : Int) < 20 := by omega
      obtain ⟨x, hx⟩ : ∃ x, x = z0.getD k 0 := ⟨_, rfl⟩
      rw [← hx] at hc hr
      have HA := Kpt.mk (qs_add (n := N) (fun _ => True) x hQ.out hsB hN8 hr (fun _ _ => trivial))
      clear hx hlt
      go_wp2_with (go_at_call 9; go_must (refine HA.out.mono ?_; rintro e w2 ⟨rfl, hq2⟩; replace hq2 := Kpt.mk hq2))
      go_roundw
      case rel => exact ⟨k + 1, by omega, by omega, by go_num, hq2⟩
      case measure => simp [intOf]; omega
    · have HL := Kpt.mk (qs_all P1 (-1) 10496 hQ.out hsB (by decide) (by decide) (fun L _ => all_P1 L))
      have e1 : ¬ ((k : Int) < l0 ∧ (k : Int) < 20) := by omega
      clear hQ hlt
      rcases (by omega : ¬ (k : Int) < l0 ∨ ((k : Int) < l0 ∧ ¬ (k : Int) < 20)) with e2 | ⟨e2, e3⟩
      all_goals
        go_wp2_with (first
          | (go_at_call 15; go_must (refine HT.out.mono ?_; rintro e w3 ⟨a3, c3, rfl, hq3⟩; replace hq3 := Kpt.mk (hq3.bare.weak (P' := P2 N M) (fun L h => ⟨⟨[], h N hN8⟩, h M hM8⟩)); clear HT))
          | (go_at_call 11; go_must (refine HL.out.mono ?_; rintro e w2 ⟨rfl, hq2⟩; have HT := Kpt.mk (qs_told (n := N) [10496] hq2 hN8 (fun L h => h N hN8)); clear hq2 HL)))
        clear e1 e2
        go_loopw [10] (fun t wr => ∃ (k : Nat), k ≤ l1 ∧ k ≤ 20 ∧ t = .int .i64 k ∧ Kpt (Qs w wr B (P2 N M) none [])) (fun t _ => 20 - (intOf t).toNat)
        case atStart => exact ⟨0, Nat.zero_le _, Nat.zero_le _, rfl, hq3⟩
        case round =>
          obtain ⟨k, hk, hk20, rfl, hQ⟩ := hrel
          clear hq3
          by_cases hlt : k < l1 ∧ k < 20
          · obtain ⟨b, off, rfl, hc, hr⟩ := h1.out wr hQ.out.below k hlt.1
            have e1 : (k : Int) < l1 := by omega
            have e2 : (k : Int) < 20 := by omega
            obtain ⟨x, hx⟩ : ∃ x, x = z1.getD k 0 := ⟨_, rfl⟩
            rw [← hx] at hc hr
            have HA := Kpt.mk (qs_add (n := N) (P2 N M) x hQ.out hsB hN8 hr (fun L h => P2_add hMN x h))
            clear hx hlt
            have et : IntKind.u16.wrap (x.tdiv 256) = x / 256 := by rw [Int.tdiv_eq_ediv_of_nonneg hr.1, IntKind.wrap_u16]; omega
            by_cases h29 : x / 256 = 41
            · go_wp2
              go_roundw
              case rel => exact ⟨k + 1, by omega, by omega, by go_num, hQ⟩
              case measure => simp [intOf]; omega
            · go_wp2_with (go_at_call 9; go_must (refine HA.out.mono ?_; rintro e w2 ⟨rfl, hq2⟩; replace hq2 := Kpt.mk hq2))
              go_roundw
              case rel => exact ⟨k + 1, by omega, by omega, by go_num, hq2⟩
              case measure => simp [intOf]; omega
          · have HX := Kpt.mk (qs_next (n := N) (fun L => L M = [10496]) 10496 hQ.out hsB hN8 (fun L h => by obtain ⟨⟨t, ht⟩, hm⟩ := h; rw [ht]; exact ⟨by simp, pow_first t, by rw [upd_ne _ _ _ _ hMN]; exact hm⟩))
            have hor : ¬ (k : Int) < l1 ∨ ((k : Int) < l1 ∧ ¬ (k : Int) < 20) := by omega
            clear hQ hlt
            rcases hor with e2 | ⟨e2, e3⟩
            all_goals
              go_wp2_with (first
                | (go_at_call 14; (refine HY.out.mono ?_; rintro e w5 ⟨rfl, hq5⟩; have hb5 := Kpt.mk hq5.below; clear hq5))
                | (go_at_call 14; (refine HX.out.mono ?_; rintro e w4 ⟨rfl, hq4⟩; have HY := Kpt.mk (qs_next (n := M) (fun _ => True) 10496 hq4 hsB hM8 (fun L h => by rw [h]; exact ⟨by simp, pow_first [], trivial⟩)); clear hq4)))
              go_ret
              exact ⟨rfl, hb5.out⟩
end Go.Proofs.Ytodppeldliliaaa.attnPower
