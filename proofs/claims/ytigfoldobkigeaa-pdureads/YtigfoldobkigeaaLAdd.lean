/-
  Contracts of the program's sums.
-/
import Derived.Test.YtigfoldobkigeaaLRow
namespace Go.Proofs.Ytigfoldobkigeaa
open Go.RowKit
set_option linter.unusedVariables false

set_option maxHeartbeats 400000 in
theorem add32_any (s : Nat) (a : Option Addr) (len cap : Nat) (Z : List Int) (w : World) (hs : s < 4294967296) (hz : Z.length = len) (hl : len ≤ maxLen) (hb : Bytes Z) (hp : RowAt w a len Z) :
    Calls Try.prog 39 #[.int .u32 (s : Int), .slice a len cap] w fun e w' => e = .returned (.int .u32 ((4294967295 - reg32 (4294967295 - s) Z : Nat) : Int)) ∧ w' = w := by
  unfold maxLen at hl
  go_enter Try.func39, Try.ntmps39
  go_wp2
  go_loop [5, 11] (fun x t => ∃ k : Nat, k ≤ len ∧ x = .int .u32 (reg32 (4294967295 - s) (Z.take k) : Int) ∧ t = .int .i64 k) (fun _ t => len - (intOf t).toNat)
  case atStart => exact ⟨0, by omega, by rw [not32 s hs]; rfl, rfl⟩
  case round =>
    obtain ⟨k, hk, rfl, rfl⟩ := hrel
    have hR := reg32_lt (Z.take k) (hb.take k).mem (4294967295 - s) (by omega)
    obtain ⟨R, hRe⟩ : ∃ R, R = reg32 (4294967295 - s) (Z.take k) := ⟨_, rfl⟩
    have HR : Hid (R = reg32 (4294967295 - s) (Z.take k)) := hRe
    rw [← hRe]
    rw [← hRe] at hR
    clear hRe
    by_cases hlt : k < len
    · rcases hp with hp | ⟨b, off, rfl, hc⟩
      · omega
      have hcell := hc k hlt
      have hx := hb k
      obtain ⟨X, hX⟩ : ∃ X : Nat, Z.getD k 0 = (X : Int) := ⟨(Z.getD k 0).toNat, by omega⟩
      have HS : Hid (reg32 (4294967295 - s) (Z.take (k + 1)) = it32 8 (R ^^^ X)) := by
        unfold Hid; rw [reg32_step _ Z k (by omega), ← HR.out, hX]; rfl
      rw [hX] at hcell hx
      have hX2 : X < 256 := by omega
      have hxx := xorbyte32 R X hR hX2
      have hlx := xor_lt32 R X hR (by omega)
      obtain ⟨Y, hY⟩ : ∃ Y, Y = it32 8 (R ^^^ X) := ⟨_, rfl⟩
      have hst : ∀ W, Calls Try.prog 46 #[.int .u32 ((R ^^^ X : Nat) : Int)] W fun e w' => e = .returned (.int .u32 (Y : Int)) ∧ w' = W := fun W => by rw [hY]; exact step32_any _ W hlx
      rw [← hY] at HS
      clear hX hc hb hz hY
      go_wp2_with (go_at_call 46; refine (hst _).mono ?_; rintro e w' ⟨rfl, rfl⟩)
      go_round
      case rel => exact ⟨k + 1, by omega, by rw [HS.out], by go_num⟩
      case measure => simp [intOf]; omega
    · obtain rfl : k = len := by omega
      go_wp2
      go_ret
      exact ⟨ret_int (by rw [not32 R hR, HR.out, List.take_of_length_le (by omega)]), rfl⟩

theorem c32_any (a : Option Addr) (len cap : Nat) (Z : List Int) (w : World) (hz : Z.length = len) (hl : len ≤ maxLen) (hb : Bytes Z) (hp : RowAt w a len Z) :
    Calls Try.prog 32 #[.slice a len cap] w fun e w' => e = .returned (.int .u32 ((4294967295 - reg32 4294967295 Z : Nat) : Int)) ∧ w' = w := by
  have h := add32_any 0 a len cap Z w (by omega) hz hl hb hp
  go_enter Try.func32, Try.ntmps32
  go_wp2_with (go_at_call 39; refine h.mono ?_; rintro e w' ⟨rfl, rfl⟩)
  go_ret
  exact ⟨rfl, rfl⟩

end Go.Proofs.Ytigfoldobkigeaa
