/-
  Contracts of the program's sums.
-/
import Derived.Test.YtcnjnebhidfogaaGRow
namespace Go.Proofs.Ytcnjnebhidfogaa
open Go.RowKit
set_option linter.unusedVariables false

set_option maxHeartbeats 400000 in
theorem add16_any (s : Nat) (a : Option Addr) (len cap : Nat) (Z : List Int) (w : World) (hs : s < 65536) (hz : Z.length = len) (hl : len ≤ maxLen) (hb : Bytes Z) (hp : RowAt w a len Z) :
    Calls Try.prog 30 #[.int .u16 (s : Int), .slice a len cap] w fun e w' => e = .returned (.int .u16 (reg16 s Z : Int)) ∧ w' = w := by
  unfold maxLen at hl
  go_enter Try.func30, Try.ntmps30
  go_wp2
  go_loop [5, 10] (fun x t => ∃ k : Nat, k ≤ len ∧ x = .int .u16 (reg16 s (Z.take k) : Int) ∧ t = .int .i64 k) (fun _ t => len - (intOf t).toNat)
  case atStart => exact ⟨0, by omega, rfl, rfl⟩
  case round =>
    obtain ⟨k, hk, rfl, rfl⟩ := hrel
    have hR := reg16_lt (Z.take k) (hb.take k).mem s hs
    obtain ⟨R, hRe⟩ : ∃ R, R = reg16 s (Z.take k) := ⟨_, rfl⟩
    have HR : Hid (R = reg16 s (Z.take k)) := hRe
    rw [← hRe]
    rw [← hRe] at hR
    clear hRe
    by_cases hlt : k < len
    · rcases hp with hp | ⟨b, off, rfl, hc⟩
      · omega
      have hcell := hc k hlt
      have hx := hb k
      obtain ⟨X, hX⟩ : ∃ X : Nat, Z.getD k 0 = (X : Int) := ⟨(Z.getD k 0).toNat, by omega⟩
      have HS : Hid (reg16 s (Z.take (k + 1)) = it16 8 (R ^^^ X * 256)) := by
        unfold Hid; rw [reg16_step _ Z k (by omega), ← HR.out, hX]; rfl
      rw [hX] at hcell hx
      have hX2 : X < 256 := by omega
      have hxx := xorbyte16 R X hR hX2
      have hlx := xor_lt16 R (X * 256) hR (by omega)
      obtain ⟨Y, hY⟩ : ∃ Y, Y = it16 8 (R ^^^ X * 256) := ⟨_, rfl⟩
      have hst : ∀ W, Calls Try.prog 33 #[.int .u16 ((R ^^^ X * 256 : Nat) : Int)] W fun e w' => e = .returned (.int .u16 (Y : Int)) ∧ w' = W := fun W => by rw [hY]; exact step16_any _ W hlx
      rw [← hY] at HS
      clear hX hc hb hz hY
      go_wp2_with (go_at_call 33; refine (hst _).mono ?_; rintro e w' ⟨rfl, rfl⟩)
      go_round
      case rel => exact ⟨k + 1, by omega, by rw [HS.out], by go_num⟩
      case measure => simp [intOf]; omega
    · obtain rfl : k = len := by omega
      go_wp2
      go_ret
      exact ⟨ret_int (by rw [HR.out, List.take_of_length_le (by omega)]), rfl⟩

theorem c16_any (a : Option Addr) (len cap : Nat) (Z : List Int) (w : World) (hz : Z.length = len) (hl : len ≤ maxLen) (hb : Bytes Z) (hp : RowAt w a len Z) :
    Calls Try.prog 21 #[.slice a len cap] w fun e w' => e = .returned (.int .u16 (reg16 0 Z : Int)) ∧ w' = w := by
  have h := add16_any 0 a len cap Z w (by omega) hz hl hb hp
  go_enter Try.func21, Try.ntmps21
  go_wp2_with (go_at_call 30; refine h.mono ?_; rintro e w' ⟨rfl, rfl⟩)
  go_ret
  exact ⟨rfl, rfl⟩

end Go.Proofs.Ytcnjnebhidfogaa
