/-
  Contracts of the document's sums.
-/
import Derived.Test.YtcnjnebhidfogaaGRow
namespace Go.Proofs.Ytcnjnebhidfogaa
open Go.RowKit
set_option linter.unusedVariables false

set_option maxHeartbeats 1000000 in
theorem radd16_any (s : Nat) (a : Option Addr) (len cap : Nat) (Z : List Int) (w : World) (hs : s < 65536) (hz : Z.length = len) (hl : len ≤ maxLen) (hb : Bytes Z) (hp : RowAt w a len Z) :
    Calls Try.prog 31 #[.int .u16 (s : Int), .slice a len cap] w fun e w' => e = .returned (.int .u16 (reg16 s Z : Int)) ∧ w' = w := by
  unfold maxLen at hl
  go_enter Try.func31, Try.ntmps31
  go_wp2
  go_loop [5, 6] (fun x t => ∃ k : Nat, k ≤ len ∧ x = .int .u16 (reg16 s (Z.take k) : Int) ∧ t = .int .i64 k) (fun _ t => len - (intOf t).toNat)
  case atStart => exact ⟨0, by omega, rfl, rfl⟩
  case round =>
    obtain ⟨k, hk, rfl, rfl⟩ := hrel
    have hR := reg16_lt (Z.take k) (hb.take k).mem s hs
    obtain ⟨R, hRe⟩ : ∃ R, R = reg16 s (Z.take k) := ⟨_, rfl⟩
    have HR : Hid (R = reg16 s (Z.take k)) := hRe
    rw [← hRe]
    rw [← hRe] at hR
    clear hRe
    by_cases hlt : k < len
    · rcases hp with hp | ⟨b, off, rfl, hc⟩
      · omega
      have hcell := hc k hlt
      have hx := hb k
      obtain ⟨X, hX⟩ : ∃ X : Nat, Z.getD k 0 = (X : Int) := ⟨(Z.getD k 0).toNat, by omega⟩
      have HS : Hid (reg16 s (Z.take (k + 1)) = d16 R X 8) := by
        unfold Hid; rw [reg16_step _ Z k (by omega), ← HR.out, hX, d16_s _ _ (by omega)]; rfl
      rw [hX] at hcell hx
      have hX2 : X < 256 := by omega
      clear hX hc hb hz
      go_wp2
      go_loop [5, 7] (fun x t => ∃ j : Nat, j ≤ 8 ∧ x = .int .u16 (d16 R X j : Int) ∧ t = .int .i64 (7 - (j : Int))) (fun _ t => ((intOf t) + 1).toNat)
      case atStart => exact ⟨0, by omega, rfl, rfl⟩
      case round =>
        obtain ⟨j, hj, rfl, rfl⟩ := hrel
        have hD := d16_lt R X hR j
        obtain ⟨D, hDe⟩ : ∃ D, D = d16 R X j := ⟨_, rfl⟩
        have HD : Hid (D = d16 R X j) := hDe
        rw [← hDe]
        rw [← hDe] at hD
        clear hDe
        by_cases hjl : j < 8
        · have ej : (7 : Int) - j - 1 = 7 - ((j + 1 : Nat) : Int) := by omega
          have EJ : Hid ((7 : Int) - j - 1 = 7 - ((j + 1 : Nat) : Int)) := ej
          clear ej
          go_wp2
          · have ht : (bits BinOp.xor IntKind.u16 ((D : Int) / 32768) (bits BinOp.and IntKind.u16 (IntKind.u16.wrap ((X : Int) / 2 ^ (7 - j))) 1) == 1) = true := by assumption
            have HT : Hid (bits BinOp.xor IntKind.u16 (IntKind.u16.wrap ((D : Int) * 2)) 35767 = ((d16 R X (j + 1) : Nat) : Int)) := r16_yes R X j D hD hX2 HD.out ht
            go_round
            case rel => exact ⟨j + 1, by omega, by rw [HT.out], by rw [EJ.out]⟩
            case measure => simp [intOf]; omega
          · have ht : (bits BinOp.xor IntKind.u16 ((D : Int) / 32768) (bits BinOp.and IntKind.u16 (IntKind.u16.wrap ((X : Int) / 2 ^ (7 - j))) 1) == 1) = false := by assumption
            have HT : Hid (IntKind.u16.wrap ((D : Int) * 2) = ((d16 R X (j + 1) : Nat) : Int)) := r16_no R X j D hD hX2 HD.out ht
            go_round
            case rel => exact ⟨j + 1, by omega, by rw [HT.out], by rw [EJ.out]⟩
            case measure => simp [intOf]; omega
        · obtain rfl : j = 8 := by omega
          go_wp2
          go_round
          case rel => exact ⟨k + 1, by omega, by rw [HS.out, HD.out], by go_num⟩
          case measure => simp [intOf]; omega
    · obtain rfl : k = len := by omega
      go_wp2
      go_ret
      exact ⟨ret_int (by rw [HR.out, List.take_of_length_le (by omega)]), rfl⟩

theorem rc16_any (a : Option Addr) (len cap : Nat) (Z : List Int) (w : World) (hz : Z.length = len) (hl : len ≤ maxLen) (hb : Bytes Z) (hp : RowAt w a len Z) :
    Calls Try.prog 23 #[.slice a len cap] w fun e w' => e = .returned (.int .u16 (reg16 0 Z : Int)) ∧ w' = w := by
  have h := radd16_any 0 a len cap Z w (by omega) hz hl hb hp
  go_enter Try.func23, Try.ntmps23
  go_wp2_with (go_at_call 31; refine h.mono ?_; rintro e w' ⟨rfl, rfl⟩)
  go_ret
  exact ⟨rfl, rfl⟩

end Go.Proofs.Ytcnjnebhidfogaa
