/-
  Contracts of the document's sums.
-/
import Derived.Test.YtigfoldobkigeaaLRow
namespace Go.Proofs.Ytigfoldobkigeaa
open Go.RowKit
set_option linter.unusedVariables false

set_option maxHeartbeats 1000000 in
theorem radd32_any (s : Nat) (a : Option Addr) (len cap : Nat) (Z : List Int) (w : World) (hs : s < 4294967296) (hz : Z.length = len) (hl : len ≤ maxLen) (hb : Bytes Z) (hp : RowAt w a len Z) :
    Calls Try.prog 40 #[.int .u32 (s : Int), .slice a len cap] w fun e w' => e = .returned (.int .u32 ((4294967295 - reg32 (4294967295 - s) Z : Nat) : Int)) ∧ w' = w := by
  unfold maxLen at hl
  go_enter Try.func40, Try.ntmps40
  go_wp2
  go_loop [5, 6] (fun x t => ∃ k : Nat, k ≤ len ∧ x = .int .u32 (reg32 (4294967295 - s) (Z.take k) : Int) ∧ t = .int .i64 k) (fun _ t => len - (intOf t).toNat)
  case atStart => exact ⟨0, by omega, by rw [not32' s hs]; rfl, rfl⟩
  case round =>
    obtain ⟨k, hk, rfl, rfl⟩ := hrel
    have hR := reg32_lt (Z.take k) (hb.take k).mem (4294967295 - s) (by omega)
    obtain ⟨R, hRe⟩ : ∃ R, R = reg32 (4294967295 - s) (Z.take k) := ⟨_, rfl⟩
    have HR : Hid (R = reg32 (4294967295 - s) (Z.take k)) := hRe
    rw [← hRe]
    rw [← hRe] at hR
    clear hRe
    by_cases hlt : k < len
    · rcases hp with hp | ⟨b, off, rfl, hc⟩
      · omega
      have hcell := hc k hlt
      have hx := hb k
      obtain ⟨X, hX⟩ : ∃ X : Nat, Z.getD k 0 = (X : Int) := ⟨(Z.getD k 0).toNat, by omega⟩
      have HS : Hid (reg32 (4294967295 - s) (Z.take (k + 1)) = d32 R X 8) := by
        unfold Hid; rw [reg32_step _ Z k (by omega), ← HR.out, hX, d32_s _ _ (by omega)]; rfl
      rw [hX] at hcell hx
      have hX2 : X < 256 := by omega
      clear hX hc hb hz
      go_wp2
      go_loop [5, 7] (fun x t => ∃ j : Nat, j ≤ 8 ∧ x = .int .u32 (d32 R X j : Int) ∧ t = .int .i64 j) (fun _ t => 8 - (intOf t).toNat)
      case atStart => exact ⟨0, by omega, rfl, rfl⟩
      case round =>
        obtain ⟨j, hj, rfl, rfl⟩ := hrel
        have hD := d32_lt R X hR j
        obtain ⟨D, hDe⟩ : ∃ D, D = d32 R X j := ⟨_, rfl⟩
        have HD : Hid (D = d32 R X j) := hDe
        rw [← hDe]
        rw [← hDe] at hD
        clear hDe
        by_cases hjl : j < 8
        · go_wp2
          · have ht : (bits BinOp.and IntKind.u32 (bits BinOp.xor IntKind.u32 (D : Int) (bits BinOp.and IntKind.u32 ((X : Int) / 2 ^ j % 4294967296) 1)) 1 == 1) = true := by assumption
            have HT : Hid (bits BinOp.xor IntKind.u32 ((D : Int) / 2) 2197175160 = ((d32 R X (j + 1) : Nat) : Int)) := r32_yes R X j D hD hX2 HD.out ht
            go_round
            case rel => exact ⟨j + 1, by omega, by rw [HT.out], by go_num⟩
            case measure => simp [intOf]; omega
          · have ht : (bits BinOp.and IntKind.u32 (bits BinOp.xor IntKind.u32 (D : Int) (bits BinOp.and IntKind.u32 ((X : Int) / 2 ^ j % 4294967296) 1)) 1 == 1) = false := by assumption
            have HT : Hid ((D : Int) / 2 = ((d32 R X (j + 1) : Nat) : Int)) := r32_no R X j D hD hX2 HD.out ht
            go_round
            case rel => exact ⟨j + 1, by omega, by rw [HT.out], by go_num⟩
            case measure => simp [intOf]; omega
        · obtain rfl : j = 8 := by omega
          go_wp2
          go_round
          case rel => exact ⟨k + 1, by omega, by rw [HS.out, HD.out], by go_num⟩
          case measure => simp [intOf]; omega
    · obtain rfl : k = len := by omega
      go_wp2
      go_ret
      exact ⟨ret_int (by rw [not32' R hR, HR.out, List.take_of_length_le (by omega)]), rfl⟩

theorem rc32_any (a : Option Addr) (len cap : Nat) (Z : List Int) (w : World) (hz : Z.length = len) (hl : len ≤ maxLen) (hb : Bytes Z) (hp : RowAt w a len Z) :
    Calls Try.prog 33 #[.slice a len cap] w fun e w' => e = .returned (.int .u32 ((4294967295 - reg32 4294967295 Z : Nat) : Int)) ∧ w' = w := by
  have h := radd32_any 0 a len cap Z w (by omega) hz hl hb hp
  go_enter Try.func33, Try.ntmps33
  go_wp2_with (go_at_call 40; refine h.mono ?_; rintro e w' ⟨rfl, rfl⟩)
  go_ret
  exact ⟨rfl, rfl⟩

end Go.Proofs.Ytigfoldobkigeaa
