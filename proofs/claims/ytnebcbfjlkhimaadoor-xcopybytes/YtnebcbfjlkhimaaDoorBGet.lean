/-
  Contracts of Get, of the program and of the document's answer.
-/
import Derived.Test.YtnebcbfjlkhimaaDoorBBase
import Derived.Test.YtnebcbfjlkhimaaDoorBNum
import Derived.Outline
namespace Go.Proofs.YtnebcbfjlkhimaaDoor.B
open Go.RowKit

theorem get_arg (a : Option Addr) (len cap : Nat) (i n : Int) (w : World) (h : widB n = false) :
    Calls Tryd.prog 36 #[.slice a len cap, .int .i64 i, .int .i64 n] w fun e w' => e = .returned (.tuple #[.int .u64 0, .int .i64 1]) ∧ w' = w := by
  go_enter Tryd.func36, Tryd.ntmps36
  go_wp2_with (go_at_call 43; refine (width_any _ _).mono ?_; rintro e w' ⟨rfl, rfl⟩)
  go_ret2
  exact ⟨rfl, rfl⟩

theorem get_range (a : Option Addr) (len cap : Nat) (i n : Int) (w : World) (hl : len ≤ maxLen) (h : widB n = true) (h2 : insB len i n = false) :
    Calls Tryd.prog 36 #[.slice a len cap, .int .i64 i, .int .i64 n] w fun e w' => e = .returned (.tuple #[.int .u64 0, .int .i64 4]) ∧ w' = w := by
  have hn : 1 ≤ n ∧ n ≤ 8 := by simpa [widB] using h
  go_enter Tryd.func36, Tryd.ntmps36
  go_wp2_with (first | (go_at_call 43; refine (width_any _ _).mono ?_; rintro e w' ⟨rfl, rfl⟩) | (go_at_call 44; refine (inside_any _ _ _ _ _ _ hl hn.1 hn.2).mono ?_; rintro e w' ⟨rfl, rfl⟩))
  go_ret2
  exact ⟨rfl, rfl⟩

set_option maxHeartbeats 400000 in
theorem get_ok (b off len cap i n : Nat) (zs : List Int) (w : World) (hl : len ≤ maxLen) (hn1 : 1 ≤ n) (hn2 : n ≤ 8) (hi : i + n ≤ len) (hb : Bytes zs)
    (hc : ∀ j, j < len → w.cell? ⟨b, off + j, none⟩ = some (.int .u8 (zs.getD j 0))) :
    Calls Tryd.prog 36 #[.slice (some ⟨b, off, none⟩) len cap, .int .i64 i, .int .i64 n] w fun e w' => e = .returned (.tuple #[.int .u64 (num zs i n), .int .i64 0]) ∧ w' = w := by
  have H1 : widB n = true := by simp [widB]; omega
  have H2 : insB len i n = true := by simp [insB]; omega
  unfold maxLen at hl
  go_enter Tryd.func36, Tryd.ntmps36
  go_wp2_with (first | (go_at_call 43; refine (width_any _ _).mono ?_; rintro e w' ⟨rfl, rfl⟩) | (go_at_call 44; refine (inside_any _ _ _ _ _ _ (by unfold maxLen; omega) (by omega) (by omega)).mono ?_; rintro e w' ⟨rfl, rfl⟩))
  go_loop [8, 19] (fun v t => ∃ k : Nat, k ≤ n ∧ v = .int .u64 (num zs i k) ∧ t = .int .i64 k) (fun _ t => n - (intOf t).toNat)
  case atStart => exact ⟨0, by omega, rfl, rfl⟩
  case round =>
    obtain ⟨k, hk, rfl, rfl⟩ := hrel
    by_cases hlt : k < n
    · have hcell := hc (i + k) (by omega)
      go_wp2
      go_round
      case rel => exact ⟨k + 1, by omega, by rw [num_step_or zs i hb k (by omega)], by go_num⟩
      case measure => simp [intOf]; omega
    · have : k = n := by omega
      subst this
      go_wp2
      go_ret2
      exact ⟨rfl, rfl⟩

/-! The document's. -/

theorem rget_arg (a : Option Addr) (len cap : Nat) (i n : Int) (w : World) (h : widB n = false) :
    Calls Tryd.prog 32 #[.slice a len cap, .int .i64 i, .int .i64 n] w fun e w' => e = .returned (.tuple #[.int .u64 0, .int .i64 1]) ∧ w' = w := by
  have hn : n < 1 ∨ 8 < n := by simp [widB] at h; omega
  go_enter Tryd.func32, Tryd.ntmps32
  go_wp2_with (go_at_call 41; refine (field_arg _ _ _ _ hn).mono ?_; rintro e w' ⟨rfl, rfl⟩)
  go_ret2
  exact ⟨rfl, rfl⟩

theorem rget_range (a : Option Addr) (len cap : Nat) (i n : Int) (w : World) (hl : len ≤ maxLen) (h : widB n = true) (h2 : insB len i n = false) :
    Calls Tryd.prog 32 #[.slice a len cap, .int .i64 i, .int .i64 n] w fun e w' => e = .returned (.tuple #[.int .u64 0, .int .i64 4]) ∧ w' = w := by
  have hn : 1 ≤ n ∧ n ≤ 8 := by simpa [widB] using h
  have hi : ¬ (0 ≤ i ∧ i ≤ (len : Int) - n) := by simpa [insB] using h2
  go_enter Tryd.func32, Tryd.ntmps32
  go_wp2_with (go_at_call 41; refine (field_range _ _ _ _ hl hn.1 hn.2 hi).mono ?_; rintro e w' ⟨rfl, rfl⟩)
  go_ret2
  exact ⟨rfl, rfl⟩

set_option maxHeartbeats 400000 in
theorem rget_ok (b off len cap i n : Nat) (zs : List Int) (w : World) (hl : len ≤ maxLen) (hn1 : 1 ≤ n) (hn2 : n ≤ 8) (hi : i + n ≤ len) (hb : Bytes zs)
    (hc : ∀ j, j < len → w.cell? ⟨b, off + j, none⟩ = some (.int .u8 (zs.getD j 0))) :
    Calls Tryd.prog 32 #[.slice (some ⟨b, off, none⟩) len cap, .int .i64 i, .int .i64 n] w fun e w' => e = .returned (.tuple #[.int .u64 (num zs i n), .int .i64 0]) ∧ w' = w := by
  have hl' := hl
  unfold maxLen at hl
  go_enter Tryd.func32, Tryd.ntmps32
  go_wp2_with (go_at_call 41; refine (field_ok _ _ _ _ hl' (by omega) (by omega) (by omega) (by omega)).mono ?_; rintro e w' ⟨rfl, rfl⟩)
  go_loop [9, 10] (fun v t => ∃ k : Nat, k ≤ n ∧ v = .int .u64 (num zs i k) ∧ t = .int .i64 k) (fun _ t => n - (intOf t).toNat)
  case atStart => exact ⟨0, by omega, rfl, rfl⟩
  case round =>
    obtain ⟨k, hk, rfl, rfl⟩ := hrel
    by_cases hlt : k < n
    · have hcell := hc (i + k) (by omega)
      go_wp2
      go_round
      case rel => exact ⟨k + 1, by omega, by rw [num_step_add zs i hb k (by omega)], by go_num⟩
      case measure => simp [intOf]; omega
    · have : k = n := by omega
      subst this
      go_wp2
      go_ret2
      exact ⟨rfl, rfl⟩

end Go.Proofs.YtnebcbfjlkhimaaDoor.B
