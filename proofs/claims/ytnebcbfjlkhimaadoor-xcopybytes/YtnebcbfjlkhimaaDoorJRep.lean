/-
  Blanks: strings.Repeat of one, filled.
-/
import Derived.Test.YtnebcbfjlkhimaaDoorJUnit
namespace Go.Proofs.YtnebcbfjlkhimaaDoor
open Go.RowKit
set_option linter.unusedVariables false
set_option linter.unusedSimpArgs false

def sps (n : Nat) : ByteArray := ⟨(List.replicate n (32 : UInt8)).toArray⟩

set_option maxRecDepth 100000 in
set_option maxHeartbeats 4000000 in
theorem mul64_one (n : Nat) (w : World) (hn : n ≤ 20) : Calls Tryd.prog 55 #[.int .u64 1, .int .u64 n] w fun e w' => e = .returned (.tuple #[.int .u64 0, .int .u64 n]) ∧ w' = w := by
  have h : n = 0 ∨ n = 1 ∨ n = 2 ∨ n = 3 ∨ n = 4 ∨ n = 5 ∨ n = 6 ∨ n = 7 ∨ n = 8 ∨ n = 9 ∨ n = 10 ∨ n = 11 ∨ n = 12 ∨ n = 13 ∨ n = 14 ∨ n = 15 ∨ n = 16 ∨ n = 17 ∨ n = 18 ∨ n = 19 ∨ n = 20 := by omega
  rcases h with rfl | rfl | rfl | rfl | rfl | rfl | rfl | rfl | rfl | rfl | rfl | rfl | rfl | rfl | rfl | rfl | rfl | rfl | rfl | rfl | rfl
  all_goals
    go_enter Tryd.func55, Tryd.ntmps55
    go_wp2
    refine bodyPost_ret (v := .tuple #[.int .u64 0, .int .u64 _]) (by kernel_rfl) rfl ⟨rfl, rfl⟩
set_option maxHeartbeats 4000000 in
theorem mul_one' (n : Nat) (w : World) (hn : n ≤ 20) : Calls Tryd.prog 45 #[.int .u64 1, .int .u64 n] w fun e w' => e = .returned (.tuple #[.int .u64 0, .int .u64 n]) ∧ w' = w := by
  have H := Kpt.mk (mul64_one n w hn)
  go_enter Tryd.func45, Tryd.ntmps45
  go_wp2_with fail
  refine H.out.mono ?_
  rintro e w1 ⟨rfl, rfl⟩
  go_wp2_with fail
  refine bodyPost_ret (v := .tuple #[.int .u64 0, .int .u64 n]) (by simp [results, Tryd.results45, go_sem]) rfl ⟨rfl, rfl⟩

theorem sps_size (n : Nat) : (sps n).size = n := by show (List.replicate n (32 : UInt8)).toArray.size = n; simp
theorem ext_sps (n : Nat) (hn : n ≤ 20) : (sps 128).extract 0 n = sps n := by
  have h : n = 0 ∨ n = 1 ∨ n = 2 ∨ n = 3 ∨ n = 4 ∨ n = 5 ∨ n = 6 ∨ n = 7 ∨ n = 8 ∨ n = 9 ∨ n = 10 ∨ n = 11 ∨ n = 12 ∨ n = 13 ∨ n = 14 ∨ n = 15 ∨ n = 16 ∨ n = 17 ∨ n = 18 ∨ n = 19 ∨ n = 20 := by omega
  rcases h with rfl | rfl | rfl | rfl | rfl | rfl | rfl | rfl | rfl | rfl | rfl | rfl | rfl | rfl | rfl | rfl | rfl | rfl | rfl | rfl | rfl <;> decide +kernel
theorem ext_one : (sps 128).extract 0 1 = ⟨#[32]⟩ := by decide +kernel
theorem hasp_lite (S : ByteArray) (w : World) (hS : S = sps 128) : Calls Tryd.prog 56 #[.string S, .string ⟨#[32]⟩] w fun e w' => e = .returned (.bool true) ∧ w' = w := by
  have hz : S.size = 128 := by rw [hS]; rfl
  have he : S.extract 0 1 = ⟨#[32]⟩ := by rw [hS]; exact ext_one
  clear hS
  go_enter Tryd.func56, Tryd.ntmps56
  go_wp2_with fail
  go_ret
  exact ⟨rfl, rfl⟩
theorem hasp_any (S : ByteArray) (w : World) (hS : S = sps 128) : Calls Tryd.prog 46 #[.string S, .string ⟨#[32]⟩] w fun e w' => e = .returned (.bool true) ∧ w' = w := by
  have H := Kpt.mk (hasp_lite S w hS)
  clear hS
  go_enter Tryd.func46, Tryd.ntmps46
  go_wp2_with fail
  refine H.out.mono ?_
  rintro e w1 ⟨rfl, rfl⟩
  go_wp2_with fail
  go_ret
  exact ⟨rfl, rfl⟩

set_option maxRecDepth 100000 in
set_option maxHeartbeats 4000000 in
theorem rep_two (n : Nat) (w : World) (h2 : 2 ≤ n) (hn : n ≤ 20) :
    Calls Tryd.prog 35 #[.string ⟨#[32]⟩, .int .i64 n] w fun e w' => e = .returned (.string (sps n)) ∧ w' = w := by
  have e0 : ¬ (n : Int) = 0 := by omega
  have e1 : ¬ (n : Int) = 1 := by omega
  have e2 : ¬ (n : Int) < 0 := by omega
  have e3 : ¬ (9223372036854775807 : Int) < n := by omega
  have e4 : (n : Int) ≤ 128 := by omega
  have v1 : IntKind.u64.wrap (n : Int) = n := by rw [IntKind.wrap_u64]; omega
  have v2 : IntKind.i64.wrap (n : Int) = n := by rw [IntKind.wrap_i64]; omega
  have H := Kpt.mk (mul_one' n w hn)
  go_enter Tryd.func35, Tryd.ntmps35
  go_wp2_with fail
  refine H.out.mono ?_
  rintro e w1 ⟨rfl, rfl⟩
  go_wp2_with fail
  refine (hasp_any _ _ (by kernel_rfl)).mono ?_
  rintro e w2 ⟨rfl, rfl⟩
  go_wp2_with fail
  go_ret
  refine ⟨?_, rfl⟩
  show Ending.returned (.string ((sps 128).extract 0 n)) = _
  rw [ext_sps n hn]

set_option maxRecDepth 100000 in
theorem rep_any (n : Nat) (w : World) (hn : n ≤ 20) :
    Calls Tryd.prog 35 #[.string ⟨#[32]⟩, .int .i64 n] w fun e w' => e = .returned (.string (sps n)) ∧ w' = w := by
  by_cases h2 : 2 ≤ n
  · exact rep_two n w h2 hn
  · have h : n = 0 ∨ n = 1 := by omega
    rcases h with rfl | rfl
    · go_enter Tryd.func35, Tryd.ntmps35
      go_wp2_with fail
      go_ret
      exact ⟨rfl, rfl⟩
    · go_enter Tryd.func35, Tryd.ntmps35
      go_wp2_with fail
      go_ret
      exact ⟨rfl, rfl⟩

end Go.Proofs.YtnebcbfjlkhimaaDoor
