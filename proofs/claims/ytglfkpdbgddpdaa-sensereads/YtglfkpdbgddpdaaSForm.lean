/-
  The contracts of Form.
-/
import Derived.Test.YtglfkpdbgddpdaaSDef
namespace Go.Proofs.Ytglfkpdbgddpdaa
open Go.RowKit
set_option linter.unusedVariables false
set_option linter.unusedSimpArgs false

set_option maxHeartbeats 4000000 in
theorem form_any (s : Sn) (w : World) : Calls Try.prog 13 #[.agg s.vals] w fun e w' => e = .returned (.bool s.form) ∧ Below w.heap.size w w' ∧ Grown w w' := by
  obtain ⟨key, code, info, hi, field, bit, hf, ic⟩ := s
  simp only [Sn.vals]
  by_cases h1 : 15 < key
  · have hF : Kpt (Sn.form ⟨key, code, info, hi, field, bit, hf, ic⟩ = false) := ⟨by simp [Sn.form] <;> omega⟩
    go_enter Try.func13, Try.ntmps13
    go_wp2
    go_ret
    exact ⟨B.ret_bool hF.out.symm, (Below.refl _ _).alloc (Nat.le_refl _) _, (Grown.refl _).alloc _ _⟩
  have h1' : key ≤ 15 := by omega
  by_cases h2 : hi = false ∧ info ≠ 0
  · obtain ⟨rfl, h3⟩ := h2
    have hF : Kpt (Sn.form ⟨key, code, info, false, field, bit, hf, ic⟩ = false) := ⟨by simp [Sn.form, h3] <;> omega⟩
    go_enter Try.func13, Try.ntmps13
    go_wp2
    go_ret
    exact ⟨B.ret_bool hF.out.symm, (Below.refl _ _).alloc (Nat.le_refl _) _, (Grown.refl _).alloc _ _⟩
  have h3 : (hi || decide (info = 0)) = true := by cases hi <;> simp at h2 ⊢; exact h2
  clear h2
  cases hf with
  | false =>
    by_cases h4 : field = 0
    · subst h4
      by_cases h5 : bit = 0
      · subst h5
        cases ic with
        | true =>
          cases hi with
          | true =>
            clear h3
            have hF : Kpt (Sn.form ⟨key, code, info, true, 0, 0, false, true⟩ = false) := ⟨by simp [Sn.form] <;> omega⟩
            go_enter Try.func13, Try.ntmps13
            go_wp2
            go_ret
            exact ⟨B.ret_bool hF.out.symm, (Below.refl _ _).alloc (Nat.le_refl _) _, (Grown.refl _).alloc _ _⟩
          | false =>
            obtain rfl : info = 0 := by simpa using h3
            clear h3
            have hF : Kpt (Sn.form ⟨key, code, 0, false, 0, 0, false, true⟩ = false) := ⟨by simp [Sn.form] <;> omega⟩
            go_enter Try.func13, Try.ntmps13
            go_wp2
            go_ret
            exact ⟨B.ret_bool hF.out.symm, (Below.refl _ _).alloc (Nat.le_refl _) _, (Grown.refl _).alloc _ _⟩
        | false =>
          cases hi with
          | true =>
            clear h3
            have hF : Kpt (Sn.form ⟨key, code, info, true, 0, 0, false, false⟩ = true) := ⟨by simp [Sn.form, h1'] <;> omega⟩
            go_enter Try.func13, Try.ntmps13
            go_wp2
            go_ret
            exact ⟨B.ret_bool hF.out.symm, (Below.refl _ _).alloc (Nat.le_refl _) _, (Grown.refl _).alloc _ _⟩
          | false =>
            obtain rfl : info = 0 := by simpa using h3
            clear h3
            have hF : Kpt (Sn.form ⟨key, code, 0, false, 0, 0, false, false⟩ = true) := ⟨by simp [Sn.form, h1'] <;> omega⟩
            go_enter Try.func13, Try.ntmps13
            go_wp2
            go_ret
            exact ⟨B.ret_bool hF.out.symm, (Below.refl _ _).alloc (Nat.le_refl _) _, (Grown.refl _).alloc _ _⟩
      · cases hi with
        | true =>
          clear h3
          have hF : Kpt (Sn.form ⟨key, code, info, true, 0, bit, false, ic⟩ = false) := ⟨by simp [Sn.form, h5] <;> omega⟩
          go_enter Try.func13, Try.ntmps13
          go_wp2
          go_ret
          exact ⟨B.ret_bool hF.out.symm, (Below.refl _ _).alloc (Nat.le_refl _) _, (Grown.refl _).alloc _ _⟩
        | false =>
          obtain rfl : info = 0 := by simpa using h3
          clear h3
          have hF : Kpt (Sn.form ⟨key, code, 0, false, 0, bit, false, ic⟩ = false) := ⟨by simp [Sn.form, h5] <;> omega⟩
          go_enter Try.func13, Try.ntmps13
          go_wp2
          go_ret
          exact ⟨B.ret_bool hF.out.symm, (Below.refl _ _).alloc (Nat.le_refl _) _, (Grown.refl _).alloc _ _⟩
    · cases hi with
      | true =>
        clear h3
        have hF : Kpt (Sn.form ⟨key, code, info, true, field, bit, false, ic⟩ = false) := ⟨by simp [Sn.form, h4] <;> omega⟩
        go_enter Try.func13, Try.ntmps13
        go_wp2
        go_ret
        exact ⟨B.ret_bool hF.out.symm, (Below.refl _ _).alloc (Nat.le_refl _) _, (Grown.refl _).alloc _ _⟩
      | false =>
        obtain rfl : info = 0 := by simpa using h3
        clear h3
        have hF : Kpt (Sn.form ⟨key, code, 0, false, field, bit, false, ic⟩ = false) := ⟨by simp [Sn.form, h4] <;> omega⟩
        go_enter Try.func13, Try.ntmps13
        go_wp2
        go_ret
        exact ⟨B.ret_bool hF.out.symm, (Below.refl _ _).alloc (Nat.le_refl _) _, (Grown.refl _).alloc _ _⟩
  | true =>
    by_cases h4 : 0 ≤ field
    · by_cases h5 : field ≤ 65535
      · by_cases h6 : -1 ≤ bit
        · by_cases h7 : bit ≤ 7
          · cases hi with
            | true =>
              clear h3
              have hF : Kpt (Sn.form ⟨key, code, info, true, field, bit, true, ic⟩ = true) := ⟨by simp [Sn.form, h1', h4, h5, h6, h7] <;> omega⟩
              go_enter Try.func13, Try.ntmps13
              go_wp2
              go_ret
              exact ⟨B.ret_bool hF.out.symm, (Below.refl _ _).alloc (Nat.le_refl _) _, (Grown.refl _).alloc _ _⟩
            | false =>
              obtain rfl : info = 0 := by simpa using h3
              clear h3
              have hF : Kpt (Sn.form ⟨key, code, 0, false, field, bit, true, ic⟩ = true) := ⟨by simp [Sn.form, h1', h4, h5, h6, h7] <;> omega⟩
              go_enter Try.func13, Try.ntmps13
              go_wp2
              go_ret
              exact ⟨B.ret_bool hF.out.symm, (Below.refl _ _).alloc (Nat.le_refl _) _, (Grown.refl _).alloc _ _⟩
          · cases hi with
            | true =>
              clear h3
              have hF : Kpt (Sn.form ⟨key, code, info, true, field, bit, true, ic⟩ = false) := ⟨by simp [Sn.form] <;> omega⟩
              go_enter Try.func13, Try.ntmps13
              go_wp2
              go_ret
              exact ⟨B.ret_bool hF.out.symm, (Below.refl _ _).alloc (Nat.le_refl _) _, (Grown.refl _).alloc _ _⟩
            | false =>
              obtain rfl : info = 0 := by simpa using h3
              clear h3
              have hF : Kpt (Sn.form ⟨key, code, 0, false, field, bit, true, ic⟩ = false) := ⟨by simp [Sn.form] <;> omega⟩
              go_enter Try.func13, Try.ntmps13
              go_wp2
              go_ret
              exact ⟨B.ret_bool hF.out.symm, (Below.refl _ _).alloc (Nat.le_refl _) _, (Grown.refl _).alloc _ _⟩
        · cases hi with
          | true =>
            clear h3
            have hF : Kpt (Sn.form ⟨key, code, info, true, field, bit, true, ic⟩ = false) := ⟨by simp [Sn.form] <;> omega⟩
            go_enter Try.func13, Try.ntmps13
            go_wp2
            go_ret
            exact ⟨B.ret_bool hF.out.symm, (Below.refl _ _).alloc (Nat.le_refl _) _, (Grown.refl _).alloc _ _⟩
          | false =>
            obtain rfl : info = 0 := by simpa using h3
            clear h3
            have hF : Kpt (Sn.form ⟨key, code, 0, false, field, bit, true, ic⟩ = false) := ⟨by simp [Sn.form] <;> omega⟩
            go_enter Try.func13, Try.ntmps13
            go_wp2
            go_ret
            exact ⟨B.ret_bool hF.out.symm, (Below.refl _ _).alloc (Nat.le_refl _) _, (Grown.refl _).alloc _ _⟩
      · cases hi with
        | true =>
          clear h3
          have hF : Kpt (Sn.form ⟨key, code, info, true, field, bit, true, ic⟩ = false) := ⟨by simp [Sn.form] <;> omega⟩
          go_enter Try.func13, Try.ntmps13
          go_wp2
          go_ret
          exact ⟨B.ret_bool hF.out.symm, (Below.refl _ _).alloc (Nat.le_refl _) _, (Grown.refl _).alloc _ _⟩
        | false =>
          obtain rfl : info = 0 := by simpa using h3
          clear h3
          have hF : Kpt (Sn.form ⟨key, code, 0, false, field, bit, true, ic⟩ = false) := ⟨by simp [Sn.form] <;> omega⟩
          go_enter Try.func13, Try.ntmps13
          go_wp2
          go_ret
          exact ⟨B.ret_bool hF.out.symm, (Below.refl _ _).alloc (Nat.le_refl _) _, (Grown.refl _).alloc _ _⟩
    · cases hi with
      | true =>
        clear h3
        have hF : Kpt (Sn.form ⟨key, code, info, true, field, bit, true, ic⟩ = false) := ⟨by simp [Sn.form] <;> omega⟩
        go_enter Try.func13, Try.ntmps13
        go_wp2
        go_ret
        exact ⟨B.ret_bool hF.out.symm, (Below.refl _ _).alloc (Nat.le_refl _) _, (Grown.refl _).alloc _ _⟩
      | false =>
        obtain rfl : info = 0 := by simpa using h3
        clear h3
        have hF : Kpt (Sn.form ⟨key, code, 0, false, field, bit, true, ic⟩ = false) := ⟨by simp [Sn.form] <;> omega⟩
        go_enter Try.func13, Try.ntmps13
        go_wp2
        go_ret
        exact ⟨B.ret_bool hF.out.symm, (Below.refl _ _).alloc (Nat.le_refl _) _, (Grown.refl _).alloc _ _⟩

set_option maxHeartbeats 4000000 in
theorem rform_any (s : Sn) (w : World) : Calls Try.prog 14 #[.agg s.vals] w fun e w' => e = .returned (.bool s.form) ∧ Below w.heap.size w w' ∧ Grown w w' := by
  obtain ⟨key, code, info, hi, field, bit, hf, ic⟩ := s
  simp only [Sn.vals]
  by_cases h1 : 15 < key
  · have hF : Kpt (Sn.form ⟨key, code, info, hi, field, bit, hf, ic⟩ = false) := ⟨by simp [Sn.form] <;> omega⟩
    go_enter Try.func14, Try.ntmps14
    go_wp2
    go_ret
    exact ⟨B.ret_bool hF.out.symm, (Below.refl _ _).alloc (Nat.le_refl _) _, (Grown.refl _).alloc _ _⟩
  have h1' : key ≤ 15 := by omega
  by_cases h2 : hi = false ∧ info ≠ 0
  · obtain ⟨rfl, h3⟩ := h2
    have hF : Kpt (Sn.form ⟨key, code, info, false, field, bit, hf, ic⟩ = false) := ⟨by simp [Sn.form, h3] <;> omega⟩
    go_enter Try.func14, Try.ntmps14
    go_wp2
    go_ret
    exact ⟨B.ret_bool hF.out.symm, (Below.refl _ _).alloc (Nat.le_refl _) _, (Grown.refl _).alloc _ _⟩
  have h3 : (hi || decide (info = 0)) = true := by cases hi <;> simp at h2 ⊢; exact h2
  clear h2
  cases hf with
  | false =>
    by_cases h4 : field = 0
    · subst h4
      by_cases h5 : bit = 0
      · subst h5
        cases ic with
        | true =>
          cases hi with
          | true =>
            clear h3
            have hF : Kpt (Sn.form ⟨key, code, info, true, 0, 0, false, true⟩ = false) := ⟨by simp [Sn.form] <;> omega⟩
            go_enter Try.func14, Try.ntmps14
            go_wp2
            go_ret
            exact ⟨B.ret_bool hF.out.symm, (Below.refl _ _).alloc (Nat.le_refl _) _, (Grown.refl _).alloc _ _⟩
          | false =>
            obtain rfl : info = 0 := by simpa using h3
            clear h3
            have hF : Kpt (Sn.form ⟨key, code, 0, false, 0, 0, false, true⟩ = false) := ⟨by simp [Sn.form] <;> omega⟩
            go_enter Try.func14, Try.ntmps14
            go_wp2
            go_ret
            exact ⟨B.ret_bool hF.out.symm, (Below.refl _ _).alloc (Nat.le_refl _) _, (Grown.refl _).alloc _ _⟩
        | false =>
          cases hi with
          | true =>
            clear h3
            have hF : Kpt (Sn.form ⟨key, code, info, true, 0, 0, false, false⟩ = true) := ⟨by simp [Sn.form, h1'] <;> omega⟩
            go_enter Try.func14, Try.ntmps14
            go_wp2
            go_ret
            exact ⟨B.ret_bool hF.out.symm, (Below.refl _ _).alloc (Nat.le_refl _) _, (Grown.refl _).alloc _ _⟩
          | false =>
            obtain rfl : info = 0 := by simpa using h3
            clear h3
            have hF : Kpt (Sn.form ⟨key, code, 0, false, 0, 0, false, false⟩ = true) := ⟨by simp [Sn.form, h1'] <;> omega⟩
            go_enter Try.func14, Try.ntmps14
            go_wp2
            go_ret
            exact ⟨B.ret_bool hF.out.symm, (Below.refl _ _).alloc (Nat.le_refl _) _, (Grown.refl _).alloc _ _⟩
      · cases hi with
        | true =>
          clear h3
          have hF : Kpt (Sn.form ⟨key, code, info, true, 0, bit, false, ic⟩ = false) := ⟨by simp [Sn.form, h5] <;> omega⟩
          go_enter Try.func14, Try.ntmps14
          go_wp2
          go_ret
          exact ⟨B.ret_bool hF.out.symm, (Below.refl _ _).alloc (Nat.le_refl _) _, (Grown.refl _).alloc _ _⟩
        | false =>
          obtain rfl : info = 0 := by simpa using h3
          clear h3
          have hF : Kpt (Sn.form ⟨key, code, 0, false, 0, bit, false, ic⟩ = false) := ⟨by simp [Sn.form, h5] <;> omega⟩
          go_enter Try.func14, Try.ntmps14
          go_wp2
          go_ret
          exact ⟨B.ret_bool hF.out.symm, (Below.refl _ _).alloc (Nat.le_refl _) _, (Grown.refl _).alloc _ _⟩
    · cases hi with
      | true =>
        clear h3
        have hF : Kpt (Sn.form ⟨key, code, info, true, field, bit, false, ic⟩ = false) := ⟨by simp [Sn.form, h4] <;> omega⟩
        go_enter Try.func14, Try.ntmps14
        go_wp2
        go_ret
        exact ⟨B.ret_bool hF.out.symm, (Below.refl _ _).alloc (Nat.le_refl _) _, (Grown.refl _).alloc _ _⟩
      | false =>
        obtain rfl : info = 0 := by simpa using h3
        clear h3
        have hF : Kpt (Sn.form ⟨key, code, 0, false, field, bit, false, ic⟩ = false) := ⟨by simp [Sn.form, h4] <;> omega⟩
        go_enter Try.func14, Try.ntmps14
        go_wp2
        go_ret
        exact ⟨B.ret_bool hF.out.symm, (Below.refl _ _).alloc (Nat.le_refl _) _, (Grown.refl _).alloc _ _⟩
  | true =>
    by_cases h4 : 0 ≤ field
    · by_cases h5 : field < 65536
      · by_cases h6 : -1 ≤ bit
        · by_cases h7 : bit < 8
          · cases hi with
            | true =>
              clear h3
              have hF : Kpt (Sn.form ⟨key, code, info, true, field, bit, true, ic⟩ = true) := ⟨by simp [Sn.form, h1', h4, h6] <;> omega⟩
              go_enter Try.func14, Try.ntmps14
              go_wp2
              go_ret
              exact ⟨B.ret_bool hF.out.symm, (Below.refl _ _).alloc (Nat.le_refl _) _, (Grown.refl _).alloc _ _⟩
            | false =>
              obtain rfl : info = 0 := by simpa using h3
              clear h3
              have hF : Kpt (Sn.form ⟨key, code, 0, false, field, bit, true, ic⟩ = true) := ⟨by simp [Sn.form, h1', h4, h6] <;> omega⟩
              go_enter Try.func14, Try.ntmps14
              go_wp2
              go_ret
              exact ⟨B.ret_bool hF.out.symm, (Below.refl _ _).alloc (Nat.le_refl _) _, (Grown.refl _).alloc _ _⟩
          · cases hi with
            | true =>
              clear h3
              have hF : Kpt (Sn.form ⟨key, code, info, true, field, bit, true, ic⟩ = false) := ⟨by simp [Sn.form] <;> omega⟩
              go_enter Try.func14, Try.ntmps14
              go_wp2
              go_ret
              exact ⟨B.ret_bool hF.out.symm, (Below.refl _ _).alloc (Nat.le_refl _) _, (Grown.refl _).alloc _ _⟩
            | false =>
              obtain rfl : info = 0 := by simpa using h3
              clear h3
              have hF : Kpt (Sn.form ⟨key, code, 0, false, field, bit, true, ic⟩ = false) := ⟨by simp [Sn.form] <;> omega⟩
              go_enter Try.func14, Try.ntmps14
              go_wp2
              go_ret
              exact ⟨B.ret_bool hF.out.symm, (Below.refl _ _).alloc (Nat.le_refl _) _, (Grown.refl _).alloc _ _⟩
        · cases hi with
          | true =>
            clear h3
            have hF : Kpt (Sn.form ⟨key, code, info, true, field, bit, true, ic⟩ = false) := ⟨by simp [Sn.form] <;> omega⟩
            go_enter Try.func14, Try.ntmps14
            go_wp2
            go_ret
            exact ⟨B.ret_bool hF.out.symm, (Below.refl _ _).alloc (Nat.le_refl _) _, (Grown.refl _).alloc _ _⟩
          | false =>
            obtain rfl : info = 0 := by simpa using h3
            clear h3
            have hF : Kpt (Sn.form ⟨key, code, 0, false, field, bit, true, ic⟩ = false) := ⟨by simp [Sn.form] <;> omega⟩
            go_enter Try.func14, Try.ntmps14
            go_wp2
            go_ret
            exact ⟨B.ret_bool hF.out.symm, (Below.refl _ _).alloc (Nat.le_refl _) _, (Grown.refl _).alloc _ _⟩
      · cases hi with
        | true =>
          clear h3
          have hF : Kpt (Sn.form ⟨key, code, info, true, field, bit, true, ic⟩ = false) := ⟨by simp [Sn.form] <;> omega⟩
          go_enter Try.func14, Try.ntmps14
          go_wp2
          go_ret
          exact ⟨B.ret_bool hF.out.symm, (Below.refl _ _).alloc (Nat.le_refl _) _, (Grown.refl _).alloc _ _⟩
        | false =>
          obtain rfl : info = 0 := by simpa using h3
          clear h3
          have hF : Kpt (Sn.form ⟨key, code, 0, false, field, bit, true, ic⟩ = false) := ⟨by simp [Sn.form] <;> omega⟩
          go_enter Try.func14, Try.ntmps14
          go_wp2
          go_ret
          exact ⟨B.ret_bool hF.out.symm, (Below.refl _ _).alloc (Nat.le_refl _) _, (Grown.refl _).alloc _ _⟩
    · cases hi with
      | true =>
        clear h3
        have hF : Kpt (Sn.form ⟨key, code, info, true, field, bit, true, ic⟩ = false) := ⟨by simp [Sn.form] <;> omega⟩
        go_enter Try.func14, Try.ntmps14
        go_wp2
        go_ret
        exact ⟨B.ret_bool hF.out.symm, (Below.refl _ _).alloc (Nat.le_refl _) _, (Grown.refl _).alloc _ _⟩
      | false =>
        obtain rfl : info = 0 := by simpa using h3
        clear h3
        have hF : Kpt (Sn.form ⟨key, code, 0, false, field, bit, true, ic⟩ = false) := ⟨by simp [Sn.form] <;> omega⟩
        go_enter Try.func14, Try.ntmps14
        go_wp2
        go_ret
        exact ⟨B.ret_bool hF.out.symm, (Below.refl _ _).alloc (Nat.le_refl _) _, (Grown.refl _).alloc _ _⟩

end Go.Proofs.Ytglfkpdbgddpdaa
