/-
  Contracts of Within and Meet, of the program and of the document's answer.
-/
import Derived.Test.YteegienlkffejaaBase
import Derived.Test.YteegienlkffejaaNum
import Derived.Outline
namespace Go.Proofs.Yteegienlkffejaa
open Go.RowKit
set_option linter.unusedVariables false

def U64 (x : Int) : Prop := 0 ≤ x ∧ x < 18446744073709551616

def witB (a n b : Int) : Bool := decide (a + n ≤ b)
def meetB (a n b m : Int) : Bool := decide (0 < n ∧ 0 < m ∧ b < a + n ∧ a < b + m)

theorem wit_yes {a n b : Int} (ha : U64 a) (hn : U64 n) (hb : U64 b) (h : n ≤ b) : decide (a ≤ IntKind.u64.wrap (b - n)) = witB a n b := by
  unfold U64 at *
  rw [wrap64_id _ (by omega) (by omega)]
  exact decide_eq_decide.2 (by omega)

theorem wit_no {a n b : Int} (ha : U64 a) (h : ¬ n ≤ b) : false = witB a n b := by
  unfold U64 at *
  exact (decide_eq_false (by omega)).symm

theorem rwit_yes {a n b : Int} (ha : U64 a) (hn : U64 n) (h : a ≤ IntKind.u64.wrap (a + n)) : decide (IntKind.u64.wrap (a + n) ≤ b) = witB a n b := by
  unfold U64 at *
  rw [IntKind.wrap_u64] at *
  exact decide_eq_decide.2 (by omega)

theorem rwit_no {a n b : Int} (ha : U64 a) (hn : U64 n) (hb : U64 b) (h : ¬ a ≤ IntKind.u64.wrap (a + n)) : false = witB a n b := by
  unfold U64 at *
  rw [IntKind.wrap_u64] at *
  exact (decide_eq_false (by omega)).symm

theorem within_any (a n b : Int) (w : World) (ha : U64 a) (hn : U64 n) (hb : U64 b) :
    Calls Try.prog 15 #[.int .u64 a, .int .u64 n, .int .u64 b] w fun e w' => e = .returned (.bool (witB a n b)) ∧ w' = w := by
  by_cases h1 : n ≤ b
  · go_enter Try.func15, Try.ntmps15
    go_wp2
    go_ret
    exact ⟨ret_bool (wit_yes ha hn hb h1), rfl⟩
  · have h2 := h1
    go_enter Try.func15, Try.ntmps15
    go_wp2
    go_ret
    exact ⟨ret_bool (wit_no ha (by omega)), rfl⟩

theorem rwithin_any (a n b : Int) (w : World) (ha : U64 a) (hn : U64 n) (hb : U64 b) :
    Calls Try.prog 16 #[.int .u64 a, .int .u64 n, .int .u64 b] w fun e w' => e = .returned (.bool (witB a n b)) ∧ w' = w := by
  by_cases h1 : a ≤ IntKind.u64.wrap (a + n)
  · go_enter Try.func16, Try.ntmps16
    go_wp2
    go_ret
    exact ⟨ret_bool (rwit_yes ha hn h1), rfl⟩
  · go_enter Try.func16, Try.ntmps16
    go_wp2
    go_ret
    exact ⟨ret_bool (rwit_no ha hn hb (by omega)), rfl⟩

theorem meet_ge {a n b m : Int} (ha : U64 a) (hn : U64 n) (hb : U64 b) (hm : U64 m) (h : b < a) (h0 : 0 < n) : decide (IntKind.u64.wrap (a - b) < m) = meetB a n b m := by
  unfold U64 at *
  rw [wrap64_id _ (by omega) (by omega)]
  exact decide_eq_decide.2 (by omega)
theorem meet_le {a n b m : Int} (ha : U64 a) (hn : U64 n) (hb : U64 b) (hm : U64 m) (h : ¬ b < a) (h0 : 0 < m) : decide (IntKind.u64.wrap (b - a) < n) = meetB a n b m := by
  unfold U64 at *
  rw [wrap64_id _ (by omega) (by omega)]
  exact decide_eq_decide.2 (by omega)
theorem meet_non {a n b m : Int} (h0 : ¬ (0 < n ∧ 0 < m)) : false = meetB a n b m := by
  exact (decide_eq_false (by omega)).symm
theorem meet_comm (a n b m : Int) : meetB b m a n = meetB a n b m := by
  exact decide_eq_decide.2 (by omega)

theorem meet_any (a n b m : Int) (w : World) (ha : U64 a) (hn : U64 n) (hb : U64 b) (hm : U64 m) :
    Calls Try.prog 17 #[.int .u64 a, .int .u64 n, .int .u64 b, .int .u64 m] w fun e w' => e = .returned (.bool (meetB a n b m)) ∧ w' = w := by
  by_cases h1 : b < a
  · by_cases h2 : 0 < n
    · go_enter Try.func17, Try.ntmps17
      go_wp2
      go_ret
      exact ⟨ret_bool (meet_ge ha hn hb hm h1 h2), rfl⟩
    · go_enter Try.func17, Try.ntmps17
      go_wp2
      go_ret
      exact ⟨ret_bool (meet_non (by omega)), rfl⟩
  · by_cases h2 : 0 < m
    · go_enter Try.func17, Try.ntmps17
      go_wp2
      go_ret
      exact ⟨ret_bool (meet_le ha hn hb hm (by omega) h2), rfl⟩
    · go_enter Try.func17, Try.ntmps17
      go_wp2
      go_ret
      exact ⟨ret_bool (meet_non (by omega)), rfl⟩

theorem rmeet_any (a n b m : Int) (w : World) (ha : U64 a) (hn : U64 n) (hb : U64 b) (hm : U64 m) :
    Calls Try.prog 18 #[.int .u64 a, .int .u64 n, .int .u64 b, .int .u64 m] w fun e w' => e = .returned (.bool (meetB a n b m)) ∧ w' = w := by
  have hn0 : 0 ≤ n := hn.1
  have hm0 : 0 ≤ m := hm.1
  by_cases h1 : n = 0
  · have h1' : (n == 0) = true := by simp [h1]
    have H : Hid (n = 0) := h1
    clear h1 hn0 hm0
    go_enter Try.func18, Try.ntmps18
    go_wp2
    go_ret
    exact ⟨ret_bool (meet_non (by have := H.out; omega)), rfl⟩
  · have h1' : (n == 0) = false := by simp [h1]
    by_cases h2 : m = 0
    · have h2' : (m == 0) = true := by simp [h2]
      have H : Hid (m = 0) := h2
      clear h2 h1 hn0 hm0
      go_enter Try.func18, Try.ntmps18
      go_wp2
      go_ret
      exact ⟨ret_bool (meet_non (by have := H.out; omega)), rfl⟩
    · have h2' : (m == 0) = false := by simp [h2]
      have h3 : 0 < n := by omega
      have h4 : 0 < m := by omega
      clear h1 h2 hn0 hm0
      by_cases h5 : b < a
      · by_cases h6 : IntKind.u64.wrap (a - b) < m
        · go_enter Try.func18, Try.ntmps18
          go_wp2
          go_ret
          exact ⟨ret_bool (by rw [← meet_ge ha hn hb hm h5 h3]; simp [h6]), rfl⟩
        · have h6' : decide (IntKind.u64.wrap (a - b) < m) = false := decide_eq_false h6
          have h7 : ¬ a ≤ b := by omega
          go_enter Try.func18, Try.ntmps18
          go_wp2
          go_ret
          exact ⟨ret_bool (by rw [← meet_ge ha hn hb hm h5 h3, h6']), rfl⟩
      · by_cases h6 : a = b
        · subst h6
          go_enter Try.func18, Try.ntmps18
          go_wp2
          go_ret
          exact ⟨ret_bool (by symm; exact decide_eq_true (by omega)), rfl⟩
        · have h7 : a < b := by omega
          have h8 : ¬ b ≤ a := by omega
          clear h5 h6
          go_enter Try.func18, Try.ntmps18
          go_wp2
          go_ret
          exact ⟨ret_bool (meet_le ha hn hb hm (by omega) h4), rfl⟩

end Go.Proofs.Yteegienlkffejaa
