/-
  The contract of framed: parameters of Unmap that have as many bytes as their head says.
-/
import Derived.Test.YtklboieemljmiaaVEm
import Derived.Test.YtklboieemljmiaaMB
namespace Go.Proofs.Ytklboieemljmiaa
open Go.RowKit
set_option linter.unusedVariables false
set_option linter.unusedSimpArgs false
/-- Parameters of n bytes say of themselves how many they are, in whole descriptors. -/
def frmB (zs : List Int) (n : Nat) : Bool := decide (B.num zs 0 2 = (n : Int) - 2 ∧ B.num zs 2 2 = (n : Int) - 8 ∧ B.num zs 2 2 % 16 = 0)
theorem framed_short (a : Option Addr) (n cp : Nat) (w : World) (h8 : n < 8) : Calls Try.prog 64 #[.slice a n cp] w fun e w' => e = .returned (.bool false) ∧ w' = w := by
  have e1 : (n : Int) < 8 := by omega
  go_enter Try.func64, Try.ntmps64
  go_wp2
  go_ret
  exact ⟨rfl, rfl⟩
set_option maxRecDepth 100000 in
set_option maxHeartbeats 1000000 in
theorem framed_any (b off n cp : Nat) (zs : List Int) (w : World) (h8 : 8 ≤ n) (hl : n ≤ maxLen) (hb : Bytes zs)
    (hc : ∀ j, j < n → w.cell? ⟨b, off + j, none⟩ = some (.int .u8 (zs.getD j 0))) :
    Calls Try.prog 64 #[.slice (some ⟨b, off, none⟩) n cp] w fun e w' => e = .returned (.bool (frmB zs n)) ∧ w' = w := by
  have H1 := B.get_ok b off n cp 0 2 zs w hl (by omega) (by omega) (by omega) hb hc
  have H2 := B.get_ok b off n cp 2 2 zs w hl (by omega) (by omega) (by omega) hb hc
  have B1 := B.num_bd zs 0 hb 2
  have B2 := B.num_bd zs 2 hb 2
  unfold frmB
  generalize B.num zs 0 2 = x at H1 B1 ⊢
  generalize B.num zs 2 2 = y at H2 B2 ⊢
  unfold maxLen at hl
  have e8 : ¬ ((n : Int) < 8) := by omega
  replace B1 : 0 ≤ x ∧ x < 65536 := B1
  replace B2 : 0 ≤ y ∧ y < 65536 := B2
  obtain ⟨p, hp⟩ : ∃ p : Int, p = (n : Int) - 2 := ⟨_, rfl⟩
  obtain ⟨q, hq⟩ : ∃ q : Int, q = (n : Int) - 8 := ⟨_, rfl⟩
  rw [← hp, ← hq]
  have w1 : IntKind.i64.wrap ((n : Int) - 2) = p := by rw [IntKind.wrap_i64]; omega
  have w2 : IntKind.i64.wrap ((n : Int) - 8) = q := by rw [IntKind.wrap_i64]; omega
  have w3 : IntKind.u64.wrap p = p := by rw [IntKind.wrap_u64]; omega
  have w4 : IntKind.u64.wrap q = q := by rw [IntKind.wrap_u64]; omega
  have w5 : IntKind.u64.wrap (y.tmod 16) = y % 16 := by rw [Int.tmod_eq_emod_of_nonneg B2.1, IntKind.wrap_u64]; omega
  replace H1 := Kpt.mk H1
  replace H2 := Kpt.mk H2
  by_cases g1 : x = p
  · by_cases g2 : y = q
    · by_cases g3 : y % 16 = 0
      · have hR : decide (x = p ∧ y = q ∧ y % 16 = 0) = true := decide_eq_true ⟨g1, g2, g3⟩
        rw [hR]
        have f1 : (x == p) = true := by simpa using g1
        have f2 : (y == q) = true := by simpa using g2
        have f3 : (y % 16 == 0) = true := by simpa using g3
        clear hR g1 g2 g3 hp hq hc hb
        go_enter Try.func64, Try.ntmps64
        go_wp2_with (first | (go_at_call 71; have hm := m1; refine H2.out.mono ?_; rintro e w' ⟨rfl, rfl⟩; clear hm m1) | (go_at_call 71; refine H1.out.mono ?_; rintro e w' ⟨rfl, rfl⟩; have m1 : Kpt True := ⟨trivial⟩))
        go_ret
        exact ⟨rfl, rfl⟩
      · have hR : decide (x = p ∧ y = q ∧ y % 16 = 0) = false := decide_eq_false fun h => g3 h.2.2
        rw [hR]
        have f1 : (x == p) = true := by simpa using g1
        have f2 : (y == q) = true := by simpa using g2
        have f3 : (y % 16 == 0) = false := by simpa using g3
        clear hR g1 g2 g3 hp hq hc hb
        go_enter Try.func64, Try.ntmps64
        go_wp2_with (first | (go_at_call 71; have hm := m1; refine H2.out.mono ?_; rintro e w' ⟨rfl, rfl⟩; clear hm m1) | (go_at_call 71; refine H1.out.mono ?_; rintro e w' ⟨rfl, rfl⟩; have m1 : Kpt True := ⟨trivial⟩))
        go_ret
        exact ⟨rfl, rfl⟩
    · have hR : decide (x = p ∧ y = q ∧ y % 16 = 0) = false := decide_eq_false fun h => g2 h.2.1
      rw [hR]
      have f1 : (x == p) = true := by simpa using g1
      have f2 : (y == q) = false := by simpa using g2
      clear hR g1 g2 hp hq hc hb
      go_enter Try.func64, Try.ntmps64
      go_wp2_with (first | (go_at_call 71; have hm := m1; refine H2.out.mono ?_; rintro e w' ⟨rfl, rfl⟩; clear hm m1) | (go_at_call 71; refine H1.out.mono ?_; rintro e w' ⟨rfl, rfl⟩; have m1 : Kpt True := ⟨trivial⟩))
      go_ret
      exact ⟨rfl, rfl⟩
  · have hR : decide (x = p ∧ y = q ∧ y % 16 = 0) = false := decide_eq_false fun h => g1 h.1
    rw [hR]
    have f1 : (x == p) = false := by simpa using g1
    clear hR g1 hp hq hc hb
    go_enter Try.func64, Try.ntmps64
    go_wp2_with (first | (go_at_call 71; have hm := m1; refine H2.out.mono ?_; rintro e w' ⟨rfl, rfl⟩; clear hm m1) | (go_at_call 71; refine H1.out.mono ?_; rintro e w' ⟨rfl, rfl⟩; have m1 : Kpt True := ⟨trivial⟩))
    go_ret
    exact ⟨rfl, rfl⟩
end Go.Proofs.Ytklboieemljmiaa
