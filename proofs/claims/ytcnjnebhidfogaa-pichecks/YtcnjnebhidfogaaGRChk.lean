/-
  The document's Check, whole.
-/
import Derived.Test.YtcnjnebhidfogaaGRChkA
import Derived.Test.YtcnjnebhidfogaaGRChkB
import Derived.Test.YtcnjnebhidfogaaGRChkC
namespace Go.Proofs.Ytcnjnebhidfogaa
open Go.RowKit
set_option linter.unusedVariables false
set_option linter.unusedSimpArgs false

theorem rcheck_any (k p lba : Int) (b : Bk) (w : World) (hb : b.ok) (h0 : 0 ≤ k) (h1 : k ≤ 255) (p0 : 0 ≤ p) (p1 : p ≤ 255) (l0 : 0 ≤ lba) (l1 : lba ≤ 18446744073709551615) :
    Calls Try.prog 12 #[.int .i64 k, .int .i64 p, .int .u64 lba, .agg b.vals] w fun e w' => e = .returned (.int .i64 (checkC k p lba b)) ∧ Below w.heap.size w w' := by
  by_cases c1 : k < 1
  · rw [show checkC k p lba b = 0 from by unfold checkC; rw [if_pos (by omega)]]
    exact rcheck_1 k p lba b w hb h0 h1 p0 p1 l0 l1 c1
  by_cases c2 : 3 < k
  · rw [show checkC k p lba b = 0 from by unfold checkC; rw [if_pos (by omega)]]
    exact rcheck_2 k p lba b w hb h0 h1 p0 p1 l0 l1 c1 c2
  by_cases c3 : p = 3
  · rw [show checkC k p lba b = 0 from by unfold checkC; rw [if_pos (by omega)]]
    exact rcheck_3 k p lba b w hb h0 h1 p0 p1 l0 l1 c1 c2 (by simpa using c3)
  have d3 : (p == 3) = false := by simpa using c3
  by_cases c4 : 4 < p
  · rw [show checkC k p lba b = 0 from by unfold checkC; rw [if_pos (by omega)]]
    exact rcheck_4 k p lba b w hb h0 h1 p0 p1 l0 l1 c1 c2 d3 c4
  have dA : ¬ (k < 1 ∨ 3 < k ∨ p = 3 ∨ 4 < p) := by omega
  by_cases c6 : b.a = 65535
  · have d6 : (b.a == 65535) = true := by simpa using c6
    by_cases c7 : k = 3
    · have d7 : (k != 3) = false := by simpa using c7
      have hh : hasB k = false := by subst c7; rfl
      by_cases c8 : b.r = 4294967295
      · rw [show checkC k p lba b = 0 from by unfold checkC passB; rw [if_neg dA, if_pos (by simp [c6, c8])]]
        exact rcheck_6 k p lba b w hb h0 h1 p0 p1 l0 l1 c1 c2 d3 c4 d6 d7 (by simpa using c8)
      · have d8 : (b.r == 4294967295) = false := by simpa using c8
        have dP : ¬ passB k b.a b.r = true := by simp [passB, c7, c8]
        have dL : ¬ (p ≠ 4 ∧ hasB k = true ∧ b.r ≠ lba % 4294967296) := by simp [hh]
        by_cases e2 : p = 2
        · rw [show checkC k p lba b = 0 from by unfold checkC; rw [if_neg dA, if_neg dP, if_neg (by simp [e2]), if_neg dL]]
          exact rcheck_yC2 k p lba b w hb h0 h1 p0 p1 l0 l1 c1 c2 d3 c4 d6 d7 d8 (by simpa using e2) (by subst e2; rfl)
        · have f2 : (p != 2) = true := by simpa using e2
          by_cases eg : b.g = (reg16 0 b.d : Int)
          · have fg : (b.g == (reg16 0 b.d : Int)) = true := by simpa using eg
            rw [show checkC k p lba b = 0 from by unfold checkC; rw [if_neg dA, if_neg dP, if_neg (by simp [eg]), if_neg dL]]
            by_cases e4 : p = 4
            · exact rcheck_yB1 k p lba b w hb h0 h1 p0 p1 l0 l1 c1 c2 d3 c4 d6 d7 d8 f2 fg (by simpa using e4)
            · exact rcheck_yB2 k p lba b w hb h0 h1 p0 p1 l0 l1 c1 c2 d3 c4 d6 d7 d8 f2 fg (by simpa using e4)
          · rw [show checkC k p lba b = 4097 from by unfold checkC; rw [if_neg dA, if_neg dP, if_pos ⟨e2, eg⟩]]
            exact rcheck_yA k p lba b w hb h0 h1 p0 p1 l0 l1 c1 c2 d3 c4 d6 d7 d8 f2 (by simpa using eg)
    · rw [show checkC k p lba b = 0 from by unfold checkC passB; rw [if_neg dA, if_pos (by simp [c6, c7])]]
      exact rcheck_5 k p lba b w hb h0 h1 p0 p1 l0 l1 c1 c2 d3 c4 d6 (by simpa using c7)
  · have d6 : (b.a == 65535) = false := by simpa using c6
    have dP : ¬ passB k b.a b.r = true := by simp [passB, c6]
    by_cases e2 : p = 2
    · have f2 : (p != 2) = false := by simpa using e2
      have f4 : (p != 4) = true := by subst e2; rfl
      have dG : ¬ (p ≠ 2 ∧ b.g ≠ (reg16 0 b.d : Int)) := by simp [e2]
      by_cases c7 : k = 3
      · have hh : hasB k = false := by subst c7; rfl
        rw [show checkC k p lba b = 0 from by unfold checkC; rw [if_neg dA, if_neg dP, if_neg dG, if_neg (by simp [hh])]]
        exact rcheck_xC2 k p lba b w hb h0 h1 p0 p1 l0 l1 c1 c2 d3 c4 d6 f2 f4 (by simpa using c7)
      · have d7 : (k != 3) = true := by simpa using c7
        have hh : hasB k = true := by unfold hasB; rw [decide_eq_true (by omega)]
        by_cases er : b.r = lba % 4294967296
        · rw [show checkC k p lba b = 0 from by unfold checkC; rw [if_neg dA, if_neg dP, if_neg dG, if_neg (by simp [er])]]
          exact rcheck_xC4 k p lba b w hb h0 h1 p0 p1 l0 l1 c1 c2 d3 c4 d6 f2 f4 d7 (by simpa using er)
        · rw [show checkC k p lba b = 4099 from by unfold checkC; rw [if_neg dA, if_neg dP, if_neg dG, if_pos ⟨by omega, hh, er⟩]]
          exact rcheck_xC3 k p lba b w hb h0 h1 p0 p1 l0 l1 c1 c2 d3 c4 d6 f2 f4 d7 (by simpa using er)
    · have f2 : (p != 2) = true := by simpa using e2
      by_cases eg : b.g = (reg16 0 b.d : Int)
      · have fg : (b.g == (reg16 0 b.d : Int)) = true := by simpa using eg
        have dG : ¬ (p ≠ 2 ∧ b.g ≠ (reg16 0 b.d : Int)) := by simp [eg]
        by_cases e4 : p = 4
        · rw [show checkC k p lba b = 0 from by unfold checkC; rw [if_neg dA, if_neg dP, if_neg dG, if_neg (by simp [e4])]]
          exact rcheck_xB1 k p lba b w hb h0 h1 p0 p1 l0 l1 c1 c2 d3 c4 d6 f2 fg (by simpa using e4)
        have f4 : (p != 4) = true := by simpa using e4
        by_cases c7 : k = 3
        · have hh : hasB k = false := by subst c7; rfl
          rw [show checkC k p lba b = 0 from by unfold checkC; rw [if_neg dA, if_neg dP, if_neg dG, if_neg (by simp [hh])]]
          exact rcheck_xB2 k p lba b w hb h0 h1 p0 p1 l0 l1 c1 c2 d3 c4 d6 f2 fg f4 (by simpa using c7)
        · have d7 : (k != 3) = true := by simpa using c7
          have hh : hasB k = true := by unfold hasB; rw [decide_eq_true (by omega)]
          by_cases er : b.r = lba % 4294967296
          · rw [show checkC k p lba b = 0 from by unfold checkC; rw [if_neg dA, if_neg dP, if_neg dG, if_neg (by simp [er])]]
            exact rcheck_xB4 k p lba b w hb h0 h1 p0 p1 l0 l1 c1 c2 d3 c4 d6 f2 fg f4 d7 (by simpa using er)
          · rw [show checkC k p lba b = 4099 from by unfold checkC; rw [if_neg dA, if_neg dP, if_neg dG, if_pos ⟨e4, hh, er⟩]]
            exact rcheck_xB3 k p lba b w hb h0 h1 p0 p1 l0 l1 c1 c2 d3 c4 d6 f2 fg f4 d7 (by simpa using er)
      · rw [show checkC k p lba b = 4097 from by unfold checkC; rw [if_neg dA, if_neg dP, if_pos ⟨e2, eg⟩]]
        exact rcheck_xA k p lba b w hb h0 h1 p0 p1 l0 l1 c1 c2 d3 c4 d6 f2 (by simpa using eg)
end Go.Proofs.Ytcnjnebhidfogaa
