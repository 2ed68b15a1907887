/-
  Slots: a slot with one byte turned, but for its length, is no slot.
-/
import Derived.Test.YtndlpmnidpandaaLAwk
namespace Go.Proofs.Ytndlpmnidpandaa
open Go.RowKit
set_option linter.unusedVariables false
set_option linter.unusedSimpArgs false

theorem getD_set_ne' (R : List Int) (i j : Nat) (y : Int) (h : j ≠ i) : (R.set i y).getD j 0 = R.getD j 0 := by
  simp [List.getD_eq_getElem?_getD, List.getElem?_set, Ne.symm h]
theorem getD_set_at (R : List Int) (i : Nat) (y : Int) (h : i < R.length) : (R.set i y).getD i 0 = y := by
  simp [List.getD_eq_getElem?_getD, List.getElem?_set, h]
theorem num4 (Z : List Int) (i : Nat) : B.num Z i 4 = ((Z.getD i 0 * 256 + Z.getD (i + 1) 0) * 256 + Z.getD (i + 2) 0) * 256 + Z.getD (i + 3) 0 := by
  simp only [B.num, Nat.add_zero]; omega

theorem spoiled (gen : Int) (zs : List Int) (hb : Bytes zs) (hz : zs.length ≤ 4096) (i y : Nat) (hi : i < 20 + zs.length) (hni : i < 12 ∨ 16 ≤ i) (hy : y < 256) (hne : ((recL gen zs).getD i 0).toNat ≠ y) : decO ((recL gen zs).set i (y : Int)) = none := by
  have hl := recL_len gen zs
  have hRb := recL_bytes gen zs hb
  have ml := more_len gen zs [] hz
  have mm := more_mark gen zs []
  have ms := more_sum gen zs []
  rw [List.append_nil] at ml mm ms
  obtain ⟨R, hR⟩ : ∃ R, R = recL gen zs := ⟨_, rfl⟩
  rw [← hR] at hl hRb ml mm ms hne ⊢
  have hn : B.num (R.set i (y : Int)) 12 4 = (zs.length : Int) := by
    rw [← ml, num4, num4, getD_set_ne' _ _ _ _ (by omega), getD_set_ne' _ _ _ _ (by omega), getD_set_ne' _ _ _ _ (by omega), getD_set_ne' _ _ _ _ (by omega)]
  unfold decO
  rw [if_neg]
  rintro ⟨-, h2, -, -, h5⟩
  have hnt : (B.num (R.set i (y : Int)) 12 4).toNat = zs.length := by rw [hn]; omega
  rw [hnt] at h5
  by_cases c1 : i < 4
  · have e1 : (R.set i (y : Int)).take 4 = R.take 4 := h2.trans mm.symm
    have e2 := congrArg (fun l => l[i]?) e1
    simp only [List.getElem?_take, if_pos c1, List.getElem?_set_self (by omega : i < R.length)] at e2
    apply hne
    rw [List.getD_eq_getElem?_getD, ← e2]
    simp
  · by_cases c2 : i < 16 + zs.length
    · rw [num4, getD_set_ne' _ _ _ _ (by omega), getD_set_ne' _ _ _ _ (by omega), getD_set_ne' _ _ _ _ (by omega), getD_set_ne' _ _ _ _ (by omega), ← num4, ms, List.take_set] at h5
      have hFb : ∀ z ∈ R.take (16 + zs.length), 0 ≤ z ∧ z ≤ 255 := fun z hzm => hRb.mem z (List.mem_of_mem_take hzm)
      have hFl : (R.take (16 + zs.length)).length = 16 + zs.length := by rw [List.length_take]; omega
      have hge : (R.take (16 + zs.length)).getD i 0 = R.getD i 0 := by simp [List.getD_eq_getElem?_getD, List.getElem?_take, c2]
      have ht := tells32 (R.take (16 + zs.length)) hFb i (by omega) y hy (by rw [hge]; exact hne) 4294967295 (by omega)
      apply ht
      have l1 := reg32_lt (R.take (16 + zs.length)) hFb 4294967295 (by omega)
      have l2 := reg32_lt ((R.take (16 + zs.length)).set i (y : Int)) (fun z hzm => by
        rcases List.mem_or_eq_of_mem_set hzm with h | h
        · exact hFb z h
        · omega) 4294967295 (by omega)
      unfold sumL at h5
      omega
    · have hfr : (R.set i (y : Int)).take (16 + zs.length) = R.take (16 + zs.length) := by
        rw [List.take_set]
        exact List.set_eq_of_length_le (by rw [List.length_take]; omega)
      rw [hfr, ← ms, num4, num4] at h5
      have hSb : Bytes (R.set i (y : Int)) := bytes_mem (fun z hzm => by
        rcases List.mem_or_eq_of_mem_set hzm with h | h
        · have := hRb.mem z h; omega
        · omega)
      have b0 := hRb (16 + zs.length)
      have b1 := hRb (16 + zs.length + 1)
      have b2 := hRb (16 + zs.length + 2)
      have b3 := hRb (16 + zs.length + 3)
      have s0 := hSb (16 + zs.length)
      have s1 := hSb (16 + zs.length + 1)
      have s2 := hSb (16 + zs.length + 2)
      have s3 := hSb (16 + zs.length + 3)
      have hat := getD_set_at R i (y : Int) (by omega)
      have q0 : (R.set i (y : Int)).getD (16 + zs.length) 0 = R.getD (16 + zs.length) 0 := by omega
      have q1 : (R.set i (y : Int)).getD (16 + zs.length + 1) 0 = R.getD (16 + zs.length + 1) 0 := by omega
      have q2 : (R.set i (y : Int)).getD (16 + zs.length + 2) 0 = R.getD (16 + zs.length + 2) 0 := by omega
      have q3 : (R.set i (y : Int)).getD (16 + zs.length + 3) 0 = R.getD (16 + zs.length + 3) 0 := by omega
      have hq : R.getD i 0 = (y : Int) := by
        rcases (show i = 16 + zs.length ∨ i = 16 + zs.length + 1 ∨ i = 16 + zs.length + 2 ∨ i = 16 + zs.length + 3 by omega) with e | e | e | e
        · rw [← e] at q0; rw [← q0]; exact hat
        · rw [← e] at q1; rw [← q1]; exact hat
        · rw [← e] at q2; rw [← q2]; exact hat
        · rw [← e] at q3; rw [← q3]; exact hat
      apply hne
      rw [hq]
      simp

theorem laid_one (R : List Int) (i : Nat) (x : Int) (hi : i < R.length) : laidL R i [x] = R.set i x := by
  unfold laidL over
  have e0 : i + [x].length - R.length = 0 := by simp; omega
  rw [e0, List.replicate_zero, List.append_nil, List.set_eq_take_append_cons_drop, if_pos hi]
  simp
theorem slot_spoiled (gen : Int) (zs : List Int) (hb : Bytes zs) (hz : zs.length ≤ 4096) (i y : Nat) (hi : i < 20 + zs.length) (hni : i < 12 ∨ 16 ≤ i) (hy : y < 256) (hne : ((recL gen zs).getD i 0).toNat ≠ y) : slotOf (some (laidL (recL gen zs) i [(y : Int)])) = none := by
  have e : laidL (recL gen zs) i [(y : Int)] = (recL gen zs).set i (y : Int) := laid_one _ i _ (by rw [recL_len]; exact hi)
  rw [e]
  unfold slotOf
  rw [Option.bind_some, List.take_of_length_le (by rw [List.length_set, recL_len]; omega)]
  exact spoiled gen zs hb hz i y hi hni hy hne
theorem slot_whole (gen : Int) (zs : List Int) (h0 : 0 ≤ gen) (h1 : gen < 18446744073709551616) (hz : zs.length ≤ 4096) : slotOf (some (recL gen zs)) = some (gen, zs) := by
  have := slot_saved [] gen zs h0 h1 hz
  have e : laidL [] 0 (recL gen zs) = recL gen zs := by
    obtain ⟨q, hq, hm⟩ := laid_front [] (recL gen zs)
    rw [hq]
    cases q with
    | nil => simp
    | cons x r => exact absurd (hm x (by simp)) (by simp)
  rw [e] at this
  exact this
end Go.Proofs.Ytndlpmnidpandaa
