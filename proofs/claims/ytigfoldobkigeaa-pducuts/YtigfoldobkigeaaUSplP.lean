/-
  pdu: bytes that were spoiled; plain facts.
-/
import Derived.Test.YtigfoldobkigeaaUEncP
namespace Go.Proofs.Ytigfoldobkigeaa
open Go.RowKit
set_option linter.unusedVariables false
set_option linter.unusedSimpArgs false

theorem num_inj (Z Y : List Int) (hZ : Bytes Z) (hY : Bytes Y) (i : Nat) : ∀ n, B.num Z i n = B.num Y i n → ∀ k, k < n → Z.getD (i + k) 0 = Y.getD (i + k) 0
  | 0, _, k, hk => absurd hk (by omega)
  | n + 1, h, k, hk => by
    rw [B.num, B.num] at h
    have h1 := hZ (i + n)
    have h2 := hY (i + n)
    have e1 : B.num Z i n = B.num Y i n := by omega
    by_cases hkn : k = n
    · subst hkn; omega
    · exact num_inj Z Y hZ hY i n e1 k (by omega)
theorem set_bytes {Z : List Int} (hZ : Bytes Z) (i : Nat) (y : Int) (hy : 0 ≤ y ∧ y ≤ 255) : Bytes (Z.set i y) := by
  intro j
  rw [List.getD_eq_getElem?_getD, List.getElem?_set]
  split
  · split
    · simpa using hy
    · simp
  · rw [← List.getD_eq_getElem?_getD]; exact hZ j
theorem set_getD_ne (Z : List Int) (i j : Nat) (y : Int) (h : i ≠ j) : (Z.set i y).getD j 0 = Z.getD j 0 := by
  rw [List.getD_eq_getElem?_getD, List.getElem?_set_ne h, ← List.getD_eq_getElem?_getD]
theorem num_set_out (Z : List Int) (i j k : Nat) (y : Int) (h : i < j ∨ j + k ≤ i) : B.num (Z.set i y) j k = B.num Z j k :=
  num_cong _ _ j k (fun q hq => set_getD_ne Z i (j + q) y (by omega))
theorem num_set_in (Z : List Int) (hZ : Bytes Z) (i j k : Nat) (y : Int) (hy : 0 ≤ y ∧ y ≤ 255) (hi : i < Z.length) (hne : Z.getD i 0 ≠ y) (h1 : j ≤ i) (h2 : i < j + k) : B.num (Z.set i y) j k ≠ B.num Z j k := fun he => by
  have := num_inj _ _ (set_bytes hZ i y hy) hZ j k he (i - j) (by omega)
  rw [show j + (i - j) = i by omega, List.getD_eq_getElem?_getD, List.getElem?_set_self hi] at this
  exact hne this.symm
theorem sum_set (Z : List Int) (hZ : Bytes Z) (i : Nat) (y : Int) (hy : 0 ≤ y ∧ y ≤ 255) (hi : i < Z.length) (hne : Z.getD i 0 ≠ y) : sumL (Z.set i y) ≠ sumL Z := fun he => by
  have h0 := hZ i
  obtain ⟨n, rfl⟩ := Int.eq_ofNat_of_zero_le hy.1
  have t := tells32 Z hZ.mem i hi n (by omega) (by omega) 4294967295 (by omega)
  have r1 := reg32_lt Z hZ.mem 4294967295 (by omega)
  have r2 := reg32_lt (Z.set i (n : Int)) (set_bytes hZ i n hy).mem 4294967295 (by omega)
  unfold sumL at he
  omega

theorem dec_spoil (p : Pd) (hp : p.ok) (hl : p.d.length ≤ 8192) (i : Nat) (y : Int) (hy : 0 ≤ y ∧ y ≤ 255) (hi : i < (encL p true true).length) (hne : (encL p true true).getD i 0 ≠ y) : decE ((encL p true true).set i y) true true = 5 := by
  have hel := encL_len p hp true true
  have hXb := encL_bytes p hp true true
  have e0 := enc_take p hp true true []
  have e1 := enc_sum p hp true []
  have e2 := enc_drop p hp true true []
  rw [List.append_nil] at e0 e1 e2
  obtain ⟨X, hX⟩ : ∃ X, X = encL p true true := ⟨_, rfl⟩
  rw [← hX] at hi hne hel hXb e0 e1 e2 ⊢
  have hs4 : sz true = 4 := rfl
  rw [hs4] at hel e2
  have hhl := headL_len p hp.len
  have hYl : (X.set i y).length = X.length := List.length_set
  by_cases h1 : i < 52
  · unfold decE
    rw [if_neg (by rw [hYl, hs4]; omega), if_pos]
    refine ⟨rfl, ?_⟩
    rw [List.take_set, e0]
    by_cases h2 : i < 48
    · rw [num_set_out X i 48 4 y (by omega), e1]
      have hg : (headL p).getD i 0 ≠ y := by
        rw [← e0, List.getD_eq_getElem?_getD, List.getElem?_take_of_lt h2, ← List.getD_eq_getElem?_getD]
        exact hne
      have := sum_set (headL p) (headL_bytes hp) i y hy (by omega) hg
      omega
    · rw [show (headL p).set i y = headL p from List.set_eq_of_length_le (by omega), ← e1]
      exact num_set_in X hXb i 48 4 y hy hi hne (by omega) (by omega)
  · have hM : 0 < (bodyL p.d).length := by
      by_cases h0 : 0 < (bodyL p.d).length
      · exact h0
      · have : (bodyL p.d).length = 0 := by omega
        rw [this] at hel
        simp [s2B, sz] at hel
        omega
    have hs2 : s2B true (bodyL p.d).length = true := by simp [s2B, hM]
    rw [hs2, hs4] at hel
    rw [hs2] at e2
    rw [dec_headed p hp hl _ true true (by rw [hYl, hs4]; omega) (by rw [List.take_set, List.set_eq_of_length_le (by rw [List.length_take]; omega), e0]) (fun _ => by rw [num_set_out X i 48 4 y (by omega), e1])]
    rw [hs2, hs4, if_neg (by rw [hYl]; omega), if_pos]
    refine ⟨rfl, ?_⟩
    have hd : (X.set i y).drop (48 + 4) = (X.drop (48 + 4)).set (i - 52) y := by
      rw [List.drop_set, if_neg (by omega)]
    have hR : X.drop (48 + 4) = bodyL p.d ++ bigL (sumL (bodyL p.d)) 4 := by rw [e2]; simp [sumS]
    have hRb : Bytes (X.drop (48 + 4)) := Bytes.drop hXb _
    have hRl : (X.drop (48 + 4)).length = (bodyL p.d).length + 4 := by rw [List.length_drop]; omega
    have hRn : B.num (X.drop (48 + 4)) (bodyL p.d).length 4 = (sumL (bodyL p.d) : Int) := num_mid (bodyL p.d) [] _ 4 (by rw [hR]; simp) _ rfl (by omega) (by have := sumL_lt (bodyL p.d); omega)
    have hRt : (X.drop (48 + 4)).take (bodyL p.d).length = bodyL p.d := by rw [hR, List.take_append_of_le_length (Nat.le_refl _), List.take_of_length_le (Nat.le_refl _)]
    have hRg : (X.drop (48 + 4)).getD (i - 52) 0 ≠ y := by
      rw [List.getD_eq_getElem?_getD, List.getElem?_drop, show 48 + 4 + (i - 52) = i by omega, ← List.getD_eq_getElem?_getD]
      exact hne
    rw [hd, List.take_set, hRt]
    by_cases h2 : i - 52 < (bodyL p.d).length
    · rw [num_set_out _ (i - 52) _ 4 y (by omega), hRn]
      have hg : (bodyL p.d).getD (i - 52) 0 ≠ y := by
        rw [← hRt, List.getD_eq_getElem?_getD, List.getElem?_take_of_lt h2, ← List.getD_eq_getElem?_getD]
        exact hRg
      have := sum_set (bodyL p.d) (bodyL_bytes hp.d) (i - 52) y hy h2 hg
      omega
    · rw [show (bodyL p.d).set (i - 52) y = bodyL p.d from List.set_eq_of_length_le (by omega), ← hRn]
      exact num_set_in _ hRb (i - 52) _ 4 y hy (by omega) hRg (by omega) (by omega)
end Go.Proofs.Ytigfoldobkigeaa
