/-
  Plain facts on the first bit that a mask has not: no program is looked at here.
-/
import Derived.Test.YtigfoldobkigeaaBNum
namespace Go.Proofs.Ytigfoldobkigeaa.B

/-- What a byte has that the mask's byte of that place hasn't. -/
def ext (zs ms : List Int) (lenm i : Nat) : Int :=
  if i < lenm then bits .andNot .u8 (zs.getD i 0) (ms.getD i 0) else zs.getD i 0

/-- The first place from i on, of so many, that has something, and its highest bit. -/
def oddFrom (x : Nat → Int) : Nat → Nat → Int × Int
  | 0, _ => (-1, -1)
  | f + 1, i => if x i = 0 then oddFrom x f (i + 1) else ((i : Int), ((x i).toNat.log2 : Int))

theorem oddFrom_skip (x : Nat → Int) (f i : Nat) (h : x i = 0) : oddFrom x (f + 1) i = oddFrom x f (i + 1) := by
  simp [oddFrom, h]

theorem oddFrom_hit (x : Nat → Int) (f i : Nat) (h : ¬ x i = 0) : oddFrom x (f + 1) i = ((i : Int), ((x i).toNat.log2 : Int)) := by
  simp [oddFrom, h]

theorem ext_nat (zs ms : List Int) (hz : Bytes zs) (hm : Bytes ms) (lenm i : Nat) :
    ext zs ms lenm i = (((zs.getD i 0).toNat &&& (255 - (if i < lenm then (ms.getD i 0).toNat else 0)) : Nat) : Int) := by
  have h1 := hz i
  have h2 := hm i
  unfold ext
  by_cases h : i < lenm
  · rw [if_pos h, if_pos h, u8_andNot _ _ (by omega) (by omega) (by omega) (by omega)]
  · rw [if_neg h, if_neg h]
    have e : (zs.getD i 0).toNat &&& (255 - 0) = (zs.getD i 0).toNat % 2 ^ 8 := Nat.and_two_pow_sub_one_eq_mod _ 8
    rw [e]
    omega

theorem ext_bd (zs ms : List Int) (hz : Bytes zs) (hm : Bytes ms) (lenm i : Nat) : 0 ≤ ext zs ms lenm i ∧ ext zs ms lenm i ≤ 255 := by
  rw [ext_nat zs ms hz hm]
  have h1 := hz i
  have : (zs.getD i 0).toNat &&& (255 - (if i < lenm then (ms.getD i 0).toNat else 0)) ≤ (zs.getD i 0).toNat := Nat.and_le_left
  omega

theorem testBit_ext (p m b : Nat) (hm : m < 256) (hb : b < 8) : (p &&& (255 - m)).testBit b = (p.testBit b && !m.testBit b) := by
  rw [Nat.testBit_and]
  have e : 255 - m = 2 ^ 8 - (m + 1) := by omega
  rw [e, Nat.testBit_two_pow_sub_succ (by omega)]
  simp [hb]

theorem and_two_pow_eq (p b : Nat) (h : p.testBit b = false) : p &&& 2 ^ b = 0 := by
  apply Nat.eq_of_testBit_eq
  intro i
  rw [Nat.testBit_and, Nat.testBit_two_pow, Nat.zero_testBit]
  by_cases h2 : b = i
  · subst h2; simp [h]
  · simp [h2]

theorem and_two_pow_ne (p b : Nat) (h : p.testBit b = true) : p &&& 2 ^ b ≠ 0 := by
  intro h0
  have h1 : (p &&& 2 ^ b).testBit b = true := by rw [Nat.testBit_and, Nat.testBit_two_pow]; simp [h]
  rw [h0] at h1
  simp at h1

theorem lt_of_no_bit (e b : Nat) (h : e < 2 ^ (b + 1)) (hb : e.testBit b = false) : e < 2 ^ b := by
  apply Nat.lt_pow_two_of_testBit
  intro i hi
  by_cases h2 : i = b
  · rw [h2]; exact hb
  · exact Nat.testBit_lt_two_pow (Nat.lt_of_lt_of_le h (Nat.pow_le_pow_right (by decide) (by omega)))

theorem log2_of_bit (e b : Nat) (h : e < 2 ^ (b + 1)) (hb : e.testBit b = true) : e.log2 = b := by
  have h2 : 2 ^ b ≤ e := Nat.ge_two_pow_of_testBit hb
  have h3 : e ≠ 0 := by
    have := Nat.two_pow_pos b
    omega
  have h4 := (Nat.log2_lt h3).2 h
  have h5 := (Nat.le_log2 h3).2 h2
  omega

theorem pow8 (d : Nat) (hd : d < 8) : ((2 : Int) ^ d % 256).toNat = 2 ^ d ∧ 0 ≤ (2 : Int) ^ d % 256 ∧ (2 : Int) ^ d % 256 < 256 := by
  have h : d = 0 ∨ d = 1 ∨ d = 2 ∨ d = 3 ∨ d = 4 ∨ d = 5 ∨ d = 6 ∨ d = 7 := by omega
  rcases h with rfl | rfl | rfl | rfl | rfl | rfl | rfl | rfl <;> decide

theorem bit_yes (z : Int) (h0 : 0 ≤ z) (h1 : z ≤ 255) (d : Nat) (hd : d < 8) (h : z.toNat.testBit d = true) :
    (bits BinOp.and IntKind.u8 z (2 ^ d % 256) != 0) = true ∧ (bits BinOp.and IntKind.u8 z (2 ^ d % 256) == 0) = false := by
  have hp := pow8 d hd
  have hn := and_two_pow_ne z.toNat d h
  rw [u8_and _ _ h0 (by omega) hp.2.1 hp.2.2, hp.1]
  simp only [bne_iff_ne, beq_eq_false_iff_ne]
  omega

theorem bit_no (z : Int) (h0 : 0 ≤ z) (h1 : z ≤ 255) (d : Nat) (hd : d < 8) (h : z.toNat.testBit d = false) :
    (bits BinOp.and IntKind.u8 z (2 ^ d % 256) != 0) = false ∧ (bits BinOp.and IntKind.u8 z (2 ^ d % 256) == 0) = true := by
  have hp := pow8 d hd
  have hn := and_two_pow_eq z.toNat d h
  rw [u8_and _ _ h0 (by omega) hp.2.1 hp.2.2, hp.1, hn]
  simp

/-- The bit d of what a byte has that the mask hasn't. -/
theorem ext_bit (zs ms : List Int) (hz : Bytes zs) (hm : Bytes ms) (lenm i d : Nat) (hd : d < 8) :
    (ext zs ms lenm i).toNat.testBit d = ((zs[i]?.getD 0).toNat.testBit d && !(if i < lenm then (ms[i]?.getD 0) else 0).toNat.testBit d) := by
  rw [ext_nat zs ms hz hm]
  have h2 := hm i
  rw [Int.toNat_natCast, testBit_ext _ _ _ (by split <;> omega) hd, List.getD_eq_getElem?_getD, List.getD_eq_getElem?_getD]
  by_cases h : i < lenm
  · simp [h]
  · simp [h]

end Go.Proofs.Ytigfoldobkigeaa.B
