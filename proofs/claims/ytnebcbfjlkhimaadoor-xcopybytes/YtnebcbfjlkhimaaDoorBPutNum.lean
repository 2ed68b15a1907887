/-
  Plain facts on a number that is laid in bytes, from the left or from the right: no program is looked at here.
-/
import Derived.Test.YtnebcbfjlkhimaaDoorBNum
namespace Go.Proofs.YtnebcbfjlkhimaaDoor.B

/-- The list with the number's first k bytes laid in. -/
def asc (Z : List Int) (i n : Nat) (v : Int) : Nat → List Int
  | 0 => Z
  | k + 1 => (asc Z i n v k).set (i + k) (v / 2 ^ (8 * (n - 1 - k)) % 256)

/-- The list with the number's last m bytes laid in. -/
def desc (Z : List Int) (i n : Nat) (v : Int) : Nat → List Int
  | 0 => Z
  | m + 1 => (desc Z i n v m).set (i + (n - 1 - m)) (v / 2 ^ (8 * m) % 256)

theorem asc_len (Z : List Int) (i n : Nat) (v : Int) : ∀ k, (asc Z i n v k).length = Z.length
  | 0 => rfl
  | k + 1 => by simp [asc, asc_len Z i n v k]

theorem desc_len (Z : List Int) (i n : Nat) (v : Int) : ∀ k, (desc Z i n v k).length = Z.length
  | 0 => rfl
  | k + 1 => by simp [desc, desc_len Z i n v k]

theorem asc_get (Z : List Int) (i n : Nat) (v : Int) (hi : i + n ≤ Z.length) : ∀ k, k ≤ n → ∀ j, (asc Z i n v k)[j]? = if i ≤ j ∧ j < i + k then some (v / 2 ^ (8 * (n - 1 - (j - i))) % 256) else Z[j]?
  | 0, _, j => by simp [asc]; omega
  | k + 1, hk, j => by
    have ih := asc_get Z i n v hi k (by omega) j
    rw [asc, List.getElem?_set]
    by_cases h1 : i + k = j
    · subst h1
      rw [if_pos rfl, if_pos (by rw [asc_len]; omega), if_pos (by omega), Nat.add_sub_cancel_left]
    · rw [if_neg h1, ih]
      by_cases h2 : i ≤ j ∧ j < i + k
      · rw [if_pos h2, if_pos (by omega)]
      · rw [if_neg h2, if_neg (by omega)]

theorem desc_get (Z : List Int) (i n : Nat) (v : Int) (hi : i + n ≤ Z.length) : ∀ m, m ≤ n → ∀ j, (desc Z i n v m)[j]? = if i + (n - m) ≤ j ∧ j < i + n then some (v / 2 ^ (8 * (n - 1 - (j - i))) % 256) else Z[j]?
  | 0, _, j => by simp [desc]; omega
  | m + 1, hm, j => by
    have ih := desc_get Z i n v hi m (by omega) j
    rw [desc, List.getElem?_set]
    by_cases h1 : i + (n - 1 - m) = j
    · subst h1
      rw [if_pos rfl, if_pos (by rw [desc_len]; omega), if_pos (by omega), Nat.add_sub_cancel_left, show n - 1 - (n - 1 - m) = m by omega]
    · rw [if_neg h1, ih]
      by_cases h2 : i + (n - m) ≤ j ∧ j < i + n
      · rw [if_pos h2, if_pos (by omega)]
      · rw [if_neg h2, if_neg (by omega)]

theorem desc_asc (Z : List Int) (i n : Nat) (v : Int) (hi : i + n ≤ Z.length) : desc Z i n v n = asc Z i n v n := by
  apply List.ext_getElem?
  intro j
  rw [desc_get Z i n v hi n (Nat.le_refl _), asc_get Z i n v hi n (Nat.le_refl _)]
  by_cases h : i ≤ j ∧ j < i + n
  · rw [if_pos (by omega), if_pos h]
  · rw [if_neg (by omega), if_neg h]

/-- One byte more is taken off. -/
theorem div_step (v : Int) (k : Nat) : v / 2 ^ (8 * k) / 256 = v / 2 ^ (8 * (k + 1)) := by
  rw [Int.ediv_ediv_of_nonneg (by exact Int.le_of_lt (Int.pow_pos (by decide)))]
  congr 1
  rw [show 8 * (k + 1) = 8 * k + 8 by omega, Int.pow_add]
  rfl

theorem div_nonneg (v : Int) (h : 0 ≤ v) (k : Nat) : 0 ≤ v / 2 ^ (8 * k) :=
  Int.ediv_nonneg h (Int.le_of_lt (Int.pow_pos (by decide)))

theorem div_le (v : Int) (h : 0 ≤ v) (k : Nat) : v / 2 ^ (8 * k) ≤ v :=
  Int.ediv_le_self _ h

/-- A round of the document's division. -/
theorem quo_step (v : Int) (h0 : 0 ≤ v) (h1 : v < 18446744073709551616) (k : Nat) : IntKind.u64.wrap ((v / 2 ^ (8 * k)).tdiv 256) = v / 2 ^ (8 * (k + 1)) := by
  have a := div_nonneg v h0 k
  have b := div_le v h0 (k + 1)
  have c := div_nonneg v h0 (k + 1)
  rw [Int.tdiv_eq_ediv_of_nonneg a, div_step, wrap64_id _ c (by omega)]

theorem bytes_asc (Z : List Int) (hb : Bytes Z) (i n : Nat) (v : Int) (hi : i + n ≤ Z.length) (k : Nat) (hk : k ≤ n) : Bytes (asc Z i n v k) := by
  intro j
  rw [List.getD_eq_getElem?_getD, asc_get Z i n v hi k hk]
  by_cases h : i ≤ j ∧ j < i + k
  · rw [if_pos h]
    simp only [Option.getD_some]
    omega
  · rw [if_neg h, ← List.getD_eq_getElem?_getD]
    exact hb j

end Go.Proofs.YtnebcbfjlkhimaaDoor.B
