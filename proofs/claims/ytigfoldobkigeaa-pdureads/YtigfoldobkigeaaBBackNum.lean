/-
  Plain facts for what was laid and is read again: no program is looked at here.
-/
import Derived.Test.YtigfoldobkigeaaBPutNum
namespace Go.Proofs.Ytigfoldobkigeaa.B

theorem num_asc (Z : List Int) (i k : Nat) (x : Int) (hi : i + k ≤ Z.length) (h0 : 0 ≤ x) (h1 : x < 2 ^ (8 * k)) : ∀ j, j ≤ k → num (asc Z i k x k) i j = x / 2 ^ (8 * (k - j))
  | 0, _ => by rw [num, Nat.sub_zero, Int.ediv_eq_zero_of_lt h0 h1]
  | j + 1, hj => by
    have ih := num_asc Z i k x hi h0 h1 j (by omega)
    rw [num, ih, List.getD_eq_getElem?_getD, asc_get Z i k x hi k (Nat.le_refl _), if_pos (by omega), Option.getD_some, Nat.add_sub_cancel_left]
    have e1 := div_step x (k - 1 - j)
    rw [show k - 1 - j + 1 = k - j by omega] at e1
    rw [← e1, show k - (j + 1) = k - 1 - j by omega]
    omega

theorem num_back (Z : List Int) (i k : Nat) (x : Int) (hi : i + k ≤ Z.length) (h0 : 0 ≤ x) (h1 : x < 2 ^ (8 * k)) : num (asc Z i k x k) i k = x := by
  rw [num_asc Z i k x hi h0 h1 k (Nat.le_refl _)]; simp

theorem asc_take (Z : List Int) (i k : Nat) (x : Int) (hi : i + k ≤ Z.length) : (asc Z i k x k).take i = Z.take i := by
  apply List.ext_getElem?
  intro j
  rw [List.getElem?_take, List.getElem?_take, asc_get Z i k x hi k (Nat.le_refl _)]
  by_cases h : j < i
  · rw [if_pos h, if_pos h, if_neg (by omega)]
  · rw [if_neg h, if_neg h]

theorem asc_drop (Z : List Int) (i k : Nat) (x : Int) (hi : i + k ≤ Z.length) : (asc Z i k x k).drop (i + k) = Z.drop (i + k) := by
  apply List.ext_getElem?
  intro j
  rw [List.getElem?_drop, List.getElem?_drop, asc_get Z i k x hi k (Nat.le_refl _), if_neg (by omega)]

theorem fits (x : Int) (k : Nat) (h0 : 0 ≤ x) (h1 : x < 2 ^ (8 * k)) : (x / 2 ^ (8 * k) != 0) = false := by
  rw [Int.ediv_eq_zero_of_lt h0 h1]; rfl

theorem pow_wrap (k : Nat) (hk : k < 8) : IntKind.u64.wrap (2 ^ (8 * k)) = 2 ^ (8 * k) := by
  have h : k = 0 ∨ k = 1 ∨ k = 2 ∨ k = 3 ∨ k = 4 ∨ k = 5 ∨ k = 6 ∨ k = 7 := by omega
  rcases h with rfl | rfl | rfl | rfl | rfl | rfl | rfl | rfl <;> decide

end Go.Proofs.Ytigfoldobkigeaa.B
