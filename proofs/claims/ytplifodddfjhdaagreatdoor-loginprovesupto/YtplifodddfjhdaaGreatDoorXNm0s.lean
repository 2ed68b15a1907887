/-
  text: numbers as texts.
-/
import Derived.Test.YtplifodddfjhdaaGreatDoorXIds
namespace Go.Proofs.YtplifodddfjhdaaGreatDoor
open Go.RowKit
set_option linter.unusedVariables false
set_option linter.unusedSimpArgs false

/-- What a digit says; 99: it is none. -/
def digC (c : Int) : Nat := if 48 ≤ c ∧ c ≤ 57 then (c - 48).toNat else if 97 ≤ c ∧ c ≤ 102 then (c - 87).toNat else if 65 ≤ c ∧ c ≤ 70 then (c - 55).toNat else 99
/-- Digits behind a number. -/
def numP (b : Nat) : Nat → List Int → Option Nat
  | n, [] => some n
  | n, c :: r => if b ≤ digC c ∨ 18446744073709551616 ≤ n * b + digC c then none else numP b (n * b + digC c) r
/-- The number that a text is. -/
def numS (zs : List Int) : Option Nat :=
  if 1 < zs.length ∧ zs.getD 0 0 = 48 then (if zs.getD 1 0 = 120 then (if zs.length = 2 then none else numP 16 0 (zs.drop 2)) else none)
  else if zs.length = 0 then none else numP 10 0 zs
def numV (o : Option Nat) : Int := ((o.getD 0 : Nat) : Int)

theorem numP_step {b n k : Nat} {zs : List Int} (hk : k < zs.length) : numP b n (zs.drop k) = if b ≤ digC (zs.getD k 0) ∨ 18446744073709551616 ≤ n * b + digC (zs.getD k 0) then none else numP b (n * b + digC (zs.getD k 0)) (zs.drop (k + 1)) := by
  rw [List.drop_eq_getElem_cons hk, numP, List.getD_eq_getElem?_getD, List.getElem?_eq_getElem hk]
  rfl
theorem numP_lt (b : Nat) : ∀ (l : List Int) (n v : Nat), n < 18446744073709551616 → numP b n l = some v → v < 18446744073709551616
  | [], n, v, hn, h => by simp only [numP, Option.some.injEq] at h; omega
  | c :: r, n, v, hn, h => by
    rw [numP] at h
    by_cases hc : b ≤ digC c ∨ 18446744073709551616 ≤ n * b + digC c
    · rw [if_pos hc] at h; cases h
    · rw [if_neg hc] at h; exact numP_lt b r _ v (by omega) h
theorem numS_lt (zs : List Int) (v : Nat) (h : numS zs = some v) : v < 18446744073709551616 := by
  unfold numS at h
  split at h
  · split at h
    · split at h
      · cases h
      · exact numP_lt _ _ _ _ (by omega) h
    · cases h
  · split at h
    · cases h
    · exact numP_lt _ _ _ _ (by omega) h

/-- A number in digits, with a bound on how many. -/
def decF : Nat → Nat → List Int
  | 0, n => [((48 + n : Nat) : Int)]
  | f + 1, n => if n < 10 then [((48 + n : Nat) : Int)] else decF f (n / 10) ++ [((48 + n % 10 : Nat) : Int)]
theorem decF_more : ∀ (f g n : Nat), n ≤ f → n ≤ g → decF f n = decF g n
  | 0, 0, n, _, _ => rfl
  | 0, g + 1, n, h, _ => by
    obtain rfl : n = 0 := by omega
    rw [decF, decF, if_pos (by omega)]
  | f + 1, 0, n, _, h => by
    obtain rfl : n = 0 := by omega
    rw [decF, decF, if_pos (by omega)]
  | f + 1, g + 1, n, h1, h2 => by
    rw [decF, decF]
    by_cases h : n < 10
    · rw [if_pos h, if_pos h]
    · rw [if_neg h, if_neg h, decF_more f g (n / 10) (by omega) (by omega)]
/-- A number in digits. -/
def decL (n : Nat) : List Int := decF n n
theorem decL_small {n : Nat} (h : n < 10) : decL n = [((48 + n : Nat) : Int)] := by
  unfold decL
  cases n with
  | zero => rfl
  | succ k => rw [decF, if_pos h]
theorem decL_great {n : Nat} (h : 10 ≤ n) : decL n = decL (n / 10) ++ [((48 + n % 10 : Nat) : Int)] := by
  unfold decL
  cases n with
  | zero => omega
  | succ k => rw [decF, if_neg (by omega), decF_more k ((k + 1) / 10) ((k + 1) / 10) (by omega) (Nat.le_refl _)]
theorem numP_app (b : Nat) : ∀ (l m : List Int) (n : Nat), numP b n (l ++ m) = (numP b n l).bind (fun v => numP b v m)
  | [], m, n => rfl
  | c :: r, m, n => by
    rw [List.cons_append, numP, numP]
    split
    · rfl
    · exact numP_app b r m _
theorem dig_of (d : Nat) (h : d < 10) : digC ((48 + d : Nat) : Int) = d := by
  unfold digC
  rw [if_pos (by omega)]
  omega
theorem numP_dec (n : Nat) (hn : n < 18446744073709551616) : numP 10 0 (decL n) = some n := by
  induction n using Nat.strongRecOn with
  | _ n ih =>
    by_cases h : n < 10
    · rw [decL_small h, numP, dig_of n h, if_neg (by omega), numP]
      simp
    · rw [decL_great (by omega), numP_app, ih (n / 10) (by omega) (by omega)]
      simp only [Option.bind_some]
      rw [numP, dig_of (n % 10) (by omega), if_neg (by omega), numP]
      congr 1
      omega
theorem decL_ne (n : Nat) : decL n ≠ [] := by
  by_cases h : n < 10
  · rw [decL_small h]; simp
  · rw [decL_great (by omega)]; simp
theorem decL_len (n : Nat) : 0 < (decL n).length := List.length_pos_iff.2 (decL_ne n)
theorem decL_head (n : Nat) : 0 < n → (decL n).getD 0 0 ≠ 48 := by
  induction n using Nat.strongRecOn with
  | _ n ih =>
    intro hp
    by_cases h : n < 10
    · rw [decL_small h]
      simp
      omega
    · rw [decL_great (by omega)]
      have h1 := ih (n / 10) (by omega) (by omega)
      have h2 := decL_len (n / 10)
      rw [List.getD_eq_getElem?_getD] at h1 ⊢
      rw [List.getElem?_append_left h2]
      exact h1
theorem numS_dec (n : Nat) (hn : n < 18446744073709551616) : numS (decL n) = some n := by
  have hl := decL_len n
  unfold numS
  by_cases h0 : n = 0
  · subst h0
    decide +kernel
  · rw [if_neg (fun h => decL_head n (by omega) h.2), if_neg (by omega)]
    exact numP_dec n hn
theorem decL_byte (n : Nat) : Bytes (decL n) := by
  induction n using Nat.strongRecOn with
  | _ n ih =>
    by_cases h : n < 10
    · rw [decL_small h]
      exact Bytes.cons (by omega) Bytes.nil
    · rw [decL_great (by omega)]
      exact (ih (n / 10) (by omega)).append (Bytes.cons (by omega) Bytes.nil)
/-- A number's digits as a text. -/
def decS (n : Nat) : ByteArray := strOfNums (decL n)
theorem nums_dec (n : Nat) : nums (decS n) = decL n := nums_str _ (decL_byte n)
theorem size_dec (n : Nat) : (decS n).size = (decL n).length := str_size _
end Go.Proofs.YtplifodddfjhdaaGreatDoor
