/-
  Slots: what stands in a slot's bytes, with anything behind them.
-/
import Derived.Test.YtndlpmnidpandaaLRec
import Derived.Test.YtndlpmnidpandaaBBackNum
namespace Go.Proofs.Ytndlpmnidpandaa
open Go.RowKit
set_option linter.unusedVariables false
set_option linter.unusedSimpArgs false

theorem num_cong (Z Y : List Int) (i : Nat) : ∀ n, (∀ k, k < n → Z.getD (i + k) 0 = Y.getD (i + k) 0) → B.num Z i n = B.num Y i n
  | 0, _ => rfl
  | n + 1, h => by
    rw [B.num, B.num, num_cong Z Y i n (fun k hk => h k (by omega)), h n (by omega)]

/-- The slot's bytes ahead of the numbers. -/
def recO (zs : List Int) : List Int := over (over (List.replicate (20 + zs.length) 0) 0 [83, 76, 79, 84]) 16 zs
theorem recO_len (zs : List Int) : (recO zs).length = 20 + zs.length := ov_len zs
theorem recA_eq (gen : Int) (zs : List Int) : recA gen zs = B.asc (B.asc (recO zs) 4 8 gen 8) 12 4 zs.length 4 := rfl

theorem over_get (zs ds : List Int) (off : Nat) (h : off + ds.length ≤ zs.length) (j : Nat) : (over zs off ds)[j]? = if j < off then zs[j]? else if j < off + ds.length then ds[j - off]? else zs[j]? := by
  unfold over
  have ht : (zs.take off).length = off := by rw [List.length_take]; omega
  by_cases h1 : j < off
  · rw [if_pos h1, List.getElem?_append_left (by omega), List.getElem?_take, if_pos h1]
  · rw [if_neg h1, List.getElem?_append_right (by omega), ht]
    by_cases h2 : j < off + ds.length
    · rw [if_pos h2, List.getElem?_append_left (by omega)]
    · rw [if_neg h2, List.getElem?_append_right (by omega), List.getElem?_drop]
      congr 1
      omega

theorem recO_get (zs : List Int) (j : Nat) : (recO zs)[j]? = if j < 4 then ([83, 76, 79, 84] : List Int)[j]? else if 16 ≤ j ∧ j < 16 + zs.length then zs[j - 16]? else (List.replicate (20 + zs.length) (0 : Int))[j]? := by
  unfold recO
  have h0 : 0 + ([83, 76, 79, 84] : List Int).length ≤ (List.replicate (20 + zs.length) (0 : Int)).length := by simp; omega
  rw [over_get _ _ 16 (by rw [over_length _ _ _ h0, List.length_replicate]; omega), over_get _ _ 0 h0]
  have e : ([83, 76, 79, 84] : List Int).length = 4 := rfl
  rw [e, Nat.zero_add, Nat.sub_zero, if_neg (Nat.not_lt_zero j)]
  by_cases h1 : j < 4
  · simp only [h1, show j < 16 from by omega, if_true]
  · by_cases h2 : j < 16
    · simp only [h1, h2, show ¬ 16 ≤ j from by omega, if_true, if_false, false_and]
    · by_cases h3 : j < 16 + zs.length
      · simp only [h1, h2, h3, show 16 ≤ j from by omega, if_true, if_false, true_and]
      · simp only [h1, h2, h3, if_false, and_false]

theorem recA_get (gen : Int) (zs : List Int) (j : Nat) : (recA gen zs)[j]? = if 12 ≤ j ∧ j < 16 then some ((zs.length : Int) / 2 ^ (8 * (3 - (j - 12))) % 256) else if 4 ≤ j ∧ j < 12 then some (gen / 2 ^ (8 * (7 - (j - 4))) % 256) else (recO zs)[j]? := by
  rw [recA_eq, B.asc_get _ 12 4 _ (by rw [B.asc_len, recO_len]; omega) 4 (by omega)]
  split
  · rfl
  · rw [B.asc_get _ 4 8 _ (by rw [recO_len]; omega) 8 (by omega)]

theorem recL_get (gen : Int) (zs : List Int) (j : Nat) (hj : j < 16 + zs.length) : (recL gen zs)[j]? = (recA gen zs)[j]? := by
  unfold recL
  rw [B.asc_get _ _ 4 _ (by rw [recA_len]; omega) 4 (by omega), if_neg (by omega)]

section
variable (gen : Int) (zs q : List Int)
theorem more_get (j : Nat) (hj : j < 20 + zs.length) : (recL gen zs ++ q)[j]? = (recL gen zs)[j]? := List.getElem?_append_left (by rw [recL_len]; exact hj)
theorem more_gen (h0 : 0 ≤ gen) (h1 : gen < 18446744073709551616) : B.num (recL gen zs ++ q) 4 8 = gen := by
  have h := B.num_back (recO zs) 4 8 gen (by rw [recO_len]; omega) h0 (by simpa using h1)
  rw [← h]
  refine num_cong _ _ 4 8 (fun k hk => ?_)
  rw [h, List.getD_eq_getElem?_getD, List.getD_eq_getElem?_getD, more_get gen zs q _ (by omega), recL_get _ _ _ (by omega), recA_get, if_neg (by omega), if_pos (by omega), B.asc_get _ 4 8 _ (by rw [recO_len]; omega) 8 (by omega), if_pos (by omega)]
theorem more_len (hz : zs.length ≤ 4096) : B.num (recL gen zs ++ q) 12 4 = zs.length := by
  have h := B.num_back (B.asc (recO zs) 4 8 gen 8) 12 4 zs.length (by rw [B.asc_len, recO_len]; omega) (by omega) (by simp; omega)
  rw [← h]
  refine num_cong _ _ 12 4 (fun k hk => ?_)
  rw [List.getD_eq_getElem?_getD, List.getD_eq_getElem?_getD, more_get gen zs q _ (by omega), recL_get _ _ _ (by omega), recA_eq]
theorem more_mark : (recL gen zs ++ q).take 4 = [83, 76, 79, 84] := by
  refine List.ext_getElem? (fun j => ?_)
  rw [List.getElem?_take]
  by_cases h : j < 4
  · rw [if_pos h, more_get gen zs q _ (by omega), recL_get _ _ _ (by omega), recA_get, if_neg (by omega), if_neg (by omega), recO_get, if_pos h]
  · rw [if_neg h]; symm; rw [List.getElem?_eq_none]; simp; omega
theorem more_pay : ((recL gen zs ++ q).drop 16).take zs.length = zs := by
  refine List.ext_getElem? (fun j => ?_)
  rw [List.getElem?_take]
  by_cases h : j < zs.length
  · rw [if_pos h, List.getElem?_drop, more_get gen zs q _ (by omega), recL_get _ _ _ (by omega), recA_get, if_neg (by omega), if_neg (by omega), recO_get, if_neg (by omega), if_pos (by omega), Nat.add_sub_cancel_left]
  · rw [if_neg h, List.getElem?_eq_none (by omega)]
theorem more_front : (recL gen zs ++ q).take (16 + zs.length) = (recA gen zs).take (16 + zs.length) := by
  refine List.ext_getElem? (fun j => ?_)
  rw [List.getElem?_take, List.getElem?_take]
  by_cases h : j < 16 + zs.length
  · rw [if_pos h, if_pos h, more_get gen zs q _ (by omega), recL_get _ _ _ h]
  · rw [if_neg h, if_neg h]
theorem more_sum : B.num (recL gen zs ++ q) (16 + zs.length) 4 = (sumL ((recL gen zs ++ q).take (16 + zs.length)) : Int) := by
  rw [more_front]
  have hs := sumL_lt ((recA gen zs).take (16 + zs.length))
  have h := B.num_back (recA gen zs) (16 + zs.length) 4 (sumL ((recA gen zs).take (16 + zs.length))) (by rw [recA_len]; omega) (by omega) (by simp; omega)
  rw [← h]
  refine num_cong _ _ _ 4 (fun k hk => ?_)
  rw [List.getD_eq_getElem?_getD, List.getD_eq_getElem?_getD, more_get gen zs q _ (by omega)]
  rfl
end
end Go.Proofs.Ytndlpmnidpandaa
