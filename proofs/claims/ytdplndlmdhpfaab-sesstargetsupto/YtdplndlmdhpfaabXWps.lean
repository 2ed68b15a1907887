/-
  text: a text that was made of pairs says these pairs.
-/
import Derived.Test.YtdplndlmdhpfaabXParM
namespace Go.Proofs.Ytdplndlmdhpfaab
open Go.RowKit
set_option linter.unusedVariables false
set_option linter.unusedSimpArgs false

/-- A pair's bytes. -/
def rowL (p : ByteArray × ByteArray) : List Int := nums p.1 ++ [61] ++ nums p.2 ++ [0]
def rowsL (ps : List (ByteArray × ByteArray)) : List Int := (ps.map rowL).flatten
def okP (p : ByteArray × ByteArray) : Bool := keyB (nums p.1) && valB (nums p.2)
def numP (p : ByteArray × ByteArray) : List Int × List Int := (nums p.1, nums p.2)
theorem nums_app (a b : ByteArray) : nums (a ++ b) = nums a ++ nums b := by simp [nums]
theorem row_str (K V : ByteArray) : nums (K ++ ⟨#[61]⟩ ++ V ++ ⟨#[0]⟩) = rowL (K, V) := by
  rw [nums_app, nums_app, nums_app]
  rfl
theorem ok_len {p : ByteArray × ByteArray} (h : okP p = true) : p.1.size ≤ 63 ∧ p.2.size ≤ 255 ∧ (rowL p).length ≤ 320 := by
  simp only [okP, keyB, valB, Bool.and_eq_true, decide_eq_true_eq, nums_len] at h
  refine ⟨h.1.2.2, h.2.2, ?_⟩
  simp only [rowL, List.length_append, nums_len, List.length_cons, List.length_nil]
  omega
theorem rows_len : ∀ ps : List (ByteArray × ByteArray), (∀ p ∈ ps, okP p = true) → (rowsL ps).length ≤ ps.length * 320
  | [], _ => by simp [rowsL]
  | p :: l, h => by
    have h1 := (ok_len (h p (by simp))).2.2
    have h2 := rows_len l (fun q hq => h q (by simp [hq]))
    simp only [rowsL, List.map_cons, List.flatten_cons, List.length_append, List.length_cons] at h2 ⊢
    omega
theorem rows_snoc (ps : List (ByteArray × ByteArray)) (p : ByteArray × ByteArray) : rowsL (ps ++ [p]) = rowsL ps ++ rowL p := by simp [rowsL]
def wrE (ps : List (ByteArray × ByteArray)) : Int :=
  if 64 < ps.length then 2 else if ps.all okP = false then 13 else if 4096 < (rowsL ps).length then 2 else if twP ps = true then 9 else 0
def wrO (ps : List (ByteArray × ByteArray)) : List Int := if wrE ps = 0 then rowsL ps else []

theorem idxL_app : ∀ (A B : List Int) (c : Int), (∀ z ∈ A, z ≠ c) → idxL (A ++ c :: B) c = some A.length
  | [], B, c, _ => by simp [idxL]
  | a :: A, B, c, h => by
    rw [List.cons_append, idxL, if_neg (h a (by simp)), idxL_app A B c (fun z hz => h z (by simp [hz]))]
    rfl
theorem key_no {zs : List Int} (h : keyB zs = true) : ∀ z ∈ zs, z ≠ 61 ∧ z ≠ 0 := fun z hz => by
  simp only [keyB, Bool.and_eq_true, List.all_eq_true] at h
  have := h.1 z hz
  simp only [keyC, Bool.or_eq_true, decide_eq_true_eq] at this
  omega
theorem val_no {zs : List Int} (h : valB zs = true) : ∀ z ∈ zs, z ≠ 0 := fun z hz => by
  simp only [valB, Bool.and_eq_true, List.all_eq_true, decide_eq_true_eq] at h
  have := h.1 z hz
  omega
theorem par_rows : ∀ ps : List (ByteArray × ByteArray), (∀ p ∈ ps, okP p = true) → par (rowsL ps) = some (ps.map numP)
  | [], _ => rfl
  | (K, V) :: l, h => by
    have hk := h (K, V) (by simp)
    simp only [okP, Bool.and_eq_true] at hk
    have ih := par_rows l (fun q hq => h q (by simp [hq]))
    have e : rowsL ((K, V) :: l) = (nums K ++ 61 :: nums V) ++ 0 :: rowsL l := by simp [rowsL, rowL]
    have hi : idxL (rowsL ((K, V) :: l)) 0 = some (nums K ++ 61 :: nums V).length := by
      rw [e]
      refine idxL_app _ _ _ fun z hz => ?_
      simp only [List.mem_append, List.mem_cons] at hz
      rcases hz with hz | rfl | hz
      · exact (key_no hk.1 z hz).2
      · decide
      · exact val_no hk.2 z hz
    have ht : (rowsL ((K, V) :: l)).take (nums K ++ 61 :: nums V).length = nums K ++ 61 :: nums V := by rw [e]; exact List.take_left
    have hd : (rowsL ((K, V) :: l)).drop ((nums K ++ 61 :: nums V).length + 1) = rowsL l := by
      rw [e, List.drop_append]
      simp
    have hj : idxL (nums K ++ 61 :: nums V) 61 = some (nums K).length := idxL_app _ _ _ fun z hz => (key_no hk.1 z hz).1
    have hA : cutA (nums K ++ 61 :: nums V) 61 = nums K := by unfold cutA; rw [hj]; exact List.take_left
    have hB : cutB (nums K ++ 61 :: nums V) 61 = nums V := by
      unfold cutB
      rw [hj]
      simp only
      rw [List.drop_append]
      simp
    have hF : cutF (nums K ++ 61 :: nums V) 61 = true := by unfold cutF; rw [hj]; rfl
    rw [par_cons _ (by rw [e]; simp), hi]
    simp only
    rw [ht, hd, hA, hB, hF, hk.1, hk.2, ih]
    rfl
theorem str_nums (S : ByteArray) : strOfNums (nums S) = S := by
  apply ByteArray.ext
  apply Array.ext'
  rw [strOfNums_data]
  unfold nums
  rw [List.map_map]
  refine (List.map_congr_left fun b _ => ?_).trans (List.map_id _)
  simp
theorem prS_num (ps : List (ByteArray × ByteArray)) : (ps.map numP).map prS = ps := by
  rw [List.map_map]
  refine (List.map_congr_left fun p _ => ?_).trans (List.map_id _)
  simp [prS, numP, str_nums]
theorem all_ok {ps : List (ByteArray × ByteArray)} (h : wrE ps = 0) : (∀ p ∈ ps, okP p = true) ∧ ps.length ≤ 64 ∧ (rowsL ps).length ≤ 4096 ∧ twP ps = false := by
  unfold wrE at h
  by_cases h1 : 64 < ps.length
  · rw [if_pos h1] at h; cases h
  rw [if_neg h1] at h
  by_cases h2 : ps.all okP = false
  · rw [if_pos h2] at h; cases h
  rw [if_neg h2] at h
  by_cases h3 : 4096 < (rowsL ps).length
  · rw [if_pos h3] at h; cases h
  rw [if_neg h3] at h
  by_cases h4 : twP ps = true
  · rw [if_pos h4] at h; cases h
  have h2' : ps.all okP = true := by simpa using h2
  exact ⟨fun p hp => List.all_eq_true.1 h2' p hp, by omega, by omega, by simpa using h4⟩
/-- What was written is read again. -/
theorem par_back {ps : List (ByteArray × ByteArray)} (h : wrE ps = 0) : parE (rowsL ps) = 0 ∧ parO (rowsL ps) = ps.map numP := by
  obtain ⟨h1, h2, h3, h4⟩ := all_ok h
  have hp := par_rows ps h1
  have ht : ¬ twP ((ps.map numP).map prS) = true := by rw [prS_num, h4]; simp
  unfold parE parO
  rw [hp]
  simp only
  rw [if_neg (by simp; omega), if_neg ht, if_neg (by simp; omega), if_neg ht]
  exact ⟨rfl, rfl⟩
theorem rows_bytes (ps : List (ByteArray × ByteArray)) : Bytes (rowsL ps) := by
  induction ps with
  | nil => exact Bytes.nil
  | cons p l ih =>
    have e : rowsL (p :: l) = rowL p ++ rowsL l := by simp [rowsL]
    rw [e]
    exact ((((nums_byte _).append (Bytes.cons (by decide) Bytes.nil)).append (nums_byte _)).append (Bytes.cons (by decide) Bytes.nil)).append ih
end Go.Proofs.Ytdplndlmdhpfaab
