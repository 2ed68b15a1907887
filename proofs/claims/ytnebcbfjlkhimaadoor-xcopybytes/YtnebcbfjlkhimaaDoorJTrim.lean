/-
  Text without blanks at its end.
-/
import Derived.Test.YtnebcbfjlkhimaaDoorJSml
namespace Go.Proofs.YtnebcbfjlkhimaaDoor
open Go.RowKit
set_option linter.unusedVariables false
set_option linter.unusedSimpArgs false
/-- The bytes of a text, as numbers. -/
def nums (S : ByteArray) : List Int := S.data.toList.map (fun b => (b.toNat : Int))
theorem nums_len (S : ByteArray) : (nums S).length = S.size := by unfold nums; rw [List.length_map, Array.length_toList]; rfl
theorem nums_at (S : ByteArray) (k : Nat) (h : k < S.size) : (nums S).getD k 0 = (S[k].toNat : Int) := by
  rw [List.getD_eq_getElem?_getD, List.getElem?_eq_getElem (by rw [nums_len]; exact h)]
  simp [nums]
  rfl
theorem nums_bytes (S : ByteArray) : Bytes (nums S) := fun j => by
  by_cases h : j < S.size
  · rw [nums_at S j h]
    have := S[j].toNat_lt
    omega
  · rw [List.getD_eq_getElem?_getD, List.getElem?_eq_none (by rw [nums_len]; omega)]
    simp
theorem nums_ext (S : ByteArray) (i j : Nat) : nums (S.extract i j) = ((nums S).take j).drop i := by
  unfold nums
  rw [ByteArray.data_extract, Array.toList_extract, List.extract, ← List.map_take, ← List.map_drop, List.take_drop]
  by_cases h : i ≤ j
  · rw [show i + (j - i) = j by omega]
  · rw [List.drop_of_length_le (by simp; omega), List.drop_of_length_le (by simp; omega)]
theorem str_nums (S : ByteArray) : strOfNums (nums S) = S := by
  apply ByteArray.ext
  apply Array.ext'
  rw [strOfNums_data]
  unfold nums
  rw [List.map_map]
  refine List.ext_getElem (by simp) (fun i h1 h2 => ?_)
  simp
theorem nums_str (zs : List Int) (hb : Bytes zs) : nums (strOfNums zs) = zs := by
  unfold nums
  rw [strOfNums_data, List.map_map]
  conv => rhs; rw [← List.map_id zs]
  refine List.map_congr_left fun z hz => ?_
  have := hb.mem z hz
  simp
  omega
theorem ext_size (S : ByteArray) (n : Nat) (h : n ≤ S.size) : (S.extract 0 n).size = n := by simp; omega
theorem ext_ext (S : ByteArray) (n m : Nat) (h : m ≤ n) : (S.extract 0 n).extract 0 m = S.extract 0 m := by
  apply ByteArray.ext
  simp [ByteArray.data_extract]
  congr 1
  omega
theorem ext_at (S : ByteArray) (n k : Nat) (h : k < n) (hn : n ≤ S.size) (h' : k < (S.extract 0 n).size) : (S.extract 0 n)[k] = S[k] := by
  simp [ByteArray.getElem_extract]
set_option maxRecDepth 100000 in
set_option maxHeartbeats 1000000 in
theorem trb_any (S : ByteArray) (w : World) (hS : S.size ≤ 1000) :
    Calls Tryd.prog 37 #[.string S, .int .u8 32] w fun e w' => e = .returned (.string (S.extract 0 (trimN (nums S) S.size))) ∧ w' = w := by
  go_enter Tryd.func37, Tryd.ntmps37
  go_wp2
  go_loop [0] (fun t => ∃ n : Nat, n ≤ S.size ∧ t = .string (S.extract 0 n) ∧ Kpt (trimN (nums S) n = trimN (nums S) S.size)) (fun t => match t with | .string s => s.size | _ => 0)
  case atStart => exact ⟨S.size, Nat.le_refl _, by rw [ByteArray.extract_zero_size], ⟨rfl⟩⟩
  case round =>
    obtain ⟨n, hn, rfl, ht⟩ := hrel
    cases n with
    | zero =>
      obtain ⟨T, hT⟩ : ∃ T, T = S.extract 0 0 := ⟨_, rfl⟩
      have hTs : T.size = 0 := by rw [hT]; simp
      have hTe : Kpt (T = S.extract 0 (trimN (nums S) S.size)) := ⟨by rw [← ht.out, hT]; rfl⟩
      rw [← hT]
      clear ht hT
      go_wp2
      go_ret
      exact ⟨by rw [← hTe.out]; rfl, rfl⟩
    | succ m =>
      obtain ⟨T, hT⟩ : ∃ T, T = S.extract 0 (m + 1) := ⟨_, rfl⟩
      have hTs : T.size = m + 1 := by rw [hT]; exact ext_size S _ hn
      have hx : Kpt ((nums S).getD m 0 = (T[m].toNat : Int)) := ⟨by rw [nums_at S m (by omega)]; subst hT; rw [ext_at S (m + 1) m (by omega) hn]⟩
      have hTm : Kpt (T.extract 0 m = S.extract 0 m) := ⟨by rw [hT]; exact ext_ext S _ _ (by omega)⟩
      rw [← hT]
      by_cases h1 : (T[m].toNat : Int) = 32
      · have ht' : Kpt (trimN (nums S) m = trimN (nums S) S.size) := ⟨by rw [← ht.out, trimN, if_pos (hx.out.trans h1)]⟩
        clear ht hT
        have h2 : ((T[m].toNat : Int) == 32) = true := by simpa using h1
        go_wp2
        go_round
        case rel => exact ⟨m, by omega, by rw [hTm.out], ht'⟩
        case measure =>
          show (T.extract 0 m).size < T.size
          rw [ext_size T m (by omega), hTs]
          omega
      · have hTe : Kpt (T = S.extract 0 (trimN (nums S) S.size)) := ⟨by rw [← ht.out, trimN, if_neg (by rw [hx.out]; exact h1), hT]⟩
        clear ht hT
        have h2 : ((T[m].toNat : Int) == 32) = false := beq_eq_false_iff_ne.mpr h1
        go_wp2
        go_ret
        exact ⟨by rw [← hTe.out]; rfl, rfl⟩
theorem str_ext (L : List Int) (hL : Bytes L) (n : Nat) : (strOfNums L).extract 0 n = strOfNums (L.take n) := by
  rw [← str_nums ((strOfNums L).extract 0 n), nums_ext, nums_str L hL, List.drop_zero]
theorem str_size (L : List Int) (hL : Bytes L) : (strOfNums L).size = L.length := by rw [← nums_len, nums_str L hL]
set_option maxRecDepth 100000 in
set_option maxHeartbeats 1000000 in
theorem trt_any (S : ByteArray) (w : World) (hS : S.size ≤ 1000) (h1 : 1 ≤ S.size) :
    Calls Tryd.prog 30 #[.string S, .string ⟨#[32]⟩] w fun e w' => e = .returned (.string (S.extract 0 (trimN (nums S) S.size))) ∧ w' = w := by
  have H := Kpt.mk (trb_any S w hS)
  obtain ⟨R, hR⟩ : ∃ R, R = S.extract 0 (trimN (nums S) S.size) := ⟨_, rfl⟩
  rw [← hR] at H ⊢
  have hne : (S.toList == []) = false := by
    have : S.toList.length = S.size := by rw [ByteArray.toList_eq]; simp
    cases h : S.toList with
    | nil => rw [h] at this; simp at this; omega
    | cons x l => rfl
  clear hR
  go_enter Tryd.func30, Tryd.ntmps30
  go_wp2_with (first | (go_at_call 37; refine H.out.mono ?_; rintro e w' ⟨rfl, rfl⟩) | fail)
  go_ret
  exact ⟨rfl, rfl⟩
/-- The serial's own form. -/
theorem trt_str (L : List Int) (w : World) (hL : Bytes L) (h1 : 1 ≤ L.length) (h2 : L.length ≤ 1000) :
    Calls Tryd.prog 30 #[.string (strOfNums L), .string ⟨#[32]⟩] w fun e w' => e = .returned (.string (strOfNums (trimL L))) ∧ w' = w := by
  have hs := str_size L hL
  have := trt_any (strOfNums L) w (by omega) (by omega)
  rw [nums_str L hL, hs, str_ext L hL] at this
  exact this
end Go.Proofs.YtnebcbfjlkhimaaDoor
