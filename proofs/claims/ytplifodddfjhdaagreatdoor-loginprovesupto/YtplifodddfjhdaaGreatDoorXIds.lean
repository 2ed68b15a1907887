/-
  text: IndexByte, Index of one byte, Cut at one byte.
-/
import Derived.Test.YtplifodddfjhdaaGreatDoorXBox
import Derived.Lib.IndexBytes
import Derived.Lib.BytesEntry
import Derived.Deep.DeepMust
namespace Go.Proofs.YtplifodddfjhdaaGreatDoor
open Go.RowKit
set_option linter.unusedVariables false
set_option linter.unusedSimpArgs false

/-- Where a byte stands first. -/
def idxL : List Int → Int → Option Nat
  | [], _ => none
  | z :: l, c => if z = c then some 0 else (idxL l c).map (· + 1)
def idxI (zs : List Int) (c : Int) : Int := match idxL zs c with
  | none => -1
  | some i => (i : Int)
theorem idxL_lt : ∀ (zs : List Int) (c : Int) (i : Nat), idxL zs c = some i → i < zs.length
  | [], _, _, h => by cases h
  | z :: l, c, i, h => by
    unfold idxL at h
    by_cases hz : z = c
    · rw [if_pos hz] at h; cases h; simp
    · rw [if_neg hz] at h
      cases hl : idxL l c with
      | none => rw [hl] at h; cases h
      | some j =>
        rw [hl] at h
        simp only [Option.map_some, Option.some.injEq] at h
        have := idxL_lt l c j hl
        simp only [List.length_cons]
        omega
theorem idxL_none : ∀ (zs : List Int) (c : Int), idxL zs c = none → ∀ z ∈ zs, z ≠ c
  | [], _, _, z, hz => by cases hz
  | y :: l, c, h, z, hz => by
    unfold idxL at h
    by_cases hy : y = c
    · rw [if_pos hy] at h; cases h
    · rw [if_neg hy] at h
      cases hl : idxL l c with
      | some j => rw [hl] at h; cases h
      | none =>
        rcases List.mem_cons.1 hz with rfl | hz
        · exact hy
        · exact idxL_none l c hl z hz
theorem u8_of {z : Int} (h : 0 ≤ z ∧ z ≤ 255) : (UInt8.ofNat z.toNat).toNat = z.toNat := by
  simp
  omega
theorem idxI_cons (z : Int) (l : List Int) (c : Int) : idxI (z :: l) c = if z = c then 0 else if idxI l c = -1 then -1 else idxI l c + 1 := by
  unfold idxI
  rw [idxL]
  by_cases hz : z = c
  · rw [if_pos hz, if_pos hz]; rfl
  · rw [if_neg hz, if_neg hz]
    cases hl : idxL l c with
    | none => simp
    | some j =>
      simp only [Option.map_some]
      rw [if_neg (by omega)]
      omega
theorem idx_lib : ∀ (zs : List Int) (c : Int), (∀ z ∈ zs, 0 ≤ z ∧ z ≤ 255) → 0 ≤ c → c ≤ 255 → Lib.indexByte (Lib.bytesOf zs) c.toNat.toUInt8 = idxI zs c
  | [], c, _, _, _ => rfl
  | z :: l, c, hb, h0, h1 => by
    have ih := idx_lib l c (fun y hy => hb y (List.mem_cons_of_mem _ hy)) h0 h1
    have hz := hb z (by simp)
    have e : Lib.bytesOf (z :: l) = UInt8.ofNat z.toNat :: Lib.bytesOf l := rfl
    rw [e, Lib.indexByte, ih]
    have hc : c.toNat.toUInt8 = UInt8.ofNat c.toNat := rfl
    rw [idxI_cons]
    by_cases hzc : z = c
    · subst hzc
      rw [if_pos (by simp [hc]), if_pos rfl]
    · have hne : ¬ (UInt8.ofNat z.toNat == c.toNat.toUInt8) = true := by
        intro hq
        have hq' : UInt8.ofNat z.toNat = c.toNat.toUInt8 := by simpa using hq
        have := congrArg UInt8.toNat hq'
        rw [hc, u8_of hz, u8_of ⟨h0, h1⟩] at this
        omega
      rw [if_neg hne, if_neg hzc]
      simp
theorem str_bytes (zs : List Int) : (strOfNums zs).data.toList = Lib.bytesOf zs := by
  have := Lib.strOfNums_toList zs
  rw [ByteArray.toList_eq] at this
  exact this

set_option maxRecDepth 100000 in
theorem ibs_any (zs : List Int) (c : Int) (w : World) (hb : Bytes zs) (h0 : 0 ≤ c) (h1 : c ≤ 255) :
    Calls Tryz.prog 96 #[.string (strOfNums zs), .int .u8 c] w fun e w' => e = .returned (.int .i64 (idxI zs c)) ∧ w' = w := by
  have hi := idx_lib zs c hb.mem h0 h1
  rw [← str_bytes] at hi
  obtain ⟨s, hs⟩ : ∃ s, s = strOfNums zs := ⟨_, rfl⟩
  rw [← hs] at hi ⊢
  clear hs
  go_enter Tryz.func96, Tryz.ntmps96
  go_wp2
  rw [run_callFunc_extern Tryz.func115 (by kernel_rfl) (by kernel_rfl) (by kernel_rfl) (e := Extern.BytealgIndexByte.indexByte) (by kernel_rfl), Lib.run_indexByteString, hi]
  simp only [Result.andThen]
  rw [Oper.upon_value]
  go_wp2
  go_ret
  exact ⟨rfl, rfl⟩

/-- What lies ahead of a byte and behind it. -/
def cutA (zs : List Int) (c : Int) : List Int := match idxL zs c with
  | none => zs
  | some i => zs.take i
def cutB (zs : List Int) (c : Int) : List Int := match idxL zs c with
  | none => []
  | some i => zs.drop (i + 1)
def cutF (zs : List Int) (c : Int) : Bool := (idxL zs c).isSome

theorem str_extract (zs : List Int) (i j : Nat) : (strOfNums zs).extract i j = strOfNums ((zs.take j).drop i) := by
  apply ByteArray.ext
  apply Array.ext'
  simp [ByteArray.data_extract, strOfNums_data, List.map_take, List.map_drop, List.extract, List.take_drop]
  by_cases h : i ≤ j
  · rw [show i + (j - i) = j by omega]
  · rw [List.drop_of_length_le (by simp; omega), List.drop_of_length_le (by simp; omega)]
theorem str_size (zs : List Int) : (strOfNums zs).size = zs.length := by
  show (strOfNums zs).data.size = zs.length
  rw [← Array.length_toList, strOfNums_data, List.length_map]

theorem ret_bool {a b : Bool} (h : a = b) : Ending.returned (.bool a) = .returned (.bool b) := by rw [h]
/-- The bytes of a text, as numbers. -/
def nums (S : ByteArray) : List Int := S.data.toList.map (fun b => (b.toNat : Int))

theorem nums_len (S : ByteArray) : (nums S).length = S.size := by unfold nums; rw [List.length_map, Array.length_toList]; rfl
theorem nums_at (S : ByteArray) (k : Nat) (h : k < S.size) : (nums S).getD k 0 = (S[k].toNat : Int) := by
  rw [List.getD_eq_getElem?_getD, List.getElem?_eq_getElem (by rw [nums_len]; exact h)]
  simp [nums]
  rfl

theorem nums_byte (S : ByteArray) : Bytes (nums S) := by
  intro j
  rw [List.getD_eq_getElem?_getD]
  cases h : (nums S)[j]? with
  | none => simp
  | some x =>
    obtain ⟨b, -, rfl⟩ := List.mem_map.1 (List.mem_of_getElem? h)
    have := b.toNat_lt
    simp only [Option.getD_some]
    omega
theorem nums_str (zs : List Int) (hb : Bytes zs) : nums (strOfNums zs) = zs := by
  unfold nums
  rw [strOfNums_data, List.map_map]
  refine List.ext_getElem (by simp) (fun i h1 h2 => ?_)
  have := hb i
  rw [List.getD_eq_getElem?_getD, List.getElem?_eq_getElem h2] at this
  simp only [Option.getD_some] at this
  simp
  omega
theorem all_no (l : List Int) (f : Int → Bool) (k : Nat) (hk : k < l.length) (h : f (l.getD k 0) = false) : l.all f = false := by
  rw [List.all_eq_false]
  refine ⟨l.getD k 0, ?_, by rw [h]; simp⟩
  rw [List.getD_eq_getElem?_getD, List.getElem?_eq_getElem hk]
  exact List.getElem_mem _
theorem all_yes (l : List Int) (f : Int → Bool) (h : ∀ j, j < l.length → f (l.getD j 0) = true) : l.all f = true := by
  rw [List.all_eq_true]
  intro x hx
  obtain ⟨j, hj, rfl⟩ := List.getElem_of_mem hx
  have := h j hj
  rw [List.getD_eq_getElem?_getD, List.getElem?_eq_getElem hj] at this
  exact this

theorem nums_ext (S : ByteArray) (i j : Nat) : nums (S.extract i j) = ((nums S).take j).drop i := by
  unfold nums
  rw [ByteArray.data_extract, Array.toList_extract, List.extract, ← List.map_take, ← List.map_drop, List.take_drop]
  by_cases h : i ≤ j
  · rw [show i + (j - i) = j by omega]
  · rw [List.drop_of_length_le (by simp; omega), List.drop_of_length_le (by simp; omega)]
theorem str_nums (S : ByteArray) : strOfNums (nums S) = S := by
  apply ByteArray.ext
  apply Array.ext'
  rw [strOfNums_data]
  unfold nums
  rw [List.map_map]
  refine List.ext_getElem (by simp) (fun i h1 h2 => ?_)
  simp
theorem nums_inj {S T : ByteArray} (h : nums S = nums T) : S = T := by rw [← str_nums S, ← str_nums T, h]
end Go.Proofs.YtplifodddfjhdaaGreatDoor
