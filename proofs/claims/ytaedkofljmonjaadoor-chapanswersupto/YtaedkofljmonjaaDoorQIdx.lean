/-
  chap: where a byte stands in a text; a digit's number, by the program and by the document.
-/
import Derived.Test.YtaedkofljmonjaaDoorXBox
import Derived.Lib.IndexBytes
import Derived.Lib.BytesEntry
import Derived.Deep.DeepMust
namespace Go.Proofs.YtaedkofljmonjaaDoor
open Go.RowKit
set_option linter.unusedVariables false
set_option linter.unusedSimpArgs false

/-- Where a byte stands first. -/
def idxL : List Int → Int → Option Nat
  | [], _ => none
  | z :: l, c => if z = c then some 0 else (idxL l c).map (· + 1)
def idxI (zs : List Int) (c : Int) : Int := match idxL zs c with
  | none => -1
  | some i => (i : Int)
theorem idxL_lt : ∀ (zs : List Int) (c : Int) (i : Nat), idxL zs c = some i → i < zs.length
  | [], _, _, h => by cases h
  | z :: l, c, i, h => by
    unfold idxL at h
    by_cases hz : z = c
    · rw [if_pos hz] at h; cases h; simp
    · rw [if_neg hz] at h
      cases hl : idxL l c with
      | none => rw [hl] at h; cases h
      | some j =>
        rw [hl] at h
        simp only [Option.map_some, Option.some.injEq] at h
        have := idxL_lt l c j hl
        simp only [List.length_cons]
        omega
theorem idxL_none : ∀ (zs : List Int) (c : Int), idxL zs c = none → ∀ z ∈ zs, z ≠ c
  | [], _, _, z, hz => by cases hz
  | y :: l, c, h, z, hz => by
    unfold idxL at h
    by_cases hy : y = c
    · rw [if_pos hy] at h; cases h
    · rw [if_neg hy] at h
      cases hl : idxL l c with
      | some j => rw [hl] at h; cases h
      | none =>
        rcases List.mem_cons.1 hz with rfl | hz
        · exact hy
        · exact idxL_none l c hl z hz
theorem u8_of {z : Int} (h : 0 ≤ z ∧ z ≤ 255) : (UInt8.ofNat z.toNat).toNat = z.toNat := by
  simp
  omega
theorem idxI_cons (z : Int) (l : List Int) (c : Int) : idxI (z :: l) c = if z = c then 0 else if idxI l c = -1 then -1 else idxI l c + 1 := by
  unfold idxI
  rw [idxL]
  by_cases hz : z = c
  · rw [if_pos hz, if_pos hz]; rfl
  · rw [if_neg hz, if_neg hz]
    cases hl : idxL l c with
    | none => simp
    | some j =>
      simp only [Option.map_some]
      rw [if_neg (by omega)]
      omega
theorem idx_lib : ∀ (zs : List Int) (c : Int), (∀ z ∈ zs, 0 ≤ z ∧ z ≤ 255) → 0 ≤ c → c ≤ 255 → Lib.indexByte (Lib.bytesOf zs) c.toNat.toUInt8 = idxI zs c
  | [], c, _, _, _ => rfl
  | z :: l, c, hb, h0, h1 => by
    have ih := idx_lib l c (fun y hy => hb y (List.mem_cons_of_mem _ hy)) h0 h1
    have hz := hb z (by simp)
    have e : Lib.bytesOf (z :: l) = UInt8.ofNat z.toNat :: Lib.bytesOf l := rfl
    rw [e, Lib.indexByte, ih]
    have hc : c.toNat.toUInt8 = UInt8.ofNat c.toNat := rfl
    rw [idxI_cons]
    by_cases hzc : z = c
    · subst hzc
      rw [if_pos (by simp [hc]), if_pos rfl]
    · have hne : ¬ (UInt8.ofNat z.toNat == c.toNat.toUInt8) = true := by
        intro hq
        have hq' : UInt8.ofNat z.toNat = c.toNat.toUInt8 := by simpa using hq
        have := congrArg UInt8.toNat hq'
        rw [hc, u8_of hz, u8_of ⟨h0, h1⟩] at this
        omega
      rw [if_neg hne, if_neg hzc]
      simp
theorem str_bytes (zs : List Int) : (strOfNums zs).data.toList = Lib.bytesOf zs := by
  have := Lib.strOfNums_toList zs
  rw [ByteArray.toList_eq] at this
  exact this

theorem ibs_any (zs : List Int) (c : Int) (w : World) (hb : Bytes zs) (h0 : 0 ≤ c) (h1 : c ≤ 255) :
    Calls Tryd.prog 34 #[.string (strOfNums zs), .int .u8 c] w fun e w' => e = .returned (.int .i64 (idxI zs c)) ∧ w' = w := by
  have hi := idx_lib zs c hb.mem h0 h1
  rw [← str_bytes] at hi
  obtain ⟨s, hs⟩ : ∃ s, s = strOfNums zs := ⟨_, rfl⟩
  rw [← hs] at hi ⊢
  clear hs
  go_enter Tryd.func34, Tryd.ntmps34
  go_wp2
  rw [run_callFunc_extern Tryd.func35 (by kernel_rfl) (by kernel_rfl) (by kernel_rfl) (e := Extern.BytealgIndexByte.indexByte) (by kernel_rfl), Lib.run_indexByteString, hi]
  simp only [Result.andThen]
  rw [Oper.upon_value]
  go_wp2
  go_ret
  exact ⟨rfl, rfl⟩

theorem str_extract (zs : List Int) (i j : Nat) : (strOfNums zs).extract i j = strOfNums ((zs.take j).drop i) := by
  apply ByteArray.ext
  apply Array.ext'
  simp [ByteArray.data_extract, strOfNums_data, List.map_take, List.map_drop, List.extract, List.take_drop]
  by_cases h : i ≤ j
  · rw [show i + (j - i) = j by omega]
  · rw [List.drop_of_length_le (by simp; omega), List.drop_of_length_le (by simp; omega)]
theorem str_size (zs : List Int) : (strOfNums zs).size = zs.length := by
  show (strOfNums zs).data.size = zs.length
  rw [← Array.length_toList, strOfNums_data, List.length_map]

theorem ret_bool {a b : Bool} (h : a = b) : Ending.returned (.bool a) = .returned (.bool b) := by rw [h]
/-- The bytes of a text, as numbers. -/
def nums (S : ByteArray) : List Int := S.data.toList.map (fun b => (b.toNat : Int))

theorem nums_len (S : ByteArray) : (nums S).length = S.size := by unfold nums; rw [List.length_map, Array.length_toList]; rfl
theorem nums_at (S : ByteArray) (k : Nat) (h : k < S.size) : (nums S).getD k 0 = (S[k].toNat : Int) := by
  rw [List.getD_eq_getElem?_getD, List.getElem?_eq_getElem (by rw [nums_len]; exact h)]
  simp [nums]
  rfl

theorem nums_byte (S : ByteArray) : Bytes (nums S) := by
  intro j
  rw [List.getD_eq_getElem?_getD]
  cases h : (nums S)[j]? with
  | none => simp
  | some x =>
    obtain ⟨b, -, rfl⟩ := List.mem_map.1 (List.mem_of_getElem? h)
    have := b.toNat_lt
    simp only [Option.getD_some]
    omega
theorem nums_str (zs : List Int) (hb : Bytes zs) : nums (strOfNums zs) = zs := by
  unfold nums
  rw [strOfNums_data, List.map_map]
  refine List.ext_getElem (by simp) (fun i h1 h2 => ?_)
  have := hb i
  rw [List.getD_eq_getElem?_getD, List.getElem?_eq_getElem h2] at this
  simp only [Option.getD_some] at this
  simp
  omega
theorem sib_any (zs : List Int) (c : Int) (w : World) (hb : Bytes zs) (h0 : 0 ≤ c) (h1 : c ≤ 255) :
    Calls Tryd.prog 33 #[.string (strOfNums zs), .int .u8 c] w fun e w' => e = .returned (.int .i64 (idxI zs c)) ∧ w' = w := by
  have h := Kpt.mk (ibs_any zs c w hb h0 h1)
  go_enter Tryd.func33, Tryd.ntmps33
  go_wp2_with (go_at_call 34; go_must (refine h.out.mono ?_; rintro e w ⟨rfl, rfl⟩))
  go_ret
  exact ⟨rfl, rfl⟩

def lowZ : List Int := [48, 49, 50, 51, 52, 53, 54, 55, 56, 57, 97, 98, 99, 100, 101, 102]
def upZ : List Int := [48, 49, 50, 51, 52, 53, 54, 55, 56, 57, 65, 66, 67, 68, 69, 70]
/-- A digit's number, -1 of another character. -/
def digI (c : Int) : Int := if 48 ≤ c ∧ c ≤ 57 then c - 48 else if 97 ≤ c ∧ c ≤ 102 then c - 87 else if 65 ≤ c ∧ c ≤ 70 then c - 55 else -1
theorem dig_all : ∀ q : Fin 256, max (idxI lowZ (q.val : Int)) (idxI upZ (q.val : Int)) = digI (q.val : Int) := by decide +kernel
theorem dig_max (c : Int) (h0 : 0 ≤ c) (h1 : c ≤ 255) : max (idxI lowZ c) (idxI upZ c) = digI c := by
  have := dig_all ⟨c.toNat, by omega⟩
  simp only [show ((c.toNat : Nat) : Int) = c by omega] at this
  exact this
theorem digI_le (c : Int) : -1 ≤ digI c ∧ digI c ≤ 15 := by unfold digI; split; omega; split; omega; split; omega; omega
theorem low_bytes : Bytes lowZ := fun j => by
  rw [List.getD_eq_getElem?_getD]
  cases h : lowZ[j]? with
  | none => simp
  | some z =>
    have : ∀ z ∈ lowZ, 0 ≤ z ∧ z ≤ 255 := by decide
    exact this z (List.mem_of_getElem? h)
theorem up_bytes : Bytes upZ := fun j => by
  rw [List.getD_eq_getElem?_getD]
  cases h : upZ[j]? with
  | none => simp
  | some z =>
    have : ∀ z ∈ upZ, 0 ≤ z ∧ z ≤ 255 := by decide
    exact this z (List.mem_of_getElem? h)
theorem sib_low (c : Int) (w : World) (h0 : 0 ≤ c) (h1 : c ≤ 255) :
    Calls Tryd.prog 33 #[.string ⟨#[48, 49, 50, 51, 52, 53, 54, 55, 56, 57, 97, 98, 99, 100, 101, 102]⟩, .int .u8 c] w fun e w' => e = .returned (.int .i64 (idxI lowZ c)) ∧ w' = w := sib_any lowZ c w low_bytes h0 h1
theorem sib_up (c : Int) (w : World) (h0 : 0 ≤ c) (h1 : c ≤ 255) :
    Calls Tryd.prog 33 #[.string ⟨#[48, 49, 50, 51, 52, 53, 54, 55, 56, 57, 65, 66, 67, 68, 69, 70]⟩, .int .u8 c] w fun e w' => e = .returned (.int .i64 (idxI upZ c)) ∧ w' = w := sib_any upZ c w up_bytes h0 h1

theorem digit_any (c : Int) (w : World) (h0 : 0 ≤ c) (h1 : c ≤ 255) :
    Calls Tryd.prog 24 #[.int .u8 c] w fun e w' => e = .returned (.int .i64 (digI c)) ∧ w' = w := by
  have hm := Kpt.mk (dig_max c h0 h1)
  have hl := Kpt.mk (sib_low c w h0 h1)
  have hu := Kpt.mk (sib_up c w h0 h1)
  generalize idxI lowZ c = x at hm hl
  generalize idxI upZ c = y at hm hu
  go_enter Tryd.func24, Tryd.ntmps24
  go_wp2_with (first
    | (go_at_call 33; have hmm := m1; go_must (refine hu.out.mono ?_; rintro e w ⟨rfl, rfl⟩; clear hmm m1))
    | (go_at_call 33; go_must (refine hl.out.mono ?_; rintro e w ⟨rfl, rfl⟩; have m1 : Kpt True := ⟨trivial⟩)))
  all_goals go_ret
  all_goals refine ⟨?_, rfl⟩
  · rw [← hm.out, show max x y = y by omega]; rfl
  · rw [← hm.out, show max x y = x by omega]; rfl

set_option maxRecDepth 100000 in
set_option maxHeartbeats 1000000 in
theorem value_any (c : Int) (w : World) (h0 : 0 ≤ c) (h1 : c ≤ 255) :
    Calls Tryd.prog 25 #[.int .u8 c] w fun e w' => e = .returned (.int .i64 (digI c)) ∧ w' = w := by
  go_enter Tryd.func25, Tryd.ntmps25
  go_wp2
  go_loop [5] (fun t => ∃ k : Nat, k ≤ 16 ∧ t = .int .i64 k ∧ Kpt (∀ j, j < k → ¬ lowZ.getD j 0 = c ∧ ¬ upZ.getD j 0 = c)) (fun t => 16 - (intOf t).toNat)
  case atStart => exact ⟨0, by omega, rfl, ⟨fun j hj => by omega⟩⟩
  case round =>
    obtain ⟨k, hk, rfl, hn⟩ := hrel
    by_cases hlt : k < 16
    · obtain rfl | rfl | rfl | rfl | rfl | rfl | rfl | rfl | rfl | rfl | rfl | rfl | rfl | rfl | rfl | rfl : k = 0 ∨ k = 1 ∨ k = 2 ∨ k = 3 ∨ k = 4 ∨ k = 5 ∨ k = 6 ∨ k = 7 ∨ k = 8 ∨ k = 9 ∨ k = 10 ∨ k = 11 ∨ k = 12 ∨ k = 13 ∨ k = 14 ∨ k = 15 := by omega
      · have eL : (({ data := #[48, 49, 50, 51, 52, 53, 54, 55, 56, 57, 97, 98, 99, 100, 101, 102] } : ByteArray)[0]).toNat = 48 := rfl
        have eU : (({ data := #[48, 49, 50, 51, 52, 53, 54, 55, 56, 57, 65, 66, 67, 68, 69, 70] } : ByteArray)[0]).toNat = 48 := rfl
        by_cases hc1 : c = 48
        · subst hc1
          go_wp2
          go_ret
          exact ⟨rfl, rfl⟩
        · have n1 : ¬ (48 : Int) = c := fun h => hc1 h.symm
          have n2 := n1
          go_wp2
          go_round
          case rel => exact ⟨1, by omega, by simp, ⟨fun j hj => by
            by_cases hjk : j < 0
            · exact hn.out j hjk
            · obtain rfl : j = 0 := by omega
              exact ⟨n1, n2⟩⟩⟩
          case measure => simp [intOf]
      · have eL : (({ data := #[48, 49, 50, 51, 52, 53, 54, 55, 56, 57, 97, 98, 99, 100, 101, 102] } : ByteArray)[1]).toNat = 49 := rfl
        have eU : (({ data := #[48, 49, 50, 51, 52, 53, 54, 55, 56, 57, 65, 66, 67, 68, 69, 70] } : ByteArray)[1]).toNat = 49 := rfl
        by_cases hc1 : c = 49
        · subst hc1
          go_wp2
          go_ret
          exact ⟨rfl, rfl⟩
        · have n1 : ¬ (49 : Int) = c := fun h => hc1 h.symm
          have n2 := n1
          go_wp2
          go_round
          case rel => exact ⟨2, by omega, by simp, ⟨fun j hj => by
            by_cases hjk : j < 1
            · exact hn.out j hjk
            · obtain rfl : j = 1 := by omega
              exact ⟨n1, n2⟩⟩⟩
          case measure => simp [intOf]
      · have eL : (({ data := #[48, 49, 50, 51, 52, 53, 54, 55, 56, 57, 97, 98, 99, 100, 101, 102] } : ByteArray)[2]).toNat = 50 := rfl
        have eU : (({ data := #[48, 49, 50, 51, 52, 53, 54, 55, 56, 57, 65, 66, 67, 68, 69, 70] } : ByteArray)[2]).toNat = 50 := rfl
        by_cases hc1 : c = 50
        · subst hc1
          go_wp2
          go_ret
          exact ⟨rfl, rfl⟩
        · have n1 : ¬ (50 : Int) = c := fun h => hc1 h.symm
          have n2 := n1
          go_wp2
          go_round
          case rel => exact ⟨3, by omega, by simp, ⟨fun j hj => by
            by_cases hjk : j < 2
            · exact hn.out j hjk
            · obtain rfl : j = 2 := by omega
              exact ⟨n1, n2⟩⟩⟩
          case measure => simp [intOf]
      · have eL : (({ data := #[48, 49, 50, 51, 52, 53, 54, 55, 56, 57, 97, 98, 99, 100, 101, 102] } : ByteArray)[3]).toNat = 51 := rfl
        have eU : (({ data := #[48, 49, 50, 51, 52, 53, 54, 55, 56, 57, 65, 66, 67, 68, 69, 70] } : ByteArray)[3]).toNat = 51 := rfl
        by_cases hc1 : c = 51
        · subst hc1
          go_wp2
          go_ret
          exact ⟨rfl, rfl⟩
        · have n1 : ¬ (51 : Int) = c := fun h => hc1 h.symm
          have n2 := n1
          go_wp2
          go_round
          case rel => exact ⟨4, by omega, by simp, ⟨fun j hj => by
            by_cases hjk : j < 3
            · exact hn.out j hjk
            · obtain rfl : j = 3 := by omega
              exact ⟨n1, n2⟩⟩⟩
          case measure => simp [intOf]
      · have eL : (({ data := #[48, 49, 50, 51, 52, 53, 54, 55, 56, 57, 97, 98, 99, 100, 101, 102] } : ByteArray)[4]).toNat = 52 := rfl
        have eU : (({ data := #[48, 49, 50, 51, 52, 53, 54, 55, 56, 57, 65, 66, 67, 68, 69, 70] } : ByteArray)[4]).toNat = 52 := rfl
        by_cases hc1 : c = 52
        · subst hc1
          go_wp2
          go_ret
          exact ⟨rfl, rfl⟩
        · have n1 : ¬ (52 : Int) = c := fun h => hc1 h.symm
          have n2 := n1
          go_wp2
          go_round
          case rel => exact ⟨5, by omega, by simp, ⟨fun j hj => by
            by_cases hjk : j < 4
            · exact hn.out j hjk
            · obtain rfl : j = 4 := by omega
              exact ⟨n1, n2⟩⟩⟩
          case measure => simp [intOf]
      · have eL : (({ data := #[48, 49, 50, 51, 52, 53, 54, 55, 56, 57, 97, 98, 99, 100, 101, 102] } : ByteArray)[5]).toNat = 53 := rfl
        have eU : (({ data := #[48, 49, 50, 51, 52, 53, 54, 55, 56, 57, 65, 66, 67, 68, 69, 70] } : ByteArray)[5]).toNat = 53 := rfl
        by_cases hc1 : c = 53
        · subst hc1
          go_wp2
          go_ret
          exact ⟨rfl, rfl⟩
        · have n1 : ¬ (53 : Int) = c := fun h => hc1 h.symm
          have n2 := n1
          go_wp2
          go_round
          case rel => exact ⟨6, by omega, by simp, ⟨fun j hj => by
            by_cases hjk : j < 5
            · exact hn.out j hjk
            · obtain rfl : j = 5 := by omega
              exact ⟨n1, n2⟩⟩⟩
          case measure => simp [intOf]
      · have eL : (({ data := #[48, 49, 50, 51, 52, 53, 54, 55, 56, 57, 97, 98, 99, 100, 101, 102] } : ByteArray)[6]).toNat = 54 := rfl
        have eU : (({ data := #[48, 49, 50, 51, 52, 53, 54, 55, 56, 57, 65, 66, 67, 68, 69, 70] } : ByteArray)[6]).toNat = 54 := rfl
        by_cases hc1 : c = 54
        · subst hc1
          go_wp2
          go_ret
          exact ⟨rfl, rfl⟩
        · have n1 : ¬ (54 : Int) = c := fun h => hc1 h.symm
          have n2 := n1
          go_wp2
          go_round
          case rel => exact ⟨7, by omega, by simp, ⟨fun j hj => by
            by_cases hjk : j < 6
            · exact hn.out j hjk
            · obtain rfl : j = 6 := by omega
              exact ⟨n1, n2⟩⟩⟩
          case measure => simp [intOf]
      · have eL : (({ data := #[48, 49, 50, 51, 52, 53, 54, 55, 56, 57, 97, 98, 99, 100, 101, 102] } : ByteArray)[7]).toNat = 55 := rfl
        have eU : (({ data := #[48, 49, 50, 51, 52, 53, 54, 55, 56, 57, 65, 66, 67, 68, 69, 70] } : ByteArray)[7]).toNat = 55 := rfl
        by_cases hc1 : c = 55
        · subst hc1
          go_wp2
          go_ret
          exact ⟨rfl, rfl⟩
        · have n1 : ¬ (55 : Int) = c := fun h => hc1 h.symm
          have n2 := n1
          go_wp2
          go_round
          case rel => exact ⟨8, by omega, by simp, ⟨fun j hj => by
            by_cases hjk : j < 7
            · exact hn.out j hjk
            · obtain rfl : j = 7 := by omega
              exact ⟨n1, n2⟩⟩⟩
          case measure => simp [intOf]
      · have eL : (({ data := #[48, 49, 50, 51, 52, 53, 54, 55, 56, 57, 97, 98, 99, 100, 101, 102] } : ByteArray)[8]).toNat = 56 := rfl
        have eU : (({ data := #[48, 49, 50, 51, 52, 53, 54, 55, 56, 57, 65, 66, 67, 68, 69, 70] } : ByteArray)[8]).toNat = 56 := rfl
        by_cases hc1 : c = 56
        · subst hc1
          go_wp2
          go_ret
          exact ⟨rfl, rfl⟩
        · have n1 : ¬ (56 : Int) = c := fun h => hc1 h.symm
          have n2 := n1
          go_wp2
          go_round
          case rel => exact ⟨9, by omega, by simp, ⟨fun j hj => by
            by_cases hjk : j < 8
            · exact hn.out j hjk
            · obtain rfl : j = 8 := by omega
              exact ⟨n1, n2⟩⟩⟩
          case measure => simp [intOf]
      · have eL : (({ data := #[48, 49, 50, 51, 52, 53, 54, 55, 56, 57, 97, 98, 99, 100, 101, 102] } : ByteArray)[9]).toNat = 57 := rfl
        have eU : (({ data := #[48, 49, 50, 51, 52, 53, 54, 55, 56, 57, 65, 66, 67, 68, 69, 70] } : ByteArray)[9]).toNat = 57 := rfl
        by_cases hc1 : c = 57
        · subst hc1
          go_wp2
          go_ret
          exact ⟨rfl, rfl⟩
        · have n1 : ¬ (57 : Int) = c := fun h => hc1 h.symm
          have n2 := n1
          go_wp2
          go_round
          case rel => exact ⟨10, by omega, by simp, ⟨fun j hj => by
            by_cases hjk : j < 9
            · exact hn.out j hjk
            · obtain rfl : j = 9 := by omega
              exact ⟨n1, n2⟩⟩⟩
          case measure => simp [intOf]
      · have eL : (({ data := #[48, 49, 50, 51, 52, 53, 54, 55, 56, 57, 97, 98, 99, 100, 101, 102] } : ByteArray)[10]).toNat = 97 := rfl
        have eU : (({ data := #[48, 49, 50, 51, 52, 53, 54, 55, 56, 57, 65, 66, 67, 68, 69, 70] } : ByteArray)[10]).toNat = 65 := rfl
        by_cases hc1 : c = 97
        · subst hc1
          go_wp2
          go_ret
          exact ⟨rfl, rfl⟩
        · by_cases hc2 : c = 65
          · subst hc2
            go_wp2
            go_ret
            exact ⟨rfl, rfl⟩
          · have n1 : ¬ (97 : Int) = c := fun h => hc1 h.symm
            have n2 : ¬ (65 : Int) = c := fun h => hc2 h.symm
            have b1 : ((97 : Int) == c) = false := beq_false_of_ne n1
            have b2 : ((65 : Int) == c) = false := beq_false_of_ne n2
            go_wp2
            go_round
            case rel => exact ⟨11, by omega, by simp, ⟨fun j hj => by
              by_cases hjk : j < 10
              · exact hn.out j hjk
              · obtain rfl : j = 10 := by omega
                exact ⟨n1, n2⟩⟩⟩
            case measure => simp [intOf]
      · have eL : (({ data := #[48, 49, 50, 51, 52, 53, 54, 55, 56, 57, 97, 98, 99, 100, 101, 102] } : ByteArray)[11]).toNat = 98 := rfl
        have eU : (({ data := #[48, 49, 50, 51, 52, 53, 54, 55, 56, 57, 65, 66, 67, 68, 69, 70] } : ByteArray)[11]).toNat = 66 := rfl
        by_cases hc1 : c = 98
        · subst hc1
          go_wp2
          go_ret
          exact ⟨rfl, rfl⟩
        · by_cases hc2 : c = 66
          · subst hc2
            go_wp2
            go_ret
            exact ⟨rfl, rfl⟩
          · have n1 : ¬ (98 : Int) = c := fun h => hc1 h.symm
            have n2 : ¬ (66 : Int) = c := fun h => hc2 h.symm
            have b1 : ((98 : Int) == c) = false := beq_false_of_ne n1
            have b2 : ((66 : Int) == c) = false := beq_false_of_ne n2
            go_wp2
            go_round
            case rel => exact ⟨12, by omega, by simp, ⟨fun j hj => by
              by_cases hjk : j < 11
              · exact hn.out j hjk
              · obtain rfl : j = 11 := by omega
                exact ⟨n1, n2⟩⟩⟩
            case measure => simp [intOf]
      · have eL : (({ data := #[48, 49, 50, 51, 52, 53, 54, 55, 56, 57, 97, 98, 99, 100, 101, 102] } : ByteArray)[12]).toNat = 99 := rfl
        have eU : (({ data := #[48, 49, 50, 51, 52, 53, 54, 55, 56, 57, 65, 66, 67, 68, 69, 70] } : ByteArray)[12]).toNat = 67 := rfl
        by_cases hc1 : c = 99
        · subst hc1
          go_wp2
          go_ret
          exact ⟨rfl, rfl⟩
        · by_cases hc2 : c = 67
          · subst hc2
            go_wp2
            go_ret
            exact ⟨rfl, rfl⟩
          · have n1 : ¬ (99 : Int) = c := fun h => hc1 h.symm
            have n2 : ¬ (67 : Int) = c := fun h => hc2 h.symm
            have b1 : ((99 : Int) == c) = false := beq_false_of_ne n1
            have b2 : ((67 : Int) == c) = false := beq_false_of_ne n2
            go_wp2
            go_round
            case rel => exact ⟨13, by omega, by simp, ⟨fun j hj => by
              by_cases hjk : j < 12
              · exact hn.out j hjk
              · obtain rfl : j = 12 := by omega
                exact ⟨n1, n2⟩⟩⟩
            case measure => simp [intOf]
      · have eL : (({ data := #[48, 49, 50, 51, 52, 53, 54, 55, 56, 57, 97, 98, 99, 100, 101, 102] } : ByteArray)[13]).toNat = 100 := rfl
        have eU : (({ data := #[48, 49, 50, 51, 52, 53, 54, 55, 56, 57, 65, 66, 67, 68, 69, 70] } : ByteArray)[13]).toNat = 68 := rfl
        by_cases hc1 : c = 100
        · subst hc1
          go_wp2
          go_ret
          exact ⟨rfl, rfl⟩
        · by_cases hc2 : c = 68
          · subst hc2
            go_wp2
            go_ret
            exact ⟨rfl, rfl⟩
          · have n1 : ¬ (100 : Int) = c := fun h => hc1 h.symm
            have n2 : ¬ (68 : Int) = c := fun h => hc2 h.symm
            have b1 : ((100 : Int) == c) = false := beq_false_of_ne n1
            have b2 : ((68 : Int) == c) = false := beq_false_of_ne n2
            go_wp2
            go_round
            case rel => exact ⟨14, by omega, by simp, ⟨fun j hj => by
              by_cases hjk : j < 13
              · exact hn.out j hjk
              · obtain rfl : j = 13 := by omega
                exact ⟨n1, n2⟩⟩⟩
            case measure => simp [intOf]
      · have eL : (({ data := #[48, 49, 50, 51, 52, 53, 54, 55, 56, 57, 97, 98, 99, 100, 101, 102] } : ByteArray)[14]).toNat = 101 := rfl
        have eU : (({ data := #[48, 49, 50, 51, 52, 53, 54, 55, 56, 57, 65, 66, 67, 68, 69, 70] } : ByteArray)[14]).toNat = 69 := rfl
        by_cases hc1 : c = 101
        · subst hc1
          go_wp2
          go_ret
          exact ⟨rfl, rfl⟩
        · by_cases hc2 : c = 69
          · subst hc2
            go_wp2
            go_ret
            exact ⟨rfl, rfl⟩
          · have n1 : ¬ (101 : Int) = c := fun h => hc1 h.symm
            have n2 : ¬ (69 : Int) = c := fun h => hc2 h.symm
            have b1 : ((101 : Int) == c) = false := beq_false_of_ne n1
            have b2 : ((69 : Int) == c) = false := beq_false_of_ne n2
            go_wp2
            go_round
            case rel => exact ⟨15, by omega, by simp, ⟨fun j hj => by
              by_cases hjk : j < 14
              · exact hn.out j hjk
              · obtain rfl : j = 14 := by omega
                exact ⟨n1, n2⟩⟩⟩
            case measure => simp [intOf]
      · have eL : (({ data := #[48, 49, 50, 51, 52, 53, 54, 55, 56, 57, 97, 98, 99, 100, 101, 102] } : ByteArray)[15]).toNat = 102 := rfl
        have eU : (({ data := #[48, 49, 50, 51, 52, 53, 54, 55, 56, 57, 65, 66, 67, 68, 69, 70] } : ByteArray)[15]).toNat = 70 := rfl
        by_cases hc1 : c = 102
        · subst hc1
          go_wp2
          go_ret
          exact ⟨rfl, rfl⟩
        · by_cases hc2 : c = 70
          · subst hc2
            go_wp2
            go_ret
            exact ⟨rfl, rfl⟩
          · have n1 : ¬ (102 : Int) = c := fun h => hc1 h.symm
            have n2 : ¬ (70 : Int) = c := fun h => hc2 h.symm
            have b1 : ((102 : Int) == c) = false := beq_false_of_ne n1
            have b2 : ((70 : Int) == c) = false := beq_false_of_ne n2
            go_wp2
            go_round
            case rel => exact ⟨16, by omega, by simp, ⟨fun j hj => by
              by_cases hjk : j < 15
              · exact hn.out j hjk
              · obtain rfl : j = 15 := by omega
                exact ⟨n1, n2⟩⟩⟩
            case measure => simp [intOf]
    · obtain rfl : k = 16 := by omega
      have hd : Kpt (digI c = -1) := ⟨by
        have f := hn.out
        have f0 := f 0 (by omega)
        have f1 := f 1 (by omega)
        have f2 := f 2 (by omega)
        have f3 := f 3 (by omega)
        have f4 := f 4 (by omega)
        have f5 := f 5 (by omega)
        have f6 := f 6 (by omega)
        have f7 := f 7 (by omega)
        have f8 := f 8 (by omega)
        have f9 := f 9 (by omega)
        have f10 := f 10 (by omega)
        have f11 := f 11 (by omega)
        have f12 := f 12 (by omega)
        have f13 := f 13 (by omega)
        have f14 := f 14 (by omega)
        have f15 := f 15 (by omega)
        simp [lowZ, upZ] at f0 f1 f2 f3 f4 f5 f6 f7 f8 f9 f10 f11 f12 f13 f14 f15
        unfold digI
        rw [if_neg (by omega), if_neg (by omega), if_neg (by omega)]⟩
      clear hn
      go_wp2
      go_ret
      exact ⟨by rw [hd.out]; rfl, rfl⟩

end Go.Proofs.YtaedkofljmonjaaDoor
