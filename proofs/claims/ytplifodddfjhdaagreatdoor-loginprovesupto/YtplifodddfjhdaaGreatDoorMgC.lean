/-
  chap: where a byte stands in a text; a digit's number, by the program and by the document. A text of digits as bytes: what it says, and the contracts of the program's and of the document's function. A text of digits as bytes: the contract of the document's function. Bytes as a text of digits: the contract of the document's function.
-/
import Derived.Test.YtplifodddfjhdaaGreatDoorXIds
import Derived.Lib.IndexBytes
import Derived.Lib.BytesEntry
import Derived.Deep.DeepMust
import Derived.Test.YtplifodddfjhdaaGreatDoorQHex
namespace Go.Proofs.YtplifodddfjhdaaGreatDoor
open Go.RowKit
set_option linter.unusedVariables false
set_option linter.unusedSimpArgs false

theorem sib_any (zs : List Int) (c : Int) (w : World) (hb : Bytes zs) (h0 : 0 ≤ c) (h1 : c ≤ 255) :
    Calls Tryz.prog 88 #[.string (strOfNums zs), .int .u8 c] w fun e w' => e = .returned (.int .i64 (idxI zs c)) ∧ w' = w := by
  have h := Kpt.mk (ibs_any zs c w hb h0 h1)
  go_enter Tryz.func88, Tryz.ntmps88
  go_wp2_with (go_at_call 96; go_must (refine h.out.mono ?_; rintro e w ⟨rfl, rfl⟩))
  go_ret
  exact ⟨rfl, rfl⟩

def lowZ : List Int := [48, 49, 50, 51, 52, 53, 54, 55, 56, 57, 97, 98, 99, 100, 101, 102]
def upZ : List Int := [48, 49, 50, 51, 52, 53, 54, 55, 56, 57, 65, 66, 67, 68, 69, 70]
/-- A digit's number, -1 of another character. -/
def digI (c : Int) : Int := if 48 ≤ c ∧ c ≤ 57 then c - 48 else if 97 ≤ c ∧ c ≤ 102 then c - 87 else if 65 ≤ c ∧ c ≤ 70 then c - 55 else -1
theorem dig_all : ∀ q : Fin 256, max (idxI lowZ (q.val : Int)) (idxI upZ (q.val : Int)) = digI (q.val : Int) := by decide +kernel
theorem dig_max (c : Int) (h0 : 0 ≤ c) (h1 : c ≤ 255) : max (idxI lowZ c) (idxI upZ c) = digI c := by
  have := dig_all ⟨c.toNat, by omega⟩
  simp only [show ((c.toNat : Nat) : Int) = c by omega] at this
  exact this
theorem digI_le (c : Int) : -1 ≤ digI c ∧ digI c ≤ 15 := by unfold digI; split; omega; split; omega; split; omega; omega
theorem low_bytes : Bytes lowZ := fun j => by
  rw [List.getD_eq_getElem?_getD]
  cases h : lowZ[j]? with
  | none => simp
  | some z =>
    have : ∀ z ∈ lowZ, 0 ≤ z ∧ z ≤ 255 := by decide
    exact this z (List.mem_of_getElem? h)
theorem up_bytes : Bytes upZ := fun j => by
  rw [List.getD_eq_getElem?_getD]
  cases h : upZ[j]? with
  | none => simp
  | some z =>
    have : ∀ z ∈ upZ, 0 ≤ z ∧ z ≤ 255 := by decide
    exact this z (List.mem_of_getElem? h)
theorem sib_low (c : Int) (w : World) (h0 : 0 ≤ c) (h1 : c ≤ 255) :
    Calls Tryz.prog 88 #[.string ⟨#[48, 49, 50, 51, 52, 53, 54, 55, 56, 57, 97, 98, 99, 100, 101, 102]⟩, .int .u8 c] w fun e w' => e = .returned (.int .i64 (idxI lowZ c)) ∧ w' = w := sib_any lowZ c w low_bytes h0 h1
theorem sib_up (c : Int) (w : World) (h0 : 0 ≤ c) (h1 : c ≤ 255) :
    Calls Tryz.prog 88 #[.string ⟨#[48, 49, 50, 51, 52, 53, 54, 55, 56, 57, 65, 66, 67, 68, 69, 70]⟩, .int .u8 c] w fun e w' => e = .returned (.int .i64 (idxI upZ c)) ∧ w' = w := sib_any upZ c w up_bytes h0 h1

theorem digit_any (c : Int) (w : World) (h0 : 0 ≤ c) (h1 : c ≤ 255) :
    Calls Tryz.prog 77 #[.int .u8 c] w fun e w' => e = .returned (.int .i64 (digI c)) ∧ w' = w := by
  have hm := Kpt.mk (dig_max c h0 h1)
  have hl := Kpt.mk (sib_low c w h0 h1)
  have hu := Kpt.mk (sib_up c w h0 h1)
  generalize idxI lowZ c = x at hm hl
  generalize idxI upZ c = y at hm hu
  go_enter Tryz.func77, Tryz.ntmps77
  go_wp2_with (first
    | (go_at_call 88; have hmm := m1; go_must (refine hu.out.mono ?_; rintro e w ⟨rfl, rfl⟩; clear hmm m1))
    | (go_at_call 88; go_must (refine hl.out.mono ?_; rintro e w ⟨rfl, rfl⟩; have m1 : Kpt True := ⟨trivial⟩)))
  all_goals go_ret
  all_goals refine ⟨?_, rfl⟩
  · rw [← hm.out, show max x y = y by omega]; rfl
  · rw [← hm.out, show max x y = x by omega]; rfl

set_option maxRecDepth 100000 in
set_option maxHeartbeats 1000000 in
theorem value_any (c : Int) (w : World) (h0 : 0 ≤ c) (h1 : c ≤ 255) :
    Calls Tryz.prog 34 #[.int .u8 c] w fun e w' => e = .returned (.int .i64 (digI c)) ∧ w' = w := by
  go_enter Tryz.func34, Tryz.ntmps34
  go_wp2
  go_loop [5] (fun t => ∃ k : Nat, k ≤ 16 ∧ t = .int .i64 k ∧ Kpt (∀ j, j < k → ¬ lowZ.getD j 0 = c ∧ ¬ upZ.getD j 0 = c)) (fun t => 16 - (intOf t).toNat)
  case atStart => exact ⟨0, by omega, rfl, ⟨fun j hj => by omega⟩⟩
  case round =>
    obtain ⟨k, hk, rfl, hn⟩ := hrel
    by_cases hlt : k < 16
    · obtain rfl | rfl | rfl | rfl | rfl | rfl | rfl | rfl | rfl | rfl | rfl | rfl | rfl | rfl | rfl | rfl : k = 0 ∨ k = 1 ∨ k = 2 ∨ k = 3 ∨ k = 4 ∨ k = 5 ∨ k = 6 ∨ k = 7 ∨ k = 8 ∨ k = 9 ∨ k = 10 ∨ k = 11 ∨ k = 12 ∨ k = 13 ∨ k = 14 ∨ k = 15 := by omega
      · have eL : (({ data := #[48, 49, 50, 51, 52, 53, 54, 55, 56, 57, 97, 98, 99, 100, 101, 102] } : ByteArray)[0]).toNat = 48 := rfl
        have eU : (({ data := #[48, 49, 50, 51, 52, 53, 54, 55, 56, 57, 65, 66, 67, 68, 69, 70] } : ByteArray)[0]).toNat = 48 := rfl
        by_cases hc1 : c = 48
        · subst hc1
          go_wp2
          go_ret
          exact ⟨rfl, rfl⟩
        · have n1 : ¬ (48 : Int) = c := fun h => hc1 h.symm
          have n2 := n1
          go_wp2
          go_round
          case rel => exact ⟨1, by omega, by simp, ⟨fun j hj => by
            by_cases hjk : j < 0
            · exact hn.out j hjk
            · obtain rfl : j = 0 := by omega
              exact ⟨n1, n2⟩⟩⟩
          case measure => simp [intOf]
      · have eL : (({ data := #[48, 49, 50, 51, 52, 53, 54, 55, 56, 57, 97, 98, 99, 100, 101, 102] } : ByteArray)[1]).toNat = 49 := rfl
        have eU : (({ data := #[48, 49, 50, 51, 52, 53, 54, 55, 56, 57, 65, 66, 67, 68, 69, 70] } : ByteArray)[1]).toNat = 49 := rfl
        by_cases hc1 : c = 49
        · subst hc1
          go_wp2
          go_ret
          exact ⟨rfl, rfl⟩
        · have n1 : ¬ (49 : Int) = c := fun h => hc1 h.symm
          have n2 := n1
          go_wp2
          go_round
          case rel => exact ⟨2, by omega, by simp, ⟨fun j hj => by
            by_cases hjk : j < 1
            · exact hn.out j hjk
            · obtain rfl : j = 1 := by omega
              exact ⟨n1, n2⟩⟩⟩
          case measure => simp [intOf]
      · have eL : (({ data := #[48, 49, 50, 51, 52, 53, 54, 55, 56, 57, 97, 98, 99, 100, 101, 102] } : ByteArray)[2]).toNat = 50 := rfl
        have eU : (({ data := #[48, 49, 50, 51, 52, 53, 54, 55, 56, 57, 65, 66, 67, 68, 69, 70] } : ByteArray)[2]).toNat = 50 := rfl
        by_cases hc1 : c = 50
        · subst hc1
          go_wp2
          go_ret
          exact ⟨rfl, rfl⟩
        · have n1 : ¬ (50 : Int) = c := fun h => hc1 h.symm
          have n2 := n1
          go_wp2
          go_round
          case rel => exact ⟨3, by omega, by simp, ⟨fun j hj => by
            by_cases hjk : j < 2
            · exact hn.out j hjk
            · obtain rfl : j = 2 := by omega
              exact ⟨n1, n2⟩⟩⟩
          case measure => simp [intOf]
      · have eL : (({ data := #[48, 49, 50, 51, 52, 53, 54, 55, 56, 57, 97, 98, 99, 100, 101, 102] } : ByteArray)[3]).toNat = 51 := rfl
        have eU : (({ data := #[48, 49, 50, 51, 52, 53, 54, 55, 56, 57, 65, 66, 67, 68, 69, 70] } : ByteArray)[3]).toNat = 51 := rfl
        by_cases hc1 : c = 51
        · subst hc1
          go_wp2
          go_ret
          exact ⟨rfl, rfl⟩
        · have n1 : ¬ (51 : Int) = c := fun h => hc1 h.symm
          have n2 := n1
          go_wp2
          go_round
          case rel => exact ⟨4, by omega, by simp, ⟨fun j hj => by
            by_cases hjk : j < 3
            · exact hn.out j hjk
            · obtain rfl : j = 3 := by omega
              exact ⟨n1, n2⟩⟩⟩
          case measure => simp [intOf]
      · have eL : (({ data := #[48, 49, 50, 51, 52, 53, 54, 55, 56, 57, 97, 98, 99, 100, 101, 102] } : ByteArray)[4]).toNat = 52 := rfl
        have eU : (({ data := #[48, 49, 50, 51, 52, 53, 54, 55, 56, 57, 65, 66, 67, 68, 69, 70] } : ByteArray)[4]).toNat = 52 := rfl
        by_cases hc1 : c = 52
        · subst hc1
          go_wp2
          go_ret
          exact ⟨rfl, rfl⟩
        · have n1 : ¬ (52 : Int) = c := fun h => hc1 h.symm
          have n2 := n1
          go_wp2
          go_round
          case rel => exact ⟨5, by omega, by simp, ⟨fun j hj => by
            by_cases hjk : j < 4
            · exact hn.out j hjk
            · obtain rfl : j = 4 := by omega
              exact ⟨n1, n2⟩⟩⟩
          case measure => simp [intOf]
      · have eL : (({ data := #[48, 49, 50, 51, 52, 53, 54, 55, 56, 57, 97, 98, 99, 100, 101, 102] } : ByteArray)[5]).toNat = 53 := rfl
        have eU : (({ data := #[48, 49, 50, 51, 52, 53, 54, 55, 56, 57, 65, 66, 67, 68, 69, 70] } : ByteArray)[5]).toNat = 53 := rfl
        by_cases hc1 : c = 53
        · subst hc1
          go_wp2
          go_ret
          exact ⟨rfl, rfl⟩
        · have n1 : ¬ (53 : Int) = c := fun h => hc1 h.symm
          have n2 := n1
          go_wp2
          go_round
          case rel => exact ⟨6, by omega, by simp, ⟨fun j hj => by
            by_cases hjk : j < 5
            · exact hn.out j hjk
            · obtain rfl : j = 5 := by omega
              exact ⟨n1, n2⟩⟩⟩
          case measure => simp [intOf]
      · have eL : (({ data := #[48, 49, 50, 51, 52, 53, 54, 55, 56, 57, 97, 98, 99, 100, 101, 102] } : ByteArray)[6]).toNat = 54 := rfl
        have eU : (({ data := #[48, 49, 50, 51, 52, 53, 54, 55, 56, 57, 65, 66, 67, 68, 69, 70] } : ByteArray)[6]).toNat = 54 := rfl
        by_cases hc1 : c = 54
        · subst hc1
          go_wp2
          go_ret
          exact ⟨rfl, rfl⟩
        · have n1 : ¬ (54 : Int) = c := fun h => hc1 h.symm
          have n2 := n1
          go_wp2
          go_round
          case rel => exact ⟨7, by omega, by simp, ⟨fun j hj => by
            by_cases hjk : j < 6
            · exact hn.out j hjk
            · obtain rfl : j = 6 := by omega
              exact ⟨n1, n2⟩⟩⟩
          case measure => simp [intOf]
      · have eL : (({ data := #[48, 49, 50, 51, 52, 53, 54, 55, 56, 57, 97, 98, 99, 100, 101, 102] } : ByteArray)[7]).toNat = 55 := rfl
        have eU : (({ data := #[48, 49, 50, 51, 52, 53, 54, 55, 56, 57, 65, 66, 67, 68, 69, 70] } : ByteArray)[7]).toNat = 55 := rfl
        by_cases hc1 : c = 55
        · subst hc1
          go_wp2
          go_ret
          exact ⟨rfl, rfl⟩
        · have n1 : ¬ (55 : Int) = c := fun h => hc1 h.symm
          have n2 := n1
          go_wp2
          go_round
          case rel => exact ⟨8, by omega, by simp, ⟨fun j hj => by
            by_cases hjk : j < 7
            · exact hn.out j hjk
            · obtain rfl : j = 7 := by omega
              exact ⟨n1, n2⟩⟩⟩
          case measure => simp [intOf]
      · have eL : (({ data := #[48, 49, 50, 51, 52, 53, 54, 55, 56, 57, 97, 98, 99, 100, 101, 102] } : ByteArray)[8]).toNat = 56 := rfl
        have eU : (({ data := #[48, 49, 50, 51, 52, 53, 54, 55, 56, 57, 65, 66, 67, 68, 69, 70] } : ByteArray)[8]).toNat = 56 := rfl
        by_cases hc1 : c = 56
        · subst hc1
          go_wp2
          go_ret
          exact ⟨rfl, rfl⟩
        · have n1 : ¬ (56 : Int) = c := fun h => hc1 h.symm
          have n2 := n1
          go_wp2
          go_round
          case rel => exact ⟨9, by omega, by simp, ⟨fun j hj => by
            by_cases hjk : j < 8
            · exact hn.out j hjk
            · obtain rfl : j = 8 := by omega
              exact ⟨n1, n2⟩⟩⟩
          case measure => simp [intOf]
      · have eL : (({ data := #[48, 49, 50, 51, 52, 53, 54, 55, 56, 57, 97, 98, 99, 100, 101, 102] } : ByteArray)[9]).toNat = 57 := rfl
        have eU : (({ data := #[48, 49, 50, 51, 52, 53, 54, 55, 56, 57, 65, 66, 67, 68, 69, 70] } : ByteArray)[9]).toNat = 57 := rfl
        by_cases hc1 : c = 57
        · subst hc1
          go_wp2
          go_ret
          exact ⟨rfl, rfl⟩
        · have n1 : ¬ (57 : Int) = c := fun h => hc1 h.symm
          have n2 := n1
          go_wp2
          go_round
          case rel => exact ⟨10, by omega, by simp, ⟨fun j hj => by
            by_cases hjk : j < 9
            · exact hn.out j hjk
            · obtain rfl : j = 9 := by omega
              exact ⟨n1, n2⟩⟩⟩
          case measure => simp [intOf]
      · have eL : (({ data := #[48, 49, 50, 51, 52, 53, 54, 55, 56, 57, 97, 98, 99, 100, 101, 102] } : ByteArray)[10]).toNat = 97 := rfl
        have eU : (({ data := #[48, 49, 50, 51, 52, 53, 54, 55, 56, 57, 65, 66, 67, 68, 69, 70] } : ByteArray)[10]).toNat = 65 := rfl
        by_cases hc1 : c = 97
        · subst hc1
          go_wp2
          go_ret
          exact ⟨rfl, rfl⟩
        · by_cases hc2 : c = 65
          · subst hc2
            go_wp2
            go_ret
            exact ⟨rfl, rfl⟩
          · have n1 : ¬ (97 : Int) = c := fun h => hc1 h.symm
            have n2 : ¬ (65 : Int) = c := fun h => hc2 h.symm
            have b1 : ((97 : Int) == c) = false := beq_false_of_ne n1
            have b2 : ((65 : Int) == c) = false := beq_false_of_ne n2
            go_wp2
            go_round
            case rel => exact ⟨11, by omega, by simp, ⟨fun j hj => by
              by_cases hjk : j < 10
              · exact hn.out j hjk
              · obtain rfl : j = 10 := by omega
                exact ⟨n1, n2⟩⟩⟩
            case measure => simp [intOf]
      · have eL : (({ data := #[48, 49, 50, 51, 52, 53, 54, 55, 56, 57, 97, 98, 99, 100, 101, 102] } : ByteArray)[11]).toNat = 98 := rfl
        have eU : (({ data := #[48, 49, 50, 51, 52, 53, 54, 55, 56, 57, 65, 66, 67, 68, 69, 70] } : ByteArray)[11]).toNat = 66 := rfl
        by_cases hc1 : c = 98
        · subst hc1
          go_wp2
          go_ret
          exact ⟨rfl, rfl⟩
        · by_cases hc2 : c = 66
          · subst hc2
            go_wp2
            go_ret
            exact ⟨rfl, rfl⟩
          · have n1 : ¬ (98 : Int) = c := fun h => hc1 h.symm
            have n2 : ¬ (66 : Int) = c := fun h => hc2 h.symm
            have b1 : ((98 : Int) == c) = false := beq_false_of_ne n1
            have b2 : ((66 : Int) == c) = false := beq_false_of_ne n2
            go_wp2
            go_round
            case rel => exact ⟨12, by omega, by simp, ⟨fun j hj => by
              by_cases hjk : j < 11
              · exact hn.out j hjk
              · obtain rfl : j = 11 := by omega
                exact ⟨n1, n2⟩⟩⟩
            case measure => simp [intOf]
      · have eL : (({ data := #[48, 49, 50, 51, 52, 53, 54, 55, 56, 57, 97, 98, 99, 100, 101, 102] } : ByteArray)[12]).toNat = 99 := rfl
        have eU : (({ data := #[48, 49, 50, 51, 52, 53, 54, 55, 56, 57, 65, 66, 67, 68, 69, 70] } : ByteArray)[12]).toNat = 67 := rfl
        by_cases hc1 : c = 99
        · subst hc1
          go_wp2
          go_ret
          exact ⟨rfl, rfl⟩
        · by_cases hc2 : c = 67
          · subst hc2
            go_wp2
            go_ret
            exact ⟨rfl, rfl⟩
          · have n1 : ¬ (99 : Int) = c := fun h => hc1 h.symm
            have n2 : ¬ (67 : Int) = c := fun h => hc2 h.symm
            have b1 : ((99 : Int) == c) = false := beq_false_of_ne n1
            have b2 : ((67 : Int) == c) = false := beq_false_of_ne n2
            go_wp2
            go_round
            case rel => exact ⟨13, by omega, by simp, ⟨fun j hj => by
              by_cases hjk : j < 12
              · exact hn.out j hjk
              · obtain rfl : j = 12 := by omega
                exact ⟨n1, n2⟩⟩⟩
            case measure => simp [intOf]
      · have eL : (({ data := #[48, 49, 50, 51, 52, 53, 54, 55, 56, 57, 97, 98, 99, 100, 101, 102] } : ByteArray)[13]).toNat = 100 := rfl
        have eU : (({ data := #[48, 49, 50, 51, 52, 53, 54, 55, 56, 57, 65, 66, 67, 68, 69, 70] } : ByteArray)[13]).toNat = 68 := rfl
        by_cases hc1 : c = 100
        · subst hc1
          go_wp2
          go_ret
          exact ⟨rfl, rfl⟩
        · by_cases hc2 : c = 68
          · subst hc2
            go_wp2
            go_ret
            exact ⟨rfl, rfl⟩
          · have n1 : ¬ (100 : Int) = c := fun h => hc1 h.symm
            have n2 : ¬ (68 : Int) = c := fun h => hc2 h.symm
            have b1 : ((100 : Int) == c) = false := beq_false_of_ne n1
            have b2 : ((68 : Int) == c) = false := beq_false_of_ne n2
            go_wp2
            go_round
            case rel => exact ⟨14, by omega, by simp, ⟨fun j hj => by
              by_cases hjk : j < 13
              · exact hn.out j hjk
              · obtain rfl : j = 13 := by omega
                exact ⟨n1, n2⟩⟩⟩
            case measure => simp [intOf]
      · have eL : (({ data := #[48, 49, 50, 51, 52, 53, 54, 55, 56, 57, 97, 98, 99, 100, 101, 102] } : ByteArray)[14]).toNat = 101 := rfl
        have eU : (({ data := #[48, 49, 50, 51, 52, 53, 54, 55, 56, 57, 65, 66, 67, 68, 69, 70] } : ByteArray)[14]).toNat = 69 := rfl
        by_cases hc1 : c = 101
        · subst hc1
          go_wp2
          go_ret
          exact ⟨rfl, rfl⟩
        · by_cases hc2 : c = 69
          · subst hc2
            go_wp2
            go_ret
            exact ⟨rfl, rfl⟩
          · have n1 : ¬ (101 : Int) = c := fun h => hc1 h.symm
            have n2 : ¬ (69 : Int) = c := fun h => hc2 h.symm
            have b1 : ((101 : Int) == c) = false := beq_false_of_ne n1
            have b2 : ((69 : Int) == c) = false := beq_false_of_ne n2
            go_wp2
            go_round
            case rel => exact ⟨15, by omega, by simp, ⟨fun j hj => by
              by_cases hjk : j < 14
              · exact hn.out j hjk
              · obtain rfl : j = 14 := by omega
                exact ⟨n1, n2⟩⟩⟩
            case measure => simp [intOf]
      · have eL : (({ data := #[48, 49, 50, 51, 52, 53, 54, 55, 56, 57, 97, 98, 99, 100, 101, 102] } : ByteArray)[15]).toNat = 102 := rfl
        have eU : (({ data := #[48, 49, 50, 51, 52, 53, 54, 55, 56, 57, 65, 66, 67, 68, 69, 70] } : ByteArray)[15]).toNat = 70 := rfl
        by_cases hc1 : c = 102
        · subst hc1
          go_wp2
          go_ret
          exact ⟨rfl, rfl⟩
        · by_cases hc2 : c = 70
          · subst hc2
            go_wp2
            go_ret
            exact ⟨rfl, rfl⟩
          · have n1 : ¬ (102 : Int) = c := fun h => hc1 h.symm
            have n2 : ¬ (70 : Int) = c := fun h => hc2 h.symm
            have b1 : ((102 : Int) == c) = false := beq_false_of_ne n1
            have b2 : ((70 : Int) == c) = false := beq_false_of_ne n2
            go_wp2
            go_round
            case rel => exact ⟨16, by omega, by simp, ⟨fun j hj => by
              by_cases hjk : j < 15
              · exact hn.out j hjk
              · obtain rfl : j = 15 := by omega
                exact ⟨n1, n2⟩⟩⟩
            case measure => simp [intOf]
    · obtain rfl : k = 16 := by omega
      have hd : Kpt (digI c = -1) := ⟨by
        have f := hn.out
        have f0 := f 0 (by omega)
        have f1 := f 1 (by omega)
        have f2 := f 2 (by omega)
        have f3 := f 3 (by omega)
        have f4 := f 4 (by omega)
        have f5 := f 5 (by omega)
        have f6 := f 6 (by omega)
        have f7 := f 7 (by omega)
        have f8 := f 8 (by omega)
        have f9 := f 9 (by omega)
        have f10 := f 10 (by omega)
        have f11 := f 11 (by omega)
        have f12 := f 12 (by omega)
        have f13 := f 13 (by omega)
        have f14 := f 14 (by omega)
        have f15 := f 15 (by omega)
        simp [lowZ, upZ] at f0 f1 f2 f3 f4 f5 f6 f7 f8 f9 f10 f11 f12 f13 f14 f15
        unfold digI
        rw [if_neg (by omega), if_neg (by omega), if_neg (by omega)]⟩
      clear hn
      go_wp2
      go_ret
      exact ⟨by rw [hd.out]; rfl, rfl⟩

end Go.Proofs.YtplifodddfjhdaaGreatDoor

namespace Go.Proofs.YtplifodddfjhdaaGreatDoor
open Go.RowKit
set_option linter.unusedVariables false
set_option linter.unusedSimpArgs false

def unL : List Int → Option (List Int)
  | [] => some []
  | [_] => none
  | a :: b :: r => if digI a < 0 ∨ digI b < 0 then none else (unL r).map (fun o => (16 * digI a + digI b) :: o)
/-- The bytes that a text says. -/
def unx (ss : List Int) : Option (List Int) :=
  if 2 ≤ ss.length ∧ ss.getD 0 0 = 48 ∧ (ss.getD 1 0 = 120 ∨ ss.getD 1 0 = 88) ∧ ss.length % 2 = 0 then unL (ss.drop 2) else none

theorem unL_bytes : ∀ (n : Nat) (l o : List Int), l.length ≤ n → unL l = some o → Bytes o
  | _, [], o, _, h => by simp [unL] at h; subst h; exact Bytes.nil
  | _, [_], o, _, h => by simp [unL] at h
  | 0, a :: b :: r, o, hn, h => by simp at hn
  | n + 1, a :: b :: r, o, hn, h => by
    unfold unL at h
    by_cases hd : digI a < 0 ∨ digI b < 0
    · rw [if_pos hd] at h; cases h
    · rw [if_neg hd] at h
      cases hr : unL r with
      | none => rw [hr] at h; cases h
      | some o' =>
        rw [hr] at h
        simp only [Option.map_some, Option.some.injEq] at h
        subst h
        have h1 := digI_le a
        have h2 := digI_le b
        exact Bytes.cons (by omega) (unL_bytes n r o' (by simp at hn; omega) hr)
theorem unx_bytes {ss o : List Int} (h : unx ss = some o) : Bytes o := by
  unfold unx at h
  split at h
  · exact unL_bytes _ _ _ (Nat.le_refl _) h
  · cases h
theorem drop_two (ss : List Int) (k : Nat) (h : 2 + 2 * k + 1 < ss.length) : ss.drop (2 + 2 * k) = ss.getD (2 + 2 * k) 0 :: ss.getD (2 + 2 * k + 1) 0 :: ss.drop (2 + 2 * (k + 1)) := by
  rw [List.drop_eq_getElem_cons (by omega), List.drop_eq_getElem_cons (by omega)]
  simp [List.getD_eq_getElem?_getD, List.getElem?_eq_getElem (show 2 + 2 * k < ss.length by omega), List.getElem?_eq_getElem h, show 2 + 2 * k + 1 + 1 = 2 + 2 * (k + 1) by omega]
theorem unL_no {ss out : List Int} {k : Nat} (h : 2 + 2 * k + 1 < ss.length) (hu : unL (ss.drop 2) = (unL (ss.drop (2 + 2 * k))).map (out ++ ·)) (hd : digI (ss.getD (2 + 2 * k) 0) < 0 ∨ digI (ss.getD (2 + 2 * k + 1) 0) < 0) : unL (ss.drop 2) = none := by
  rw [hu, drop_two ss k h, unL, if_pos hd]; rfl
theorem unL_yes {ss out : List Int} {k : Nat} (h : 2 + 2 * k + 1 < ss.length) (hu : unL (ss.drop 2) = (unL (ss.drop (2 + 2 * k))).map (out ++ ·)) (hd : ¬ (digI (ss.getD (2 + 2 * k) 0) < 0 ∨ digI (ss.getD (2 + 2 * k + 1) 0) < 0)) :
    unL (ss.drop 2) = (unL (ss.drop (2 + 2 * (k + 1)))).map ((out ++ [16 * digI (ss.getD (2 + 2 * k) 0) + digI (ss.getD (2 + 2 * k + 1) 0)]) ++ ·) := by
  rw [hu, drop_two ss k h, unL, if_neg hd]
  cases unL (ss.drop (2 + 2 * (k + 1))) with
  | none => rfl
  | some o => simp
theorem or_all : ∀ a b : Fin 16, bits BinOp.or IntKind.i64 ((a.val : Int) * 16) (b.val : Int) = 16 * (a.val : Int) + (b.val : Int) := by decide +kernel
theorem or_dig (a b : Int) (ha : 0 ≤ a ∧ a ≤ 15) (hb : 0 ≤ b ∧ b ≤ 15) : bits BinOp.or IntKind.i64 (a * 16) b = 16 * a + b := by
  have := or_all ⟨a.toNat, by omega⟩ ⟨b.toNat, by omega⟩
  simp only [show ((a.toNat : Nat) : Int) = a by omega, show ((b.toNat : Nat) : Int) = b by omega] at this
  exact this

/-- What the two functions answer. -/
def UnO (w w' : World) (o : Option (List Int)) (v : Value) (e : Int) : Prop :=
  match o with
  | none => v = .slice none 0 0 ∧ e = 13
  | some l => w'.ownsRow w.heap.size 5 1 v l.length (cels l) ∧ e = 0

theorem hpx (ss : List Int) (x : UInt8) (hb : Bytes ss) (hl : 2 ≤ ss.length) : (((strOfNums ss).extract 0 2).toList == [48, x]) = decide (ss.getD 0 0 = 48 ∧ ss.getD 1 0 = (x.toNat : Int)) := by
  match ss, hl with
  | a :: b :: r, _ =>
    have ha := hb 0
    have hbb := hb 1
    have hx := x.toNat_lt
    simp only [List.getD_cons_zero, List.getD_cons_succ] at ha hbb ⊢
    rw [str_extract, Lib.strOfNums_toList]
    show ([UInt8.ofNat a.toNat, UInt8.ofNat b.toNat] == [48, x]) = _
    by_cases h : a = 48 ∧ b = (x.toNat : Int)
    · obtain ⟨rfl, rfl⟩ := h
      simp
    · rw [decide_eq_false h]
      refine beq_false_of_ne fun hq => h ?_
      simp only [List.cons.injEq, and_true] at hq
      have h1 := congrArg UInt8.toNat hq.1
      have h2 := congrArg UInt8.toNat hq.2
      rw [u8_of ha] at h1
      rw [u8_of hbb] at h2
      have h3 : (48 : UInt8).toNat = 48 := rfl
      omega

theorem haspQ_any (ss : List Int) (x : UInt8) (w : World) (hb : Bytes ss) (hm : ss.length ≤ 140737488355328) :
    Calls Tryz.prog 76 #[.string (strOfNums ss), .string ⟨#[48, x]⟩] w fun e w' => e = .returned (.bool (decide (2 ≤ ss.length ∧ ss.getD 0 0 = 48 ∧ ss.getD 1 0 = (x.toNat : Int)))) ∧ w' = w := by
  have hsz := str_size ss
  have hB : 2 ≤ ss.length → decide (2 ≤ ss.length ∧ ss.getD 0 0 = 48 ∧ ss.getD 1 0 = (x.toNat : Int)) = (((strOfNums ss).extract 0 2).toList == [48, x]) := fun h => by rw [hpx ss x hb h]; simp [h]
  have hN : ¬ 2 ≤ ss.length → decide (2 ≤ ss.length ∧ ss.getD 0 0 = 48 ∧ ss.getD 1 0 = (x.toNat : Int)) = false := fun h => by simp [h]
  generalize decide (2 ≤ ss.length ∧ ss.getD 0 0 = 48 ∧ ss.getD 1 0 = (x.toNat : Int)) = D at hB hN ⊢
  generalize strOfNums ss = S at hsz hB ⊢
  generalize ss.length = n at hsz hB hN hm
  clear hb
  have hsl : Calls Tryz.prog 87 #[.string S, .string ⟨#[48, x]⟩] w fun e w' => e = .returned (.bool D) ∧ w' = w := by
    by_cases h2 : 2 ≤ n
    · have hd := Kpt.mk (hB h2)
      clear hB hN
      go_enter Tryz.func87, Tryz.ntmps87
      go_wp2
      go_ret
      exact ⟨by rw [hd.out]; rfl, rfl⟩
    · have hd := Kpt.mk (hN h2)
      clear hB hN
      go_enter Tryz.func87, Tryz.ntmps87
      go_wp2
      go_ret
      exact ⟨by rw [hd.out]; rfl, rfl⟩
  clear hB hN hsz
  replace hsl := Kpt.mk hsl
  go_enter Tryz.func76, Tryz.ntmps76
  go_wp2_with (go_at_call 87; go_must (refine hsl.out.mono ?_; rintro e w ⟨rfl, rfl⟩))
  go_ret
  exact ⟨rfl, rfl⟩

theorem below_undrewN {n k : Nat} {a b : World} (h : Below n (a.drewN k) b) : Below n a b := ⟨h.os, h.tape, h.output, h.size, h.block⟩

set_option maxRecDepth 100000 in
set_option maxHeartbeats 2000000 in
theorem unhex_any (ss : List Int) (w : World) (hb : Bytes ss) (hm : ss.length ≤ 140737488355328) :
    Calls Tryz.prog 68 #[.string (strOfNums ss)] w fun e w' => ∃ v er, e = .returned (.tuple #[v, .int .i64 er]) ∧ UnO w w' (unx ss) v er ∧ Below w.heap.size w w' := by
  have hsz := str_size ss
  have hat : ∀ k (h : k < (strOfNums ss).size), ((strOfNums ss)[k].toNat : Int) = ss.getD k 0 := fun k h => by rw [← nums_at _ _ h, nums_str ss hb]
  have hp1 := Kpt.mk (fun w => haspQ_any ss 120 w hb hm)
  have hp2 := Kpt.mk (fun w => haspQ_any ss 88 w hb hm)
  generalize strOfNums ss = S at hsz hat hp1 hp2 ⊢
  obtain ⟨n, hn⟩ : ∃ n, n = ss.length := ⟨_, rfl⟩
  rw [← hn] at hsz hm
  replace hn := Kpt.mk hn
  replace hat := Kpt.mk hat
  obtain ⟨c0, hc0⟩ : ∃ c, ss.getD 0 0 = c := ⟨_, rfl⟩
  obtain ⟨c1, hc1⟩ : ∃ c, ss.getD 1 0 = c := ⟨_, rfl⟩
  have hux : Kpt (unx ss = if 2 ≤ n ∧ c0 = 48 ∧ (c1 = 120 ∨ c1 = 88) ∧ n % 2 = 0 then unL (ss.drop 2) else none) := ⟨by unfold unx; rw [← hn.out, hc0, hc1]⟩
  have hq1 : Kpt (∀ w, Calls Tryz.prog 76 #[.string S, .string ⟨#[48, 120]⟩] w fun e w' => e = .returned (.bool (decide (2 ≤ n ∧ c0 = 48 ∧ c1 = 120))) ∧ w' = w) := ⟨fun w => by have := hp1.out w; rw [← hn.out, hc0, hc1] at this; exact this⟩
  have hq2 : Kpt (∀ w, Calls Tryz.prog 76 #[.string S, .string ⟨#[48, 88]⟩] w fun e w' => e = .returned (.bool (decide (2 ≤ n ∧ c0 = 48 ∧ c1 = 88))) ∧ w' = w) := ⟨fun w => by have := hp2.out w; rw [← hn.out, hc0, hc1] at this; exact this⟩
  clear hp1 hp2
  replace hc0 := Kpt.mk hc0
  replace hc1 := Kpt.mk hc1
  replace hb := Kpt.mk hb
  by_cases p1 : 2 ≤ n ∧ c0 = 48 ∧ c1 = 120
  · have hq1t : Kpt (∀ w, Calls Tryz.prog 76 #[.string S, .string ⟨#[48, 120]⟩] w fun e w' => e = .returned (.bool true) ∧ w' = w) := ⟨fun w => by have := hq1.out w; rw [decide_eq_true p1] at this; exact this⟩
    by_cases pe : n % 2 = 0
    · have hcond : Kpt (2 ≤ n ∧ c0 = 48 ∧ (c1 = 120 ∨ c1 = 88) ∧ n % 2 = 0) := ⟨p1.1, p1.2.1, .inl p1.2.2, pe⟩
      have pe2 : (n : Int) % 2 = 0 := by omega
      have n2 := p1.1
      clear hq1 hq2 p1 pe
      go_enter Tryz.func68, Tryz.ntmps68
      go_wp2_with (first | (go_at_call_of 76 (Value.string ⟨#[48, 120]⟩); go_must (refine (hq1t.out _).mono ?_; rintro e w ⟨rfl, rfl⟩)))
      clear pe2
      go_loopw [4, 5] (fun x t wr => ∃ (k i : Nat) (out : List Int), i ≤ n ∧ t = .int .i64 (i : Int) ∧ Kpt (i = 2 + 2 * k) ∧ Kpt (wr.ownsRow w.heap.size 5 1 x k (cels out)) ∧ Kpt (out.length = k) ∧ Kpt (unL (ss.drop 2) = (unL (ss.drop (2 + 2 * k))).map (out ++ ·)) ∧ Kpt (Below w.heap.size w wr)) (fun _ t _ => n - (intOf t).toNat)
      case atStart => exact ⟨0, 2, [], by omega, rfl, ⟨rfl⟩, ⟨World.ownsRow_nil _ _ 5 1⟩, ⟨rfl⟩, ⟨by simp⟩, ⟨Below.refl _ _⟩⟩
      case round =>
        obtain ⟨k, i, out, hk, rfl, hi, ho, hol, hu, hbe⟩ := hrel
        by_cases hlt : i < n
        · have hlt1 : i + 1 < n := by have := hi.out; have := hcond.out.2.2.2; omega
          have hd1 := hb.out (2 + 2 * k)
          have hd2 := hb.out (2 + 2 * k + 1)
          have hx1 := hat.out i (by omega)
          have hx2 := hat.out (i + 1) (by omega)
          rw [show ss.getD i 0 = ss.getD (2 + 2 * k) 0 by rw [hi.out]] at hx1
          rw [show ss.getD (i + 1) 0 = ss.getD (2 + 2 * k + 1) 0 by rw [hi.out]] at hx2
          have hlt1' := Kpt.mk (show 2 + 2 * k + 1 < ss.length by have := hn.out; have := hi.out; omega)
          have hno := Kpt.mk (unL_no hlt1'.out hu.out)
          have hyes := Kpt.mk (unL_yes hlt1'.out hu.out)
          generalize ss.getD (2 + 2 * k) 0 = y1 at hd1 hx1 hno hyes
          generalize ss.getD (2 + 2 * k + 1) 0 = y2 at hd2 hx2 hno hyes
          have q1 := Kpt.mk (fun w => digit_any y1 w hd1.1 hd1.2)
          have q2 := Kpt.mk (fun w => digit_any y2 w hd2.1 hd2.2)
          have l1 := digI_le y1
          have l2 := digI_le y2
          have hor := Kpt.mk (or_dig (digI y1) (digI y2))
          generalize digI y1 = d1 at q1 l1 hor hno hyes
          generalize digI y2 = d2 at q2 l2 hor hno hyes
          go_wp2
          go_quiet ((first | (go_at_call_of 77 (Value.int .u8 y1); exact Calls.quiet_of_same (q1.out _)) | (go_at_call_of 77 (Value.int .u8 y2); exact Calls.quiet_of_same (q2.out _))))
          by_cases hn1 : d1 < 0
          · have hN := Kpt.mk (hno.out (.inl hn1))
            clear hor hyes hno
            go_wp2
            go_ret2
            exact ⟨_, _, rfl, by rw [hux.out, if_pos hcond.out, hN.out]; exact ⟨rfl, rfl⟩, below_drewN hbe.out _⟩
          · by_cases hn2 : d2 < 0
            · have hN := Kpt.mk (hno.out (.inr hn2))
              clear hor hyes hno
              go_wp2
              go_ret2
              exact ⟨_, _, rfl, by rw [hux.out, if_pos hcond.out, hN.out]; exact ⟨rfl, rfl⟩, below_drewN hbe.out _⟩
            · have hY := Kpt.mk (hyes.out (by omega))
              have hor' := hor.out ⟨by omega, l1.2⟩ ⟨by omega, l2.2⟩
              clear hor hyes hno
              go_wp2_with (first
                | (refine (?_ : wpList _ _ _ (Oper.mk (some 50) _ _ _ _ _ :: _) _ _); go_must (refine wpList_append_new rfl (.tmp 43) (.tmp 49) rfl w.heap.size u4 (.slice (some ⟨g5, 0, none⟩) 1 1) out [16 * d1 + d2] k (k + 1) rfl rfl ho5b.out (own_rd ho5.out) (by simp) hol.out (by simp) (by have := hi.out; omega) (by have := hb5.out.size; omega) ?_; intro g6 cap6 w6 ho6 hg6 hgr6; have hb6 : Kpt (Below w.heap.size w w6) := ⟨hb5.out.grown hgr6.out hb5.out.size (fun q e => (World.ownsRow.lt ho5b.out q e).1)⟩; clear hgr6 ho5b ho5 hb5))
                | (refine (?_ : wpList _ _ _ (Oper.mk (some 49) _ _ _ _ _ :: _) _ _); go_must (refine wpList_built rfl 1 [16 * d1 + d2] (by kernel_rfl) rfl (by decide) ?_; intro g5 w5 hg5 ho5 hbe5; have ho5b : Kpt (w5.ownsRow w.heap.size 5 1 u4 k (cels out)) := ⟨own_of_block ho.out (fun q e => (below_undrewN hbe5).block q (World.ownsRow.lt ho.out q e).2)⟩; have hb5 : Kpt (Below w.heap.size w w5) := ⟨hbe.out.trans ((below_undrewN hbe5).mono hbe.out.size)⟩; replace ho5 := Kpt.mk ho5; clear hbe5 hg5)))
              go_roundw
              case rel => exact ⟨k + 1, i + 2, out ++ [16 * d1 + d2], by omega, by simp, ⟨by have := hi.out; omega⟩, ⟨ho6.out⟩, ⟨by simp [hol.out]⟩, hY, hb6⟩
              case measure => simp [intOf]; omega
        · have hkn : Kpt (2 + 2 * k = n) := ⟨by have := hi.out; have := hcond.out.2.2.2; omega⟩
          obtain rfl : i = n := by omega
          have hfin : Kpt (unx ss = some out) := ⟨by rw [hux.out, if_pos hcond.out, hu.out, List.drop_eq_nil_of_le (by have := hn.out; have := hkn.out; omega)]; simp [unL]⟩
          go_wp2
          go_ret2
          exact ⟨_, _, rfl, by rw [hfin.out]; exact ⟨by rw [hol.out]; exact ho.out, rfl⟩, hbe.out⟩
    · have pe2 : (n : Int) % 2 = 1 := by omega
      clear hq1 hq2
      go_enter Tryz.func68, Tryz.ntmps68
      go_wp2_with (first | (go_at_call_of 76 (Value.string ⟨#[48, 120]⟩); go_must (refine (hq1t.out _).mono ?_; rintro e w ⟨rfl, rfl⟩)))
      go_ret2
      exact ⟨_, _, rfl, by rw [hux.out, if_neg (by omega)]; exact ⟨rfl, rfl⟩, Below.refl _ _⟩
  · have hq1t : Kpt (∀ w, Calls Tryz.prog 76 #[.string S, .string ⟨#[48, 120]⟩] w fun e w' => e = .returned (.bool false) ∧ w' = w) := ⟨fun w => by have := hq1.out w; rw [decide_eq_false p1] at this; exact this⟩
    by_cases p2 : 2 ≤ n ∧ c0 = 48 ∧ c1 = 88
    · have hq2t : Kpt (∀ w, Calls Tryz.prog 76 #[.string S, .string ⟨#[48, 88]⟩] w fun e w' => e = .returned (.bool true) ∧ w' = w) := ⟨fun w => by have := hq2.out w; rw [decide_eq_true p2] at this; exact this⟩
      by_cases pe : n % 2 = 0
      · have hcond : Kpt (2 ≤ n ∧ c0 = 48 ∧ (c1 = 120 ∨ c1 = 88) ∧ n % 2 = 0) := ⟨p2.1, p2.2.1, .inr p2.2.2, pe⟩
        have pe2 : (n : Int) % 2 = 0 := by omega
        have n2 := p2.1
        clear hq1 hq2 p1 p2 pe
        go_enter Tryz.func68, Tryz.ntmps68
        go_wp2_with (first | (go_at_call_of 76 (Value.string ⟨#[48, 120]⟩); go_must (refine (hq1t.out _).mono ?_; rintro e w ⟨rfl, rfl⟩)) | (go_at_call_of 76 (Value.string ⟨#[48, 88]⟩); go_must (refine (hq2t.out _).mono ?_; rintro e w ⟨rfl, rfl⟩)))
        clear pe2
        go_loopw [4, 5] (fun x t wr => ∃ (k i : Nat) (out : List Int), i ≤ n ∧ t = .int .i64 (i : Int) ∧ Kpt (i = 2 + 2 * k) ∧ Kpt (wr.ownsRow w.heap.size 5 1 x k (cels out)) ∧ Kpt (out.length = k) ∧ Kpt (unL (ss.drop 2) = (unL (ss.drop (2 + 2 * k))).map (out ++ ·)) ∧ Kpt (Below w.heap.size w wr)) (fun _ t _ => n - (intOf t).toNat)
        case atStart => exact ⟨0, 2, [], by omega, rfl, ⟨rfl⟩, ⟨World.ownsRow_nil _ _ 5 1⟩, ⟨rfl⟩, ⟨by simp⟩, ⟨Below.refl _ _⟩⟩
        case round =>
          obtain ⟨k, i, out, hk, rfl, hi, ho, hol, hu, hbe⟩ := hrel
          by_cases hlt : i < n
          · have hlt1 : i + 1 < n := by have := hi.out; have := hcond.out.2.2.2; omega
            have hd1 := hb.out (2 + 2 * k)
            have hd2 := hb.out (2 + 2 * k + 1)
            have hx1 := hat.out i (by omega)
            have hx2 := hat.out (i + 1) (by omega)
            rw [show ss.getD i 0 = ss.getD (2 + 2 * k) 0 by rw [hi.out]] at hx1
            rw [show ss.getD (i + 1) 0 = ss.getD (2 + 2 * k + 1) 0 by rw [hi.out]] at hx2
            have hlt1' := Kpt.mk (show 2 + 2 * k + 1 < ss.length by have := hn.out; have := hi.out; omega)
            have hno := Kpt.mk (unL_no hlt1'.out hu.out)
            have hyes := Kpt.mk (unL_yes hlt1'.out hu.out)
            generalize ss.getD (2 + 2 * k) 0 = y1 at hd1 hx1 hno hyes
            generalize ss.getD (2 + 2 * k + 1) 0 = y2 at hd2 hx2 hno hyes
            have q1 := Kpt.mk (fun w => digit_any y1 w hd1.1 hd1.2)
            have q2 := Kpt.mk (fun w => digit_any y2 w hd2.1 hd2.2)
            have l1 := digI_le y1
            have l2 := digI_le y2
            have hor := Kpt.mk (or_dig (digI y1) (digI y2))
            generalize digI y1 = d1 at q1 l1 hor hno hyes
            generalize digI y2 = d2 at q2 l2 hor hno hyes
            go_wp2
            go_quiet ((first | (go_at_call_of 77 (Value.int .u8 y1); exact Calls.quiet_of_same (q1.out _)) | (go_at_call_of 77 (Value.int .u8 y2); exact Calls.quiet_of_same (q2.out _))))
            by_cases hn1 : d1 < 0
            · have hN := Kpt.mk (hno.out (.inl hn1))
              clear hor hyes hno
              go_wp2
              go_ret2
              exact ⟨_, _, rfl, by rw [hux.out, if_pos hcond.out, hN.out]; exact ⟨rfl, rfl⟩, below_drewN hbe.out _⟩
            · by_cases hn2 : d2 < 0
              · have hN := Kpt.mk (hno.out (.inr hn2))
                clear hor hyes hno
                go_wp2
                go_ret2
                exact ⟨_, _, rfl, by rw [hux.out, if_pos hcond.out, hN.out]; exact ⟨rfl, rfl⟩, below_drewN hbe.out _⟩
              · have hY := Kpt.mk (hyes.out (by omega))
                have hor' := hor.out ⟨by omega, l1.2⟩ ⟨by omega, l2.2⟩
                clear hor hyes hno
                go_wp2_with (first
                  | (refine (?_ : wpList _ _ _ (Oper.mk (some 50) _ _ _ _ _ :: _) _ _); go_must (refine wpList_append_new rfl (.tmp 43) (.tmp 49) rfl w.heap.size u4 (.slice (some ⟨g5, 0, none⟩) 1 1) out [16 * d1 + d2] k (k + 1) rfl rfl ho5b.out (own_rd ho5.out) (by simp) hol.out (by simp) (by have := hi.out; omega) (by have := hb5.out.size; omega) ?_; intro g6 cap6 w6 ho6 hg6 hgr6; have hb6 : Kpt (Below w.heap.size w w6) := ⟨hb5.out.grown hgr6.out hb5.out.size (fun q e => (World.ownsRow.lt ho5b.out q e).1)⟩; clear hgr6 ho5b ho5 hb5))
                  | (refine (?_ : wpList _ _ _ (Oper.mk (some 49) _ _ _ _ _ :: _) _ _); go_must (refine wpList_built rfl 1 [16 * d1 + d2] (by kernel_rfl) rfl (by decide) ?_; intro g5 w5 hg5 ho5 hbe5; have ho5b : Kpt (w5.ownsRow w.heap.size 5 1 u4 k (cels out)) := ⟨own_of_block ho.out (fun q e => (below_undrewN hbe5).block q (World.ownsRow.lt ho.out q e).2)⟩; have hb5 : Kpt (Below w.heap.size w w5) := ⟨hbe.out.trans ((below_undrewN hbe5).mono hbe.out.size)⟩; replace ho5 := Kpt.mk ho5; clear hbe5 hg5)))
                go_roundw
                case rel => exact ⟨k + 1, i + 2, out ++ [16 * d1 + d2], by omega, by simp, ⟨by have := hi.out; omega⟩, ⟨ho6.out⟩, ⟨by simp [hol.out]⟩, hY, hb6⟩
                case measure => simp [intOf]; omega
          · have hkn : Kpt (2 + 2 * k = n) := ⟨by have := hi.out; have := hcond.out.2.2.2; omega⟩
            obtain rfl : i = n := by omega
            have hfin : Kpt (unx ss = some out) := ⟨by rw [hux.out, if_pos hcond.out, hu.out, List.drop_eq_nil_of_le (by have := hn.out; have := hkn.out; omega)]; simp [unL]⟩
            go_wp2
            go_ret2
            exact ⟨_, _, rfl, by rw [hfin.out]; exact ⟨by rw [hol.out]; exact ho.out, rfl⟩, hbe.out⟩
      · have pe2 : (n : Int) % 2 = 1 := by omega
        clear hq1 hq2
        go_enter Tryz.func68, Tryz.ntmps68
        go_wp2_with (first | (go_at_call_of 76 (Value.string ⟨#[48, 120]⟩); go_must (refine (hq1t.out _).mono ?_; rintro e w ⟨rfl, rfl⟩)) | (go_at_call_of 76 (Value.string ⟨#[48, 88]⟩); go_must (refine (hq2t.out _).mono ?_; rintro e w ⟨rfl, rfl⟩)))
        go_ret2
        exact ⟨_, _, rfl, by rw [hux.out, if_neg (by omega)]; exact ⟨rfl, rfl⟩, Below.refl _ _⟩
    · have hq2t : Kpt (∀ w, Calls Tryz.prog 76 #[.string S, .string ⟨#[48, 88]⟩] w fun e w' => e = .returned (.bool false) ∧ w' = w) := ⟨fun w => by have := hq2.out w; rw [decide_eq_false p2] at this; exact this⟩
      clear hq1 hq2
      go_enter Tryz.func68, Tryz.ntmps68
      go_wp2_with (first | (go_at_call_of 76 (Value.string ⟨#[48, 120]⟩); go_must (refine (hq1t.out _).mono ?_; rintro e w ⟨rfl, rfl⟩)) | (go_at_call_of 76 (Value.string ⟨#[48, 88]⟩); go_must (refine (hq2t.out _).mono ?_; rintro e w ⟨rfl, rfl⟩)))
      go_ret2
      exact ⟨_, _, rfl, by rw [hux.out, if_neg (by omega)]; exact ⟨rfl, rfl⟩, Below.refl _ _⟩

end Go.Proofs.YtplifodddfjhdaaGreatDoor

namespace Go.Proofs.YtplifodddfjhdaaGreatDoor
open Go.RowKit
set_option linter.unusedVariables false
set_option linter.unusedSimpArgs false

set_option maxRecDepth 100000 in
set_option maxHeartbeats 2000000 in
theorem runhex_any (ss : List Int) (w : World) (hb : Bytes ss) (hm : ss.length ≤ 140737488355328) :
    Calls Tryz.prog 18 #[.string (strOfNums ss)] w fun e w' => ∃ v er, e = .returned (.tuple #[v, .int .i64 er]) ∧ UnO w w' (unx ss) v er ∧ Below w.heap.size w w' := by
  have hsz := str_size ss
  have hat : ∀ k (h : k < (strOfNums ss).size), ((strOfNums ss)[k].toNat : Int) = ss.getD k 0 := fun k h => by rw [← nums_at _ _ h, nums_str ss hb]
  generalize strOfNums ss = S at hsz hat  ⊢
  obtain ⟨n, hn⟩ : ∃ n, n = ss.length := ⟨_, rfl⟩
  rw [← hn] at hsz hm
  replace hn := Kpt.mk hn
  replace hat := Kpt.mk hat
  obtain ⟨c0, hc0⟩ : ∃ c, ss.getD 0 0 = c := ⟨_, rfl⟩
  obtain ⟨c1, hc1⟩ : ∃ c, ss.getD 1 0 = c := ⟨_, rfl⟩
  have hux : Kpt (unx ss = if 2 ≤ n ∧ c0 = 48 ∧ (c1 = 120 ∨ c1 = 88) ∧ n % 2 = 0 then unL (ss.drop 2) else none) := ⟨by unfold unx; rw [← hn.out, hc0, hc1]⟩
  replace hc0 := Kpt.mk hc0
  replace hc1 := Kpt.mk hc1
  replace hb := Kpt.mk hb
  by_cases g2 : 2 ≤ n
  · have x0 := hat.out 0 (by omega)
    have x1 := hat.out 1 (by omega)
    rw [hc0.out] at x0
    rw [hc1.out] at x1
    by_cases p0 : c0 = 48
    · by_cases p1 : c1 = 120
      · by_cases pe : n % 2 = 0
        · have hcond : Kpt (2 ≤ n ∧ c0 = 48 ∧ (c1 = 120 ∨ c1 = 88) ∧ n % 2 = 0) := ⟨g2, p0, .inl p1, pe⟩
          have pe2 : (n : Int) % 2 = 0 := by omega
          rw [p0] at x0
          rw [p1] at x1
          have n2 := g2
          clear pe p0 p1
          go_enter Tryz.func18, Tryz.ntmps18
          go_wp2
          clear pe2
          replace x0 := Kpt.mk x0
          replace x1 := Kpt.mk x1
          go_loopw [4, 5] (fun x t wr => ∃ (k i : Nat) (out : List Int), i ≤ n ∧ t = .int .i64 (i : Int) ∧ Kpt (i = 2 + 2 * k) ∧ Kpt (wr.ownsRow w.heap.size 5 1 x k (cels out)) ∧ Kpt (out.length = k) ∧ Kpt (unL (ss.drop 2) = (unL (ss.drop (2 + 2 * k))).map (out ++ ·)) ∧ Kpt (Below w.heap.size w wr)) (fun _ t _ => n - (intOf t).toNat)
          case atStart => exact ⟨0, 2, [], by omega, rfl, ⟨rfl⟩, ⟨World.ownsRow_nil _ _ 5 1⟩, ⟨rfl⟩, ⟨by simp⟩, ⟨Below.refl _ _⟩⟩
          case round =>
            obtain ⟨k, i, out, hk, rfl, hi, ho, hol, hu, hbe⟩ := hrel
            by_cases hlt : i < n
            · have hlt1 : i + 1 < n := by have := hi.out; have := hcond.out.2.2.2; omega
              have hd1 := hb.out (2 + 2 * k)
              have hd2 := hb.out (2 + 2 * k + 1)
              have hx1 := hat.out i (by omega)
              have hx2 := hat.out (i + 1) (by omega)
              rw [show ss.getD i 0 = ss.getD (2 + 2 * k) 0 by rw [hi.out]] at hx1
              rw [show ss.getD (i + 1) 0 = ss.getD (2 + 2 * k + 1) 0 by rw [hi.out]] at hx2
              have hlt1' := Kpt.mk (show 2 + 2 * k + 1 < ss.length by have := hn.out; have := hi.out; omega)
              have hno := Kpt.mk (unL_no hlt1'.out hu.out)
              have hyes := Kpt.mk (unL_yes hlt1'.out hu.out)
              generalize ss.getD (2 + 2 * k) 0 = y1 at hd1 hx1 hno hyes
              generalize ss.getD (2 + 2 * k + 1) 0 = y2 at hd2 hx2 hno hyes
              have q1 := Kpt.mk (fun w => value_any y1 w hd1.1 hd1.2)
              have q2 := Kpt.mk (fun w => value_any y2 w hd2.1 hd2.2)
              have l1 := digI_le y1
              have l2 := digI_le y2
              have hor := Kpt.mk (or_dig (digI y1) (digI y2))
              generalize digI y1 = d1 at q1 l1 hor hno hyes
              generalize digI y2 = d2 at q2 l2 hor hno hyes
              by_cases hn1 : d1 < 0
              · have hN := Kpt.mk (hno.out (.inl hn1))
                clear hor hyes hno
                go_wp2_with (first | (go_at_call_of 34 (Value.int .u8 y1); go_must (refine (q1.out _).mono ?_; rintro e wr ⟨rfl, rfl⟩)) | (go_at_call_of 34 (Value.int .u8 y2); go_must (refine (q2.out _).mono ?_; rintro e wr ⟨rfl, rfl⟩)))
                go_ret2
                exact ⟨_, _, rfl, by rw [hux.out, if_pos hcond.out, hN.out]; exact ⟨rfl, rfl⟩, hbe.out⟩
              · by_cases hn2 : d2 < 0
                · have hN := Kpt.mk (hno.out (.inr hn2))
                  clear hor hyes hno
                  go_wp2_with (first | (go_at_call_of 34 (Value.int .u8 y1); go_must (refine (q1.out _).mono ?_; rintro e wr ⟨rfl, rfl⟩)) | (go_at_call_of 34 (Value.int .u8 y2); go_must (refine (q2.out _).mono ?_; rintro e wr ⟨rfl, rfl⟩)))
                  go_ret2
                  exact ⟨_, _, rfl, by rw [hux.out, if_pos hcond.out, hN.out]; exact ⟨rfl, rfl⟩, hbe.out⟩
                · have hY := Kpt.mk (hyes.out (by omega))
                  have hor' := hor.out ⟨by omega, l1.2⟩ ⟨by omega, l2.2⟩
                  clear hor hyes hno
                  go_wp2_with (first
                    | (go_at_call_of 34 (Value.int .u8 y1); go_must (refine (q1.out _).mono ?_; rintro e wr ⟨rfl, rfl⟩)) | (go_at_call_of 34 (Value.int .u8 y2); go_must (refine (q2.out _).mono ?_; rintro e wr ⟨rfl, rfl⟩))
                    | (refine (?_ : wpList _ _ _ (Oper.mk (some 60) _ _ _ _ _ :: _) _ _); go_must (refine wpList_append_new rfl (.tmp 53) (.tmp 59) rfl w.heap.size u4 (.slice (some ⟨g5, 0, none⟩) 1 1) out [16 * d1 + d2] k (k + 1) rfl rfl ho5b.out (own_rd ho5.out) (by simp) hol.out (by simp) (by have := hi.out; omega) (by have := hb5.out.size; omega) ?_; intro g6 cap6 w6 ho6 hg6 hgr6; have hb6 : Kpt (Below w.heap.size w w6) := ⟨hb5.out.grown hgr6.out hb5.out.size (fun q e => (World.ownsRow.lt ho5b.out q e).1)⟩; clear hgr6 ho5b ho5 hb5))
                    | (refine (?_ : wpList _ _ _ (Oper.mk (some 59) _ _ _ _ _ :: _) _ _); go_must (refine wpList_built rfl 1 [16 * d1 + d2] (by kernel_rfl) rfl (by decide) ?_; intro g5 w5 hg5 ho5 hbe5; have ho5b : Kpt (w5.ownsRow w.heap.size 5 1 u4 k (cels out)) := ⟨own_of_block ho.out (fun q e => (hbe5).block q (World.ownsRow.lt ho.out q e).2)⟩; have hb5 : Kpt (Below w.heap.size w w5) := ⟨hbe.out.trans ((hbe5).mono hbe.out.size)⟩; replace ho5 := Kpt.mk ho5; clear hbe5 hg5)))
                  go_roundw
                  case rel => exact ⟨k + 1, i + 2, out ++ [16 * d1 + d2], by omega, by simp, ⟨by have := hi.out; omega⟩, ⟨ho6.out⟩, ⟨by simp [hol.out]⟩, hY, hb6⟩
                  case measure => simp [intOf]; omega
            · have hkn : Kpt (2 + 2 * k = n) := ⟨by have := hi.out; have := hcond.out.2.2.2; omega⟩
              obtain rfl : i = n := by omega
              have hfin : Kpt (unx ss = some out) := ⟨by rw [hux.out, if_pos hcond.out, hu.out, List.drop_eq_nil_of_le (by have := hn.out; have := hkn.out; omega)]; simp [unL]⟩
              go_wp2
              go_ret2
              exact ⟨_, _, rfl, by rw [hfin.out]; exact ⟨by rw [hol.out]; exact ho.out, rfl⟩, hbe.out⟩
        · have pe2 : (n : Int) % 2 = 1 := by omega
          rw [p0] at x0
          rw [p1] at x1
          go_enter Tryz.func18, Tryz.ntmps18
          go_wp2
          go_ret2
          exact ⟨_, _, rfl, by rw [hux.out, if_neg (by omega)]; exact ⟨rfl, rfl⟩, Below.refl _ _⟩
      · have p2 := p1
        clear p1
        by_cases p1 : c1 = 88
        · by_cases pe : n % 2 = 0
          · have hcond : Kpt (2 ≤ n ∧ c0 = 48 ∧ (c1 = 120 ∨ c1 = 88) ∧ n % 2 = 0) := ⟨g2, p0, .inr p1, pe⟩
            have pe2 : (n : Int) % 2 = 0 := by omega
            rw [p0] at x0
            rw [p1] at x1
            have n2 := g2
            clear pe p0 p1 p2
            go_enter Tryz.func18, Tryz.ntmps18
            go_wp2
            clear pe2
            replace x0 := Kpt.mk x0
            replace x1 := Kpt.mk x1
            go_loopw [4, 5] (fun x t wr => ∃ (k i : Nat) (out : List Int), i ≤ n ∧ t = .int .i64 (i : Int) ∧ Kpt (i = 2 + 2 * k) ∧ Kpt (wr.ownsRow w.heap.size 5 1 x k (cels out)) ∧ Kpt (out.length = k) ∧ Kpt (unL (ss.drop 2) = (unL (ss.drop (2 + 2 * k))).map (out ++ ·)) ∧ Kpt (Below w.heap.size w wr)) (fun _ t _ => n - (intOf t).toNat)
            case atStart => exact ⟨0, 2, [], by omega, rfl, ⟨rfl⟩, ⟨World.ownsRow_nil _ _ 5 1⟩, ⟨rfl⟩, ⟨by simp⟩, ⟨Below.refl _ _⟩⟩
            case round =>
              obtain ⟨k, i, out, hk, rfl, hi, ho, hol, hu, hbe⟩ := hrel
              by_cases hlt : i < n
              · have hlt1 : i + 1 < n := by have := hi.out; have := hcond.out.2.2.2; omega
                have hd1 := hb.out (2 + 2 * k)
                have hd2 := hb.out (2 + 2 * k + 1)
                have hx1 := hat.out i (by omega)
                have hx2 := hat.out (i + 1) (by omega)
                rw [show ss.getD i 0 = ss.getD (2 + 2 * k) 0 by rw [hi.out]] at hx1
                rw [show ss.getD (i + 1) 0 = ss.getD (2 + 2 * k + 1) 0 by rw [hi.out]] at hx2
                have hlt1' := Kpt.mk (show 2 + 2 * k + 1 < ss.length by have := hn.out; have := hi.out; omega)
                have hno := Kpt.mk (unL_no hlt1'.out hu.out)
                have hyes := Kpt.mk (unL_yes hlt1'.out hu.out)
                generalize ss.getD (2 + 2 * k) 0 = y1 at hd1 hx1 hno hyes
                generalize ss.getD (2 + 2 * k + 1) 0 = y2 at hd2 hx2 hno hyes
                have q1 := Kpt.mk (fun w => value_any y1 w hd1.1 hd1.2)
                have q2 := Kpt.mk (fun w => value_any y2 w hd2.1 hd2.2)
                have l1 := digI_le y1
                have l2 := digI_le y2
                have hor := Kpt.mk (or_dig (digI y1) (digI y2))
                generalize digI y1 = d1 at q1 l1 hor hno hyes
                generalize digI y2 = d2 at q2 l2 hor hno hyes
                by_cases hn1 : d1 < 0
                · have hN := Kpt.mk (hno.out (.inl hn1))
                  clear hor hyes hno
                  go_wp2_with (first | (go_at_call_of 34 (Value.int .u8 y1); go_must (refine (q1.out _).mono ?_; rintro e wr ⟨rfl, rfl⟩)) | (go_at_call_of 34 (Value.int .u8 y2); go_must (refine (q2.out _).mono ?_; rintro e wr ⟨rfl, rfl⟩)))
                  go_ret2
                  exact ⟨_, _, rfl, by rw [hux.out, if_pos hcond.out, hN.out]; exact ⟨rfl, rfl⟩, hbe.out⟩
                · by_cases hn2 : d2 < 0
                  · have hN := Kpt.mk (hno.out (.inr hn2))
                    clear hor hyes hno
                    go_wp2_with (first | (go_at_call_of 34 (Value.int .u8 y1); go_must (refine (q1.out _).mono ?_; rintro e wr ⟨rfl, rfl⟩)) | (go_at_call_of 34 (Value.int .u8 y2); go_must (refine (q2.out _).mono ?_; rintro e wr ⟨rfl, rfl⟩)))
                    go_ret2
                    exact ⟨_, _, rfl, by rw [hux.out, if_pos hcond.out, hN.out]; exact ⟨rfl, rfl⟩, hbe.out⟩
                  · have hY := Kpt.mk (hyes.out (by omega))
                    have hor' := hor.out ⟨by omega, l1.2⟩ ⟨by omega, l2.2⟩
                    clear hor hyes hno
                    go_wp2_with (first
                      | (go_at_call_of 34 (Value.int .u8 y1); go_must (refine (q1.out _).mono ?_; rintro e wr ⟨rfl, rfl⟩)) | (go_at_call_of 34 (Value.int .u8 y2); go_must (refine (q2.out _).mono ?_; rintro e wr ⟨rfl, rfl⟩))
                      | (refine (?_ : wpList _ _ _ (Oper.mk (some 60) _ _ _ _ _ :: _) _ _); go_must (refine wpList_append_new rfl (.tmp 53) (.tmp 59) rfl w.heap.size u4 (.slice (some ⟨g5, 0, none⟩) 1 1) out [16 * d1 + d2] k (k + 1) rfl rfl ho5b.out (own_rd ho5.out) (by simp) hol.out (by simp) (by have := hi.out; omega) (by have := hb5.out.size; omega) ?_; intro g6 cap6 w6 ho6 hg6 hgr6; have hb6 : Kpt (Below w.heap.size w w6) := ⟨hb5.out.grown hgr6.out hb5.out.size (fun q e => (World.ownsRow.lt ho5b.out q e).1)⟩; clear hgr6 ho5b ho5 hb5))
                      | (refine (?_ : wpList _ _ _ (Oper.mk (some 59) _ _ _ _ _ :: _) _ _); go_must (refine wpList_built rfl 1 [16 * d1 + d2] (by kernel_rfl) rfl (by decide) ?_; intro g5 w5 hg5 ho5 hbe5; have ho5b : Kpt (w5.ownsRow w.heap.size 5 1 u4 k (cels out)) := ⟨own_of_block ho.out (fun q e => (hbe5).block q (World.ownsRow.lt ho.out q e).2)⟩; have hb5 : Kpt (Below w.heap.size w w5) := ⟨hbe.out.trans ((hbe5).mono hbe.out.size)⟩; replace ho5 := Kpt.mk ho5; clear hbe5 hg5)))
                    go_roundw
                    case rel => exact ⟨k + 1, i + 2, out ++ [16 * d1 + d2], by omega, by simp, ⟨by have := hi.out; omega⟩, ⟨ho6.out⟩, ⟨by simp [hol.out]⟩, hY, hb6⟩
                    case measure => simp [intOf]; omega
              · have hkn : Kpt (2 + 2 * k = n) := ⟨by have := hi.out; have := hcond.out.2.2.2; omega⟩
                obtain rfl : i = n := by omega
                have hfin : Kpt (unx ss = some out) := ⟨by rw [hux.out, if_pos hcond.out, hu.out, List.drop_eq_nil_of_le (by have := hn.out; have := hkn.out; omega)]; simp [unL]⟩
                go_wp2
                go_ret2
                exact ⟨_, _, rfl, by rw [hfin.out]; exact ⟨by rw [hol.out]; exact ho.out, rfl⟩, hbe.out⟩
          · have pe2 : (n : Int) % 2 = 1 := by omega
            rw [p0] at x0
            rw [p1] at x1
            go_enter Tryz.func18, Tryz.ntmps18
            go_wp2
            go_ret2
            exact ⟨_, _, rfl, by rw [hux.out, if_neg (by omega)]; exact ⟨rfl, rfl⟩, Below.refl _ _⟩
        · rw [p0] at x0
          go_enter Tryz.func18, Tryz.ntmps18
          go_wp2
          go_ret2
          exact ⟨_, _, rfl, by rw [hux.out, if_neg (by omega)]; exact ⟨rfl, rfl⟩, Below.refl _ _⟩
    · go_enter Tryz.func18, Tryz.ntmps18
      go_wp2
      go_ret2
      exact ⟨_, _, rfl, by rw [hux.out, if_neg (by omega)]; exact ⟨rfl, rfl⟩, Below.refl _ _⟩
  · go_enter Tryz.func18, Tryz.ntmps18
    go_wp2
    go_ret2
    exact ⟨_, _, rfl, by rw [hux.out, if_neg (by omega)]; exact ⟨rfl, rfl⟩, Below.refl _ _⟩

end Go.Proofs.YtplifodddfjhdaaGreatDoor

namespace Go.Proofs.YtplifodddfjhdaaGreatDoor
open Go.RowKit
set_option linter.unusedVariables false
set_option linter.unusedSimpArgs false

theorem ext_low (d : Nat) (hd : d < 16) : (⟨#[48, 49, 50, 51, 52, 53, 54, 55, 56, 57, 97, 98, 99, 100, 101, 102]⟩ : ByteArray).extract d (d + 1) = strOfNums [hexD d] := by
  have h : d = 0 ∨ d = 1 ∨ d = 2 ∨ d = 3 ∨ d = 4 ∨ d = 5 ∨ d = 6 ∨ d = 7 ∨ d = 8 ∨ d = 9 ∨ d = 10 ∨ d = 11 ∨ d = 12 ∨ d = 13 ∨ d = 14 ∨ d = 15 := by omega
  rcases h with rfl | rfl | rfl | rfl | rfl | rfl | rfl | rfl | rfl | rfl | rfl | rfl | rfl | rfl | rfl | rfl <;> decide

set_option maxRecDepth 100000 in
theorem slice_exec {o : Oper} {a : Act} {W : World} (X l h : Operand) (ho : o.op = .slice 9 X (some l) (some h) none) (hX : a.eval X = .string ⟨#[48, 49, 50, 51, 52, 53, 54, 55, 56, 57, 97, 98, 99, 100, 101, 102]⟩) (d : Nat) (hd : d < 16) (hl : a.eval l = .int .u8 (d : Int)) (hh : a.eval h = .int .u8 ((d : Int) + 1)) :
    (execOp a.eval o).run Tryz.prog W = .ok (.value (.string (strOfNums [hexD d]))) W := by
  unfold execOp
  simp only [ho, hX, hl, hh, Option.map]
  have h : d = 0 ∨ d = 1 ∨ d = 2 ∨ d = 3 ∨ d = 4 ∨ d = 5 ∨ d = 6 ∨ d = 7 ∨ d = 8 ∨ d = 9 ∨ d = 10 ∨ d = 11 ∨ d = 12 ∨ d = 13 ∨ d = 14 ∨ d = 15 := by omega
  rcases h with rfl | rfl | rfl | rfl | rfl | rfl | rfl | rfl | rfl | rfl | rfl | rfl | rfl | rfl | rfl | rfl <;> rfl

theorem str_append (a b : List Int) : strOfNums (a ++ b) = strOfNums a ++ strOfNums b := by
  apply ByteArray.ext
  apply Array.ext'
  rw [ByteArray.data_append, Array.toList_append, strOfNums_data, strOfNums_data, strOfNums_data, List.map_append]

set_option maxRecDepth 100000 in
set_option maxHeartbeats 1000000 in
theorem rhex_any (a : Option Addr) (n c : Nat) (zs : List Int) (w : World) (hr : RdAt w (.slice a n c) zs) (hb : Bytes zs) (hm : n ≤ 50000000000000) :
    Calls Tryz.prog 19 #[.slice a n c] w fun e w' => e = .returned (.string (strOfNums (48 :: 120 :: hexL zs))) ∧ Below w.heap.size w w' := by
  have hlen : n = zs.length := by obtain ⟨a', c', e, _⟩ := hr; simp only [Value.slice.injEq] at e; exact e.2.1
  replace hr := Kpt.mk hr
  replace hb := Kpt.mk hb
  replace hlen := Kpt.mk hlen
  go_enter Tryz.func19, Tryz.ntmps19
  go_wp2
  go_loopw [4, 5] (fun x t wr => ∃ (k : Nat) (S : ByteArray), k ≤ n ∧ x = .string S ∧ t = .int .i64 k ∧ Kpt (S = strOfNums (48 :: 120 :: hexL (zs.take k))) ∧ Kpt (Below w.heap.size w wr)) (fun _ t _ => n - (intOf t).toNat)
  case atStart => exact ⟨0, _, by omega, rfl, rfl, ⟨rfl⟩, ⟨Below.refl _ _⟩⟩
  case round =>
    obtain ⟨k, S, hk, rfl, rfl, hS, hbl⟩ := hrel
    by_cases hlt : k < n
    · obtain ⟨b, off, rfl⟩ : ∃ b off, a = some ⟨b, off, none⟩ := by
        obtain ⟨a', c', e, _, _, h | ⟨b, off, h, _⟩⟩ := hr.out
        · have := hlen.out; omega
        · simp only [Value.slice.injEq] at e; exact ⟨b, off, e.1.trans h⟩
      have hcell : ∀ m, (wr.drewN m).cell? ⟨b, off + k, none⟩ = some (.int .u8 (zs.getD k 0)) := fun m => (rd_cells (hr.out.bel hbl.out)).2 k hlt
      obtain ⟨h0, h1⟩ := hb.out k
      have hstep := Kpt.mk (take_succ_getD zs k (by have := hlen.out; omega))
      have hsl : S.size ≤ 200000000000000 := by
        rw [hS.out, str_size]; simp [hexL_length]; omega
      generalize zs.getD k 0 = z at hcell h0 h1 hstep
      obtain ⟨q, rfl⟩ := Int.eq_ofNat_of_zero_le h0
      obtain ⟨hi, hi1, e1, e3⟩ : ∃ hi : Nat, hi < 16 ∧ (q : Int) / 16 = hi ∧ hi = q / 16 := ⟨q / 16, by omega, by omega, rfl⟩
      obtain ⟨lo, lo1, e2, e4⟩ : ∃ lo : Nat, lo < 16 ∧ (q : Int) % 16 = lo ∧ lo = q % 16 := ⟨q % 16, by omega, by omega, rfl⟩
      have w1 : IntKind.u8.wrap (hi : Int) = hi := by rw [IntKind.wrap_u8']; omega
      have w2 : IntKind.u8.wrap ((hi : Int) + 1) = hi + 1 := by rw [IntKind.wrap_u8']; omega
      have w3 : IntKind.u8.wrap (lo : Int) = lo := by rw [IntKind.wrap_u8']; omega
      have w4 : IntKind.u8.wrap ((lo : Int) + 1) = lo + 1 := by rw [IntKind.wrap_u8']; omega
      have e5 : (q : Int).tmod 16 = lo := by rw [Int.tmod_eq_emod_of_nonneg (by omega)]; exact e2
      have hz16 : (⟨#[48, 49, 50, 51, 52, 53, 54, 55, 56, 57, 97, 98, 99, 100, 101, 102]⟩ : ByteArray).size = 16 := rfl
      have x1 := ext_low hi hi1
      have x2 := ext_low lo lo1
      have s1 := str_size [hexD hi]
      have s2 := str_size [hexD lo]
      simp only [List.length_cons, List.length_nil] at s1 s2
      have hcat := Kpt.mk (show strOfNums (48 :: 120 :: hexL (zs.take (k + 1))) = strOfNums (48 :: 120 :: hexL (zs.take k)) ++ (strOfNums [hexD hi] ++ strOfNums [hexD lo]) from by
        rw [hstep.out, hexL_append, ← str_append, ← str_append]; simp [hexL, e3, e4])
      rw [← hS.out] at hcat
      obtain ⟨S1, x1d⟩ : ∃ S1, strOfNums [hexD hi] = S1 := ⟨_, rfl⟩
      obtain ⟨S2, x2d⟩ : ∃ S2, strOfNums [hexD lo] = S2 := ⟨_, rfl⟩
      rw [x1d] at s1 hcat
      rw [x2d] at s2 hcat
      replace x1d := Kpt.mk x1d
      replace x2d := Kpt.mk x2d
      clear x1 x2 hz16
      replace e3 := Kpt.mk e3
      replace e4 := Kpt.mk e4
      go_wp2
      refine wp_region_any (by kernel_rfl) ?_
      refine wpAny_of_C (C := fun W => W.cell? ⟨b, off + k, none⟩ = some (.int .u8 (q : Int))) _ _ _ _ ?_
      refine wpAnyC_take 0 (.string S) rfl (by kernel_rfl) (by kernel_rfl) (by kernel_rfl) (fun _ _ _ h => h) (wanted_free rfl _) (fun W hW => by go_simp) ?_
      try simp only [Act.put, List.getElem_toArray, List.getElem_cons_succ, List.getElem_cons_zero, List.setIfInBounds_toArray, List.set_cons_succ, List.set_cons_zero]
      refine wpAnyC_take 1 (.string ⟨#[48, 49, 50, 51, 52, 53, 54, 55, 56, 57, 97, 98, 99, 100, 101, 102]⟩) rfl (by kernel_rfl) (by kernel_rfl) (by kernel_rfl) (fun _ _ _ h => h) (wanted_free rfl _) (fun W hW => by go_simp) ?_
      try simp only [Act.put, List.getElem_toArray, List.getElem_cons_succ, List.getElem_cons_zero, List.setIfInBounds_toArray, List.set_cons_succ, List.set_cons_zero]
      refine wpAnyC_take 2 (.slice (some ⟨b, off, none⟩) n c) rfl (by kernel_rfl) (by kernel_rfl) (by kernel_rfl) (fun _ _ _ h => h) (wanted_free rfl _) (fun W hW => by go_simp) ?_
      try simp only [Act.put, List.getElem_toArray, List.getElem_cons_succ, List.getElem_cons_zero, List.setIfInBounds_toArray, List.set_cons_succ, List.set_cons_zero]
      refine wpAnyC_take 3 (.int .i64 k) rfl (by kernel_rfl) (by kernel_rfl) (by kernel_rfl) (fun _ _ _ h => h) (wanted_free rfl _) (fun W hW => by go_simp) ?_
      try simp only [Act.put, List.getElem_toArray, List.getElem_cons_succ, List.getElem_cons_zero, List.setIfInBounds_toArray, List.set_cons_succ, List.set_cons_zero]
      refine wpAnyC_take 4 (.pointer (some ⟨b, off + k, none⟩)) rfl (by kernel_rfl) (by kernel_rfl) (by kernel_rfl) (fun _ _ _ h => h) (wanted_free rfl _) (fun W hW => by go_simp) ?_
      try simp only [Act.put, List.getElem_toArray, List.getElem_cons_succ, List.getElem_cons_zero, List.setIfInBounds_toArray, List.set_cons_succ, List.set_cons_zero]
      refine wpAnyC_take 5 (.int .u8 (q : Int)) rfl (by kernel_rfl) (by kernel_rfl) (by kernel_rfl) (fun _ _ _ h => h) (wanted_free rfl _) (fun W hW => by go_simp) ?_
      try simp only [Act.put, List.getElem_toArray, List.getElem_cons_succ, List.getElem_cons_zero, List.setIfInBounds_toArray, List.set_cons_succ, List.set_cons_zero]
      refine wpAnyC_take 6 (.int .u8 (hi : Int)) rfl (by kernel_rfl) (by kernel_rfl) (by kernel_rfl) (fun _ _ _ h => h) (wanted_free rfl _) (fun W hW => by first | (go_simp; done) | (go_simp; simp_all) | (go_simp; simp [e1, e2, w1, w2, w3, w4])) ?_
      try simp only [Act.put, List.getElem_toArray, List.getElem_cons_succ, List.getElem_cons_zero, List.setIfInBounds_toArray, List.set_cons_succ, List.set_cons_zero]
      refine wpAnyC_take 7 (.slice (some ⟨b, off, none⟩) n c) rfl (by kernel_rfl) (by kernel_rfl) (by kernel_rfl) (fun _ _ _ h => h) (wanted_free rfl _) (fun W hW => by go_simp) ?_
      try simp only [Act.put, List.getElem_toArray, List.getElem_cons_succ, List.getElem_cons_zero, List.setIfInBounds_toArray, List.set_cons_succ, List.set_cons_zero]
      refine wpAnyC_take 8 (.int .i64 k) rfl (by kernel_rfl) (by kernel_rfl) (by kernel_rfl) (fun _ _ _ h => h) (wanted_free rfl _) (fun W hW => by go_simp) ?_
      try simp only [Act.put, List.getElem_toArray, List.getElem_cons_succ, List.getElem_cons_zero, List.setIfInBounds_toArray, List.set_cons_succ, List.set_cons_zero]
      refine wpAnyC_take 9 (.pointer (some ⟨b, off + k, none⟩)) rfl (by kernel_rfl) (by kernel_rfl) (by kernel_rfl) (fun _ _ _ h => h) (wanted_free rfl _) (fun W hW => by go_simp) ?_
      try simp only [Act.put, List.getElem_toArray, List.getElem_cons_succ, List.getElem_cons_zero, List.setIfInBounds_toArray, List.set_cons_succ, List.set_cons_zero]
      refine wpAnyC_take 10 (.int .u8 (q : Int)) rfl (by kernel_rfl) (by kernel_rfl) (by kernel_rfl) (fun _ _ _ h => h) (wanted_free rfl _) (fun W hW => by go_simp) ?_
      try simp only [Act.put, List.getElem_toArray, List.getElem_cons_succ, List.getElem_cons_zero, List.setIfInBounds_toArray, List.set_cons_succ, List.set_cons_zero]
      refine wpAnyC_take 11 (.int .u8 (hi : Int)) rfl (by kernel_rfl) (by kernel_rfl) (by kernel_rfl) (fun _ _ _ h => h) (wanted_free rfl _) (fun W hW => by first | (go_simp; done) | (go_simp; simp_all) | (go_simp; simp [e1, e2, w1, w2, w3, w4])) ?_
      try simp only [Act.put, List.getElem_toArray, List.getElem_cons_succ, List.getElem_cons_zero, List.setIfInBounds_toArray, List.set_cons_succ, List.set_cons_zero]
      refine wpAnyC_take 12 (.int .u8 ((hi : Int) + 1)) rfl (by kernel_rfl) (by kernel_rfl) (by kernel_rfl) (fun _ _ _ h => h) (wanted_free rfl _) (fun W hW => by first | (go_simp; done) | (go_simp; simp_all) | (go_simp; simp [e1, e2, w1, w2, w3, w4])) ?_
      try simp only [Act.put, List.getElem_toArray, List.getElem_cons_succ, List.getElem_cons_zero, List.setIfInBounds_toArray, List.set_cons_succ, List.set_cons_zero]
      refine wpAnyC_take 13 (.string S1) rfl (by kernel_rfl) (by kernel_rfl) (by kernel_rfl) (fun _ _ _ h => h) (wanted_free rfl _) (fun W hW => by rw [← x1d.out]; exact slice_exec (.tmp 13) (.tmp 18) (.tmp 24) rfl rfl hi hi1 rfl rfl) ?_
      try simp only [Act.put, List.getElem_toArray, List.getElem_cons_succ, List.getElem_cons_zero, List.setIfInBounds_toArray, List.set_cons_succ, List.set_cons_zero]
      refine wpAnyC_take 14 (.string ⟨#[48, 49, 50, 51, 52, 53, 54, 55, 56, 57, 97, 98, 99, 100, 101, 102]⟩) rfl (by kernel_rfl) (by kernel_rfl) (by kernel_rfl) (fun _ _ _ h => h) (wanted_free rfl _) (fun W hW => by go_simp) ?_
      try simp only [Act.put, List.getElem_toArray, List.getElem_cons_succ, List.getElem_cons_zero, List.setIfInBounds_toArray, List.set_cons_succ, List.set_cons_zero]
      refine wpAnyC_take 15 (.slice (some ⟨b, off, none⟩) n c) rfl (by kernel_rfl) (by kernel_rfl) (by kernel_rfl) (fun _ _ _ h => h) (wanted_free rfl _) (fun W hW => by go_simp) ?_
      try simp only [Act.put, List.getElem_toArray, List.getElem_cons_succ, List.getElem_cons_zero, List.setIfInBounds_toArray, List.set_cons_succ, List.set_cons_zero]
      refine wpAnyC_take 16 (.int .i64 k) rfl (by kernel_rfl) (by kernel_rfl) (by kernel_rfl) (fun _ _ _ h => h) (wanted_free rfl _) (fun W hW => by go_simp) ?_
      try simp only [Act.put, List.getElem_toArray, List.getElem_cons_succ, List.getElem_cons_zero, List.setIfInBounds_toArray, List.set_cons_succ, List.set_cons_zero]
      refine wpAnyC_take 17 (.pointer (some ⟨b, off + k, none⟩)) rfl (by kernel_rfl) (by kernel_rfl) (by kernel_rfl) (fun _ _ _ h => h) (wanted_free rfl _) (fun W hW => by go_simp) ?_
      try simp only [Act.put, List.getElem_toArray, List.getElem_cons_succ, List.getElem_cons_zero, List.setIfInBounds_toArray, List.set_cons_succ, List.set_cons_zero]
      refine wpAnyC_take 18 (.int .u8 (q : Int)) rfl (by kernel_rfl) (by kernel_rfl) (by kernel_rfl) (fun _ _ _ h => h) (wanted_free rfl _) (fun W hW => by go_simp) ?_
      try simp only [Act.put, List.getElem_toArray, List.getElem_cons_succ, List.getElem_cons_zero, List.setIfInBounds_toArray, List.set_cons_succ, List.set_cons_zero]
      refine wpAnyC_take 19 (.int .u8 (lo : Int)) rfl (by kernel_rfl) (by kernel_rfl) (by kernel_rfl) (fun _ _ _ h => h) (wanted_free rfl _) (fun W hW => by first | (go_simp; done) | (go_simp; simp_all) | (go_simp; simp [e1, e2, w1, w2, w3, w4])) ?_
      try simp only [Act.put, List.getElem_toArray, List.getElem_cons_succ, List.getElem_cons_zero, List.setIfInBounds_toArray, List.set_cons_succ, List.set_cons_zero]
      refine wpAnyC_take 20 (.slice (some ⟨b, off, none⟩) n c) rfl (by kernel_rfl) (by kernel_rfl) (by kernel_rfl) (fun _ _ _ h => h) (wanted_free rfl _) (fun W hW => by go_simp) ?_
      try simp only [Act.put, List.getElem_toArray, List.getElem_cons_succ, List.getElem_cons_zero, List.setIfInBounds_toArray, List.set_cons_succ, List.set_cons_zero]
      refine wpAnyC_take 21 (.int .i64 k) rfl (by kernel_rfl) (by kernel_rfl) (by kernel_rfl) (fun _ _ _ h => h) (wanted_free rfl _) (fun W hW => by go_simp) ?_
      try simp only [Act.put, List.getElem_toArray, List.getElem_cons_succ, List.getElem_cons_zero, List.setIfInBounds_toArray, List.set_cons_succ, List.set_cons_zero]
      refine wpAnyC_take 22 (.pointer (some ⟨b, off + k, none⟩)) rfl (by kernel_rfl) (by kernel_rfl) (by kernel_rfl) (fun _ _ _ h => h) (wanted_free rfl _) (fun W hW => by go_simp) ?_
      try simp only [Act.put, List.getElem_toArray, List.getElem_cons_succ, List.getElem_cons_zero, List.setIfInBounds_toArray, List.set_cons_succ, List.set_cons_zero]
      refine wpAnyC_take 23 (.int .u8 (q : Int)) rfl (by kernel_rfl) (by kernel_rfl) (by kernel_rfl) (fun _ _ _ h => h) (wanted_free rfl _) (fun W hW => by go_simp) ?_
      try simp only [Act.put, List.getElem_toArray, List.getElem_cons_succ, List.getElem_cons_zero, List.setIfInBounds_toArray, List.set_cons_succ, List.set_cons_zero]
      refine wpAnyC_take 24 (.int .u8 (lo : Int)) rfl (by kernel_rfl) (by kernel_rfl) (by kernel_rfl) (fun _ _ _ h => h) (wanted_free rfl _) (fun W hW => by first | (go_simp; done) | (go_simp; simp_all) | (go_simp; simp [e1, e2, w1, w2, w3, w4])) ?_
      try simp only [Act.put, List.getElem_toArray, List.getElem_cons_succ, List.getElem_cons_zero, List.setIfInBounds_toArray, List.set_cons_succ, List.set_cons_zero]
      refine wpAnyC_take 25 (.int .u8 ((lo : Int) + 1)) rfl (by kernel_rfl) (by kernel_rfl) (by kernel_rfl) (fun _ _ _ h => h) (wanted_free rfl _) (fun W hW => by first | (go_simp; done) | (go_simp; simp_all) | (go_simp; simp [e1, e2, w1, w2, w3, w4])) ?_
      try simp only [Act.put, List.getElem_toArray, List.getElem_cons_succ, List.getElem_cons_zero, List.setIfInBounds_toArray, List.set_cons_succ, List.set_cons_zero]
      refine wpAnyC_take 26 (.string S2) rfl (by kernel_rfl) (by kernel_rfl) (by kernel_rfl) (fun _ _ _ h => h) (wanted_free rfl _) (fun W hW => by rw [← x2d.out]; exact slice_exec (.tmp 26) (.tmp 31) (.tmp 37) rfl rfl lo lo1 rfl rfl) ?_
      try simp only [Act.put, List.getElem_toArray, List.getElem_cons_succ, List.getElem_cons_zero, List.setIfInBounds_toArray, List.set_cons_succ, List.set_cons_zero]
      refine wpAnyC_take 27 (.string (S1 ++ S2)) rfl (by kernel_rfl) (by kernel_rfl) (by kernel_rfl) (fun _ _ _ h => h) (wanted_free rfl _) (fun W hW => by go_simp) ?_
      try simp only [Act.put, List.getElem_toArray, List.getElem_cons_succ, List.getElem_cons_zero, List.setIfInBounds_toArray, List.set_cons_succ, List.set_cons_zero]
      refine wpAnyC_take 28 (.string (S ++ (S1 ++ S2))) rfl (by kernel_rfl) (by kernel_rfl) (by kernel_rfl) (fun _ _ _ h => h) (wanted_free rfl _) (fun W hW => by first | (go_simp; done) | (go_simp; omega)) ?_
      try simp only [Act.put, List.getElem_toArray, List.getElem_cons_succ, List.getElem_cons_zero, List.setIfInBounds_toArray, List.set_cons_succ, List.set_cons_zero]
      refine wpAnyC_one 29 (hcell 1) rfl (by kernel_rfl) (wanted_free rfl _) (fun KA hKA => ?_)
      go_simp
      refine hKA _ _ ?_
      clear hKA KA
      try simp only [Act.put, List.getElem_toArray, List.getElem_cons_succ, List.getElem_cons_zero, List.setIfInBounds_toArray, List.set_cons_succ, List.set_cons_zero]
      refine wpAnyC_done (hcell 1) (by kernel_rfl) ?_
      go_wp2
      go_roundw
      case rel => exact ⟨k + 1, _, by omega, rfl, by simp, ⟨hcat.out.symm⟩, ⟨⟨hbl.out.os, hbl.out.tape, hbl.out.output, hbl.out.size, hbl.out.block⟩⟩⟩
      case measure => simp [intOf]; omega
    · obtain rfl : k = n := by omega
      go_wp2
      go_ret
      refine ⟨?_, hbl.out⟩
      have := hS.out
      rw [List.take_of_length_le (by have := hlen.out; omega)] at this
      rw [← this]; rfl

end Go.Proofs.YtplifodddfjhdaaGreatDoor
