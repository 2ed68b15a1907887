/-
  Plain facts on numbers as bytes, the highest byte first: no program is looked at here.
-/
import Derived.Laws.BitsAllLaws
import Derived.Laws.BitsLemmas
namespace Go.Proofs.YtnebcbfjlkhimaaDoor.B

/-- The number of the first k bytes from the place i on. -/
def num (zs : List Int) (i : Nat) : Nat → Int
  | 0 => 0
  | k + 1 => num zs i k * 256 + zs.getD (i + k) 0

/-- All are bytes. -/
def Bytes (zs : List Int) : Prop := ∀ j, 0 ≤ zs.getD j 0 ∧ zs.getD j 0 ≤ 255

theorem num_bd (zs : List Int) (i : Nat) (hb : Bytes zs) : ∀ k, 0 ≤ num zs i k ∧ num zs i k < 256 ^ k
  | 0 => by simp [num]
  | k + 1 => by
    have ih := num_bd zs i hb k
    have h := hb (i + k)
    have e : (256 : Int) ^ (k + 1) = 256 ^ k * 256 := Int.pow_succ ..
    unfold num
    omega

theorem pow_pos256 : ∀ k : Nat, (0 : Int) < 256 ^ k
  | 0 => by simp
  | k + 1 => by
    have ih := pow_pos256 k
    have e : (256 : Int) ^ (k + 1) = 256 ^ k * 256 := Int.pow_succ ..
    omega

theorem pow_le (k : Nat) : ∀ d : Nat, (256 : Int) ^ k ≤ 256 ^ (k + d)
  | 0 => Int.le_refl _
  | d + 1 => by
    have ih := pow_le k d
    have h := pow_pos256 (k + d)
    have e : (256 : Int) ^ (k + (d + 1)) = 256 ^ (k + d) * 256 := Int.pow_succ ..
    omega

theorem num_bd7 (zs : List Int) (i : Nat) (hb : Bytes zs) (k : Nat) (hk : k < 8) : 0 ≤ num zs i k ∧ num zs i k < 72057594037927936 := by
  have h := num_bd zs i hb k
  have h2 := pow_le k (7 - k)
  have e : (256 : Int) ^ (k + (7 - k)) = 72057594037927936 := by
    rw [show k + (7 - k) = 7 by omega]; decide
  omega

theorem wrap64_id (x : Int) (h0 : 0 ≤ x) (h1 : x < 18446744073709551616) : IntKind.u64.wrap x = x := by
  rw [IntKind.wrap_u64]; omega

/-- A round of the program's Get. -/
theorem num_step_or (zs : List Int) (i : Nat) (hb : Bytes zs) (k : Nat) (hk : k < 8) :
    bits BinOp.or IntKind.u64 (IntKind.u64.wrap (num zs i k * 256)) (IntKind.u64.wrap (zs[i + k]?.getD 0)) = num zs i (k + 1) := by
  have h := num_bd7 zs i hb k hk
  have h2 := hb (i + k)
  rw [List.getD_eq_getElem?_getD] at h2
  rw [wrap64_id _ (by omega) (by omega), wrap64_id _ (by omega) (by omega)]
  rw [bits_join .u64 64 (by decide) (fun n h0 h1 => wrap64_id n h0 (by omega)) 8 _ _ (by omega) (by omega) (by omega) (by omega) (by omega) (by omega)]
  simp [num]

/-- A round of the document's. -/
theorem num_step_add (zs : List Int) (i : Nat) (hb : Bytes zs) (k : Nat) (hk : k < 8) :
    IntKind.u64.wrap (IntKind.u64.wrap (num zs i k * 256) + IntKind.u64.wrap (zs[i + k]?.getD 0)) = num zs i (k + 1) := by
  have h := num_bd7 zs i hb k hk
  have h2 := hb (i + k)
  rw [List.getD_eq_getElem?_getD] at h2
  rw [wrap64_id (num zs i k * 256) (by omega) (by omega), wrap64_id (zs[i + k]?.getD 0) (by omega) (by omega), wrap64_id _ (by omega) (by omega)]
  simp [num]

end Go.Proofs.YtnebcbfjlkhimaaDoor.B
