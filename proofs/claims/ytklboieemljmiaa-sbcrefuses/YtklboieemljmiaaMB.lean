/-
  Contracts of the small functions that look whether a number's bytes are there, and of Get. Plain facts on numbers as bytes, the highest byte first: no program is looked at here. Contracts of Get, of the program and of the document's answer. A list of bytes that came in, as a row of cells. Plain facts on a number that is laid in bytes, from the left or from the right: no program is looked at here. Contracts of the program's Put.
-/
import Derived.Test.YtklboieemljmiaaRows
import Derived.WalkKit
import Derived.Below
import Derived.Laws.BitsAllLaws
import Derived.Laws.BitsLemmas
import Derived.Outline
import Derived.OpenShut
import Derived.Laws.CopyOwn
namespace Go.Proofs.Ytklboieemljmiaa.B
open Go.RowKit

def widB (n : Int) : Bool := decide (1 ≤ n ∧ n ≤ 8)
def insB (len : Nat) (at' n : Int) : Bool := decide (0 ≤ at' ∧ at' ≤ (len : Int) - n)

theorem ret_bool {a b : Bool} (h : a = b) : Ending.returned (.bool a) = .returned (.bool b) := by rw [h]

theorem width_any (n : Int) (w : World) :
    Calls Try.prog 75 #[.int .i64 n] w fun e w' => e = .returned (.bool (widB n)) ∧ w' = w := by
  by_cases h1 : 1 ≤ n
  · by_cases h2 : n ≤ 8
    · go_enter Try.func75, Try.ntmps75
      go_wp2
      go_ret
      exact ⟨ret_bool (by simp [widB, h1, h2]), rfl⟩
    · go_enter Try.func75, Try.ntmps75
      go_wp2
      go_ret
      exact ⟨ret_bool (by simp [widB, h1, h2]), rfl⟩
  · go_enter Try.func75, Try.ntmps75
    go_wp2
    go_ret
    exact ⟨ret_bool (by simp [widB]; omega), rfl⟩

theorem inside_any (a : Option Addr) (len cap : Nat) (i n : Int) (w : World) (hl : len ≤ maxLen) (hn1 : 1 ≤ n) (hn2 : n ≤ 8) :
    Calls Try.prog 76 #[.slice a len cap, .int .i64 i, .int .i64 n] w fun e w' => e = .returned (.bool (insB len i n)) ∧ w' = w := by
  unfold maxLen at hl
  by_cases h1 : 0 ≤ i
  · by_cases h2 : i ≤ (len : Int) - n
    · go_enter Try.func76, Try.ntmps76
      go_wp2
      go_ret
      exact ⟨ret_bool (by simp [insB, h1, h2]), rfl⟩
    · go_enter Try.func76, Try.ntmps76
      go_wp2
      go_ret
      exact ⟨ret_bool (by simp [insB, h1, h2]), rfl⟩
  · go_enter Try.func76, Try.ntmps76
    go_wp2
    go_ret
    exact ⟨ret_bool (by simp [insB]; omega), rfl⟩

theorem field_arg (len : Nat) (i n : Int) (w : World) (h : n < 1 ∨ 8 < n) :
    Calls Try.prog 49 #[.int .i64 len, .int .i64 i, .int .i64 n] w fun e w' => e = .returned (.int .i64 1) ∧ w' = w := by
  by_cases h1 : n < 1
  · go_enter Try.func49, Try.ntmps49
    go_wp2
    go_ret
    exact ⟨rfl, rfl⟩
  · have h2 : 8 < n := by omega
    clear h
    go_enter Try.func49, Try.ntmps49
    go_wp2
    go_ret
    exact ⟨rfl, rfl⟩

theorem field_ok (len : Nat) (i n : Int) (w : World) (hl : len ≤ maxLen) (hn1 : 1 ≤ n) (hn2 : n ≤ 8) (h0 : 0 ≤ i) (h1 : i ≤ (len : Int) - n) :
    Calls Try.prog 49 #[.int .i64 len, .int .i64 i, .int .i64 n] w fun e w' => e = .returned (.int .i64 0) ∧ w' = w := by
  unfold maxLen at hl
  have h2 : i < len := by omega
  have h3 : ¬ (len : Int) ≤ i := by omega
  have h4 : ¬ (len : Int) - i < n := by omega
  go_enter Try.func49, Try.ntmps49
  go_wp2
  go_ret
  exact ⟨rfl, rfl⟩

theorem field_range (len : Nat) (i n : Int) (w : World) (_hl : len ≤ maxLen) (hn1 : 1 ≤ n) (hn2 : n ≤ 8) (h : ¬ (0 ≤ i ∧ i ≤ (len : Int) - n)) :
    Calls Try.prog 49 #[.int .i64 len, .int .i64 i, .int .i64 n] w fun e w' => e = .returned (.int .i64 4) ∧ w' = w := by
  unfold maxLen at _hl
  by_cases h0 : i < 0
  · clear h
    go_enter Try.func49, Try.ntmps49
    go_wp2
    go_ret
    exact ⟨rfl, rfl⟩
  · by_cases h2 : (len : Int) ≤ i
    · clear h
      go_enter Try.func49, Try.ntmps49
      go_wp2
      go_ret
      exact ⟨rfl, rfl⟩
    · have h4 : (len : Int) - i < n := by omega
      clear h
      go_enter Try.func49, Try.ntmps49
      go_wp2
      go_ret
      exact ⟨rfl, rfl⟩

end Go.Proofs.Ytklboieemljmiaa.B

namespace Go.Proofs.Ytklboieemljmiaa.B

/-- The number of the first k bytes from the place i on. -/
def num (zs : List Int) (i : Nat) : Nat → Int
  | 0 => 0
  | k + 1 => num zs i k * 256 + zs.getD (i + k) 0

/-- All are bytes. -/
def Bytes (zs : List Int) : Prop := ∀ j, 0 ≤ zs.getD j 0 ∧ zs.getD j 0 ≤ 255

theorem num_bd (zs : List Int) (i : Nat) (hb : Bytes zs) : ∀ k, 0 ≤ num zs i k ∧ num zs i k < 256 ^ k
  | 0 => by simp [num]
  | k + 1 => by
    have ih := num_bd zs i hb k
    have h := hb (i + k)
    have e : (256 : Int) ^ (k + 1) = 256 ^ k * 256 := Int.pow_succ ..
    unfold num
    omega

theorem pow_pos256 : ∀ k : Nat, (0 : Int) < 256 ^ k
  | 0 => by simp
  | k + 1 => by
    have ih := pow_pos256 k
    have e : (256 : Int) ^ (k + 1) = 256 ^ k * 256 := Int.pow_succ ..
    omega

theorem pow_le (k : Nat) : ∀ d : Nat, (256 : Int) ^ k ≤ 256 ^ (k + d)
  | 0 => Int.le_refl _
  | d + 1 => by
    have ih := pow_le k d
    have h := pow_pos256 (k + d)
    have e : (256 : Int) ^ (k + (d + 1)) = 256 ^ (k + d) * 256 := Int.pow_succ ..
    omega

theorem num_bd7 (zs : List Int) (i : Nat) (hb : Bytes zs) (k : Nat) (hk : k < 8) : 0 ≤ num zs i k ∧ num zs i k < 72057594037927936 := by
  have h := num_bd zs i hb k
  have h2 := pow_le k (7 - k)
  have e : (256 : Int) ^ (k + (7 - k)) = 72057594037927936 := by
    rw [show k + (7 - k) = 7 by omega]; decide
  omega

theorem wrap64_id (x : Int) (h0 : 0 ≤ x) (h1 : x < 18446744073709551616) : IntKind.u64.wrap x = x := by
  rw [IntKind.wrap_u64]; omega

/-- A round of the program's Get. -/
theorem num_step_or (zs : List Int) (i : Nat) (hb : Bytes zs) (k : Nat) (hk : k < 8) :
    bits BinOp.or IntKind.u64 (IntKind.u64.wrap (num zs i k * 256)) (IntKind.u64.wrap (zs[i + k]?.getD 0)) = num zs i (k + 1) := by
  have h := num_bd7 zs i hb k hk
  have h2 := hb (i + k)
  rw [List.getD_eq_getElem?_getD] at h2
  rw [wrap64_id _ (by omega) (by omega), wrap64_id _ (by omega) (by omega)]
  rw [bits_join .u64 64 (by decide) (fun n h0 h1 => wrap64_id n h0 (by omega)) 8 _ _ (by omega) (by omega) (by omega) (by omega) (by omega) (by omega)]
  simp [num]

/-- A round of the document's. -/
theorem num_step_add (zs : List Int) (i : Nat) (hb : Bytes zs) (k : Nat) (hk : k < 8) :
    IntKind.u64.wrap (IntKind.u64.wrap (num zs i k * 256) + IntKind.u64.wrap (zs[i + k]?.getD 0)) = num zs i (k + 1) := by
  have h := num_bd7 zs i hb k hk
  have h2 := hb (i + k)
  rw [List.getD_eq_getElem?_getD] at h2
  rw [wrap64_id (num zs i k * 256) (by omega) (by omega), wrap64_id (zs[i + k]?.getD 0) (by omega) (by omega), wrap64_id _ (by omega) (by omega)]
  simp [num]

end Go.Proofs.Ytklboieemljmiaa.B

namespace Go.Proofs.Ytklboieemljmiaa.B
open Go.RowKit

theorem get_arg (a : Option Addr) (len cap : Nat) (i n : Int) (w : World) (h : widB n = false) :
    Calls Try.prog 71 #[.slice a len cap, .int .i64 i, .int .i64 n] w fun e w' => e = .returned (.tuple #[.int .u64 0, .int .i64 1]) ∧ w' = w := by
  go_enter Try.func71, Try.ntmps71
  go_wp2_with (go_at_call 75; refine (width_any _ _).mono ?_; rintro e w' ⟨rfl, rfl⟩)
  go_ret2
  exact ⟨rfl, rfl⟩

theorem get_range (a : Option Addr) (len cap : Nat) (i n : Int) (w : World) (hl : len ≤ maxLen) (h : widB n = true) (h2 : insB len i n = false) :
    Calls Try.prog 71 #[.slice a len cap, .int .i64 i, .int .i64 n] w fun e w' => e = .returned (.tuple #[.int .u64 0, .int .i64 4]) ∧ w' = w := by
  have hn : 1 ≤ n ∧ n ≤ 8 := by simpa [widB] using h
  go_enter Try.func71, Try.ntmps71
  go_wp2_with (first | (go_at_call 75; refine (width_any _ _).mono ?_; rintro e w' ⟨rfl, rfl⟩) | (go_at_call 76; refine (inside_any _ _ _ _ _ _ hl hn.1 hn.2).mono ?_; rintro e w' ⟨rfl, rfl⟩))
  go_ret2
  exact ⟨rfl, rfl⟩

set_option maxHeartbeats 400000 in
theorem get_ok (b off len cap i n : Nat) (zs : List Int) (w : World) (hl : len ≤ maxLen) (hn1 : 1 ≤ n) (hn2 : n ≤ 8) (hi : i + n ≤ len) (hb : Bytes zs)
    (hc : ∀ j, j < len → w.cell? ⟨b, off + j, none⟩ = some (.int .u8 (zs.getD j 0))) :
    Calls Try.prog 71 #[.slice (some ⟨b, off, none⟩) len cap, .int .i64 i, .int .i64 n] w fun e w' => e = .returned (.tuple #[.int .u64 (num zs i n), .int .i64 0]) ∧ w' = w := by
  have H1 : widB n = true := by simp [widB]; omega
  have H2 : insB len i n = true := by simp [insB]; omega
  unfold maxLen at hl
  go_enter Try.func71, Try.ntmps71
  go_wp2_with (first | (go_at_call 75; refine (width_any _ _).mono ?_; rintro e w' ⟨rfl, rfl⟩) | (go_at_call 76; refine (inside_any _ _ _ _ _ _ (by unfold maxLen; omega) (by omega) (by omega)).mono ?_; rintro e w' ⟨rfl, rfl⟩))
  go_loop [8, 19] (fun v t => ∃ k : Nat, k ≤ n ∧ v = .int .u64 (num zs i k) ∧ t = .int .i64 k) (fun _ t => n - (intOf t).toNat)
  case atStart => exact ⟨0, by omega, rfl, rfl⟩
  case round =>
    obtain ⟨k, hk, rfl, rfl⟩ := hrel
    by_cases hlt : k < n
    · have hcell := hc (i + k) (by omega)
      go_wp2
      go_round
      case rel => exact ⟨k + 1, by omega, by rw [num_step_or zs i hb k (by omega)], by go_num⟩
      case measure => simp [intOf]; omega
    · have : k = n := by omega
      subst this
      go_wp2
      go_ret2
      exact ⟨rfl, rfl⟩

/-! The document's. -/

theorem rget_arg (a : Option Addr) (len cap : Nat) (i n : Int) (w : World) (h : widB n = false) :
    Calls Try.prog 30 #[.slice a len cap, .int .i64 i, .int .i64 n] w fun e w' => e = .returned (.tuple #[.int .u64 0, .int .i64 1]) ∧ w' = w := by
  have hn : n < 1 ∨ 8 < n := by simp [widB] at h; omega
  go_enter Try.func30, Try.ntmps30
  go_wp2_with (go_at_call 49; refine (field_arg _ _ _ _ hn).mono ?_; rintro e w' ⟨rfl, rfl⟩)
  go_ret2
  exact ⟨rfl, rfl⟩

theorem rget_range (a : Option Addr) (len cap : Nat) (i n : Int) (w : World) (hl : len ≤ maxLen) (h : widB n = true) (h2 : insB len i n = false) :
    Calls Try.prog 30 #[.slice a len cap, .int .i64 i, .int .i64 n] w fun e w' => e = .returned (.tuple #[.int .u64 0, .int .i64 4]) ∧ w' = w := by
  have hn : 1 ≤ n ∧ n ≤ 8 := by simpa [widB] using h
  have hi : ¬ (0 ≤ i ∧ i ≤ (len : Int) - n) := by simpa [insB] using h2
  go_enter Try.func30, Try.ntmps30
  go_wp2_with (go_at_call 49; refine (field_range _ _ _ _ hl hn.1 hn.2 hi).mono ?_; rintro e w' ⟨rfl, rfl⟩)
  go_ret2
  exact ⟨rfl, rfl⟩

set_option maxHeartbeats 400000 in
theorem rget_ok (b off len cap i n : Nat) (zs : List Int) (w : World) (hl : len ≤ maxLen) (hn1 : 1 ≤ n) (hn2 : n ≤ 8) (hi : i + n ≤ len) (hb : Bytes zs)
    (hc : ∀ j, j < len → w.cell? ⟨b, off + j, none⟩ = some (.int .u8 (zs.getD j 0))) :
    Calls Try.prog 30 #[.slice (some ⟨b, off, none⟩) len cap, .int .i64 i, .int .i64 n] w fun e w' => e = .returned (.tuple #[.int .u64 (num zs i n), .int .i64 0]) ∧ w' = w := by
  have hl' := hl
  unfold maxLen at hl
  go_enter Try.func30, Try.ntmps30
  go_wp2_with (go_at_call 49; refine (field_ok _ _ _ _ hl' (by omega) (by omega) (by omega) (by omega)).mono ?_; rintro e w' ⟨rfl, rfl⟩)
  go_loop [9, 10] (fun v t => ∃ k : Nat, k ≤ n ∧ v = .int .u64 (num zs i k) ∧ t = .int .i64 k) (fun _ t => n - (intOf t).toNat)
  case atStart => exact ⟨0, by omega, rfl, rfl⟩
  case round =>
    obtain ⟨k, hk, rfl, rfl⟩ := hrel
    by_cases hlt : k < n
    · have hcell := hc (i + k) (by omega)
      go_wp2
      go_round
      case rel => exact ⟨k + 1, by omega, by rw [num_step_add zs i hb k (by omega)], by go_num⟩
      case measure => simp [intOf]; omega
    · have : k = n := by omega
      subst this
      go_wp2
      go_ret2
      exact ⟨rfl, rfl⟩

end Go.Proofs.Ytklboieemljmiaa.B

namespace Go.Proofs.Ytklboieemljmiaa.B
open Go.RowKit

/-- A row of bytes is there (or it has none). -/
def RowAt (w : World) (a : Option Addr) (len : Nat) (zs : List Int) : Prop :=
  len = 0 ∨ ∃ b off, a = some ⟨b, off, none⟩ ∧ ∀ j, j < len → w.cell? ⟨b, off + j, none⟩ = some (.int .u8 (zs.getD j 0))

theorem RowAt.below {w w' : World} {a : Option Addr} {len : Nat} {zs : List Int} (h : RowAt w a len zs) (hb : Below w.heap.size w w') : RowAt w' a len zs := by
  rcases h with h | ⟨b, off, ha, hc⟩
  · exact .inl h
  · refine .inr ⟨b, off, ha, fun j hj => ?_⟩
    have h1 := hc j hj
    rw [hb.cell (p := ⟨b, off + j, none⟩) (World.block_lt_of_cell? w ⟨b, off + j, none⟩ h1)]
    exact h1

theorem rowAt_of {w : World} {a : Option Addr} {len cap : Nat} {zs : List Int}
    (h : (a = none ∧ len = 0 ∧ cap = 0 ∧ zs = []) ∨
      ∃ x, a = some x ∧ len ≤ cap ∧ cap ≤ maxLen ∧ zs.length = cap ∧ (∀ i, i < zs.length → w.cell? (x.add i) = some (.int .u8 (zs.getD i 0))) ∧ ∀ n ∈ zs, (Lit.int .u8 n).wf = true) :
    RowAt w a len zs ∧ Bytes zs ∧ len ≤ maxLen := by
  rcases h with ⟨_, h, _, hz⟩ | ⟨x, rfl, hlc, hm, hz, hcell, hwz⟩
  · refine ⟨.inl h, ?_, ?_⟩
    · intro j; rw [hz]; simp
    · rw [h]; exact Nat.zero_le _
  · refine ⟨?_, fun j => by rw [List.getD_eq_getElem?_getD]; exact range_u8 hwz j, by omega⟩
    by_cases h0 : len = 0
    · exact .inl h0
    · obtain ⟨b, off, rfl, hc⟩ := ints_at hcell (by omega)
      exact .inr ⟨b, off, rfl, fun j hj => hc j (by omega)⟩

theorem rowAt_of' {w : World} {a : Option Addr} {len cap : Nat} {zs : List Int}
    (h : (a = none ∧ len = 0 ∧ cap = 0 ∧ zs = []) ∨
      ∃ x, a = some x ∧ len ≤ cap ∧ cap ≤ 140737488351232 ∧ zs.length = cap ∧ (∀ i, i < zs.length → w.cell? (x.add i) = some (.int .u8 (zs.getD i 0))) ∧ ∀ n ∈ zs, (Lit.int .u8 n).wf = true) :
    RowAt w a len zs ∧ Bytes zs := by
  have h' := rowAt_of (w := w) (a := a) (len := len) (cap := cap) (zs := zs) (by
    rcases h with h | ⟨x, h1, h2, h3, h4⟩
    · exact .inl h
    · exact .inr ⟨x, h1, h2, by unfold maxLen; omega, h4⟩)
  exact ⟨h'.1, h'.2.1⟩

end Go.Proofs.Ytklboieemljmiaa.B

namespace Go.Proofs.Ytklboieemljmiaa.B

/-- The list with the number's first k bytes laid in. -/
def asc (Z : List Int) (i n : Nat) (v : Int) : Nat → List Int
  | 0 => Z
  | k + 1 => (asc Z i n v k).set (i + k) (v / 2 ^ (8 * (n - 1 - k)) % 256)

/-- The list with the number's last m bytes laid in. -/
def desc (Z : List Int) (i n : Nat) (v : Int) : Nat → List Int
  | 0 => Z
  | m + 1 => (desc Z i n v m).set (i + (n - 1 - m)) (v / 2 ^ (8 * m) % 256)

theorem asc_len (Z : List Int) (i n : Nat) (v : Int) : ∀ k, (asc Z i n v k).length = Z.length
  | 0 => rfl
  | k + 1 => by simp [asc, asc_len Z i n v k]

theorem desc_len (Z : List Int) (i n : Nat) (v : Int) : ∀ k, (desc Z i n v k).length = Z.length
  | 0 => rfl
  | k + 1 => by simp [desc, desc_len Z i n v k]

theorem asc_get (Z : List Int) (i n : Nat) (v : Int) (hi : i + n ≤ Z.length) : ∀ k, k ≤ n → ∀ j, (asc Z i n v k)[j]? = if i ≤ j ∧ j < i + k then some (v / 2 ^ (8 * (n - 1 - (j - i))) % 256) else Z[j]?
  | 0, _, j => by simp [asc]; omega
  | k + 1, hk, j => by
    have ih := asc_get Z i n v hi k (by omega) j
    rw [asc, List.getElem?_set]
    by_cases h1 : i + k = j
    · subst h1
      rw [if_pos rfl, if_pos (by rw [asc_len]; omega), if_pos (by omega), Nat.add_sub_cancel_left]
    · rw [if_neg h1, ih]
      by_cases h2 : i ≤ j ∧ j < i + k
      · rw [if_pos h2, if_pos (by omega)]
      · rw [if_neg h2, if_neg (by omega)]

theorem desc_get (Z : List Int) (i n : Nat) (v : Int) (hi : i + n ≤ Z.length) : ∀ m, m ≤ n → ∀ j, (desc Z i n v m)[j]? = if i + (n - m) ≤ j ∧ j < i + n then some (v / 2 ^ (8 * (n - 1 - (j - i))) % 256) else Z[j]?
  | 0, _, j => by simp [desc]; omega
  | m + 1, hm, j => by
    have ih := desc_get Z i n v hi m (by omega) j
    rw [desc, List.getElem?_set]
    by_cases h1 : i + (n - 1 - m) = j
    · subst h1
      rw [if_pos rfl, if_pos (by rw [desc_len]; omega), if_pos (by omega), Nat.add_sub_cancel_left, show n - 1 - (n - 1 - m) = m by omega]
    · rw [if_neg h1, ih]
      by_cases h2 : i + (n - m) ≤ j ∧ j < i + n
      · rw [if_pos h2, if_pos (by omega)]
      · rw [if_neg h2, if_neg (by omega)]

theorem desc_asc (Z : List Int) (i n : Nat) (v : Int) (hi : i + n ≤ Z.length) : desc Z i n v n = asc Z i n v n := by
  apply List.ext_getElem?
  intro j
  rw [desc_get Z i n v hi n (Nat.le_refl _), asc_get Z i n v hi n (Nat.le_refl _)]
  by_cases h : i ≤ j ∧ j < i + n
  · rw [if_pos (by omega), if_pos h]
  · rw [if_neg (by omega), if_neg h]

/-- One byte more is taken off. -/
theorem div_step (v : Int) (k : Nat) : v / 2 ^ (8 * k) / 256 = v / 2 ^ (8 * (k + 1)) := by
  rw [Int.ediv_ediv_of_nonneg (by exact Int.le_of_lt (Int.pow_pos (by decide)))]
  congr 1
  rw [show 8 * (k + 1) = 8 * k + 8 by omega, Int.pow_add]
  rfl

theorem div_nonneg (v : Int) (h : 0 ≤ v) (k : Nat) : 0 ≤ v / 2 ^ (8 * k) :=
  Int.ediv_nonneg h (Int.le_of_lt (Int.pow_pos (by decide)))

theorem div_le (v : Int) (h : 0 ≤ v) (k : Nat) : v / 2 ^ (8 * k) ≤ v :=
  Int.ediv_le_self _ h

/-- A round of the document's division. -/
theorem quo_step (v : Int) (h0 : 0 ≤ v) (h1 : v < 18446744073709551616) (k : Nat) : IntKind.u64.wrap ((v / 2 ^ (8 * k)).tdiv 256) = v / 2 ^ (8 * (k + 1)) := by
  have a := div_nonneg v h0 k
  have b := div_le v h0 (k + 1)
  have c := div_nonneg v h0 (k + 1)
  rw [Int.tdiv_eq_ediv_of_nonneg a, div_step, wrap64_id _ c (by omega)]

theorem bytes_asc (Z : List Int) (hb : Bytes Z) (i n : Nat) (v : Int) (hi : i + n ≤ Z.length) (k : Nat) (hk : k ≤ n) : Bytes (asc Z i n v k) := by
  intro j
  rw [List.getD_eq_getElem?_getD, asc_get Z i n v hi k hk]
  by_cases h : i ≤ j ∧ j < i + k
  · rw [if_pos h]
    simp only [Option.getD_some]
    omega
  · rw [if_neg h, ← List.getD_eq_getElem?_getD]
    exact hb j

end Go.Proofs.Ytklboieemljmiaa.B

namespace Go.Proofs.Ytklboieemljmiaa.B
open Go.RowKit
set_option linter.unusedVariables false

theorem Try.info5 : (Try.prog.info? 5).map (fun i => (i.zero, i.size, i.bytes)) = some (some (.int .u8 0), 1, 1) := by kernel_rfl

theorem put_arg (a : Option Addr) (len cap : Nat) (i n v : Int) (w : World) (h : widB n = false) :
    Calls Try.prog 56 #[.slice a len cap, .int .i64 i, .int .i64 n, .int .u64 v] w fun e w' => e = .returned (.tuple #[.slice none 0 0, .int .i64 1]) ∧ w' = w := by
  go_enter Try.func56, Try.ntmps56
  go_wp2_with (go_at_call 75; refine (width_any _ _).mono ?_; rintro e w' ⟨rfl, rfl⟩)
  go_ret2
  exact ⟨rfl, rfl⟩

theorem put_form (a : Option Addr) (len cap : Nat) (i v : Int) (n : Nat) (w : World) (h : widB n = true) (hf : (v / 2 ^ (8 * n) != 0) = true) :
    Calls Try.prog 56 #[.slice a len cap, .int .i64 i, .int .i64 n, .int .u64 v] w fun e w' => e = .returned (.tuple #[.slice none 0 0, .int .i64 3]) ∧ w' = w := by
  have hn : 1 ≤ n ∧ n ≤ 8 := by have h' : (1 : Int) ≤ n ∧ (n : Int) ≤ 8 := (by simpa [widB] using h); omega
  go_enter Try.func56, Try.ntmps56
  go_wp2_with (go_at_call 75; refine (width_any _ _).mono ?_; rintro e w' ⟨rfl, rfl⟩)
  go_ret2
  exact ⟨rfl, rfl⟩

theorem put_range (a : Option Addr) (len cap : Nat) (i v : Int) (n : Nat) (w : World) (hl : len ≤ maxLen) (h : widB n = true) (hf : (v / 2 ^ (8 * n) != 0) = false) (h2 : insB len i n = false) :
    Calls Try.prog 56 #[.slice a len cap, .int .i64 i, .int .i64 n, .int .u64 v] w fun e w' => e = .returned (.tuple #[.slice none 0 0, .int .i64 4]) ∧ w' = w := by
  have hn : 1 ≤ n ∧ n ≤ 8 := by have h' : (1 : Int) ≤ n ∧ (n : Int) ≤ 8 := (by simpa [widB] using h); omega
  have hn1 : (1 : Int) ≤ n := by omega
  have hn2 : (n : Int) ≤ 8 := by omega
  go_enter Try.func56, Try.ntmps56
  go_wp2_with (first | (go_at_call 75; refine (width_any _ _).mono ?_; rintro e w' ⟨rfl, rfl⟩) | (go_at_call 76; refine (inside_any _ _ _ _ _ _ hl hn1 hn2).mono ?_; rintro e w' ⟨rfl, rfl⟩))
  go_ret2
  exact ⟨rfl, rfl⟩

/-- The block of a row that the call owns whole. -/
theorem own_row {w : World} {base g len : Nat} {xs : List Value} (h : w.ownsRow base 5 1 (.slice (some ⟨g, 0, none⟩) len len) len xs) : w.heap[g]? = some (.cells xs.toArray 5 (0, 0)) ∧ xs.length = len ∧ base ≤ g := by
  obtain ⟨h0, h1⟩ := h
  rcases h1 with ⟨h', _⟩ | ⟨g', cap', cur, h', hb, hg, _, _, hcs, htake⟩
  · simp at h'
  · simp only [Value.slice.injEq, Option.some.injEq, Addr.mk.injEq, and_true, true_and] at h'
    obtain ⟨rfl, rfl⟩ := h'
    have e : cur.toList = xs := by rw [← htake, List.take_of_length_le (by rw [Array.length_toList]; omega)]
    refine ⟨?_, by omega, hb⟩
    rw [hg, ← e]

theorem row_own {w : World} {base g len : Nat} {xs : List Value} (h : w.heap[g]? = some (.cells xs.toArray 5 (0, 0))) (hl : xs.length = len) (hm : len ≤ maxLen) (hb : base ≤ g) :
    w.ownsRow base 5 1 (.slice (some ⟨g, 0, none⟩) len len) len xs :=
  ⟨by omega, .inr ⟨g, len, xs.toArray, rfl, hb, h, Nat.le_refl _, hm, by simp; omega, List.take_of_length_le (by simp; omega)⟩⟩

theorem own_ex {w : World} {base g len : Nat} {xs : List Value} (h : w.ownsRow base 5 1 (.slice (some ⟨g, 0, none⟩) len len) len xs) : ∃ cur : List Value, cur.length = len ∧ Hid (w.heap[g]? = some (.cells cur.toArray 5 (0, 0))) :=
  ⟨xs, (own_row h).2.1, (own_row h).1⟩

theorem splice_whole {cur cs : List Value} (h : cs.length = cur.length) : splice cur 0 cs = cs := by
  unfold splice
  rw [List.drop_eq_nil_of_le (by omega)]
  simp

theorem src_cells {w : World} {b off len : Nat} {Z : List Int} (hz : Z.length = len) (hc : ∀ j, j < len → w.cell? ⟨b, off + j, none⟩ = some (.int .u8 (Z.getD j 0))) :
    ∀ (j : Nat) (v : Value), (Z.map (Value.int .u8))[j]? = some v → w.cell? ((⟨b, off, none⟩ : Addr).add j) = some v := by
  intro j v hj
  rw [Go.WideShapes.add_plain]
  have hlt : j < Z.length := by
    by_cases h : j < Z.length
    · exact h
    · rw [List.getElem?_eq_none (by simp; omega)] at hj; simp at hj
  rw [hc j (by omega)]
  rw [List.getElem?_map, List.getElem?_eq_getElem hlt] at hj
  rw [List.getD_eq_getElem?_getD, List.getElem?_eq_getElem hlt]
  simpa using hj

theorem Try.size5 : (Try.prog.info? 5).map (·.size) = some 1 := by kernel_rfl

set_option maxHeartbeats 1000000 in
theorem put_ok (b off len cap i n : Nat) (v : Int) (Z : List Int) (w : World) (hz : Z.length = len) (hl : len ≤ 140737488351232) (hn1 : 1 ≤ n) (hn2 : n ≤ 8) (hi : i + n ≤ len)
    (hv : 0 ≤ v) (hf : (v / 2 ^ (8 * n) != 0) = false)
    (hc : ∀ j, j < len → w.cell? ⟨b, off + j, none⟩ = some (.int .u8 (Z.getD j 0))) :
    Calls Try.prog 56 #[.slice (some ⟨b, off, none⟩) len cap, .int .i64 i, .int .i64 n, .int .u64 v] w fun e w' => ∃ g, e = .returned (.tuple #[.slice (some ⟨g, 0, none⟩) len len, .int .i64 0]) ∧
      w'.ownsRow w.heap.size 5 1 (.slice (some ⟨g, 0, none⟩) len len) len ((asc Z i n v n).map (Value.int .u8)) ∧ Below w.heap.size w w' := by
  have H1 : widB n = true := by simp [widB]; omega
  have H2 : insB len i n = true := by simp [insB]; omega
  obtain ⟨i0, hi0, hz0, hz1, hz2⟩ := info_parts Try.info5
  have hlm : len ≤ maxLen := by unfold maxLen; omega
  have hn1' : (1 : Int) ≤ n := by omega
  have hn2' : (n : Int) ≤ 8 := by omega
  have hlt : b < w.heap.size := World.block_lt_of_cell? w ⟨b, off + 0, none⟩ (hc 0 (by omega))
  have hcs : (Z.map (Value.int .u8)).length = Nat.min len len := by simp [hz]
  have h1c : ∀ u ∈ Z.map (Value.int .u8), u.oneCell' = true := ints_oneCell _ _
  go_enter Try.func56, Try.ntmps56
  go_wp2_with (first | (go_at_call 75; refine (width_any _ _).mono ?_; rintro e w' ⟨rfl, rfl⟩) | (go_at_call 76; refine (inside_any _ _ _ _ _ _ hlm hn1' hn2').mono ?_; rintro e w' ⟨rfl, rfl⟩) | (at_make; refine wpList_make_full _ rfl _ _ 22 rfl _ 5 i0 (.int .u8 0) 1 Try.underlying22 hi0 hz0 hz1 .i64 .i64 _ _ len rfl rfl rfl rfl (by rw [hz2]; omega) hlm (Nat.le_refl _) ?_; intro w1 hown1 hg1; have hb1 := (Below.refl _ _).grown hg1 (Nat.le_refl _) (fun k h => by cases h); obtain ⟨cur, hcl, hrow⟩ := own_ex hown1; have hc1 := fun j hj => (hb1.cell (p := ⟨b, off + j, none⟩) hlt).trans (hc j hj); clear hown1 hg1) | (refine wpList_copy_splice rfl (.tmp 28) (.tmp 29) 22 22 rfl 5 Try.underlying22 Try.size5 _ _ len len len cap rfl rfl _ 0 cur 5 hrow.out (Z.map (Value.int .u8)) hcs (fun _ => ⟨rfl, _, rfl, src_cells hz hc1⟩) (by simp; omega) h1c _ _ hb1 (Nat.le_refl _) ?_; intro w2 hg2 hb2; clear hc1 hrow hb1))
  have hown2 : w2.ownsRow w'.heap.size 5 1 (.slice (some ⟨w'.heap.size, 0, none⟩) len len) len ((asc Z i n v 0).map (Value.int .u8)) := by
    refine row_own ?_ (by simp [asc, hz]) hlm (Nat.le_refl _)
    have := hg2.out
    rw [splice_whole (by simp [hz, hcl])] at this
    exact this
  clear hg2 hcl hcs h1c hc hlt
  go_loopw [32] (fun t wr => ∃ k : Nat, k ≤ n ∧ t = .int .i64 k ∧ wr.ownsRow w'.heap.size 5 1 (.slice (some ⟨w'.heap.size, 0, none⟩) len len) len ((asc Z i n v k).map (Value.int .u8)) ∧ Below w'.heap.size w' wr) (fun t _ => n - (intOf t).toNat)
  case atStart => exact ⟨0, by omega, rfl, hown2, hb2⟩
  case round =>
    obtain ⟨k, hk, rfl, hown, hb⟩ := hrel
    by_cases hlt : k < n
    · obtain ⟨x, hx⟩ : ∃ x, wr.cell? ⟨w'.heap.size, i + k, none⟩ = some x := by
        rw [hown.cellAt (i + k) (by omega)]
        exact ⟨_, List.getElem?_eq_getElem (by simp [asc_len]; omega)⟩
      have hfr := hown.frozenAt (i + k)
      have HO : Hid (wr.ownsRow w'.heap.size 5 1 (.slice (some ⟨w'.heap.size, 0, none⟩) len len) len ((asc Z i n v k).map (Value.int .u8))) := hown
      clear hown
      go_wp2
      go_roundw
      case rel => exact ⟨k + 1, by omega, by go_num, by rw [asc, List.map_set]; exact (HO.out.stored (i + k) _).1, hb.setCell (Nat.le_refl _) _⟩
      case measure => simp [intOf]; omega
    · obtain rfl : k = n := by omega
      go_wp2
      go_ret2
      exact ⟨_, rfl, hown, hb⟩

end Go.Proofs.Ytklboieemljmiaa.B
