/-
  Contracts of the program's Put.
-/
import Derived.Test.YtnebcbfjlkhimaaDoorBRow
import Derived.Test.YtnebcbfjlkhimaaDoorBPutNum
import Derived.Laws.CopyOwn
import Derived.Outline
namespace Go.Proofs.YtnebcbfjlkhimaaDoor.B
open Go.RowKit
set_option linter.unusedVariables false

theorem Tryd.info5 : (Tryd.prog.info? 5).map (fun i => (i.zero, i.size, i.bytes)) = some (some (.int .u8 0), 1, 1) := by kernel_rfl

theorem put_arg (a : Option Addr) (len cap : Nat) (i n v : Int) (w : World) (h : widB n = false) :
    Calls Tryd.prog 34 #[.slice a len cap, .int .i64 i, .int .i64 n, .int .u64 v] w fun e w' => e = .returned (.tuple #[.slice none 0 0, .int .i64 1]) ∧ w' = w := by
  go_enter Tryd.func34, Tryd.ntmps34
  go_wp2_with (go_at_call 43; refine (width_any _ _).mono ?_; rintro e w' ⟨rfl, rfl⟩)
  go_ret2
  exact ⟨rfl, rfl⟩

theorem put_form (a : Option Addr) (len cap : Nat) (i v : Int) (n : Nat) (w : World) (h : widB n = true) (hf : (v / 2 ^ (8 * n) != 0) = true) :
    Calls Tryd.prog 34 #[.slice a len cap, .int .i64 i, .int .i64 n, .int .u64 v] w fun e w' => e = .returned (.tuple #[.slice none 0 0, .int .i64 3]) ∧ w' = w := by
  have hn : 1 ≤ n ∧ n ≤ 8 := by have h' : (1 : Int) ≤ n ∧ (n : Int) ≤ 8 := (by simpa [widB] using h); omega
  go_enter Tryd.func34, Tryd.ntmps34
  go_wp2_with (go_at_call 43; refine (width_any _ _).mono ?_; rintro e w' ⟨rfl, rfl⟩)
  go_ret2
  exact ⟨rfl, rfl⟩

theorem put_range (a : Option Addr) (len cap : Nat) (i v : Int) (n : Nat) (w : World) (hl : len ≤ maxLen) (h : widB n = true) (hf : (v / 2 ^ (8 * n) != 0) = false) (h2 : insB len i n = false) :
    Calls Tryd.prog 34 #[.slice a len cap, .int .i64 i, .int .i64 n, .int .u64 v] w fun e w' => e = .returned (.tuple #[.slice none 0 0, .int .i64 4]) ∧ w' = w := by
  have hn : 1 ≤ n ∧ n ≤ 8 := by have h' : (1 : Int) ≤ n ∧ (n : Int) ≤ 8 := (by simpa [widB] using h); omega
  have hn1 : (1 : Int) ≤ n := by omega
  have hn2 : (n : Int) ≤ 8 := by omega
  go_enter Tryd.func34, Tryd.ntmps34
  go_wp2_with (first | (go_at_call 43; refine (width_any _ _).mono ?_; rintro e w' ⟨rfl, rfl⟩) | (go_at_call 44; refine (inside_any _ _ _ _ _ _ hl hn1 hn2).mono ?_; rintro e w' ⟨rfl, rfl⟩))
  go_ret2
  exact ⟨rfl, rfl⟩

/-- The block of a row that the call owns whole. -/
theorem own_row {w : World} {base g len : Nat} {xs : List Value} (h : w.ownsRow base 5 1 (.slice (some ⟨g, 0, none⟩) len len) len xs) : w.heap[g]? = some (.cells xs.toArray 5 (0, 0)) ∧ xs.length = len ∧ base ≤ g := by
  obtain ⟨h0, h1⟩ := h
  rcases h1 with ⟨h', _⟩ | ⟨g', cap', cur, h', hb, hg, _, _, hcs, htake⟩
  · simp at h'
  · simp only [Value.slice.injEq, Option.some.injEq, Addr.mk.injEq, and_true, true_and] at h'
    obtain ⟨rfl, rfl⟩ := h'
    have e : cur.toList = xs := by rw [← htake, List.take_of_length_le (by rw [Array.length_toList]; omega)]
    refine ⟨?_, by omega, hb⟩
    rw [hg, ← e]

theorem row_own {w : World} {base g len : Nat} {xs : List Value} (h : w.heap[g]? = some (.cells xs.toArray 5 (0, 0))) (hl : xs.length = len) (hm : len ≤ maxLen) (hb : base ≤ g) :
    w.ownsRow base 5 1 (.slice (some ⟨g, 0, none⟩) len len) len xs :=
  ⟨by omega, .inr ⟨g, len, xs.toArray, rfl, hb, h, Nat.le_refl _, hm, by simp; omega, List.take_of_length_le (by simp; omega)⟩⟩

theorem own_ex {w : World} {base g len : Nat} {xs : List Value} (h : w.ownsRow base 5 1 (.slice (some ⟨g, 0, none⟩) len len) len xs) : ∃ cur : List Value, cur.length = len ∧ Hid (w.heap[g]? = some (.cells cur.toArray 5 (0, 0))) :=
  ⟨xs, (own_row h).2.1, (own_row h).1⟩

theorem splice_whole {cur cs : List Value} (h : cs.length = cur.length) : splice cur 0 cs = cs := by
  unfold splice
  rw [List.drop_eq_nil_of_le (by omega)]
  simp

theorem src_cells {w : World} {b off len : Nat} {Z : List Int} (hz : Z.length = len) (hc : ∀ j, j < len → w.cell? ⟨b, off + j, none⟩ = some (.int .u8 (Z.getD j 0))) :
    ∀ (j : Nat) (v : Value), (Z.map (Value.int .u8))[j]? = some v → w.cell? ((⟨b, off, none⟩ : Addr).add j) = some v := by
  intro j v hj
  rw [Go.WideShapes.add_plain]
  have hlt : j < Z.length := by
    by_cases h : j < Z.length
    · exact h
    · rw [List.getElem?_eq_none (by simp; omega)] at hj; simp at hj
  rw [hc j (by omega)]
  rw [List.getElem?_map, List.getElem?_eq_getElem hlt] at hj
  rw [List.getD_eq_getElem?_getD, List.getElem?_eq_getElem hlt]
  simpa using hj

theorem Tryd.size5 : (Tryd.prog.info? 5).map (·.size) = some 1 := by kernel_rfl

set_option maxHeartbeats 1000000 in
theorem put_ok (b off len cap i n : Nat) (v : Int) (Z : List Int) (w : World) (hz : Z.length = len) (hl : len ≤ 140737488351232) (hn1 : 1 ≤ n) (hn2 : n ≤ 8) (hi : i + n ≤ len)
    (hv : 0 ≤ v) (hf : (v / 2 ^ (8 * n) != 0) = false)
    (hc : ∀ j, j < len → w.cell? ⟨b, off + j, none⟩ = some (.int .u8 (Z.getD j 0))) :
    Calls Tryd.prog 34 #[.slice (some ⟨b, off, none⟩) len cap, .int .i64 i, .int .i64 n, .int .u64 v] w fun e w' => ∃ g, e = .returned (.tuple #[.slice (some ⟨g, 0, none⟩) len len, .int .i64 0]) ∧
      w'.ownsRow w.heap.size 5 1 (.slice (some ⟨g, 0, none⟩) len len) len ((asc Z i n v n).map (Value.int .u8)) ∧ Below w.heap.size w w' := by
  have H1 : widB n = true := by simp [widB]; omega
  have H2 : insB len i n = true := by simp [insB]; omega
  obtain ⟨i0, hi0, hz0, hz1, hz2⟩ := info_parts Tryd.info5
  have hlm : len ≤ maxLen := by unfold maxLen; omega
  have hn1' : (1 : Int) ≤ n := by omega
  have hn2' : (n : Int) ≤ 8 := by omega
  have hlt : b < w.heap.size := World.block_lt_of_cell? w ⟨b, off + 0, none⟩ (hc 0 (by omega))
  have hcs : (Z.map (Value.int .u8)).length = Nat.min len len := by simp [hz]
  have h1c : ∀ u ∈ Z.map (Value.int .u8), u.oneCell' = true := ints_oneCell _ _
  go_enter Tryd.func34, Tryd.ntmps34
  go_wp2_with (first | (go_at_call 43; refine (width_any _ _).mono ?_; rintro e w' ⟨rfl, rfl⟩) | (go_at_call 44; refine (inside_any _ _ _ _ _ _ hlm hn1' hn2').mono ?_; rintro e w' ⟨rfl, rfl⟩) | (at_make; refine wpList_make_full _ rfl _ _ 22 rfl _ 5 i0 (.int .u8 0) 1 Tryd.underlying22 hi0 hz0 hz1 .i64 .i64 _ _ len rfl rfl rfl rfl (by rw [hz2]; omega) hlm (Nat.le_refl _) ?_; intro w1 hown1 hg1; have hb1 := (Below.refl _ _).grown hg1 (Nat.le_refl _) (fun k h => by cases h); obtain ⟨cur, hcl, hrow⟩ := own_ex hown1; have hc1 := fun j hj => (hb1.cell (p := ⟨b, off + j, none⟩) hlt).trans (hc j hj); clear hown1 hg1) | (refine wpList_copy_splice rfl (.tmp 28) (.tmp 29) 22 22 rfl 5 Tryd.underlying22 Tryd.size5 _ _ len len len cap rfl rfl _ 0 cur 5 hrow.out (Z.map (Value.int .u8)) hcs (fun _ => ⟨rfl, _, rfl, src_cells hz hc1⟩) (by simp; omega) h1c _ _ hb1 (Nat.le_refl _) ?_; intro w2 hg2 hb2; clear hc1 hrow hb1))
  have hown2 : w2.ownsRow w'.heap.size 5 1 (.slice (some ⟨w'.heap.size, 0, none⟩) len len) len ((asc Z i n v 0).map (Value.int .u8)) := by
    refine row_own ?_ (by simp [asc, hz]) hlm (Nat.le_refl _)
    have := hg2.out
    rw [splice_whole (by simp [hz, hcl])] at this
    exact this
  clear hg2 hcl hcs h1c hc hlt
  go_loopw [32] (fun t wr => ∃ k : Nat, k ≤ n ∧ t = .int .i64 k ∧ wr.ownsRow w'.heap.size 5 1 (.slice (some ⟨w'.heap.size, 0, none⟩) len len) len ((asc Z i n v k).map (Value.int .u8)) ∧ Below w'.heap.size w' wr) (fun t _ => n - (intOf t).toNat)
  case atStart => exact ⟨0, by omega, rfl, hown2, hb2⟩
  case round =>
    obtain ⟨k, hk, rfl, hown, hb⟩ := hrel
    by_cases hlt : k < n
    · obtain ⟨x, hx⟩ : ∃ x, wr.cell? ⟨w'.heap.size, i + k, none⟩ = some x := by
        rw [hown.cellAt (i + k) (by omega)]
        exact ⟨_, List.getElem?_eq_getElem (by simp [asc_len]; omega)⟩
      have hfr := hown.frozenAt (i + k)
      have HO : Hid (wr.ownsRow w'.heap.size 5 1 (.slice (some ⟨w'.heap.size, 0, none⟩) len len) len ((asc Z i n v k).map (Value.int .u8))) := hown
      clear hown
      go_wp2
      go_roundw
      case rel => exact ⟨k + 1, by omega, by go_num, by rw [asc, List.map_set]; exact (HO.out.stored (i + k) _).1, hb.setCell (Nat.le_refl _) _⟩
      case measure => simp [intOf]; omega
    · obtain rfl : k = n := by omega
      go_wp2
      go_ret2
      exact ⟨_, rfl, hown, hb⟩

end Go.Proofs.YtnebcbfjlkhimaaDoor.B
