/-
  Contracts of the document's answer to Put.
-/
import Derived.Test.YteegienlkffejaaPut
namespace Go.Proofs.Yteegienlkffejaa
open Go.RowKit
set_option linter.unusedVariables false

theorem rput_arg (a : Option Addr) (len cap : Nat) (i n v : Int) (w : World) (h : widB n = false) :
    Calls Try.prog 13 #[.slice a len cap, .int .i64 i, .int .i64 n, .int .u64 v] w fun e w' => e = .returned (.tuple #[.slice none 0 0, .int .i64 1]) ∧ w' = w := by
  have hn : n < 1 ∨ 8 < n := by simp [widB] at h; omega
  go_enter Try.func13, Try.ntmps13
  go_wp2_with (go_at_call 25; refine (field_arg _ _ _ _ hn).mono ?_; rintro e w' ⟨rfl, rfl⟩)
  go_ret2
  exact ⟨rfl, rfl⟩

theorem rput_form (a : Option Addr) (len cap : Nat) (i v : Int) (n : Nat) (w : World) (hl : len ≤ maxLen) (h : widB n = true) (hv : 0 ≤ v) (hv2 : v < 18446744073709551616) (hf : (v / 2 ^ (8 * n) != 0) = true) :
    Calls Try.prog 13 #[.slice a len cap, .int .i64 i, .int .i64 n, .int .u64 v] w fun e w' => e = .returned (.tuple #[.slice none 0 0, .int .i64 3]) ∧ w' = w := by
  have hn : 1 ≤ n ∧ n ≤ 8 := by have h' : (1 : Int) ≤ n ∧ (n : Int) ≤ 8 := (by simpa [widB] using h); omega
  have hn1 : (1 : Int) ≤ n := by omega
  have hn2 : (n : Int) ≤ 8 := by omega
  by_cases hi : 0 ≤ i ∧ i ≤ (len : Int) - n
  · go_enter Try.func13, Try.ntmps13
    go_wp2_with (go_at_call 25; refine (field_ok _ _ _ _ hl hn1 hn2 hi.1 hi.2).mono ?_; rintro e w' ⟨rfl, rfl⟩)
    go_loop [11, 12] (fun x t => ∃ k : Nat, k ≤ n ∧ x = .int .u64 (v / 2 ^ (8 * k)) ∧ t = .int .i64 k) (fun _ t => n - (intOf t).toNat)
    case atStart => exact ⟨0, by omega, by simp, rfl⟩
    case round =>
      obtain ⟨k, hk, rfl, rfl⟩ := hrel
      by_cases hlt : k < n
      · go_wp2
        go_round
        case rel => exact ⟨k + 1, by omega, by rw [quo_step v hv hv2 k], by go_num⟩
        case measure => simp [intOf]; omega
      · obtain rfl : k = n := by omega
        go_wp2
        go_ret2
        exact ⟨rfl, rfl⟩
  · go_enter Try.func13, Try.ntmps13
    go_wp2_with (go_at_call 25; refine (field_range _ _ _ _ hl hn1 hn2 hi).mono ?_; rintro e w' ⟨rfl, rfl⟩)
    go_loop [11, 12] (fun x t => ∃ k : Nat, k ≤ n ∧ x = .int .u64 (v / 2 ^ (8 * k)) ∧ t = .int .i64 k) (fun _ t => n - (intOf t).toNat)
    case atStart => exact ⟨0, by omega, by simp, rfl⟩
    case round =>
      obtain ⟨k, hk, rfl, rfl⟩ := hrel
      by_cases hlt : k < n
      · go_wp2
        go_round
        case rel => exact ⟨k + 1, by omega, by rw [quo_step v hv hv2 k], by go_num⟩
        case measure => simp [intOf]; omega
      · obtain rfl : k = n := by omega
        go_wp2
        go_ret2
        exact ⟨rfl, rfl⟩

theorem rput_range (a : Option Addr) (len cap : Nat) (i v : Int) (n : Nat) (w : World) (hl : len ≤ maxLen) (h : widB n = true) (hv : 0 ≤ v) (hv2 : v < 18446744073709551616) (hf : (v / 2 ^ (8 * n) != 0) = false) (h2 : insB len i n = false) :
    Calls Try.prog 13 #[.slice a len cap, .int .i64 i, .int .i64 n, .int .u64 v] w fun e w' => e = .returned (.tuple #[.slice none 0 0, .int .i64 4]) ∧ w' = w := by
  have hn : 1 ≤ n ∧ n ≤ 8 := by have h' : (1 : Int) ≤ n ∧ (n : Int) ≤ 8 := (by simpa [widB] using h); omega
  have hn1 : (1 : Int) ≤ n := by omega
  have hn2 : (n : Int) ≤ 8 := by omega
  have hi : ¬ (0 ≤ i ∧ i ≤ (len : Int) - n) := by simpa [insB] using h2
  go_enter Try.func13, Try.ntmps13
  go_wp2_with (go_at_call 25; refine (field_range _ _ _ _ hl hn1 hn2 hi).mono ?_; rintro e w' ⟨rfl, rfl⟩)
  go_loop [11, 12] (fun x t => ∃ k : Nat, k ≤ n ∧ x = .int .u64 (v / 2 ^ (8 * k)) ∧ t = .int .i64 k) (fun _ t => n - (intOf t).toNat)
  case atStart => exact ⟨0, by omega, by simp, rfl⟩
  case round =>
    obtain ⟨k, hk, rfl, rfl⟩ := hrel
    by_cases hlt : k < n
    · go_wp2
      go_round
      case rel => exact ⟨k + 1, by omega, by rw [quo_step v hv hv2 k], by go_num⟩
      case measure => simp [intOf]; omega
    · obtain rfl : k = n := by omega
      go_wp2
      go_ret2
      exact ⟨rfl, rfl⟩

theorem own_shape {w : World} {base n : Nat} {v : Value} {xs : List Value} (h : w.ownsRow base 5 1 v n xs) (h0 : 0 < n) : ∃ g cap, v = .slice (some ⟨g, 0, none⟩) n cap ∧ base ≤ g := by
  rcases h.2 with ⟨_, h'⟩ | ⟨g, cap, cur, h', hb, _⟩
  · omega
  · exact ⟨g, cap, h', hb⟩

set_option maxHeartbeats 1000000 in
theorem rput_ok (b off len cap i n : Nat) (v : Int) (Z : List Int) (w : World) (hz : Z.length = len) (hl : len ≤ 140737488351232) (hn1 : 1 ≤ n) (hn2 : n ≤ 8) (hi : i + n ≤ len)
    (hv : 0 ≤ v) (hv2 : v < 18446744073709551616) (hf : (v / 2 ^ (8 * n) != 0) = false)
    (hc : ∀ j, j < len → w.cell? ⟨b, off + j, none⟩ = some (.int .u8 (Z.getD j 0))) :
    Calls Try.prog 13 #[.slice (some ⟨b, off, none⟩) len cap, .int .i64 i, .int .i64 n, .int .u64 v] w fun e w' => ∃ g cap', e = .returned (.tuple #[.slice (some ⟨g, 0, none⟩) len cap', .int .i64 0]) ∧
      w'.ownsRow w.heap.size 5 1 (.slice (some ⟨g, 0, none⟩) len cap') len ((asc Z i n v n).map (Value.int .u8)) ∧ Below w.heap.size w w' := by
  obtain ⟨i0, hi0, hz0, hz1, hz2⟩ := info_parts Try.info5
  have hlm : len ≤ maxLen := by unfold maxLen; omega
  have hn1' : (1 : Int) ≤ n := by omega
  have hn2' : (n : Int) ≤ 8 := by omega
  have hj1 : (0 : Int) ≤ i := by omega
  have hj2 : (i : Int) ≤ (len : Int) - n := by omega
  have h1c : ∀ u ∈ Z.map (Value.int .u8), u.oneCell' = true := ints_oneCell _ _
  have hcs : (Z.map (Value.int .u8)).length = len * 1 := by simp [hz]
  have hsrc := src_cells hz hc
  have hlb : (0 + len) * 1 ≤ 140737488355328 := by omega
  have hlm0 : 0 + len ≤ maxLen := by omega
  go_enter Try.func13, Try.ntmps13
  go_wp2_with (go_at_call 25; refine (field_ok _ _ _ _ hlm hn1' hn2' hj1 hj2).mono ?_; rintro e w' ⟨rfl, rfl⟩)
  go_loop [11, 12] (fun x t => ∃ k : Nat, k ≤ n ∧ x = .int .u64 (v / 2 ^ (8 * k)) ∧ t = .int .i64 k) (fun _ t => n - (intOf t).toNat)
  case atStart => exact ⟨0, by omega, by simp, rfl⟩
  case round =>
    obtain ⟨k, hk, rfl, rfl⟩ := hrel
    by_cases hlt : k < n
    · go_wp2
      go_round
      case rel => exact ⟨k + 1, by omega, by rw [quo_step v hv hv2 k], by go_num⟩
      case measure => simp [intOf]; omega
    · obtain rfl : k = n := by omega
      go_wp2_with (at_builtin; refine wpList_append_own _ rfl (.tmp 36) (.tmp 37) 22 rfl w'.heap.size 5 i0 (.int .u8 0) 1 1 Try.underlying22 hi0 hz0 hz1 hz2 rfl (by decide) (.slice none 0 0) 0 [] rfl (World.ownsRow_nil _ _ _ _) ⟨b, off, none⟩ len cap (Z.map (Value.int .u8)) rfl hcs hsrc h1c hlm0 hlb (Nat.le_refl _) ?_; intro v1 w1 hown1 hg1 _; simp only [Nat.zero_add, List.nil_append] at hown1; have hb1 := (Below.refl _ _).grown hg1 (Nat.le_refl _) (fun k h => by cases h); obtain ⟨g, cap1, hv1, hbg⟩ := own_shape hown1 (by omega); rw [hv1]; rw [hv1] at hown1; clear hg1 hv1)
      have hown2 : w1.ownsRow w'.heap.size 5 1 (.slice (some ⟨g, 0, none⟩) len cap1) len ((desc Z i k v 0).map (Value.int .u8)) := hown1
      clear hown1 hcs h1c hsrc hc
      go_loopw [3, 14] (fun x t wr => ∃ m : Nat, m ≤ k ∧ x = .int .u64 (v / 2 ^ (8 * m)) ∧ t = .int .i64 ((k : Int) - 1 - m) ∧ wr.ownsRow w'.heap.size 5 1 (.slice (some ⟨g, 0, none⟩) len cap1) len ((desc Z i k v m).map (Value.int .u8)) ∧ Below w'.heap.size w' wr) (fun _ t _ => ((intOf t) + 1).toNat)
      case atStart => exact ⟨0, by omega, by simp, by go_num, hown2, hb1⟩
      case round =>
        obtain ⟨m, hm, rfl, rfl, hown, hb⟩ := hrel
        by_cases hlt2 : m < k
        · obtain ⟨d, hd⟩ : ∃ d, d = k - 1 - m := ⟨_, rfl⟩
          have hdk : (k : Int) - 1 - m = (d : Int) := by omega
          obtain ⟨x, hx⟩ : ∃ x, wr.cell? ⟨g, i + d, none⟩ = some x := by
            rw [hown.cellAt (i + d) (by omega)]
            exact ⟨_, List.getElem?_eq_getElem (by simp [desc_len]; omega)⟩
          have hfr := hown.frozenAt (i + d)
          have HO : Hid (wr.ownsRow w'.heap.size 5 1 (.slice (some ⟨g, 0, none⟩) len cap1) len ((desc Z i k v m).map (Value.int .u8))) := hown
          have h0 := div_nonneg v hv m
          have h1 : i + d < len := by omega
          have HD : Hid (d = k - 1 - m) := hd
          rw [hdk]
          clear hown hd hdk
          go_wp2
          go_roundw
          case rel => exact ⟨m + 1, by omega, by rw [quo_step v hv hv2 m], by have := HD.out; have e : (d : Int) - 1 = (k : Int) - 1 - ((m + 1 : Nat) : Int) := (by omega); rw [e], by rw [desc, List.map_set, ← HD.out]; exact (HO.out.stored (i + d) _).1, hb.setCell hbg _⟩
          case measure => first | (simp [intOf]; done) | (simp [intOf]; omega)
        · obtain rfl : m = k := by omega
          go_wp2
          go_ret2
          exact ⟨_, _, rfl, by rw [← desc_asc Z i _ v (by omega)]; exact hown, hb⟩

end Go.Proofs.Yteegienlkffejaa
