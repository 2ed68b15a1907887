/-
  Contracts of Odd, of the program and of the document's answer.
-/
import Derived.Test.YtigfoldobkigeaaBBase
import Derived.Test.YtigfoldobkigeaaBOddNum
import Derived.Test.YtigfoldobkigeaaBRow
import Derived.Lib.Strings
import Derived.Lib.Slices
import Derived.Lib.Small
import Derived.Lib.Walk
import Derived.Lib.BitFns
import Derived.Outline
namespace Go.Proofs.Ytigfoldobkigeaa.B
open Go.RowKit
set_option linter.unusedVariables false

theorem bitLen_log2 : ∀ n : Fin 256, n.val = 0 ∨ Lib.bitLen n.val = n.val.log2 + 1 := by decide +kernel

theorem len8_wrap (x : Int) (h0 : 0 ≤ x) (h1 : x ≤ 255) : wrap64 (Lib.len8 x) = (Lib.bitLen x.toNat : Int) := by
  rw [← Lib.len8_int x h0 h1]; unfold wrap64; omega

theorem ret_int {k : IntKind} {a b : Int} (h : a = b) : Ending.returned (.int k a) = .returned (.int k b) := by rw [h]

theorem len8_any (x : Int) (w : World) (h0 : 0 ≤ x) (h1 : x ≤ 255) :
    Calls Try.prog 42 #[.int .u8 x] w fun e w' => e = .returned (.int .i64 (Lib.bitLen x.toNat)) ∧ w' = w := by
  go_enter Try.func42, Try.ntmps42
  go_wp2
  go_ret
  exact ⟨ret_int (len8_wrap x h0 h1), rfl⟩

theorem len8_log (x : Int) (w : World) (h0 : 0 < x) (h1 : x ≤ 255) :
    Calls Try.prog 42 #[.int .u8 x] w fun e w' => e = .returned (.int .i64 ((x.toNat.log2 : Int) + 1)) ∧ w' = w := by
  have h := bitLen_log2 ⟨x.toNat, by omega⟩
  simp only at h
  have e : (x.toNat.log2 : Int) + 1 = (Lib.bitLen x.toNat : Int) := by omega
  rw [e]
  exact len8_any x w (by omega) h1

theorem log2_bd (x : Int) (h0 : 0 < x) (h1 : x ≤ 255) : (x.toNat.log2 : Int) < 8 := by
  have h := (Nat.log2_lt (n := x.toNat) (k := 8) (by omega)).2 (by omega)
  omega

theorem ret2_int {k : IntKind} {a b c d : Int} (h : (a, b) = (c, d)) : Ending.returned (.tuple #[.int k a, .int k b]) = .returned (.tuple #[.int k c, .int k d]) := by
  injection h with h1 h2; rw [h1, h2]

set_option maxHeartbeats 1000000 in
theorem odd_any (a am : Option Addr) (len cap lenm capm : Nat) (zs ms : List Int) (w : World) (hl : len ≤ maxLen) (hlm : lenm ≤ maxLen) (hz : Bytes zs) (hm : Bytes ms)
    (hp : RowAt w a len zs) (hq : RowAt w am lenm ms) :
    Calls Try.prog 35 #[.slice a len cap, .slice am lenm capm] w fun e w' => e = .returned (.tuple #[.int .i64 (oddFrom (ext zs ms lenm) len 0).1, .int .i64 (oddFrom (ext zs ms lenm) len 0).2]) ∧ w' = w := by
  unfold maxLen at hl hlm
  go_enter Try.func35, Try.ntmps35
  go_wp2
  go_loop [10] (fun t => ∃ k : Nat, k ≤ len ∧ Hid (oddFrom (ext zs ms lenm) len 0 = oddFrom (ext zs ms lenm) (len - k) k) ∧ t = .int .i64 k) (fun t => len - (intOf t).toNat)
  case atStart => exact ⟨0, by omega, rfl, rfl⟩
  case round =>
    obtain ⟨k, hk, hh, rfl⟩ := hrel
    by_cases hlt : k < len
    · rcases hp with hp | ⟨b, off, rfl, hc⟩
      · omega
      have hlk : len - k = (len - (k + 1)) + 1 := by omega
      by_cases hmk : k < lenm
      · rcases hq with hq | ⟨bm, offm, rfl, hcm⟩
        · omega
        have hcellm := hcm k hmk
        have hex : ext zs ms lenm k = bits .andNot .u8 (zs[k]?.getD 0) (ms[k]?.getD 0) := by unfold ext; rw [if_pos hmk, List.getD_eq_getElem?_getD, List.getD_eq_getElem?_getD]
        have hcell := hc k hlt
        have hx : 0 ≤ bits .andNot .u8 (zs[k]?.getD 0) (ms[k]?.getD 0) ∧ bits .andNot .u8 (zs[k]?.getD 0) (ms[k]?.getD 0) ≤ 255 := by
          have := ext_bd zs ms hz hm lenm k
          rw [hex] at this
          exact this
        have HX : Hid (ext zs ms lenm k = bits .andNot .u8 (zs[k]?.getD 0) (ms[k]?.getD 0)) := hex
        clear hex
        by_cases hx0 : (bits .andNot .u8 (zs[k]?.getD 0) (ms[k]?.getD 0) != 0) = true
        · have hne : ¬ ext zs ms lenm k = 0 := by rw [HX.out]; simpa using hx0
          have hpos : 0 < bits .andNot .u8 (zs[k]?.getD 0) (ms[k]?.getD 0) := by have : ¬ bits .andNot .u8 (zs[k]?.getD 0) (ms[k]?.getD 0) = 0 := (by simpa using hx0); omega
          have hlog := log2_bd _ hpos hx.2
          have HH : Hid (oddFrom (ext zs ms lenm) len 0 = ((k : Int), ((bits .andNot .u8 (zs[k]?.getD 0) (ms[k]?.getD 0)).toNat.log2 : Int))) := by
            unfold Hid; rw [hh.out, hlk, oddFrom_hit _ _ _ hne, HX.out]
          clear hne hh HX hlk
          go_wp2_with (go_at_call 42; refine (len8_log _ _ hpos hx.2).mono ?_; rintro e w' ⟨rfl, rfl⟩)
          go_ret2
          exact ⟨ret2_int (by rw [HH.out]), rfl⟩
        · have hx1 : (bits .andNot .u8 (zs[k]?.getD 0) (ms[k]?.getD 0) != 0) = false := by simpa using hx0
          have hne : ext zs ms lenm k = 0 := by rw [HX.out]; simpa using hx1
          have HH : Hid (oddFrom (ext zs ms lenm) len 0 = oddFrom (ext zs ms lenm) (len - (k + 1)) (k + 1)) := by
            unfold Hid; rw [hh.out, hlk, oddFrom_skip _ _ _ hne]
          clear hne hh HX hlk hx0
          go_wp2
          go_round
          case rel => exact ⟨k + 1, by omega, HH, by go_num⟩
          case measure => simp [intOf]; omega
      · have hex : ext zs ms lenm k = zs[k]?.getD 0 := by unfold ext; rw [if_neg hmk, List.getD_eq_getElem?_getD]
        have hcell := hc k hlt
        have hx : 0 ≤ zs[k]?.getD 0 ∧ zs[k]?.getD 0 ≤ 255 := by
          have := ext_bd zs ms hz hm lenm k
          rw [hex] at this
          exact this
        have HX : Hid (ext zs ms lenm k = zs[k]?.getD 0) := hex
        clear hex
        by_cases hx0 : (zs[k]?.getD 0 != 0) = true
        · have hne : ¬ ext zs ms lenm k = 0 := by rw [HX.out]; simpa using hx0
          have hpos : 0 < zs[k]?.getD 0 := by have : ¬ zs[k]?.getD 0 = 0 := (by simpa using hx0); omega
          have hlog := log2_bd _ hpos hx.2
          have HH : Hid (oddFrom (ext zs ms lenm) len 0 = ((k : Int), ((zs[k]?.getD 0).toNat.log2 : Int))) := by
            unfold Hid; rw [hh.out, hlk, oddFrom_hit _ _ _ hne, HX.out]
          clear hne hh HX hlk
          go_wp2_with (go_at_call 42; refine (len8_log _ _ hpos hx.2).mono ?_; rintro e w' ⟨rfl, rfl⟩)
          go_ret2
          exact ⟨ret2_int (by rw [HH.out]), rfl⟩
        · have hx1 : (zs[k]?.getD 0 != 0) = false := by simpa using hx0
          have hne : ext zs ms lenm k = 0 := by rw [HX.out]; simpa using hx1
          have HH : Hid (oddFrom (ext zs ms lenm) len 0 = oddFrom (ext zs ms lenm) (len - (k + 1)) (k + 1)) := by
            unfold Hid; rw [hh.out, hlk, oddFrom_skip _ _ _ hne]
          clear hne hh HX hlk hx0
          go_wp2
          go_round
          case rel => exact ⟨k + 1, by omega, HH, by go_num⟩
          case measure => simp [intOf]; omega
    · go_wp2
      go_ret2
      exact ⟨ret2_int (by rw [hh.out, show len - k = 0 by omega]; rfl), rfl⟩

end Go.Proofs.Ytigfoldobkigeaa.B
