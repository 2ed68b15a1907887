/-
  Contract of the document's answer to Odd.
-/
import Derived.Test.YtcgojpnjaloofaaBOdd
namespace Go.Proofs.Ytcgojpnjaloofaa.B
open Go.RowKit
set_option linter.unusedVariables false

set_option maxHeartbeats 1000000 in
theorem rodd_any (a am : Option Addr) (len cap lenm capm : Nat) (zs ms : List Int) (w : World) (hl : len ≤ maxLen) (hlm : lenm ≤ maxLen) (hz : Bytes zs) (hm : Bytes ms)
    (hp : RowAt w a len zs) (hq : RowAt w am lenm ms) :
    Calls Try.prog 23 #[.slice a len cap, .slice am lenm capm] w fun e w' => e = .returned (.tuple #[.int .i64 (oddFrom (ext zs ms lenm) len 0).1, .int .i64 (oddFrom (ext zs ms lenm) len 0).2]) ∧ w' = w := by
  unfold maxLen at hl hlm
  go_enter Try.func23, Try.ntmps23
  go_wp2
  go_loop [6] (fun t => ∃ k : Nat, k ≤ len ∧ Hid (oddFrom (ext zs ms lenm) len 0 = oddFrom (ext zs ms lenm) (len - k) k) ∧ t = .int .i64 k) (fun t => len - (intOf t).toNat)
  case atStart => exact ⟨0, by omega, rfl, rfl⟩
  case round =>
    obtain ⟨k, hk, hh, rfl⟩ := hrel
    by_cases hlt : k < len
    · rcases hp with hp | ⟨b, off, rfl, hc⟩
      · omega
      have hlk : len - k = (len - (k + 1)) + 1 := by omega
      have hcell := hc k hlt
      by_cases hmk : k < lenm
      · rcases hq with hq | ⟨bm, offm, rfl, hcm⟩
        · omega
        have hcellm := hcm k hmk
        go_wp2
        go_loop [8] (fun t => ∃ c : Nat, c ≤ 8 ∧ (ext zs ms lenm k).toNat < 2 ^ c ∧ t = .int .i64 ((c : Int) - 1)) (fun t => ((intOf t) + 1).toNat)
        case atStart => exact ⟨8, by omega, by have := ext_bd zs ms hz hm lenm k; omega, rfl⟩
        case round =>
          obtain ⟨c, hc8, hec, rfl⟩ := hrel
          by_cases hc0 : c = 0
          · subst hc0
            have HH : Hid (oddFrom (ext zs ms lenm) len 0 = oddFrom (ext zs ms lenm) (len - (k + 1)) (k + 1)) := by
              have := ext_bd zs ms hz hm lenm k
              unfold Hid; rw [hh.out, hlk, oddFrom_skip _ _ _ (by omega)]
            clear hec hlk hh
            go_wp2
            go_round
            case rel => exact ⟨k + 1, by omega, HH, by go_num⟩
            case measure => simp [intOf]; omega
          · obtain ⟨d, rfl⟩ := Nat.exists_eq_add_of_le' (show 1 ≤ c by omega)
            have hd : d < 8 := by omega
            have hb := ext_bit zs ms hz hm lenm k d hd
            rw [if_pos hmk] at hb
            have bz := hz k
            have bm' := hm k
            rw [List.getD_eq_getElem?_getD] at bz bm'
            by_cases t1 : (zs[k]?.getD 0).toNat.testBit d = true
            · have g1 := bit_yes _ bz.1 bz.2 d hd t1
              obtain ⟨g1a, g1b⟩ := g1
              rw [t1] at hb
              by_cases t2 : (ms[k]?.getD 0).toNat.testBit d = true
              · have g2 := bit_yes (ms[k]?.getD 0) (by omega) (by omega) d hd t2
                obtain ⟨g2a, g2b⟩ := g2
                have hlow : (ext zs ms lenm k).toNat < 2 ^ d := lt_of_no_bit _ _ hec (by rw [hb, t2]; rfl)
                have HL : Hid ((ext zs ms lenm k).toNat < 2 ^ d) := hlow
                clear hlow hb t1 t2 hec hc0
                go_wp2
                go_round
                case rel => exact ⟨d, by omega, HL, by go_num⟩
                case measure => first | (simp [intOf]; done) | (simp [intOf]; omega)
              · have t2' : (ms[k]?.getD 0).toNat.testBit d = false := Bool.eq_false_iff.2 t2
                have g2 := bit_no (ms[k]?.getD 0) (by omega) (by omega) d hd t2'
                obtain ⟨g2a, g2b⟩ := g2
                have HH : Hid (oddFrom (ext zs ms lenm) len 0 = ((k : Int), (d : Int))) := by
                  have hbit : (ext zs ms lenm k).toNat.testBit d = true := by rw [hb, t2']; rfl
                  have hne : ¬ ext zs ms lenm k = 0 := by intro h0; rw [h0] at hbit; simp at hbit
                  unfold Hid; rw [hh.out, hlk, oddFrom_hit _ _ _ hne, log2_of_bit _ _ hec hbit]
                clear hb t1 t2 t2' hec hh hlk hc0
                go_wp2
                go_ret2
                exact ⟨ret2_int (by rw [HH.out]), rfl⟩
            · have t1' : (zs[k]?.getD 0).toNat.testBit d = false := Bool.eq_false_iff.2 t1
              have g1 := bit_no _ bz.1 bz.2 d hd t1'
              obtain ⟨g1a, g1b⟩ := g1
              have hlow : (ext zs ms lenm k).toNat < 2 ^ d := lt_of_no_bit _ _ hec (by rw [hb, t1']; rfl)
              have HL : Hid ((ext zs ms lenm k).toNat < 2 ^ d) := hlow
              clear hlow hb t1 t1' hec hc0
              go_wp2
              go_round
              case rel => exact ⟨d, by omega, HL, by go_num⟩
              case measure => first | (simp [intOf]; done) | (simp [intOf]; omega)
      · skip
        go_wp2
        go_loop [8] (fun t => ∃ c : Nat, c ≤ 8 ∧ (ext zs ms lenm k).toNat < 2 ^ c ∧ t = .int .i64 ((c : Int) - 1)) (fun t => ((intOf t) + 1).toNat)
        case atStart => exact ⟨8, by omega, by have := ext_bd zs ms hz hm lenm k; omega, rfl⟩
        case round =>
          obtain ⟨c, hc8, hec, rfl⟩ := hrel
          by_cases hc0 : c = 0
          · subst hc0
            have HH : Hid (oddFrom (ext zs ms lenm) len 0 = oddFrom (ext zs ms lenm) (len - (k + 1)) (k + 1)) := by
              have := ext_bd zs ms hz hm lenm k
              unfold Hid; rw [hh.out, hlk, oddFrom_skip _ _ _ (by omega)]
            clear hec hlk hh
            go_wp2
            go_round
            case rel => exact ⟨k + 1, by omega, HH, by go_num⟩
            case measure => simp [intOf]; omega
          · obtain ⟨d, rfl⟩ := Nat.exists_eq_add_of_le' (show 1 ≤ c by omega)
            have hd : d < 8 := by omega
            have hb := ext_bit zs ms hz hm lenm k d hd
            rw [if_neg hmk] at hb
            have bz := hz k
            have bm' := hm k
            rw [List.getD_eq_getElem?_getD] at bz bm'
            by_cases t1 : (zs[k]?.getD 0).toNat.testBit d = true
            · have g1 := bit_yes _ bz.1 bz.2 d hd t1
              obtain ⟨g1a, g1b⟩ := g1
              rw [t1] at hb
              by_cases t2 : ((0 : Int)).toNat.testBit d = true
              · have g2 := bit_yes ((0 : Int)) (by omega) (by omega) d hd t2
                obtain ⟨g2a, g2b⟩ := g2
                have hlow : (ext zs ms lenm k).toNat < 2 ^ d := lt_of_no_bit _ _ hec (by rw [hb, t2]; rfl)
                have HL : Hid ((ext zs ms lenm k).toNat < 2 ^ d) := hlow
                clear hlow hb t1 t2 hec hc0
                go_wp2
                go_round
                case rel => exact ⟨d, by omega, HL, by go_num⟩
                case measure => first | (simp [intOf]; done) | (simp [intOf]; omega)
              · have t2' : ((0 : Int)).toNat.testBit d = false := Bool.eq_false_iff.2 t2
                have g2 := bit_no ((0 : Int)) (by omega) (by omega) d hd t2'
                obtain ⟨g2a, g2b⟩ := g2
                have HH : Hid (oddFrom (ext zs ms lenm) len 0 = ((k : Int), (d : Int))) := by
                  have hbit : (ext zs ms lenm k).toNat.testBit d = true := by rw [hb, t2']; rfl
                  have hne : ¬ ext zs ms lenm k = 0 := by intro h0; rw [h0] at hbit; simp at hbit
                  unfold Hid; rw [hh.out, hlk, oddFrom_hit _ _ _ hne, log2_of_bit _ _ hec hbit]
                clear hb t1 t2 t2' hec hh hlk hc0
                go_wp2
                go_ret2
                exact ⟨ret2_int (by rw [HH.out]), rfl⟩
            · have t1' : (zs[k]?.getD 0).toNat.testBit d = false := Bool.eq_false_iff.2 t1
              have g1 := bit_no _ bz.1 bz.2 d hd t1'
              obtain ⟨g1a, g1b⟩ := g1
              have hlow : (ext zs ms lenm k).toNat < 2 ^ d := lt_of_no_bit _ _ hec (by rw [hb, t1']; rfl)
              have HL : Hid ((ext zs ms lenm k).toNat < 2 ^ d) := hlow
              clear hlow hb t1 t1' hec hc0
              go_wp2
              go_round
              case rel => exact ⟨d, by omega, HL, by go_num⟩
              case measure => first | (simp [intOf]; done) | (simp [intOf]; omega)
    · go_wp2
      go_ret2
      exact ⟨ret2_int (by rw [hh.out, show len - k = 0 by omega]; rfl), rfl⟩

end Go.Proofs.Ytcgojpnjaloofaa.B
