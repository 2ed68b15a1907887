/-
  text: strconv's own ParseUint to the base 10.
-/
import Derived.Test.YtplifodddfjhdaaGreatDoorXPuAs
namespace Go.Proofs.YtplifodddfjhdaaGreatDoor
open Go.RowKit
set_option linter.unusedVariables false
set_option linter.unusedSimpArgs false

set_option maxRecDepth 100000 in
set_option maxHeartbeats 4000000 in
theorem pu10_any (S : ByteArray) (w : World) (hS : S.size ≤ maxLen) (hne : 0 < S.size) :
    Calls Tryz.prog 94 #[.string S, .int .i64 10, .int .i64 64] w fun e w' => ((∃ v, numP 10 0 (nums S) = some v ∧ e = .returned (.tuple #[.int .u64 (v : Nat), .nilIface])) ∨ (numP 10 0 (nums S) = none ∧ BadP e)) ∧ Below w.heap.size w w' := by
  unfold maxLen at hS
  have hnl := Kpt.mk (nums_len S)
  have hnn : (S.toList == []) = false := by
    have := toList_neX (a := S) (b := ⟨#[]⟩) (fun h => by rw [h] at hne; exact absurd hne (by decide))
    rwa [show (⟨#[]⟩ : ByteArray).toList = [] from by rw [ByteArray.toList_eq]] at this
  have kc := fun (w : World) (s : ByteArray) => Lib.run_convert_string_bytes (P := Tryz.prog) w 9 26 5 s Tryz.underlying9 Tryz.underlying26 Tryz.underlying5
  have hbw := Kpt.mk (bw_below w S)
  have hcw : Kpt (∀ k, k < S.size → (Lib.bytesWorld w 5 S).cell? ⟨w.heap.size, k, none⟩ = some (.int .u8 ((nums S).getD k 0))) := ⟨fun k hk => bw_cell w S k hk⟩
  obtain ⟨h, hh⟩ : ∃ h, h = w.heap.size := ⟨_, rfl⟩
  obtain ⟨gc, hgc⟩ : ∃ g, g = grownCap w S.size 0 5 := ⟨_, rfl⟩
  have hmv : IntKind.u64.wrap (IntKind.u64.wrap 18446744073709551616 - 1) = 18446744073709551615 := by decide
  go_enter Tryz.func94, Tryz.ntmps94
  go_wp2
  go_loopw [12, 13, 101] (fun tu tn t wr => tu = .bool false ∧ ∃ k n : Nat, k ≤ S.size ∧ n < 18446744073709551616 ∧ tn = .int .u64 n ∧ t = .int .i64 k ∧ Kpt (Below w.heap.size w wr) ∧ Kpt (∀ k, k < S.size → wr.cell? ⟨w.heap.size, k, none⟩ = some (.int .u8 ((nums S).getD k 0))) ∧ Kpt (numP 10 0 (nums S) = numP 10 n ((nums S).drop k))) (fun _ _ t _ => S.size - (intOf t).toNat)
  case atStart => exact ⟨rfl, 0, 0, by omega, by omega, rfl, rfl, hbw, hcw, ⟨by simp⟩⟩
  case round =>
    obtain ⟨rfl, k, n, hk, hn, rfl, rfl, hbk, hck, hq⟩ := hrel
    by_cases hlt : k < S.size
    · have hltI : (k : Int) < S.size := by omega
      have hcell := hck.out k hlt
      have hst := Kpt.mk (numP_step (b := 10) (n := n) (zs := nums S) (k := k) (by rw [hnl.out]; exact hlt))
      obtain ⟨x0, x1⟩ := cels_nb S k
      obtain ⟨x, hx⟩ : ∃ x, x = (nums S).getD k 0 := ⟨_, rfl⟩
      rw [← hx] at hcell hst x0 x1
      clear hx
      by_cases hd : 48 ≤ x ∧ x ≤ 57
      · obtain ⟨d0, d1⟩ := hd
        have hdig : Kpt (digC x = (x - 48).toNat) := ⟨by unfold digC; rw [if_pos ⟨d0, d1⟩]⟩
        by_cases hcut : 1844674407370955162 ≤ n
        · have hcI : (1844674407370955162 : Int) ≤ n := by omega
          have hbad : Kpt (numP 10 0 (nums S) = none) := ⟨by rw [hq.out, hst.out, hdig.out, if_pos (by omega)]⟩
          clear hdig hst hq hcut
          go_wp2
          go_ret2
          exact ⟨.inr ⟨hbad.out, _, 1, rfl, by omega, by omega, by omega⟩, hbk.out⟩
        · have hcD : decide ((1844674407370955162 : Int) ≤ (n : Int)) = false := decide_eq_false (by omega)
          have hcJ : ¬ ((1844674407370955162 : Int) ≤ (n : Int)) := by omega
          by_cases hov : n * 10 + (x - 48).toNat < 18446744073709551616
          · have hq2 : Kpt (numP 10 0 (nums S) = numP 10 (n * 10 + (x - 48).toNat) ((nums S).drop (k + 1))) := ⟨by rw [hq.out, hst.out, hdig.out, if_neg (by omega)]⟩
            have o1 : (n : Int) * 10 ≤ 18446744073709551615 := by omega
            have o2 : (n : Int) * 10 + (x - 48) ≤ 18446744073709551615 := by omega
            have e3 : ¬ ((n : Int) * 10 + (x - 48) < (n : Int) * 10) := by omega
            have e4 : decide ((n : Int) * 10 + (x - 48) < (n : Int) * 10) = false := decide_eq_false e3
            have e5 : ¬ ((x - 48) < 0) := by omega
            have e6 : decide (18446744073709551615 < (n : Int) * 10 + (x - 48)) = false := decide_eq_false (by omega)
            have hov := Kpt.mk hov
            have hcut := Kpt.mk hcut
            clear hdig hst hq
            go_wp2
            go_roundw
            case rel => exact ⟨rfl, k + 1, n * 10 + (x - 48).toNat, by omega, hov.out, by go_num, by go_num, hbk, hck, hq2⟩
            case measure => simp [intOf]; omega
          · have hbad : Kpt (numP 10 0 (nums S) = none) := ⟨by rw [hq.out, hst.out, hdig.out, if_pos (by omega)]⟩
            have o1 : (n : Int) * 10 ≤ 18446744073709551615 := by omega
            have hV2 : (IntKind.u64.wrap ((n : Int) * 10 + (x - 48)) < (n : Int) * 10) := by rw [IntKind.wrap_u64]; omega
            have hV3 := decide_eq_true hV2
            have hov := Kpt.mk hov
            have hcut := Kpt.mk hcut
            clear hdig hst hq
            go_wp2
            go_ret2
            exact ⟨.inr ⟨hbad.out, _, 1, rfl, by omega, by omega, by omega⟩, hbk.out⟩
      · by_cases hl0 : lowC x = 0
        · obtain ⟨y, hy, y0, y1, hyn⟩ := low_no x x0 x1 hl0
          have hdig : digC x = 99 := by
            unfold lowC at hl0
            unfold digC
            rw [if_neg hd, if_neg (fun h => by split at hl0 <;> first | omega | (split at hl0 <;> omega)), if_neg (fun h => by split at hl0 <;> first | omega | (split at hl0 <;> omega))]
          have hbad : Kpt (numP 10 0 (nums S) = none) := ⟨by rw [hq.out, hst.out, hdig, if_pos (.inl (by omega))]⟩
          have hlow := Kpt.mk (low_any x wr x0 x1)
          rw [hy] at hlow
          clear hdig hst hq hl0 hy
          by_cases h95 : x = 95
          · subst h95
            clear hd
            by_cases c3 : 97 ≤ y
            · have c4 : ¬ y ≤ 122 := fun h => hyn ⟨c3, h⟩
              clear hyn
              go_wp2_with (go_at_call 109; go_must (refine hlow.out.mono ?_; rintro e w1 ⟨rfl, rfl⟩))
              go_ret2
              exact ⟨.inr ⟨hbad.out, _, 2, rfl, by omega, by omega, by omega⟩, hbk.out⟩
            · clear hyn
              go_wp2_with (go_at_call 109; go_must (refine hlow.out.mono ?_; rintro e w1 ⟨rfl, rfl⟩))
              go_ret2
              exact ⟨.inr ⟨hbad.out, _, 2, rfl, by omega, by omega, by omega⟩, hbk.out⟩
          · have _m := Kpt.mk True.intro
            by_cases c1 : 48 ≤ x
            · have c2 : ¬ x ≤ 57 := fun h => hd ⟨c1, h⟩
              clear hd
              by_cases c3 : 97 ≤ y
              · have c4 : ¬ y ≤ 122 := fun h => hyn ⟨c3, h⟩
                clear hyn
                go_wp2_with (go_at_call 109; go_must (refine hlow.out.mono ?_; rintro e w1 ⟨rfl, rfl⟩))
                go_ret2
                exact ⟨.inr ⟨hbad.out, _, 2, rfl, by omega, by omega, by omega⟩, hbk.out⟩
              · clear hyn
                go_wp2_with (go_at_call 109; go_must (refine hlow.out.mono ?_; rintro e w1 ⟨rfl, rfl⟩))
                go_ret2
                exact ⟨.inr ⟨hbad.out, _, 2, rfl, by omega, by omega, by omega⟩, hbk.out⟩
            · clear hd
              by_cases c3 : 97 ≤ y
              · have c4 : ¬ y ≤ 122 := fun h => hyn ⟨c3, h⟩
                clear hyn
                go_wp2_with (go_at_call 109; go_must (refine hlow.out.mono ?_; rintro e w1 ⟨rfl, rfl⟩))
                go_ret2
                exact ⟨.inr ⟨hbad.out, _, 2, rfl, by omega, by omega, by omega⟩, hbk.out⟩
              · clear hyn
                go_wp2_with (go_at_call 109; go_must (refine hlow.out.mono ?_; rintro e w1 ⟨rfl, rfl⟩))
                go_ret2
                exact ⟨.inr ⟨hbad.out, _, 2, rfl, by omega, by omega, by omega⟩, hbk.out⟩
        · obtain ⟨hy, y0, y1⟩ := low_let x x0 x1 hl0
          have c1 : 48 ≤ x := by unfold lowC at hl0; split at hl0 <;> first | omega | (split at hl0 <;> omega)
          have c2 : ¬ x ≤ 57 := fun h => hd ⟨c1, h⟩
          have h95 : ¬ x = 95 := fun h => hl0 (by rw [h]; rfl)
          have hlow := Kpt.mk (low_any x wr x0 x1)
          rw [hy] at hlow
          have hdig : Kpt (digC x = if lowC x ≤ 102 then (lowC x - 97 + 10).toNat else 99) := ⟨by
            unfold lowC digC at *
            split at hl0
            · rename_i hu
              rw [if_neg hd, if_neg (by omega), if_pos hu]
              by_cases h7 : x ≤ 70
              · rw [if_pos (by omega), if_pos (by omega)]; omega
              · rw [if_neg (by omega), if_neg (by omega)]
            · split at hl0
              · rename_i hu hv
                rw [if_neg hd, if_neg hu, if_pos hv]
                by_cases h7 : x ≤ 102
                · rw [if_pos (by omega), if_pos (by omega)]; omega
                · rw [if_neg (by omega), if_neg (by omega), if_neg (by omega)]
              · omega⟩
          obtain ⟨y, hyy⟩ : ∃ y, y = lowC x := ⟨_, rfl⟩
          rw [← hyy] at hlow hdig y0 y1
          clear hyy hl0 hy hd
          have c5 : (10 : Int) ≤ y - 97 + 10 := by omega
          have hbad : Kpt (numP 10 0 (nums S) = none) := ⟨by rw [hq.out, hst.out, hdig.out, if_pos (.inl (by split <;> omega))]⟩
          clear hdig hst hq
          go_wp2_with (go_at_call 109; go_must (refine hlow.out.mono ?_; rintro e w1 ⟨rfl, rfl⟩))
          go_ret2
          exact ⟨.inr ⟨hbad.out, _, 2, rfl, by omega, by omega, by omega⟩, hbk.out⟩
    · have hltI : ¬ (k : Int) < S.size := by omega
      obtain rfl : k = S.size := by omega
      have hok : Kpt (numP 10 0 (nums S) = some n) := ⟨by rw [hq.out, List.drop_of_length_le (by rw [hnl.out]; exact Nat.le_refl _)]; rfl⟩
      go_wp2
      go_ret2
      exact ⟨.inl ⟨n, hok.out, rfl⟩, hbk.out⟩
end Go.Proofs.YtplifodddfjhdaaGreatDoor
