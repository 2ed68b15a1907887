/-
  The walk of the statement on answers.
-/
import Derived.Test.YtaedkofljmonjaaDoorQAns
namespace Go.Proofs.YtaedkofljmonjaaDoor
open Go.RowKit
set_option linter.unusedVariables false
set_option linter.unusedSimpArgs false

/-- A digit in the other case. -/
def ups (c : Int) : Int := if 97 ≤ c ∧ c ≤ 102 then c - 32 else c
theorem dig_ups : ∀ d : Fin 16, digI (ups (hexD d.val)) = (d.val : Int) := by decide +kernel
theorem digI_ups (d : Nat) (h : d < 16) : digI (ups (hexD d)) = (d : Int) := dig_ups ⟨d, h⟩
theorem unL_ups (zs : List Int) (hb : Bytes zs) : unL ((hexL zs).map ups) = some zs := by
  induction zs with
  | nil => rfl
  | cons z r ih =>
    have hz := hb 0
    simp only [List.getD_cons_zero] at hz
    have h1 := digI_ups (z.toNat / 16) (by omega)
    have h2 := digI_ups (z.toNat % 16) (by omega)
    rw [hexL, List.map_cons, List.map_cons, unL, if_neg (by omega), ih (fun j => by simpa using hb (j + 1)), h1, h2]
    simp only [Option.map_some, Option.some.injEq, List.cons.injEq, and_true]
    omega
theorem unx_ups (zs : List Int) (hb : Bytes zs) : unx ((48 :: 120 :: hexL zs).map ups) = some zs := by
  unfold unx
  rw [if_pos ⟨by simp, rfl, .inl rfl, by simp [hexL_length]; omega⟩]
  exact unL_ups zs hb
theorem ups_byte {c : Int} (h : 0 ≤ c ∧ c ≤ 255) : 0 ≤ ups c ∧ ups c ≤ 255 := by unfold ups; split <;> omega
theorem ups_bytes {l : List Int} (h : Bytes l) : Bytes (l.map ups) := fun j => by
  rw [List.getD_eq_getElem?_getD, List.getElem?_map]
  cases e : l[j]? with
  | none => simp
  | some z =>
    have := h j
    rw [List.getD_eq_getElem?_getD, e] at this
    exact ups_byte this

set_option maxRecDepth 100000 in
set_option maxHeartbeats 2000000 in
theorem answers_walk (id : Int) (h0 : 0 ≤ id ∧ id ≤ 255) (T : ByteArray) (a : Option Addr) (n c : Nat) (zs : List Int) (O : ByteArray) (w : World) (hr : RdAt w (.slice a n c) zs) (hb : Bytes zs) (hm : n + T.size ≤ 1048576) (hO : O.size ≤ 1048576) (hG : Gl w) :
    Calls Tryd.prog 5 #[.int .u8 id, .string T, .slice a n c, .string O] w fun e w' => e = .returned (.bool true) ∧ Below w.heap.size w w' := by
  have hsb := sumL_bytes (ansB id T zs)
  have hsl := sumL_length (ansB id T zs)
  have hA := Kpt.mk (fun W (h : Below w.heap.size w W) => answer_any id h0 T a n c zs W (hr.bel h) hb hm (hG.bel h))
  have hB := Kpt.mk (fun W (h : Below w.heap.size w W) => ranswer_any id h0 T a n c zs W (hr.bel h) hb hm)
  have hR := fun R (hR : R.size ≤ 1048576) W (h : Below w.heap.size w W) => right_any id h0 T a n c zs R W (hr.bel h) hb hm hR (hG.bel h)
  have hW := Kpt.mk (fun W (h : Below w.heap.size w W) => awake_any W (hG.bel h))
  generalize sumL (ansB id T zs) = S at hsb hsl hA hB hR
  have hal : (48 :: 120 :: hexL S).length = 34 := by simp [hexL_length, hsl]
  have hab := hex_bytes S hsb
  have hC : Kpt (∀ W, Below w.heap.size w W → Calls Tryd.prog 16 #[.int .u8 id, .string T, .slice a n c, .string (strOfNums (48 :: 120 :: hexL S))] W fun e w' => e = .returned (.bool true) ∧ Below W.heap.size W w') := ⟨fun W h => by
    have := hR (strOfNums (48 :: 120 :: hexL S)) (by rw [str_size, hal]; omega) W h
    rw [nums_str _ hab, unx_hex S hsb, decide_eq_true rfl] at this
    exact this⟩
  have hE : Kpt (∀ W, Below w.heap.size w W → Calls Tryd.prog 16 #[.int .u8 id, .string T, .slice a n c, .string (strOfNums ((48 :: 120 :: hexL S).map ups))] W fun e w' => e = .returned (.bool true) ∧ Below W.heap.size W w') := ⟨fun W h => by
    have := hR (strOfNums ((48 :: 120 :: hexL S).map ups)) (by rw [str_size, List.length_map, hal]; omega) W h
    rw [nums_str _ (ups_bytes hab), unx_ups S hsb, decide_eq_true rfl] at this
    exact this⟩
  have hD := Kpt.mk (fun W h => hR O hO W h)
  have hF := Kpt.mk (fun W => runhex_s O W (by omega))
  have hF2 : Kpt (∀ W, Calls Tryd.prog 11 #[.string (strOfNums (48 :: 120 :: hexL S))] W fun e w' => ∃ v, e = .returned (.tuple #[v, .int .i64 0]) ∧ RdAt w' v S ∧ Below W.heap.size W w') := ⟨fun W => by
    have h := runhex_s (strOfNums (48 :: 120 :: hexL S)) W (by rw [str_size, hal]; omega)
    rw [nums_str _ hab, unx_hex S hsb] at h
    exact h⟩
  have hob := Kpt.mk (fun l (h : unx (nums O) = some l) => unx_bytes h)
  generalize unx (nums O) = o at hD hF hob
  replace hsb := Kpt.mk hsb
  clear hsl hR hr hb hG h0
  generalize (48 :: 120 :: hexL S) = L at hA hB hC hE hF2 hal hab
  have hsz := str_size L
  rw [hal] at hsz
  have hat : Kpt (∀ k (h : k < (strOfNums L).size), ((strOfNums L)[k].toNat : Int) = L.getD k 0) := ⟨fun k h => by rw [← nums_at _ _ h, nums_str L hab]⟩
  obtain ⟨X, hX⟩ : ∃ X, strOfNums L = X := ⟨_, rfl⟩
  rw [hX] at hA hB hC hF2 hsz hat
  clear hX
  replace hab := Kpt.mk hab
  replace hal := Kpt.mk hal
  go_enter Tryd.func5, Tryd.ntmps5
  go_wp2_with (first
    | (go_at_call 16; have hmm := m3; go_must (refine (hC.out _ hb3.out).mono ?_; rintro e w4 ⟨rfl, hb34⟩; have hb4 : Kpt (Below w.heap.size w w4) := ⟨hb3.out.trans (hb34.mono hb3.out.size)⟩; clear hb34 hmm m3))
    | (go_at_call 15; have hmm := m2; go_must (refine (hB.out _ hb2.out).mono ?_; rintro e w3 ⟨rfl, hb23⟩; have hb3 : Kpt (Below w.heap.size w w3) := ⟨hb2.out.trans (hb23.mono hb2.out.size)⟩; clear hb23 hmm m2; have m3 : Kpt True := ⟨trivial⟩))
    | (go_at_call 14; have hmm := m1; go_must (refine (hA.out _ hb1.out).mono ?_; rintro e w2 ⟨rfl, hb12⟩; have hb2 : Kpt (Below w.heap.size w w2) := ⟨hb1.out.trans (hb12.mono hb1.out.size)⟩; clear hb12 hmm m1; have m2 : Kpt True := ⟨trivial⟩))
    | (go_at_call 7; go_must (refine (hW.out _ (Below.refl _ _)).mono ?_; rintro e w1 ⟨rfl, hb1⟩; replace hb1 := Kpt.mk hb1; have m1 : Kpt True := ⟨trivial⟩)))
  go_loopw [10, 11] (fun x t wr => ∃ (k : Nat) (Y : ByteArray), k ≤ 34 ∧ x = .string Y ∧ t = .int .i64 k ∧ Kpt (Y = strOfNums ((L.take k).map ups)) ∧ Kpt (Below w.heap.size w wr)) (fun _ t _ => 34 - (intOf t).toNat)
  case atStart => exact ⟨0, _, by omega, rfl, rfl, ⟨rfl⟩, hb4⟩
  case round =>
    obtain ⟨k, Y, hk, rfl, rfl, hY, hbe⟩ := hrel
    clear hb4
    by_cases hlt : k < 34
    · have hxk := hat.out k (by omega)
      have hst : Kpt ((L.take (k + 1)).map ups = (L.take k).map ups ++ [ups (L.getD k 0)]) := ⟨by rw [take_succ_getD L k (by have := hal.out; omega), List.map_append]; rfl⟩
      have hyb := hab.out k
      have hYs : Y.size ≤ 34 := by rw [hY.out, str_size]; simp; omega
      generalize L.getD k 0 = y at hxk hst hyb
      have hcat : Kpt (strOfNums ((L.take (k + 1)).map ups) = Y ++ strOfNums [ups y]) := ⟨by rw [hst.out, str_append, hY.out]⟩
      have hs1 := str_size [ups y]
      simp only [List.length_cons, List.length_nil] at hs1
      by_cases hup : 97 ≤ y ∧ y ≤ 102
      · have hu : Kpt (ups y = y - 32) := ⟨by unfold ups; rw [if_pos hup]⟩
        rw [hu.out] at hcat hs1
        obtain ⟨u1, u2⟩ := hup
        go_wp2_with ((refine (?_ : wpList _ _ _ (Oper.mk (some 56) _ _ _ _ _ :: _) _ _); go_must (refine wpList_built rfl 1 [y - 32] (by kernel_rfl) rfl (by decide) ?_; intro g5 w5 hg5 ho5 hbe5; have hb5 : Kpt (Below w.heap.size w w5) := ⟨hbe.out.trans (hbe5.mono hbe.out.size)⟩; have hcv := conv_rd (own_rd ho5); clear hbe5 hg5 ho5)))
        go_roundw
        case rel => exact ⟨k + 1, _, by omega, rfl, by simp, ⟨hcat.out.symm⟩, hb5⟩
        case measure => simp [intOf]; omega
      · have hu : Kpt (ups y = y) := ⟨by unfold ups; rw [if_neg hup]⟩
        rw [hu.out] at hcat hs1
        by_cases u1 : 97 ≤ y
        · have u2 : ¬ y ≤ 102 := fun h => hup ⟨u1, h⟩
          clear hup
          go_wp2_with ((refine (?_ : wpList _ _ _ (Oper.mk (some 56) _ _ _ _ _ :: _) _ _); go_must (refine wpList_built rfl 1 [y] (by kernel_rfl) rfl (by decide) ?_; intro g5 w5 hg5 ho5 hbe5; have hb5 : Kpt (Below w.heap.size w w5) := ⟨hbe.out.trans (hbe5.mono hbe.out.size)⟩; have hcv := conv_rd (own_rd ho5); clear hbe5 hg5 ho5)))
          go_roundw
          case rel => exact ⟨k + 1, _, by omega, rfl, by simp, ⟨hcat.out.symm⟩, hb5⟩
          case measure => simp [intOf]; omega
        · clear hup
          go_wp2_with ((refine (?_ : wpList _ _ _ (Oper.mk (some 56) _ _ _ _ _ :: _) _ _); go_must (refine wpList_built rfl 1 [y] (by kernel_rfl) rfl (by decide) ?_; intro g5 w5 hg5 ho5 hbe5; have hb5 : Kpt (Below w.heap.size w w5) := ⟨hbe.out.trans (hbe5.mono hbe.out.size)⟩; have hcv := conv_rd (own_rd ho5); clear hbe5 hg5 ho5)))
          go_roundw
          case rel => exact ⟨k + 1, _, by omega, rfl, by simp, ⟨hcat.out.symm⟩, hb5⟩
          case measure => simp [intOf]; omega
    · obtain rfl : k = 34 := by omega
      obtain rfl : Y = strOfNums (L.map ups) := by rw [hY.out, List.take_of_length_le (by have := hal.out; omega)]
      clear hY
      cases o with
      | none =>
        rw [decide_eq_false (by simp)] at hD
        simp only [unE, Option.getD_none] at hF
        generalize strOfNums (L.map ups) = Y at hE ⊢
        go_wp2_with (first
          | (go_at_call 16; have hmm := m10; go_must (refine (hE.out _ hb9.out).mono ?_; rintro e w10 ⟨rfl, hb910⟩; have hb10 : Kpt (Below w.heap.size w w10) := ⟨hb9.out.trans (hb910.mono hb9.out.size)⟩; clear hb910 hmm m10))
          | (go_at_call 16; have hmm := m9; go_must (refine (hD.out _ hb8.out).mono ?_; rintro e w9 ⟨rfl, hb89⟩; have hb9 : Kpt (Below w.heap.size w w9) := ⟨hb8.out.trans (hb89.mono hb8.out.size)⟩; clear hb89 hmm m9; have m10 : Kpt True := ⟨trivial⟩))
          | (go_at_call 11; have hmm := m8; go_must (refine (hF2.out _).mono ?_; rintro e w8 ⟨v8, rfl, hr8, hb78⟩; have hb8 : Kpt (Below w.heap.size w w8) := ⟨hb7.out.trans (hb78.mono hb7.out.size)⟩; replace hr8 := Kpt.mk hr8; replace hb78 := Kpt.mk hb78; clear hmm m8; have m9 : Kpt True := ⟨trivial⟩))
          | (go_at_call 11; go_must (refine (hF.out _).mono ?_; rintro e w7 ⟨v7, rfl, hr7, hb67⟩; have hb7 : Kpt (Below w.heap.size w w7) := ⟨hbe.out.trans (hb67.mono hbe.out.size)⟩; replace hr7 := Kpt.mk hr7; clear hb67; have m8 : Kpt True := ⟨trivial⟩)))
        go_ret
        exact ⟨by simp, hb10.out⟩
      | some l =>
        have hlb := hob.out l rfl
        simp only [unE, Option.getD_some] at hF
        have hde : Kpt (((strOfNums l).toList == (strOfNums S).toList) = decide (l = S)) := ⟨by
          by_cases h : l = S
          · subst h; simp
          · rw [decide_eq_false h]
            refine beq_false_of_ne fun hq => h (str_inj hlb hsb.out ?_)
            apply ByteArray.ext
            apply Array.ext'
            rw [ByteArray.toList_eq, ByteArray.toList_eq] at hq
            exact hq⟩
        rw [show decide (some l = some S) = decide (l = S) from by simp] at hD
        have hde' := hde.out
        generalize strOfNums (L.map ups) = Y at hE ⊢
        generalize decide (l = S) = D at hD hde'
        clear hde hob
        go_wp2_with (first
          | (go_at_call 16; have hmm := m10; go_must (refine (hE.out _ hb9.out).mono ?_; rintro e w10 ⟨rfl, hb910⟩; have hb10 : Kpt (Below w.heap.size w w10) := ⟨hb9.out.trans (hb910.mono hb9.out.size)⟩; clear hb910 hmm m10))
          | (go_at_call 16; have hmm := m9; go_must (refine (hD.out _ hb8.out).mono ?_; rintro e w9 ⟨rfl, hb89⟩; have hb9 : Kpt (Below w.heap.size w w9) := ⟨hb8.out.trans (hb89.mono hb8.out.size)⟩; have hcv1 := conv_rd (hr7.out.bel (hb78.out.trans (hb89.mono hb78.out.size))); have hcv2 := conv_rd (hr8.out.bel hb89); clear hb89 hmm m9; have m10 : Kpt True := ⟨trivial⟩))
          | (go_at_call 11; have hmm := m8; go_must (refine (hF2.out _).mono ?_; rintro e w8 ⟨v8, rfl, hr8, hb78⟩; have hb8 : Kpt (Below w.heap.size w w8) := ⟨hb7.out.trans (hb78.mono hb7.out.size)⟩; replace hr8 := Kpt.mk hr8; replace hb78 := Kpt.mk hb78; clear hmm m8; have m9 : Kpt True := ⟨trivial⟩))
          | (go_at_call 11; go_must (refine (hF.out _).mono ?_; rintro e w7 ⟨v7, rfl, hr7, hb67⟩; have hb7 : Kpt (Below w.heap.size w w7) := ⟨hbe.out.trans (hb67.mono hbe.out.size)⟩; replace hr7 := Kpt.mk hr7; clear hb67; have m8 : Kpt True := ⟨trivial⟩)))
        go_ret
        exact ⟨by simp, hb10.out⟩

end Go.Proofs.YtaedkofljmonjaaDoor
