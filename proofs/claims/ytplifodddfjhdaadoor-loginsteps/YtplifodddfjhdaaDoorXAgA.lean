/-
  login: lengths, sums and yes and no that are agreed on.
-/
import Derived.Test.YtplifodddfjhdaaDoorXLnU
import Derived.Test.YtplifodddfjhdaaDoorXNmBs
import Derived.Test.YtplifodddfjhdaaDoorXYns
namespace Go.Proofs.YtplifodddfjhdaaDoor
open Go.RowKit
set_option linter.unusedVariables false
set_option linter.unusedSimpArgs false

def crcB : ByteArray := ⟨#[67, 82, 67, 51, 50, 67]⟩
def nonB : ByteArray := ⟨#[78, 111, 110, 101]⟩
def hdB : ByteArray := ⟨#[72, 101, 97, 100, 101, 114, 68, 105, 103, 101, 115, 116]⟩
def ddB : ByteArray := ⟨#[68, 97, 116, 97, 68, 105, 103, 101, 115, 116]⟩
def ownS (b : Bool) : List ByteArray := if b then [crcB, nonB] else [nonB]
/-- What is come to. -/
def fstV (b : Bool) (S : ByteArray) : ByteArray := firstP (ownS b) (pcsS (nums S))
def isCrc (x : ByteArray) : Bool := x.toList == [67, 82, 67, 51, 50, 67]
theorem firstP_of (os : List ByteArray) : ∀ l : List ByteArray, firstP os l = ⟨#[82, 101, 106, 101, 99, 116]⟩ ∨ firstP os l ∈ os
  | [] => .inl rfl
  | x :: l => by
    unfold firstP
    by_cases h : Lib.containsS os x = true
    · rw [if_pos h]; exact .inr ((Lib.containsS_iff os x).1 h)
    · rw [if_neg h]; exact firstP_of os l
theorem fstV_ne (b : Bool) (S : ByteArray) : (fstV b S).toList ≠ [] := by
  rcases firstP_of (ownS b) (pcsS (nums S)) with h | h
  · unfold fstV; rw [h, ByteArray.toList_eq]; simp
  · unfold fstV
    obtain ⟨y, hy⟩ : ∃ y, y = firstP (ownS b) (pcsS (nums S)) := ⟨_, rfl⟩
    rw [← hy] at h ⊢
    cases b
    · simp [ownS] at h; rw [h, nonB, ByteArray.toList_eq]; simp
    · simp [ownS] at h
      rcases h with h | h
      · rw [h, crcB, ByteArray.toList_eq]; simp
      · rw [h, nonB, ByteArray.toList_eq]; simp
theorem st_two (W : World) (b : Nat) (x y : ByteArray) (h : Bx W b #[.string x, .string y]) : StAt W (.slice (some ⟨b, 0, none⟩) 2 2) [x, y] := by
  refine ⟨some ⟨b, 0, none⟩, 2, rfl, by simp, .inr ⟨b, 0, rfl, h.lt, fun j hj => ?_⟩⟩
  have : j < 2 := by simpa using hj
  rcases (by omega : j = 0 ∨ j = 1) with rfl | rfl
  · simpa using h.cells 0 (by simp)
  · simpa using h.cells 1 (by simp)

set_option maxRecDepth 100000 in
set_option maxHeartbeats 4000000 in
theorem agreeSums_any (L j : Nat) (hj : j = 15 ∨ j = 16) (s : Lg) (S : ByteArray) (w : World) (hX : Bx w L s.v) (hl : S.size ≤ 281474976710656) :
    Calls Tryd.prog 38 #[.pointer (some ⟨L, 0, none⟩), .string S, .pointer (some ⟨L, j, none⟩)] w fun e w' => e = .returned (.string (fstV s.sums S)) ∧ Bx w' L (s.v.setIfInBounds j (.bool (isCrc (fstV s.sums S)))) ∧ w.grownBy w' (some L) := by
  obtain ⟨b, hb⟩ : ∃ b, b = s.sums := ⟨_, rfl⟩
  rw [← hb]
  have hF : Kpt (∀ (W : World) (a : Option Addr) (n c : Nat), n ≤ 2 → StAt W (.slice a n c) (ownS b) → Calls Tryd.prog 28 #[.string S, .slice a n c] W fun e w' => e = .returned (.string (fstV b S)) ∧ Below W.heap.size W w') := ⟨fun W a n c hn h => first_S S hl a n c (ownS b) W h (by unfold maxLen; omega)⟩
  obtain ⟨x, hx⟩ : ∃ x, x = fstV b S := ⟨_, rfl⟩
  rw [← hx] at hF ⊢
  have hXw : Kpt (∀ W, Below w.heap.size w W → Bx W L s.v) := ⟨fun W h => hX.below h hX.lt⟩
  have hfin : Kpt (∀ (W : World) (v : Value), Below w.heap.size w W → w.grownBy (W.setCell ⟨L, j, none⟩ v) (some L) ∧ Bx (W.setCell ⟨L, j, none⟩ v) L (s.v.setIfInBounds j v)) := ⟨fun W v h => ⟨grown_tr (grown_of_below h _) (grown_setCellK W ⟨L, j, none⟩ v), bx_setC v (hX.below h hX.lt) (by simp [Lg.v]; omega)⟩⟩
  have c2 := hX.cells 2 (by simp [Lg.v])
  simp only [Lg.v, List.getElem?_toArray, List.getElem?_cons_succ, List.getElem?_cons_zero] at c2
  rw [← hb] at c2
  have hlt := hX.lt
  clear hX hx hb
  obtain ⟨q, hq⟩ : ∃ q, q = isCrc x := ⟨_, rfl⟩
  rw [← hq]
  unfold isCrc at hq
  replace hq := hq.symm
  rcases hj with rfl | rfl
  all_goals
    cases b
    all_goals
      cases q
      all_goals
        go_enter Tryd.func38, Tryd.ntmps38
        go_wp2_with (go_at_call 28; go_must (refine (hF.out _ _ _ _ (by omega) (by first | exact st_one _ _ _ (bx_new w _ 9) | exact st_two _ _ _ _ (by have h := bx_new (w.alloc (.cells #[.string nonB] 9)) #[.string crcB, .string nonB] 9; rw [show (w.alloc (.cells #[.string nonB] 9)).heap.size = w.heap.size + 1 from by simp] at h; exact h))).mono ?_; rintro e w2 ⟨rfl, hb2⟩; have hbw : Kpt (Below w.heap.size w w2) := ⟨by first | exact ((Below.refl w.heap.size w).alloc (Nat.le_refl _) _).trans (hb2.mono (by simp)) | exact (((Below.refl w.heap.size w).alloc (Nat.le_refl _) _).alloc (by simp) _).trans (hb2.mono (by simp; omega))⟩; have c15 := (hXw.out w2 hbw.out).cells 15 (by simp [Lg.v]); have c16 := (hXw.out w2 hbw.out).cells 16 (by simp [Lg.v]); have f15 := (hXw.out w2 hbw.out).free 15; have f16 := (hXw.out w2 hbw.out).free 16; simp only [Lg.v, List.getElem?_toArray, List.getElem?_cons_succ, List.getElem?_cons_zero] at c15 c16; clear hb2))
        go_ret
        exact ⟨rfl, (hfin.out w2 _ hbw.out).2, (hfin.out w2 _ hbw.out).1⟩

theorem decL_le (n : Nat) : (decL n).length ≤ n + 1 := by
  induction n using Nat.strongRecOn with
  | _ n ih =>
    by_cases h : n < 10
    · rw [decL_small h]; simp
    · rw [decL_great (by omega)]
      have := ih (n / 10) (by omega)
      simp; omega
/-- What is answered to a length; what it comes to. -/
def lenV (own : Nat) (V : ByteArray) : ByteArray := leastS (numS (nums V)) own 512 16777215
theorem lenV_size (own : Nat) (V : ByteArray) (h : own ≤ 100000) : (lenV own V).size ≤ 281474976710656 := by
  unfold lenV leastS
  split
  · decide
  · split
    · decide
    · rename_i v _ _
      rw [size_dec]
      have := decL_le (min v own)
      omega
def lenN (own : Nat) (V : ByteArray) (old : Int) : Int := match numS (nums (lenV own V)) with
  | none => old
  | some m => wrap64 (m : Nat)
def rejS : ByteArray := ⟨#[82, 101, 106, 101, 99, 116]⟩
def isYes (x : ByteArray) : Bool := x.toList == [89, 101, 115]
set_option maxRecDepth 100000 in
set_option maxHeartbeats 4000000 in
theorem len_seg (L : Nat) (s : Lg) (own : Nat) (V : ByteArray) (w : World) (hX : Bx w L s.v) (hl : V.size ≤ 281474976710656) (hown : own ≤ 100000) (hG : ∀ W, Below w.heap.size w W → Gl W) :
    Calls Tryd.prog 39 #[.string V, .int .u64 (own : Nat), .pointer (some ⟨L, 17, none⟩)] w fun e w' => e = .returned (.string (lenV own V)) ∧ Bx w' L { s with seg := lenN own V s.seg }.v ∧ w.grownBy w' (some L) := by
  have hL : Kpt (∀ W, Below w.heap.size w W → Calls Tryd.prog 43 #[.string V, .int .u64 (own : Nat), .int .u64 512, .int .u64 16777215] W fun e w' => e = .returned (.string (lenV own V)) ∧ Below W.heap.size W w') := ⟨fun W hb => least_any V own 512 16777215 W hl (hG W hb) (by omega) (by omega) (by omega)⟩
  have hN : Kpt (∀ W, Below w.heap.size w W → Calls Tryd.prog 51 #[.string (lenV own V)] W fun e w' => e = .returned (.tuple #[.int .u64 (numV (numS (nums (lenV own V)))), .bool (numS (nums (lenV own V))).isSome]) ∧ Below W.heap.size W w') := ⟨fun W hb => number_any _ W (lenV_size own V hown) (hG W hb)⟩
  have hD : Kpt (lenN own V s.seg = match numS (nums (lenV own V)) with | none => s.seg | some m => wrap64 (m : Nat)) := ⟨rfl⟩
  obtain ⟨x, hx⟩ : ∃ x, x = lenV own V := ⟨_, rfl⟩
  rw [← hx] at hL hN hD ⊢
  obtain ⟨N, hNN⟩ : ∃ N, N = lenN own V s.seg := ⟨_, rfl⟩
  rw [← hNN] at hD ⊢
  obtain ⟨q, hq⟩ : ∃ q, q = numS (nums x) := ⟨_, rfl⟩
  rw [← hq] at hN hD
  have hset : Kpt (∀ W z, Below w.heap.size w W → w.grownBy (W.setCell ⟨L, 17, none⟩ (.int .i64 z)) (some L) ∧ Bx (W.setCell ⟨L, 17, none⟩ (.int .i64 z)) L { s with seg := z }.v ∧ W.cell? ⟨L, 17, none⟩ = some (.int .i64 s.seg) ∧ W.frozen? ⟨L, 17, none⟩ = false) := ⟨fun W z h => ⟨grown_tr (grown_of_below h _) (grown_setCellK W ⟨L, 17, none⟩ (.int .i64 z)), by have := bx_setC (.int .i64 z) (hX.below h hX.lt) (j := 17) (by simp [Lg.v]); simpa [Lg.v] using this, by have := (hX.below h hX.lt).cells 17 (by simp [Lg.v]); simpa [Lg.v] using this, (hX.below h hX.lt).free 17⟩⟩
  have hX0 : Kpt (∀ W, Below w.heap.size w W → Bx W L s.v) := ⟨fun W h => hX.below h hX.lt⟩
  clear hX hl hG hx hNN hq
  cases q with
  | none =>
    have hD2 : Kpt (N = s.seg) := ⟨hD.out⟩
    replace hN : Kpt (∀ W, Below w.heap.size w W → Calls Tryd.prog 51 #[.string x] W fun e w' => e = .returned (.tuple #[.int .u64 0, .bool false]) ∧ Below W.heap.size W w') := hN
    clear hD hset
    go_enter Tryd.func39, Tryd.ntmps39
    go_wp2_with (first
      | (go_at_call 51; go_must (refine (hN.out _ hb1.out).mono ?_; rintro e w2 ⟨rfl, hb2q⟩; have hb2 := Kpt.mk (hb1.out.trans (hb2q.mono hb1.out.size)); clear hb2q))
      | (go_at_call 43; go_must (refine (hL.out _ (Below.refl _ _)).mono ?_; rintro e w1 ⟨rfl, hb1⟩; replace hb1 := Kpt.mk hb1)))
    go_ret
    exact ⟨rfl, by rw [hD2.out]; exact hX0.out _ hb2.out, grown_of_below hb2.out _⟩
  | some m =>
    have hD2 : Kpt (N = wrap64 (m : Nat)) := ⟨hD.out⟩
    replace hN : Kpt (∀ W, Below w.heap.size w W → Calls Tryd.prog 51 #[.string x] W fun e w' => e = .returned (.tuple #[.int .u64 (m : Nat), .bool true]) ∧ Below W.heap.size W w') := hN
    clear hD hX0
    go_enter Tryd.func39, Tryd.ntmps39
    go_wp2_with (first
      | (go_at_call 51; go_must (refine (hN.out _ hb1.out).mono ?_; rintro e w2 ⟨rfl, hb2q⟩; have hb2 := Kpt.mk (hb1.out.trans (hb2q.mono hb1.out.size)); obtain ⟨s1, s2, s3, s4⟩ := hset.out w2 (wrap64 (m : Nat)) hb2.out; replace s1 := Kpt.mk s1; replace s2 := Kpt.mk s2; clear hb2q))
      | (go_at_call 43; go_must (refine (hL.out _ (Below.refl _ _)).mono ?_; rintro e w1 ⟨rfl, hb1⟩; replace hb1 := Kpt.mk hb1)))
    go_ret
    exact ⟨rfl, by rw [hD2.out]; exact s2.out, s1.out⟩
set_option maxRecDepth 100000 in
set_option maxHeartbeats 4000000 in
theorem len_bu (L : Nat) (s : Lg) (own : Nat) (V : ByteArray) (w : World) (hX : Bx w L s.v) (hl : V.size ≤ 281474976710656) (hown : own ≤ 100000) (hG : ∀ W, Below w.heap.size w W → Gl W) :
    Calls Tryd.prog 39 #[.string V, .int .u64 (own : Nat), .pointer (some ⟨L, 18, none⟩)] w fun e w' => e = .returned (.string (lenV own V)) ∧ Bx w' L { s with bu := lenN own V s.bu }.v ∧ w.grownBy w' (some L) := by
  have hL : Kpt (∀ W, Below w.heap.size w W → Calls Tryd.prog 43 #[.string V, .int .u64 (own : Nat), .int .u64 512, .int .u64 16777215] W fun e w' => e = .returned (.string (lenV own V)) ∧ Below W.heap.size W w') := ⟨fun W hb => least_any V own 512 16777215 W hl (hG W hb) (by omega) (by omega) (by omega)⟩
  have hN : Kpt (∀ W, Below w.heap.size w W → Calls Tryd.prog 51 #[.string (lenV own V)] W fun e w' => e = .returned (.tuple #[.int .u64 (numV (numS (nums (lenV own V)))), .bool (numS (nums (lenV own V))).isSome]) ∧ Below W.heap.size W w') := ⟨fun W hb => number_any _ W (lenV_size own V hown) (hG W hb)⟩
  have hD : Kpt (lenN own V s.bu = match numS (nums (lenV own V)) with | none => s.bu | some m => wrap64 (m : Nat)) := ⟨rfl⟩
  obtain ⟨x, hx⟩ : ∃ x, x = lenV own V := ⟨_, rfl⟩
  rw [← hx] at hL hN hD ⊢
  obtain ⟨N, hNN⟩ : ∃ N, N = lenN own V s.bu := ⟨_, rfl⟩
  rw [← hNN] at hD ⊢
  obtain ⟨q, hq⟩ : ∃ q, q = numS (nums x) := ⟨_, rfl⟩
  rw [← hq] at hN hD
  have hset : Kpt (∀ W z, Below w.heap.size w W → w.grownBy (W.setCell ⟨L, 18, none⟩ (.int .i64 z)) (some L) ∧ Bx (W.setCell ⟨L, 18, none⟩ (.int .i64 z)) L { s with bu := z }.v ∧ W.cell? ⟨L, 18, none⟩ = some (.int .i64 s.bu) ∧ W.frozen? ⟨L, 18, none⟩ = false) := ⟨fun W z h => ⟨grown_tr (grown_of_below h _) (grown_setCellK W ⟨L, 18, none⟩ (.int .i64 z)), by have := bx_setC (.int .i64 z) (hX.below h hX.lt) (j := 18) (by simp [Lg.v]); simpa [Lg.v] using this, by have := (hX.below h hX.lt).cells 18 (by simp [Lg.v]); simpa [Lg.v] using this, (hX.below h hX.lt).free 18⟩⟩
  have hX0 : Kpt (∀ W, Below w.heap.size w W → Bx W L s.v) := ⟨fun W h => hX.below h hX.lt⟩
  clear hX hl hG hx hNN hq
  cases q with
  | none =>
    have hD2 : Kpt (N = s.bu) := ⟨hD.out⟩
    replace hN : Kpt (∀ W, Below w.heap.size w W → Calls Tryd.prog 51 #[.string x] W fun e w' => e = .returned (.tuple #[.int .u64 0, .bool false]) ∧ Below W.heap.size W w') := hN
    clear hD hset
    go_enter Tryd.func39, Tryd.ntmps39
    go_wp2_with (first
      | (go_at_call 51; go_must (refine (hN.out _ hb1.out).mono ?_; rintro e w2 ⟨rfl, hb2q⟩; have hb2 := Kpt.mk (hb1.out.trans (hb2q.mono hb1.out.size)); clear hb2q))
      | (go_at_call 43; go_must (refine (hL.out _ (Below.refl _ _)).mono ?_; rintro e w1 ⟨rfl, hb1⟩; replace hb1 := Kpt.mk hb1)))
    go_ret
    exact ⟨rfl, by rw [hD2.out]; exact hX0.out _ hb2.out, grown_of_below hb2.out _⟩
  | some m =>
    have hD2 : Kpt (N = wrap64 (m : Nat)) := ⟨hD.out⟩
    replace hN : Kpt (∀ W, Below w.heap.size w W → Calls Tryd.prog 51 #[.string x] W fun e w' => e = .returned (.tuple #[.int .u64 (m : Nat), .bool true]) ∧ Below W.heap.size W w') := hN
    clear hD hX0
    go_enter Tryd.func39, Tryd.ntmps39
    go_wp2_with (first
      | (go_at_call 51; go_must (refine (hN.out _ hb1.out).mono ?_; rintro e w2 ⟨rfl, hb2q⟩; have hb2 := Kpt.mk (hb1.out.trans (hb2q.mono hb1.out.size)); obtain ⟨s1, s2, s3, s4⟩ := hset.out w2 (wrap64 (m : Nat)) hb2.out; replace s1 := Kpt.mk s1; replace s2 := Kpt.mk s2; clear hb2q))
      | (go_at_call 43; go_must (refine (hL.out _ (Below.refl _ _)).mono ?_; rintro e w1 ⟨rfl, hb1⟩; replace hb1 := Kpt.mk hb1)))
    go_ret
    exact ⟨rfl, by rw [hD2.out]; exact s2.out, s1.out⟩
set_option maxRecDepth 100000 in
set_option maxHeartbeats 4000000 in
theorem len_fi (L : Nat) (s : Lg) (own : Nat) (V : ByteArray) (w : World) (hX : Bx w L s.v) (hl : V.size ≤ 281474976710656) (hown : own ≤ 100000) (hG : ∀ W, Below w.heap.size w W → Gl W) :
    Calls Tryd.prog 39 #[.string V, .int .u64 (own : Nat), .pointer (some ⟨L, 19, none⟩)] w fun e w' => e = .returned (.string (lenV own V)) ∧ Bx w' L { s with fi := lenN own V s.fi }.v ∧ w.grownBy w' (some L) := by
  have hL : Kpt (∀ W, Below w.heap.size w W → Calls Tryd.prog 43 #[.string V, .int .u64 (own : Nat), .int .u64 512, .int .u64 16777215] W fun e w' => e = .returned (.string (lenV own V)) ∧ Below W.heap.size W w') := ⟨fun W hb => least_any V own 512 16777215 W hl (hG W hb) (by omega) (by omega) (by omega)⟩
  have hN : Kpt (∀ W, Below w.heap.size w W → Calls Tryd.prog 51 #[.string (lenV own V)] W fun e w' => e = .returned (.tuple #[.int .u64 (numV (numS (nums (lenV own V)))), .bool (numS (nums (lenV own V))).isSome]) ∧ Below W.heap.size W w') := ⟨fun W hb => number_any _ W (lenV_size own V hown) (hG W hb)⟩
  have hD : Kpt (lenN own V s.fi = match numS (nums (lenV own V)) with | none => s.fi | some m => wrap64 (m : Nat)) := ⟨rfl⟩
  obtain ⟨x, hx⟩ : ∃ x, x = lenV own V := ⟨_, rfl⟩
  rw [← hx] at hL hN hD ⊢
  obtain ⟨N, hNN⟩ : ∃ N, N = lenN own V s.fi := ⟨_, rfl⟩
  rw [← hNN] at hD ⊢
  obtain ⟨q, hq⟩ : ∃ q, q = numS (nums x) := ⟨_, rfl⟩
  rw [← hq] at hN hD
  have hset : Kpt (∀ W z, Below w.heap.size w W → w.grownBy (W.setCell ⟨L, 19, none⟩ (.int .i64 z)) (some L) ∧ Bx (W.setCell ⟨L, 19, none⟩ (.int .i64 z)) L { s with fi := z }.v ∧ W.cell? ⟨L, 19, none⟩ = some (.int .i64 s.fi) ∧ W.frozen? ⟨L, 19, none⟩ = false) := ⟨fun W z h => ⟨grown_tr (grown_of_below h _) (grown_setCellK W ⟨L, 19, none⟩ (.int .i64 z)), by have := bx_setC (.int .i64 z) (hX.below h hX.lt) (j := 19) (by simp [Lg.v]); simpa [Lg.v] using this, by have := (hX.below h hX.lt).cells 19 (by simp [Lg.v]); simpa [Lg.v] using this, (hX.below h hX.lt).free 19⟩⟩
  have hX0 : Kpt (∀ W, Below w.heap.size w W → Bx W L s.v) := ⟨fun W h => hX.below h hX.lt⟩
  clear hX hl hG hx hNN hq
  cases q with
  | none =>
    have hD2 : Kpt (N = s.fi) := ⟨hD.out⟩
    replace hN : Kpt (∀ W, Below w.heap.size w W → Calls Tryd.prog 51 #[.string x] W fun e w' => e = .returned (.tuple #[.int .u64 0, .bool false]) ∧ Below W.heap.size W w') := hN
    clear hD hset
    go_enter Tryd.func39, Tryd.ntmps39
    go_wp2_with (first
      | (go_at_call 51; go_must (refine (hN.out _ hb1.out).mono ?_; rintro e w2 ⟨rfl, hb2q⟩; have hb2 := Kpt.mk (hb1.out.trans (hb2q.mono hb1.out.size)); clear hb2q))
      | (go_at_call 43; go_must (refine (hL.out _ (Below.refl _ _)).mono ?_; rintro e w1 ⟨rfl, hb1⟩; replace hb1 := Kpt.mk hb1)))
    go_ret
    exact ⟨rfl, by rw [hD2.out]; exact hX0.out _ hb2.out, grown_of_below hb2.out _⟩
  | some m =>
    have hD2 : Kpt (N = wrap64 (m : Nat)) := ⟨hD.out⟩
    replace hN : Kpt (∀ W, Below w.heap.size w W → Calls Tryd.prog 51 #[.string x] W fun e w' => e = .returned (.tuple #[.int .u64 (m : Nat), .bool true]) ∧ Below W.heap.size W w') := hN
    clear hD hX0
    go_enter Tryd.func39, Tryd.ntmps39
    go_wp2_with (first
      | (go_at_call 51; go_must (refine (hN.out _ hb1.out).mono ?_; rintro e w2 ⟨rfl, hb2q⟩; have hb2 := Kpt.mk (hb1.out.trans (hb2q.mono hb1.out.size)); obtain ⟨s1, s2, s3, s4⟩ := hset.out w2 (wrap64 (m : Nat)) hb2.out; replace s1 := Kpt.mk s1; replace s2 := Kpt.mk s2; clear hb2q))
      | (go_at_call 43; go_must (refine (hL.out _ (Below.refl _ _)).mono ?_; rintro e w1 ⟨rfl, hb1⟩; replace hb1 := Kpt.mk hb1)))
    go_ret
    exact ⟨rfl, by rw [hD2.out]; exact s2.out, s1.out⟩
set_option maxRecDepth 100000 in
set_option maxHeartbeats 4000000 in
theorem agreed_imm (L : Nat) (s : Lg) (x : ByteArray) (w : World) (hX : Bx w L s.v) :
    Calls Tryd.prog 40 #[.string x, .pointer (some ⟨L, 20, none⟩)] w fun e w' => e = .returned (.string x) ∧ Bx w' L { s with imm := if isRej x = true then s.imm else isYes x }.v ∧ w.grownBy w' (some L) := by
  obtain ⟨q, hq⟩ : ∃ q, q = isRej x := ⟨_, rfl⟩
  obtain ⟨y, hy⟩ : ∃ y, y = isYes x := ⟨_, rfl⟩
  rw [← hq, ← hy]
  unfold isRej at hq
  unfold isYes at hy
  replace hq := hq.symm
  replace hy := hy.symm
  have hset : Kpt (w.grownBy (w.setCell ⟨L, 20, none⟩ (.bool y)) (some L) ∧ Bx (w.setCell ⟨L, 20, none⟩ (.bool y)) L { s with imm := y }.v) := ⟨grown_setCellK w ⟨L, 20, none⟩ (.bool y), by have := bx_setC (.bool y) hX (j := 20) (by simp [Lg.v]); simpa [Lg.v] using this⟩
  have c : w.cell? ⟨L, 20, none⟩ = some (.bool s.imm) := by have := hX.cells 20 (by simp [Lg.v]); simpa [Lg.v] using this
  have f := hX.free 20
  replace hX := Kpt.mk hX
  cases q
  · go_enter Tryd.func40, Tryd.ntmps40
    go_wp2
    go_ret
    exact ⟨rfl, hset.out.2, hset.out.1⟩
  · go_enter Tryd.func40, Tryd.ntmps40
    go_wp2
    go_ret
    exact ⟨rfl, hX.out, grown_of_below (Below.refl _ _) _⟩
set_option maxRecDepth 100000 in
set_option maxHeartbeats 4000000 in
theorem agreed_rdy (L : Nat) (s : Lg) (x : ByteArray) (w : World) (hX : Bx w L s.v) :
    Calls Tryd.prog 40 #[.string x, .pointer (some ⟨L, 21, none⟩)] w fun e w' => e = .returned (.string x) ∧ Bx w' L { s with rdy := if isRej x = true then s.rdy else isYes x }.v ∧ w.grownBy w' (some L) := by
  obtain ⟨q, hq⟩ : ∃ q, q = isRej x := ⟨_, rfl⟩
  obtain ⟨y, hy⟩ : ∃ y, y = isYes x := ⟨_, rfl⟩
  rw [← hq, ← hy]
  unfold isRej at hq
  unfold isYes at hy
  replace hq := hq.symm
  replace hy := hy.symm
  have hset : Kpt (w.grownBy (w.setCell ⟨L, 21, none⟩ (.bool y)) (some L) ∧ Bx (w.setCell ⟨L, 21, none⟩ (.bool y)) L { s with rdy := y }.v) := ⟨grown_setCellK w ⟨L, 21, none⟩ (.bool y), by have := bx_setC (.bool y) hX (j := 21) (by simp [Lg.v]); simpa [Lg.v] using this⟩
  have c : w.cell? ⟨L, 21, none⟩ = some (.bool s.rdy) := by have := hX.cells 21 (by simp [Lg.v]); simpa [Lg.v] using this
  have f := hX.free 21
  replace hX := Kpt.mk hX
  cases q
  · go_enter Tryd.func40, Tryd.ntmps40
    go_wp2
    go_ret
    exact ⟨rfl, hset.out.2, hset.out.1⟩
  · go_enter Tryd.func40, Tryd.ntmps40
    go_wp2
    go_ret
    exact ⟨rfl, hX.out, grown_of_below (Below.refl _ _) _⟩
end Go.Proofs.YtplifodddfjhdaaDoor
