/-
  login: sums that are agreed on.
-/
import Derived.Test.YtplifodddfjhdabDoorXRfss
import Derived.Test.YtplifodddfjhdabDoorXLgK
namespace Go.Proofs.YtplifodddfjhdabDoor
open Go.RowKit
set_option linter.unusedVariables false
set_option linter.unusedSimpArgs false

def crcB : ByteArray := ⟨#[67, 82, 67, 51, 50, 67]⟩
def nonB : ByteArray := ⟨#[78, 111, 110, 101]⟩
def hdB : ByteArray := ⟨#[72, 101, 97, 100, 101, 114, 68, 105, 103, 101, 115, 116]⟩
def ddB : ByteArray := ⟨#[68, 97, 116, 97, 68, 105, 103, 101, 115, 116]⟩
def ownS (b : Bool) : List ByteArray := if b then [crcB, nonB] else [nonB]
/-- What is come to. -/
def fstV (b : Bool) (S : ByteArray) : ByteArray := firstP (ownS b) (pcsS (nums S))
def isCrc (x : ByteArray) : Bool := x.toList == [67, 82, 67, 51, 50, 67]
theorem firstP_of (os : List ByteArray) : ∀ l : List ByteArray, firstP os l = ⟨#[82, 101, 106, 101, 99, 116]⟩ ∨ firstP os l ∈ os
  | [] => .inl rfl
  | x :: l => by
    unfold firstP
    by_cases h : Lib.containsS os x = true
    · rw [if_pos h]; exact .inr ((Lib.containsS_iff os x).1 h)
    · rw [if_neg h]; exact firstP_of os l
theorem fstV_ne (b : Bool) (S : ByteArray) : (fstV b S).toList ≠ [] := by
  rcases firstP_of (ownS b) (pcsS (nums S)) with h | h
  · unfold fstV; rw [h, ByteArray.toList_eq]; simp
  · unfold fstV
    obtain ⟨y, hy⟩ : ∃ y, y = firstP (ownS b) (pcsS (nums S)) := ⟨_, rfl⟩
    rw [← hy] at h ⊢
    cases b
    · simp [ownS] at h; rw [h, nonB, ByteArray.toList_eq]; simp
    · simp [ownS] at h
      rcases h with h | h
      · rw [h, crcB, ByteArray.toList_eq]; simp
      · rw [h, nonB, ByteArray.toList_eq]; simp
theorem first_S (S : ByteArray) (hl : S.size ≤ 281474976710656) (a : Option Addr) (n c : Nat) (os : List ByteArray) (w : World) (h : StAt w (.slice a n c) os) (hn : n ≤ maxLen) :
    Calls Tryd.prog 23 #[.string S, .slice a n c] w fun e w' => e = .returned (.string (firstP os (pcsS (nums S)))) ∧ Below w.heap.size w w' := by
  have := first_any (nums S) (nums_byte S) (by rw [nums_len]; exact hl) a n c os w h hn
  rw [str_nums] at this
  exact this
theorem st_one (W : World) (b : Nat) (x : ByteArray) (h : Bx W b #[.string x]) : StAt W (.slice (some ⟨b, 0, none⟩) 1 1) [x] := by
  refine ⟨some ⟨b, 0, none⟩, 1, rfl, by simp, .inr ⟨b, 0, rfl, h.lt, fun j hj => ?_⟩⟩
  obtain rfl : j = 0 := by simpa using hj
  simpa using h.cells 0 (by simp)
theorem st_two (W : World) (b : Nat) (x y : ByteArray) (h : Bx W b #[.string x, .string y]) : StAt W (.slice (some ⟨b, 0, none⟩) 2 2) [x, y] := by
  refine ⟨some ⟨b, 0, none⟩, 2, rfl, by simp, .inr ⟨b, 0, rfl, h.lt, fun j hj => ?_⟩⟩
  have : j < 2 := by simpa using hj
  rcases (by omega : j = 0 ∨ j = 1) with rfl | rfl
  · simpa using h.cells 0 (by simp)
  · simpa using h.cells 1 (by simp)

set_option maxRecDepth 100000 in
set_option maxHeartbeats 4000000 in
theorem agreeSums_any (L j : Nat) (hj : j = 15 ∨ j = 16) (s : Lg) (S : ByteArray) (w : World) (hX : Bx w L s.v) (hl : S.size ≤ 281474976710656) :
    Calls Tryd.prog 33 #[.pointer (some ⟨L, 0, none⟩), .string S, .pointer (some ⟨L, j, none⟩)] w fun e w' => e = .returned (.string (fstV s.sums S)) ∧ Bx w' L (s.v.setIfInBounds j (.bool (isCrc (fstV s.sums S)))) ∧ w.grownBy w' (some L) := by
  obtain ⟨b, hb⟩ : ∃ b, b = s.sums := ⟨_, rfl⟩
  rw [← hb]
  have hF : Kpt (∀ (W : World) (a : Option Addr) (n c : Nat), n ≤ 2 → StAt W (.slice a n c) (ownS b) → Calls Tryd.prog 23 #[.string S, .slice a n c] W fun e w' => e = .returned (.string (fstV b S)) ∧ Below W.heap.size W w') := ⟨fun W a n c hn h => first_S S hl a n c (ownS b) W h (by unfold maxLen; omega)⟩
  obtain ⟨x, hx⟩ : ∃ x, x = fstV b S := ⟨_, rfl⟩
  rw [← hx] at hF ⊢
  have hXw : Kpt (∀ W, Below w.heap.size w W → Bx W L s.v) := ⟨fun W h => hX.below h hX.lt⟩
  have hfin : Kpt (∀ (W : World) (v : Value), Below w.heap.size w W → w.grownBy (W.setCell ⟨L, j, none⟩ v) (some L) ∧ Bx (W.setCell ⟨L, j, none⟩ v) L (s.v.setIfInBounds j v)) := ⟨fun W v h => ⟨grown_tr (grown_of_below h _) (grown_setCellK W ⟨L, j, none⟩ v), bx_setC v (hX.below h hX.lt) (by simp [Lg.v]; omega)⟩⟩
  have c2 := hX.cells 2 (by simp [Lg.v])
  simp only [Lg.v, List.getElem?_toArray, List.getElem?_cons_succ, List.getElem?_cons_zero] at c2
  rw [← hb] at c2
  have hlt := hX.lt
  clear hX hx hb
  obtain ⟨q, hq⟩ : ∃ q, q = isCrc x := ⟨_, rfl⟩
  rw [← hq]
  unfold isCrc at hq
  replace hq := hq.symm
  rcases hj with rfl | rfl
  all_goals
    cases b
    all_goals
      cases q
      all_goals
        go_enter Tryd.func33, Tryd.ntmps33
        go_wp2_with (go_at_call 23; go_must (refine (hF.out _ _ _ _ (by omega) (by first | exact st_one _ _ _ (bx_new w _ 9) | exact st_two _ _ _ _ (by have h := bx_new (w.alloc (.cells #[.string nonB] 9)) #[.string crcB, .string nonB] 9; rw [show (w.alloc (.cells #[.string nonB] 9)).heap.size = w.heap.size + 1 from by simp] at h; exact h))).mono ?_; rintro e w2 ⟨rfl, hb2⟩; have hbw : Kpt (Below w.heap.size w w2) := ⟨by first | exact ((Below.refl w.heap.size w).alloc (Nat.le_refl _) _).trans (hb2.mono (by simp)) | exact (((Below.refl w.heap.size w).alloc (Nat.le_refl _) _).alloc (by simp) _).trans (hb2.mono (by simp; omega))⟩; have c15 := (hXw.out w2 hbw.out).cells 15 (by simp [Lg.v]); have c16 := (hXw.out w2 hbw.out).cells 16 (by simp [Lg.v]); have f15 := (hXw.out w2 hbw.out).free 15; have f16 := (hXw.out w2 hbw.out).free 16; simp only [Lg.v, List.getElem?_toArray, List.getElem?_cons_succ, List.getElem?_cons_zero] at c15 c16; clear hb2))
        go_ret
        exact ⟨rfl, (hfin.out w2 _ hbw.out).2, (hfin.out w2 _ hbw.out).1⟩
end Go.Proofs.YtplifodddfjhdabDoor
