/-
  PrPreempts.
-/
import Derived.Test.YtikndkmpedoooabPRes
namespace Go.Proofs.Ytikndkmpedoooab.prPreempts
open Go.Proofs.Ytikndkmpedoooab
open Go.RowKit
set_option linter.unusedVariables false
set_option linter.unusedSimpArgs false

def KK (x y : Int) : Nat → Int := upd (upd (fun _ => 0) 0 x) 1 y
theorem KK0 (x y : Int) : KK x y 0 = x := by simp [KK, upd]
theorem KK1 (x y : Int) : KK x y 1 = y := by simp [KK, upd]
theorem KKr (x y : Int) (hx : x ≠ 0) (hy : y ≠ 0) : regsTo (KK x y) 8 = [(0, x), (1, y)] := by simp [KK, regsTo, upd, hx, hy]
abbrev T3 (x y k : Int) : Tb := ⟨KK x y, k, 0, 2, false⟩
def K4 (x y : Int) : Nat → Int := fun i => if rmP 1 x ((i : Int), KK x y i) = true then 0 else KK x y i
theorem K40 (x y : Int) : K4 x y 0 = 0 := by simp [K4, rmP, KK0]
theorem K41 (x y : Int) : K4 x y 1 = y := by simp [K4, rmP, KK1]
theorem K4r (x y : Int) (hx : x ≠ 0) (hy : y ≠ 0) : regsTo (K4 x y) 8 = [(1, y)] := by
  have h2 : ∀ i, 2 ≤ i → K4 x y i = 0 := fun i hi => by
    have e0 : ¬ i = 0 := by omega
    have e1 : ¬ i = 1 := by omega
    simp [K4, KK, upd, e0, e1]
  simp [regsTo, K40, K41, hy, h2]
abbrev T4 (x y m : Int) : Tb := ⟨K4 x y, m, 1, 3, false⟩
theorem all_of (k : Int) (h : k = 1 ∨ k = 3 ∨ k = 5 ∨ k = 6) : isAll k = false ∧ isTy k = true ∧ k ≠ 0 := by
  rcases h with rfl | rfl | rfl | rfl <;> simp [isAll, isTy]
theorem pr_taken (x y k m sv : Int) (hx : x ≠ 0) (hy : y ≠ 0) (hk : k = 1 ∨ k = 3 ∨ k = 5 ∨ k = 6) (hm : isTy m = true) (hs : sv = 4 ∨ sv = 5) : (T3 x y k).taken x = true := by
  obtain ⟨h1, h2, h3⟩ := all_of k hk
  simp [Tb.taken, h1, h3, KK0]
theorem pr_has (x y k m sv : Int) (hx : x ≠ 0) (hy : y ≠ 0) (hk : k = 1 ∨ k = 3 ∨ k = 5 ∨ k = 6) (hm : isTy m = true) (hs : sv = 4 ∨ sv = 5) : (T3 x y k).has x = true := (has_iff _ _).2 ⟨0, by omega, KK0 x y⟩
theorem pr_pR (x y k m sv : Int) (hx : x ≠ 0) (hy : y ≠ 0) (hk : k = 1 ∨ k = 3 ∨ k = 5 ∨ k = 6) (hm : isTy m = true) (hs : sv = 4 ∨ sv = 5) : (T3 x y k).preemptR ⟨sv, m, y, x, false⟩ = (0, 0) := by
  unfold Tb.preemptR
  simp only [pr_taken x y k m sv hx hy hk hm hs, pr_has x y k m sv hx hy hk hm hs, hm]
  simp
theorem pr_al (x y k m sv : Int) (hx : x ≠ 0) (hy : y ≠ 0) (hk : k = 1 ∨ k = 3 ∨ k = 5 ∨ k = 6) (hm : isTy m = true) (hs : sv = 4 ∨ sv = 5) : (T3 x y k).allows 1 ⟨sv, m, y, x, false⟩ = true := by
  have h6 : ¬ sv = 6 := by omega
  have h0 : ¬ sv = 0 := by omega
  simp [Tb.allows, h6, h0, KK1, hy]
theorem pr_bad (x y k m sv : Int) (hx : x ≠ 0) (hy : y ≠ 0) (hk : k = 1 ∨ k = 3 ∨ k = 5 ∨ k = 6) (hm : isTy m = true) (hs : sv = 4 ∨ sv = 5) : ¬ (T3 x y k).bad 1 ⟨sv, m, y, x, false⟩ = true := by simp [Tb.bad]; omega
theorem pr_R (x y k m sv : Int) (hx : x ≠ 0) (hy : y ≠ 0) (hk : k = 1 ∨ k = 3 ∨ k = 5 ∨ k = 6) (hm : isTy m = true) (hs : sv = 4 ∨ sv = 5) : (T3 x y k).doR 1 ⟨sv, m, y, x, false⟩ = (0, 0) := by
  unfold Tb.doR
  rw [if_neg (pr_bad x y k m sv hx hy hk hm hs)]
  have := pr_al x y k m sv hx hy hk hm hs
  simp only [show (1 : Int).toNat = 1 from rfl, this]
  rw [if_neg (by simp), if_neg (by omega), if_neg (by omega), if_neg (by omega), if_pos hs]
  exact pr_pR x y k m sv hx hy hk hm hs
theorem pr_T (x y k m sv : Int) (hx : x ≠ 0) (hy : y ≠ 0) (hk : k = 1 ∨ k = 3 ∨ k = 5 ∨ k = 6) (hm : isTy m = true) (hs : sv = 4 ∨ sv = 5) : (T3 x y k).doT 1 ⟨sv, m, y, x, false⟩ = T4 x y m := by
  unfold Tb.doT
  rw [if_neg (pr_bad x y k m sv hx hy hk hm hs)]
  have := pr_al x y k m sv hx hy hk hm hs
  simp only [show (1 : Int).toNat = 1 from rfl, this]
  rw [if_neg (by simp), if_neg (by omega), if_neg (by omega), if_neg (by omega), if_pos hs]
  unfold Tb.preempt
  rw [pr_pR x y k m sv hx hy hk hm hs, if_neg (by simp), if_pos (pr_taken x y k m sv hx hy hk hm hs)]
  rfl
theorem pr_E (x y k m sv : Int) (hx : x ≠ 0) (hy : y ≠ 0) (hk : k = 1 ∨ k = 3 ∨ k = 5 ∨ k = 6) (hm : isTy m = true) (hs : sv = 4 ∨ sv = 5) : (T3 x y k).doE 1 ⟨sv, m, y, x, false⟩ = [(0, 10757)] := by
  unfold Tb.doE
  rw [if_neg (pr_bad x y k m sv hx hy hk hm hs)]
  have := pr_al x y k m sv hx hy hk hm hs
  simp only [show (1 : Int).toNat = 1 from rfl, this]
  rw [if_neg (by simp), if_neg (by omega), if_neg (by omega), if_neg (by omega), if_pos hs]
  unfold Tb.preemptE
  rw [pr_pR x y k m sv hx hy hk hm hs, if_neg (by simp)]
  have h1 : rmL 1 x (T3 x y k).regs = [(0, 10757)] := by
    show rmL 1 x (regsTo (KK x y) 8) = _
    rw [KKr x y hx hy]
    simp [rmL, rmP]
  have h2 : othersL 1 10756 ((T3 x y k).rm 1 x).regs = [] := by
    show othersL 1 10756 (regsTo (K4 x y) 8) = _
    rw [K4r x y hx hy]
    simp [othersL]
  simp only [h1, h2]
  split <;> rfl
theorem pr_reg0 (x y k m sv : Int) (hx : x ≠ 0) (hy : y ≠ 0) (hk : k = 1 ∨ k = 3 ∨ k = 5 ∨ k = 6) (hm : isTy m = true) (hs : sv = 4 ∨ sv = 5) : (T4 x y m).reg 0 = false := by simp [Tb.reg, K40]
theorem pr_reg1 (x y k m sv : Int) (hx : x ≠ 0) (hy : y ≠ 0) (hk : k = 1 ∨ k = 3 ∨ k = 5 ∨ k = 6) (hm : isTy m = true) (hs : sv = 4 ∨ sv = 5) : (T4 x y m).reg 1 = true := by simp [Tb.reg, K41, hy]
theorem pr_m0 (x y k m sv : Int) (hx : x ≠ 0) (hy : y ≠ 0) (hk : k = 1 ∨ k = 3 ∨ k = 5 ∨ k = 6) (hm : isTy m = true) (hs : sv = 4 ∨ sv = 5) : m ≠ 0 := fun e => by rw [e] at hm; simp [isTy] at hm
theorem pr_holds1 (x y k m sv : Int) (hx : x ≠ 0) (hy : y ≠ 0) (hk : k = 1 ∨ k = 3 ∨ k = 5 ∨ k = 6) (hm : isTy m = true) (hs : sv = 4 ∨ sv = 5) : (T4 x y m).holds 1 = true := by
  have h0 := pr_m0 x y k m sv hx hy hk hm hs
  have h1 := pr_reg1 x y k m sv hx hy hk hm hs
  unfold Tb.holds
  rw [if_neg h0, h1]
  split <;> simp
theorem pr_holds0 (x y k m sv : Int) (hx : x ≠ 0) (hy : y ≠ 0) (hk : k = 1 ∨ k = 3 ∨ k = 5 ∨ k = 6) (hm : isTy m = true) (hs : sv = 4 ∨ sv = 5) : (T4 x y m).holds 0 = false := by
  have h0 := pr_m0 x y k m sv hx hy hk hm hs
  have h1 := pr_reg0 x y k m sv hx hy hk hm hs
  unfold Tb.holds
  rw [if_neg h0, h1]
  split <;> simp
theorem pr_conf (x y k m sv : Int) (hx : x ≠ 0) (hy : y ≠ 0) (hk : k = 1 ∨ k = 3 ∨ k = 5 ∨ k = 6) (hm : isTy m = true) (hs : sv = 4 ∨ sv = 5) : (T4 x y m).conf 0 2 = true := by
  have h1 := pr_reg0 x y k m sv hx hy hk hm hs
  have h2 := pr_holds0 x y k m sv hx hy hk hm hs
  unfold Tb.conf
  rw [h1, h2]
  simp [isTy] at hm
  rcases hm with rfl | rfl | rfl | rfl | rfl | rfl <;> simp
theorem pr_res (x y k m sv : Int) (hx : x ≠ 0) (hy : y ≠ 0) (hk : k = 1 ∨ k = 3 ∨ k = 5 ∨ k = 6) (hm : isTy m = true) (hs : sv = 4 ∨ sv = 5) : (T4 x y m).res.1 = m := by
  have h0 := pr_m0 x y k m sv hx hy hk hm hs
  unfold Tb.res
  rw [if_neg h0]
  split <;> rfl
theorem pr_h0 (x y k m sv : Int) (hx : x ≠ 0) (hy : y ≠ 0) (hk : k = 1 ∨ k = 3 ∨ k = 5 ∨ k = 6) (hm : isTy m = true) (hs : sv = 4 ∨ sv = 5) : (T3 x y k).holds 0 = true := by
  obtain ⟨h1, h2, h3⟩ := all_of k hk
  simp [Tb.holds, h1, h3]
theorem pr_h1 (x y k m sv : Int) (hx : x ≠ 0) (hy : y ≠ 0) (hk : k = 1 ∨ k = 3 ∨ k = 5 ∨ k = 6) (hm : isTy m = true) (hs : sv = 4 ∨ sv = 5) : (T3 x y k).holds 1 = false := by
  obtain ⟨h1, h2, h3⟩ := all_of k hk
  simp [Tb.holds, h1, h3]

set_option maxRecDepth 100000 in
set_option maxHeartbeats 1000000 in
theorem pre_walk (x y a2 a3 : Int) (ab : Bool) (w : World) (hx : x ≠ 0) (hy : y ≠ 0) (hxy : x ≠ y) (hxr : 0 ≤ x ∧ x < 18446744073709551616) (hyr : 0 ≤ y ∧ y < 18446744073709551616)
    (i j : Nat) (hi : a2 % 4 = i) (hi4 : i < 4) (hj : a3 % 6 = j) (hj6 : j < 6) (h2 : 0 ≤ a2 ∧ a2 < 256) (h3 : 0 ≤ a3 ∧ a3 < 256)
    (k m : Int) (hk : k = 1 ∨ k = 3 ∨ k = 5 ∨ k = 6) (hm : isTy m = true)
    (hik : (#[.int .u8 1, .int .u8 3, .int .u8 5, .int .u8 6] : Array Value)[i]? = some (.int .u8 k)) (hjm : (#[.int .u8 1, .int .u8 3, .int .u8 5, .int .u8 6, .int .u8 7, .int .u8 8] : Array Value)[j]? = some (.int .u8 m)) :
    Calls Try.prog 3 #[.int .u64 x, .int .u64 y, .int .u8 a2, .int .u8 a3, .bool ab] w fun e w' => e = .returned (.bool true) ∧ Below w.heap.size w w' := by
  have hxb : ((x : Int) == 0) = false := by simp [hx]
  have hyb : ((y : Int) == 0) = false := by simp [hy]
  have hxyb : ((x : Int) == y) = false := by simp [hxy]
  have e1 : Kpt (zeroT.doT 0 ⟨6, 0, 0, x, false⟩ = ⟨upd (fun _ => 0) 0 x, 0, 0, 1, false⟩) := ⟨(ign_T zeroT 0 x false (by omega) hx).trans rfl⟩
  have e2 : Kpt (Tb.doT ⟨upd (fun _ => 0) 0 x, 0, 0, 1, false⟩ 1 ⟨6, 0, 0, y, false⟩ = T3 x y 0) := ⟨(ign_T _ 1 y false (by omega) hy).trans rfl⟩
  have e3 : Kpt ((T3 x y 0).doT 0 ⟨1, k, x, 0, false⟩ = T3 x y k) := ⟨rsv_T (T3 x y 0) 0 x k (by omega) (KK0 x y) hx (all_of k hk).2.1 rfl⟩
  have r3 : Kpt ((T3 x y 0).doR 0 ⟨1, k, x, 0, false⟩ = (0, 0)) := ⟨rsv_R (T3 x y 0) 0 x k (by omega) (KK0 x y) hx (all_of k hk).2.1 rfl⟩
  have q0 : Kpt ((T3 x y k).holds 0 = true) := ⟨pr_h0 x y k m 4 hx hy hk hm (.inl rfl)⟩
  have q1 : Kpt ((T3 x y k).holds 1 = false) := ⟨pr_h1 x y k m 4 hx hy hk hm (.inl rfl)⟩
  have e4 : Kpt (∀ sv, sv = 4 ∨ sv = 5 → (T3 x y k).doT 1 ⟨sv, m, y, x, false⟩ = T4 x y m) := ⟨fun sv hs => pr_T x y k m sv hx hy hk hm hs⟩
  have r4 : Kpt (∀ sv, sv = 4 ∨ sv = 5 → (T3 x y k).doR 1 ⟨sv, m, y, x, false⟩ = (0, 0)) := ⟨fun sv hs => pr_R x y k m sv hx hy hk hm hs⟩
  have E4 : Kpt (∀ sv, sv = 4 ∨ sv = 5 → (T3 x y k).doE 1 ⟨sv, m, y, x, false⟩ = [(0, 10757)]) := ⟨fun sv hs => pr_E x y k m sv hx hy hk hm hs⟩
  have q2 : Kpt ((T4 x y m).holds 1 = true) := ⟨pr_holds1 x y k m 4 hx hy hk hm (.inl rfl)⟩
  have q3 : Kpt ((T4 x y m).holds 0 = false) := ⟨pr_holds0 x y k m 4 hx hy hk hm (.inl rfl)⟩
  have q4 : Kpt ((T4 x y m).conf 0 2 = true) := ⟨pr_conf x y k m 4 hx hy hk hm (.inl rfl)⟩
  have q5 : Kpt ((T4 x y m).res.1 = m) := ⟨pr_res x y k m 4 hx hy hk hm (.inl rfl)⟩
  have q6 : Kpt ((T4 x y m).regs = [(1, y)]) := ⟨K4r x y hx hy⟩
  replace hx := Kpt.mk hx
  replace hy := Kpt.mk hy
  replace hxy := Kpt.mk hxy
  replace hxr := Kpt.mk hxr
  replace hyr := Kpt.mk hyr
  replace hm := Kpt.mk hm
  replace hk := Kpt.mk hk
  have hik2 : ∀ (h : i < ([.int .u8 1, .int .u8 3, .int .u8 5, .int .u8 6] : List Value).length), ([.int .u8 1, .int .u8 3, .int .u8 5, .int .u8 6] : List Value)[i]'h = .int .u8 k := fun h => by
    rw [List.getElem?_toArray, List.getElem?_eq_getElem h] at hik
    exact Option.some.inj hik
  have hjm2 : ∀ (h : j < ([.int .u8 1, .int .u8 3, .int .u8 5, .int .u8 6, .int .u8 7, .int .u8 8] : List Value).length), ([.int .u8 1, .int .u8 3, .int .u8 5, .int .u8 6, .int .u8 7, .int .u8 8] : List Value)[j]'h = .int .u8 m := fun h => by
    rw [List.getElem?_toArray, List.getElem?_eq_getElem h] at hjm
    exact Option.some.inj hjm
  clear hik hjm
  have hi4' : (i : Int) < 4 := by omega
  have hj6' : (j : Int) < 6 := by omega
  go_enter Try.func3, Try.ntmps3
  go_wp2_with fail
  refine (awake_any _).mono ?_
  rintro e w1 ⟨rfl, hb1⟩
  replace hb1 := Kpt.mk hb1
  go_wp2_with fail
  refine (new_from (w0 := w) ((hb1.out.alloc hb1.out.size _).alloc (by have := hb1.out.size; simp; omega) _)).mono ?_
  rintro e w2 ⟨B, rfl, hS, _, _⟩
  replace hS := Kpt.mk hS
  clear hb1 hik2 hjm2
  go_wp2_with fail
  refine (ss_do hS.out 0 ⟨6, 0, 0, x, false⟩ hxr.out).mono ?_
  rw [e1.out]
  rintro e w3 ⟨v3, rfl, _, hS3, _⟩
  replace hS3 := Kpt.mk hS3
  clear hS e1
  generalize zeroT.doR 0 ⟨6, 0, 0, x, false⟩ = Ra
  go_wp2_with fail
  refine (ss_do hS3.out 1 ⟨6, 0, 0, y, false⟩ hyr.out).mono ?_
  rw [e2.out]
  rintro e w4 ⟨v4, rfl, _, hS4, _⟩
  replace hS4 := Kpt.mk hS4
  clear hS3 e2
  generalize Tb.doR _ 1 ⟨6, 0, 0, y, false⟩ = Rb
  go_wp2_with fail
  refine (ss_do hS4.out 0 ⟨1, k, x, 0, false⟩ (by simp)).mono ?_
  rw [e3.out, r3.out]
  rintro e w5 ⟨v5, rfl, _, hS5, _⟩
  have hT5 := Kpt.mk hS5.tab
  replace hS5 := Kpt.mk hS5
  clear hS4 e3 r3
  dsimp only
  go_wp2_with fail
  refine (holds_any B _ 0 _ hT5.out).mono ?_
  rw [q0.out]
  rintro e w5 ⟨rfl, rfl⟩
  go_wp2_with fail
  refine (holds_any B _ 1 _ hT5.out).mono ?_
  rw [q1.out]
  rintro e w5 ⟨rfl, rfl⟩
  clear hT5 q0 q1
  have HD : Kpt (∀ sv, sv = 4 ∨ sv = 5 → Calls Try.prog 7 #[.pointer (some ⟨B, 0, none⟩), .int .i64 1, .agg #[.int .u8 sv, .int .u8 m, .int .u64 y, .int .u64 x, .bool false]] (w5.alloc (.cells #[.int .u8 sv, .int .u8 m, .int .u64 y, .int .u64 x, .bool false] 33)) fun e w' => ∃ v, e = .returned (.tuple #[.int .u8 0, .int .u16 0, v]) ∧ Own .u16 40 (w5.heap.size + 1) w' v [(0, 10757)] ∧ Ss w w' B (T4 x y m)) := ⟨fun sv hs => by
    have h := ss_do (hS5.out.below ((Below.refl _ _).alloc (Nat.le_refl _) (.cells #[.int .u8 sv, .int .u8 m, .int .u64 y, .int .u64 x, .bool false] 33))) 1 ⟨sv, m, y, x, false⟩ hxr.out
    rw [e4.out sv hs, r4.out sv hs, E4.out sv hs] at h
    exact h.mono fun e w' ⟨v, h1, h2, h3, _⟩ => ⟨v, h1, by simpa using h2, h3⟩⟩
  clear e4 r4 E4 hS5
  cases ab with
  | false =>
    go_wp2_with fail
    refine (HD.out 4 (.inl rfl)).mono ?_
    rintro e w6 ⟨v6, rfl, hO6, hS6⟩
    obtain ⟨a6, c6, hv6, hs6⟩ := hO6.shape
    subst hv6
    rcases hs6 with ⟨_, _, hz⟩ | ⟨g6, rfl, hbg6, hg6, hc61, hc62, hrr6⟩
    · simp at hz
    have h6 := Kpt.mk (hrr6 0 _ rfl)
    replace hS6 := Kpt.mk hS6
    clear hO6 hrr6 HD
    dsimp only [List.length_cons, List.length_nil] at hc61 ⊢
    go_wp2_with fail
    refine (regs_any B _ w6 hS6.out.tab).mono ?_
    rw [q6.out]
    rintro e w7 ⟨v7, rfl, hO7, hB7⟩
    have hS7 := Kpt.mk (hS6.out.below hB7)
    have h67 := Kpt.mk (rangeAt_of_block h6.out (hB7.block g6 hg6))
    have hg67 : g6 < w7.heap.size := Nat.lt_of_lt_of_le hg6 hB7.size
    obtain ⟨a7, c7, hv7, hs7⟩ := hO7.shape
    subst hv7
    rcases hs7 with ⟨_, _, hz⟩ | ⟨g7, rfl, hbg7, hg7, hc71, hc72, hrr7⟩
    · simp at hz
    have h7 := Kpt.mk (hrr7 0 _ rfl)
    clear hO7 hrr7 hB7 h6 hS6 hg6
    dsimp only [List.length_cons, List.length_nil] at hc71 ⊢
    go_wp2_with fail
    refine (reserved_any B _ w7 hS7.out.tab).mono ?_
    rw [q5.out]
    rintro e w8 ⟨rfl, q, hq⟩
    have hT8 : Kpt (Tab w8 B (T4 x y m)) := ⟨by rw [hq]; exact hS7.out.tab.drewN q⟩
    have hB8 : Kpt (Below w.heap.size w w8) := ⟨by rw [hq]; exact below_drewN hS7.out.bel q⟩
    obtain ⟨c0, c1⟩ := range2 (κ := .u16) (w := w8) (b := g6) (o := 0 * 2) (t := (0, 10757)) (by rw [hq]; exact h67.out)
    obtain ⟨d0, d1⟩ := range2 (κ := .u64) (w := w8) (b := g7) (o := 0 * 2) (t := (1, y)) (by rw [hq]; exact h7.out)
    have hg68 : g6 < w8.heap.size := by rw [hq]; exact hg67
    have hg78 : g7 < w8.heap.size := by rw [hq]; exact hg7
    simp only [Nat.zero_mul, Nat.zero_add] at c0 c1 d0 d1
    clear hq hS7 h67 h7 hg67 hg7
    generalize (T4 x y m).res.2 = r2
    dsimp only
    go_wp2_with fail
    refine (holds_any B _ 1 _ hT8.out).mono ?_
    rw [q2.out]
    rintro e w8 ⟨rfl, rfl⟩
    go_wp2_with fail
    refine (holds_any B _ 0 _ hT8.out).mono ?_
    rw [q3.out]
    rintro e w8 ⟨rfl, rfl⟩
    go_wp2_with fail
    refine (conflict_any B _ 0 2 _ hT8.out).mono ?_
    rw [q4.out]
    rintro e w8 ⟨rfl, rfl⟩
    go_wp2
    go_ret
    exact ⟨rfl, hB8.out⟩
  | true =>
    go_wp2_with fail
    refine (HD.out 5 (.inr rfl)).mono ?_
    rintro e w6 ⟨v6, rfl, hO6, hS6⟩
    obtain ⟨a6, c6, hv6, hs6⟩ := hO6.shape
    subst hv6
    rcases hs6 with ⟨_, _, hz⟩ | ⟨g6, rfl, hbg6, hg6, hc61, hc62, hrr6⟩
    · simp at hz
    have h6 := Kpt.mk (hrr6 0 _ rfl)
    replace hS6 := Kpt.mk hS6
    clear hO6 hrr6 HD
    dsimp only [List.length_cons, List.length_nil] at hc61 ⊢
    go_wp2_with fail
    refine (regs_any B _ w6 hS6.out.tab).mono ?_
    rw [q6.out]
    rintro e w7 ⟨v7, rfl, hO7, hB7⟩
    have hS7 := Kpt.mk (hS6.out.below hB7)
    have h67 := Kpt.mk (rangeAt_of_block h6.out (hB7.block g6 hg6))
    have hg67 : g6 < w7.heap.size := Nat.lt_of_lt_of_le hg6 hB7.size
    obtain ⟨a7, c7, hv7, hs7⟩ := hO7.shape
    subst hv7
    rcases hs7 with ⟨_, _, hz⟩ | ⟨g7, rfl, hbg7, hg7, hc71, hc72, hrr7⟩
    · simp at hz
    have h7 := Kpt.mk (hrr7 0 _ rfl)
    clear hO7 hrr7 hB7 h6 hS6 hg6
    dsimp only [List.length_cons, List.length_nil] at hc71 ⊢
    go_wp2_with fail
    refine (reserved_any B _ w7 hS7.out.tab).mono ?_
    rw [q5.out]
    rintro e w8 ⟨rfl, q, hq⟩
    have hT8 : Kpt (Tab w8 B (T4 x y m)) := ⟨by rw [hq]; exact hS7.out.tab.drewN q⟩
    have hB8 : Kpt (Below w.heap.size w w8) := ⟨by rw [hq]; exact below_drewN hS7.out.bel q⟩
    obtain ⟨c0, c1⟩ := range2 (κ := .u16) (w := w8) (b := g6) (o := 0 * 2) (t := (0, 10757)) (by rw [hq]; exact h67.out)
    obtain ⟨d0, d1⟩ := range2 (κ := .u64) (w := w8) (b := g7) (o := 0 * 2) (t := (1, y)) (by rw [hq]; exact h7.out)
    have hg68 : g6 < w8.heap.size := by rw [hq]; exact hg67
    have hg78 : g7 < w8.heap.size := by rw [hq]; exact hg7
    simp only [Nat.zero_mul, Nat.zero_add] at c0 c1 d0 d1
    clear hq hS7 h67 h7 hg67 hg7
    generalize (T4 x y m).res.2 = r2
    dsimp only
    go_wp2_with fail
    refine (holds_any B _ 1 _ hT8.out).mono ?_
    rw [q2.out]
    rintro e w8 ⟨rfl, rfl⟩
    go_wp2_with fail
    refine (holds_any B _ 0 _ hT8.out).mono ?_
    rw [q3.out]
    rintro e w8 ⟨rfl, rfl⟩
    go_wp2_with fail
    refine (conflict_any B _ 0 2 _ hT8.out).mono ?_
    rw [q4.out]
    rintro e w8 ⟨rfl, rfl⟩
    go_wp2
    go_ret
    exact ⟨rfl, hB8.out⟩

set_option maxRecDepth 100000 in
set_option maxHeartbeats 4000000 in
theorem pre_none (x y a2 a3 : Int) (ab : Bool) (w : World) (h : x = 0 ∨ (x ≠ 0 ∧ y = 0) ∨ (x ≠ 0 ∧ y ≠ 0 ∧ x = y)) :
    Calls Try.prog 3 #[.int .u64 x, .int .u64 y, .int .u8 a2, .int .u8 a3, .bool ab] w fun e w' => e = .returned (.bool true) ∧ Below w.heap.size w w' := by
  rcases h with rfl | ⟨hx, rfl⟩ | ⟨hx, hy, rfl⟩
  case inl =>
    go_enter Try.func3, Try.ntmps3
    go_wp2_with fail
    refine (awake_any _).mono ?_
    rintro e w1 ⟨rfl, hb1⟩
    replace hb1 := Kpt.mk hb1
    go_wp2_with fail
    refine (awake_any _).mono ?_
    rintro e w2 ⟨rfl, hb2⟩
    replace hb2 := Kpt.mk hb2
    go_wp2
    go_ret
    exact ⟨rfl, hb1.out.trans (hb2.out.mono hb1.out.size)⟩
  case inr.inl =>
    have hxb : ((x : Int) == 0) = false := by simp [hx]
    go_enter Try.func3, Try.ntmps3
    go_wp2_with fail
    refine (awake_any _).mono ?_
    rintro e w1 ⟨rfl, hb1⟩
    replace hb1 := Kpt.mk hb1
    go_wp2_with fail
    refine (awake_any _).mono ?_
    rintro e w2 ⟨rfl, hb2⟩
    replace hb2 := Kpt.mk hb2
    go_wp2
    go_ret
    exact ⟨rfl, hb1.out.trans (hb2.out.mono hb1.out.size)⟩
  case inr.inr =>
    have hxb : ((x : Int) == 0) = false := by simp [hx]
    go_enter Try.func3, Try.ntmps3
    go_wp2_with fail
    refine (awake_any _).mono ?_
    rintro e w1 ⟨rfl, hb1⟩
    replace hb1 := Kpt.mk hb1
    go_wp2_with fail
    refine (awake_any _).mono ?_
    rintro e w2 ⟨rfl, hb2⟩
    replace hb2 := Kpt.mk hb2
    go_wp2
    go_ret
    exact ⟨rfl, hb1.out.trans (hb2.out.mono hb1.out.size)⟩
theorem pre_all (x y a2 a3 : Int) (ab : Bool) (w : World) (hxr : 0 ≤ x ∧ x < 18446744073709551616) (hyr : 0 ≤ y ∧ y < 18446744073709551616) (h2 : 0 ≤ a2 ∧ a2 < 256) (h3 : 0 ≤ a3 ∧ a3 < 256) :
    Calls Try.prog 3 #[.int .u64 x, .int .u64 y, .int .u8 a2, .int .u8 a3, .bool ab] w fun e w' => e = .returned (.bool true) ∧ Below w.heap.size w w' := by
  by_cases hx : x = 0
  · exact pre_none x y a2 a3 ab w (.inl hx)
  by_cases hy : y = 0
  · exact pre_none x y a2 a3 ab w (.inr (.inl ⟨hx, hy⟩))
  by_cases hxy : x = y
  · exact pre_none x y a2 a3 ab w (.inr (.inr ⟨hx, hy, hxy⟩))
  obtain ⟨i, hi⟩ : ∃ i : Nat, a2 % 4 = i := ⟨(a2 % 4).toNat, by omega⟩
  obtain ⟨j, hj⟩ : ∃ j : Nat, a3 % 6 = j := ⟨(a3 % 6).toNat, by omega⟩
  have hi4 : i < 4 := by omega
  have hj6 : j < 6 := by omega
  obtain ⟨k, hk, hik⟩ : ∃ k : Int, (k = 1 ∨ k = 3 ∨ k = 5 ∨ k = 6) ∧ (#[.int .u8 1, .int .u8 3, .int .u8 5, .int .u8 6] : Array Value)[i]? = some (.int .u8 k) := by
    obtain rfl | rfl | rfl | rfl : i = 0 ∨ i = 1 ∨ i = 2 ∨ i = 3 := by omega
    · exact ⟨1, by omega, rfl⟩
    · exact ⟨3, by omega, rfl⟩
    · exact ⟨5, by omega, rfl⟩
    · exact ⟨6, by omega, rfl⟩
  obtain ⟨m, hm, hjm⟩ : ∃ m : Int, isTy m = true ∧ (#[.int .u8 1, .int .u8 3, .int .u8 5, .int .u8 6, .int .u8 7, .int .u8 8] : Array Value)[j]? = some (.int .u8 m) := by
    obtain rfl | rfl | rfl | rfl | rfl | rfl : j = 0 ∨ j = 1 ∨ j = 2 ∨ j = 3 ∨ j = 4 ∨ j = 5 := by omega
    · exact ⟨1, rfl, rfl⟩
    · exact ⟨3, rfl, rfl⟩
    · exact ⟨5, rfl, rfl⟩
    · exact ⟨6, rfl, rfl⟩
    · exact ⟨7, rfl, rfl⟩
    · exact ⟨8, rfl, rfl⟩
  exact pre_walk x y a2 a3 ab w hx hy hxy hxr hyr i j hi hi4 hj hj6 h2 h3 k m hk hm hik hjm
end Go.Proofs.Ytikndkmpedoooab.prPreempts
