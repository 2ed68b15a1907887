/-
  sess: pairs that are answered: appendPair, allTargets, tells, Parse of one key.
-/
import Derived.Test.YtdplndlmdhpfaabXRws
import Derived.Test.YtdplndlmdhpfaabEStc
namespace Go.Proofs.Ytdplndlmdhpfaab
open Go.RowKit
set_option linter.unusedVariables false
set_option linter.unusedSimpArgs false

def stB : ByteArray := ⟨#[83, 101, 110, 100, 84, 97, 114, 103, 101, 116, 115]⟩
def tnB : ByteArray := ⟨#[84, 97, 114, 103, 101, 116, 78, 97, 109, 101]⟩
def rjB : ByteArray := ⟨#[82, 101, 106, 101, 99, 116]⟩
theorem stB_size : stB.size = 11 := rfl
theorem tnB_size : tnB.size = 10 := rfl
theorem rjB_size : rjB.size = 6 := rfl
theorem rowL_len (K V : ByteArray) : (rowL (K, V)).length = K.size + 1 + V.size + 1 := by simp [rowL, nums_len]; omega

set_option maxRecDepth 100000 in
theorem appendPair_gen (base : Nat) (v : Value) (zs : List Int) (m : Nat) (key val : ByteArray) (w : World) (hown : w.ownsRow base 5 1 v m (cels zs)) (hs : m + (key.size + 1 + val.size + 1) ≤ 140737488355328) (hb : base ≤ w.heap.size) :
    Calls Try.prog 58 #[v, .string key, .string val] w fun e w' => ∃ v', e = .returned v' ∧ w'.ownsRow base 5 1 v' (m + (key.size + 1 + val.size + 1)) (cels (zs ++ rowL (key, val))) ∧ w.grownBy w' v.ownBlock := by
  obtain ⟨⟨va, vc, rfl⟩⟩ := own_slice hown
  have hownK := Kpt.mk hown
  have hbK := Kpt.mk hb
  have hsK : Kpt (m + (key ++ ⟨#[61]⟩ ++ val ++ ⟨#[0]⟩).size ≤ 140737488355328) := ⟨by rw [cat_size]; exact hs⟩
  have z1 : (⟨#[61]⟩ : ByteArray).size = 1 := rfl
  have z0 : (⟨#[0]⟩ : ByteArray).size = 1 := rfl
  have q1 : ¬ 9223372036854775807 < key.size + 1 := by omega
  have q2 : ¬ 9223372036854775807 < key.size + 1 + val.size := by omega
  have q3 : ¬ 9223372036854775807 < key.size + 1 + val.size + 1 := by omega
  clear hown hb hs
  go_enter Try.func58, Try.ntmps58
  go_wp2_with (refine (?_ : wpList _ _ _ (Oper.mk (some 13) _ _ _ _ _ :: _) _ _); go_must (refine wpList_append_str rfl (.tmp 7) (.tmp 12) rfl base (.slice va m vc) zs m (key ++ ⟨#[61]⟩ ++ val ++ ⟨#[0]⟩) rfl rfl hownK.out ?hA ?hB ?_))
  case hA => exact hsK.out
  case hB => exact hbK.out
  intro v' w' ho' hg'
  rw [row_str] at ho'
  go_wp2
  go_ret
  exact ⟨_, rfl, ho'.out, hg'.out⟩

set_option maxRecDepth 100000 in
theorem allT_dis (S : Nat) (s : Se) (H O T : List (Array Value)) (w : World) (h : Ss w S s H O T) (hd : s.dis = true) :
    Calls Try.prog 56 #[.pointer (some ⟨S, 0, none⟩)] w fun e w' => e = .returned (.string ⟨#[65, 108, 108]⟩) ∧ w' = w := by
  have c2 := (h.cell 2 (by omega)).1
  simp only [Se.v, List.getElem?_toArray, List.getElem?_cons_succ, List.getElem?_cons_zero] at c2
  rw [hd] at c2
  clear h hd
  go_enter Try.func56, Try.ntmps56
  go_wp2
  go_ret
  exact ⟨rfl, rfl⟩
set_option maxRecDepth 100000 in
theorem allT_one (S : Nat) (s : Se) (H O T : List (Array Value)) (w : World) (h : Ss w S s H O T) (hd : s.dis = false) :
    Calls Try.prog 56 #[.pointer (some ⟨S, 0, none⟩)] w fun e w' => e = .returned (.string ⟨#[]⟩) ∧ w' = w := by
  have c2 := (h.cell 2 (by omega)).1
  simp only [Se.v, List.getElem?_toArray, List.getElem?_cons_succ, List.getElem?_cons_zero] at c2
  rw [hd] at c2
  clear h hd
  go_enter Try.func56, Try.ntmps56
  go_wp2
  go_ret
  exact ⟨rfl, rfl⟩
set_option maxRecDepth 100000 in
theorem tells_dis (S : Nat) (s : Se) (H O T : List (Array Value)) (o : ByteArray) (w : World) (h : Ss w S s H O T) (hd : s.dis = true) :
    Calls Try.prog 57 #[.pointer (some ⟨S, 0, none⟩), .string o] w fun e w' => e = .returned (.bool true) ∧ Below w.heap.size w w' := by
  have c2 := (h.cell 2 (by omega)).1
  simp only [Se.v, List.getElem?_toArray, List.getElem?_cons_succ, List.getElem?_cons_zero] at c2
  rw [hd] at c2
  clear h hd
  go_enter Try.func57, Try.ntmps57
  go_wp2_with (go_quiet (fail))
  go_ret
  exact ⟨rfl, by first | exact below_drewN (Below.refl _ _) _ | exact Below.refl _ _⟩
set_option maxRecDepth 100000 in
theorem tells_one (S : Nat) (s : Se) (H O T : List (Array Value)) (o : ByteArray) (w : World) (h : Ss w S s H O T) (hd : s.dis = false) (ht : s.tgt = ⟨#[116]⟩) (b : Bool) (hb : (o.toList == [116]) = b) :
    Calls Try.prog 57 #[.pointer (some ⟨S, 0, none⟩), .string o] w fun e w' => e = .returned (.bool b) ∧ Below w.heap.size w w' := by
  have c2 := (h.cell 2 (by omega)).1
  have c1 := (h.cell 1 (by omega)).1
  simp only [Se.v, List.getElem?_toArray, List.getElem?_cons_succ, List.getElem?_cons_zero] at c2 c1
  rw [hd] at c2
  rw [ht] at c1
  clear h hd ht
  go_enter Try.func57, Try.ntmps57
  go_wp2_with (go_quiet (fail))
  go_ret
  refine ⟨?_, by first | exact below_drewN (Below.refl _ _) _ | exact Below.refl _ _⟩
  first | rfl | rw [hb] | simp [hb]

/-- Parse of a text with one key. -/
theorem parse_st (K V : ByteArray) (hE : wrE [(K, V)] = 0) (a : Option Addr) (n c : Nat) (w : World) (hr : RdAt w (.slice a n c) (rowL (K, V))) (hc : c ≤ maxLen) :
    Calls Try.prog 55 #[.slice a n c] w fun e w' => ∃ g cap, e = .returned (.tuple #[.slice (some ⟨g, 0, none⟩) 1 cap, .int .i64 0]) ∧ 1 ≤ cap ∧ cap ≤ 9223372036854775807 ∧ w'.rangeAt g 0 [.string K, .string V] ∧ g < w'.heap.size ∧ Below w.heap.size w w' := by
  obtain ⟨h1, h2, h3, h4⟩ := all_ok hE
  obtain ⟨e1, e2⟩ := par_back hE
  have eL : rowsL [(K, V)] = rowL (K, V) := by simp [rowsL]
  rw [eL] at e1 e2 h3
  have hlen : (rowL (K, V)).length = n := by obtain ⟨a', c', hv, _⟩ := hr; simp only [Value.slice.injEq] at hv; exact hv.2.1.symm
  have hby : Bytes (rowL (K, V)) := by rw [← eL]; exact rows_bytes _
  refine (parse_any a n c (rowL (K, V)) w hr (by omega) hc hby).mono ?_
  rintro e w' ⟨v, rfl, ho, hb⟩
  rw [e1]
  rw [e2] at ho
  rcases id ho.2 with ⟨_, h0⟩ | ⟨g, cap, cur, rfl, hg, hh, g1, g2, g3, g4⟩
  · simp at h0
  · refine ⟨g, cap, rfl, g1, by unfold maxLen at g2; omega, fun j x hx => ?_, (World.ownsRow.lt ho g rfl).2, hb⟩
    have hj : j < 2 := by have := (List.getElem?_eq_some_iff.1 hx).1; simpa using this
    rw [Nat.zero_add, World.ownsRow.cellAt ho j (by simpa using hj)]
    rw [← hx]
    rcases (by omega : j = 0 ∨ j = 1) with rfl | rfl
    · simp [cellsP, numP, str_nums]
    · simp [cellsP, numP, str_nums]
end Go.Proofs.Ytdplndlmdhpfaab
