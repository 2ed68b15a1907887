/-
  text: what keys and numbers say, and what two sides come to.
-/
import Derived.Test.YtkojkglaljiilaaDoorXRfs
import Derived.Test.YtkojkglaljiilaaDoorXRfd
import Derived.Test.YtkojkglaljiilaaDoorXYn
namespace Go.Proofs.YtkojkglaljiilaaDoor
open Go.RowKit
set_option linter.unusedVariables false
set_option linter.unusedSimpArgs false

theorem sm_below {w w' : World} (h : Sm w w') : Below w.heap.size w w' := h.bel

set_option maxRecDepth 100000 in
set_option maxHeartbeats 4000000 in
theorem asks_any (a : Option Addr) (n c : Nat) (ps : List (ByteArray × ByteArray)) (k S : ByteArray) (a3 : Option Addr) (n3 c3 : Nat) (os : List ByteArray) (m low high : Nat) (yes : Bool) (w : World) (hG : Gl w)
    (hps : PsAt w (.slice a n c) ps) (hn : n ≤ maxLen) (hS : S.size ≤ 281474976710656) (hos : StAt w (.slice a3 n3 c3) os) (hn3 : n3 ≤ maxLen) (hm : m < 18446744073709551616) (hlow : low < 18446744073709551616) (hhigh : high < 18446744073709551616) :
    Calls Tryd.prog 3 #[.slice a n c, .string k, .string S, .slice a3 n3 c3, .int .u64 (m : Nat), .int .u64 (low : Nat), .int .u64 (high : Nat), .bool yes] w fun e w' => e = .returned (.bool true) ∧ Below w.heap.size w w' := by
  have hSm : S.size ≤ maxLen := by unfold maxLen; omega
  have f1 : Kpt (∀ W, Below w.heap.size w W → Calls Tryd.prog 6 #[.slice a n c, .string k] W fun e w' => e = .returned (.tuple #[.string (findV (findP ps k)), .bool (findP ps k).isSome]) ∧ Below W.heap.size W w') := ⟨fun W hb => find_any a n c ps k W (hps.bel hb) hn⟩
  have f2 : Kpt (∀ W, Below w.heap.size w W → Calls Tryd.prog 7 #[.slice a n c, .string k] W fun e w' => e = .returned (.tuple #[.string (findV (findP ps k)), .bool (findP ps k).isSome]) ∧ w' = W) := ⟨fun W hb => rfind_any a n c ps k W (hps.bel hb) hn⟩
  have f3 : Kpt (∀ W, Below w.heap.size w W → Calls Tryd.prog 8 #[.string S] W fun e w' => e = .returned (.tuple #[.int .u64 (numV (numS (nums S))), .bool (numS (nums S)).isSome]) ∧ Below W.heap.size W w') := ⟨fun W hb => number_any S W hS (hG.below hb)⟩
  have f4 : Kpt (∀ W : World, Calls Tryd.prog 9 #[.string S] W fun e w' => e = .returned (.tuple #[.int .u64 (numV (numS (nums S))), .bool (numS (nums S)).isSome]) ∧ w' = W) := ⟨fun W => rnumber_any S W hSm⟩
  have f5 : Kpt (∀ W, Below w.heap.size w W → Calls Tryd.prog 10 #[.string S, .int .u64 (m : Nat), .int .u64 (low : Nat), .int .u64 (high : Nat)] W fun e w' => e = .returned (.string (leastS (numS (nums S)) m low high)) ∧ Below W.heap.size W w') := ⟨fun W hb => least_any S m low high W hS (hG.below hb) hm hlow hhigh⟩
  have f6 : Kpt (∀ W : World, Calls Tryd.prog 11 #[.string S, .int .u64 (m : Nat), .int .u64 (low : Nat), .int .u64 (high : Nat)] W fun e w' => e = .returned (.string (leastS (numS (nums S)) m low high)) ∧ Below W.heap.size W w') := ⟨fun W => rleast_any S m low high W hSm hm hlow hhigh⟩
  have f7 : Kpt (∀ W, Below w.heap.size w W → Calls Tryd.prog 16 #[.string S, .slice a3 n3 c3] W fun e w' => e = .returned (.string (firstP os (pcsS (nums S)))) ∧ Below W.heap.size W w') := ⟨fun W hb => by
    have := first_any (nums S) (nums_byte S) (by rw [nums_len]; exact hS) a3 n3 c3 os W (hos.bel hb) hn3
    rw [str_nums] at this
    exact this⟩
  have f8 : Kpt (∀ W, Below w.heap.size w W → Calls Tryd.prog 17 #[.string S, .slice a3 n3 c3] W fun e w' => e = .returned (.string (firstP os (pcsS (nums S)))) ∧ Sm W w') := ⟨fun W hb => rfirst_any S hS a3 n3 c3 os W (hos.bel hb) hn3⟩
  obtain ⟨fv, hfv⟩ : ∃ x, x = findV (findP ps k) := ⟨_, rfl⟩
  obtain ⟨fb, hfb⟩ : ∃ x, x = (findP ps k).isSome := ⟨_, rfl⟩
  obtain ⟨nv, hnv⟩ : ∃ x, x = numV (numS (nums S)) := ⟨_, rfl⟩
  obtain ⟨nb, hnb⟩ : ∃ x, x = (numS (nums S)).isSome := ⟨_, rfl⟩
  obtain ⟨ls, hls⟩ : ∃ x, x = leastS (numS (nums S)) m low high := ⟨_, rfl⟩
  obtain ⟨fs, hfs⟩ : ∃ x, x = firstP os (pcsS (nums S)) := ⟨_, rfl⟩
  obtain ⟨bs, hbs⟩ : ∃ x, x = bothS S yes := ⟨_, rfl⟩
  obtain ⟨es, hes⟩ : ∃ x, x = eitherS S yes := ⟨_, rfl⟩
  rw [← hfv, ← hfb] at f1 f2
  rw [← hnv, ← hnb] at f3 f4
  rw [← hls] at f5 f6
  rw [← hfs] at f7 f8
  have f9 : Kpt (∀ W : World, Calls Tryd.prog 12 #[.string S, .bool yes] W fun e w' => e = .returned (.string bs) ∧ w' = W) := ⟨fun W => by rw [hbs]; exact both_any S yes W⟩
  have f10 : Kpt (∀ W : World, Calls Tryd.prog 13 #[.string S, .bool yes] W fun e w' => e = .returned (.string bs) ∧ w' = W) := ⟨fun W => by rw [hbs]; exact rboth_any S yes W⟩
  have f11 : Kpt (∀ W : World, Calls Tryd.prog 14 #[.string S, .bool yes] W fun e w' => e = .returned (.string es) ∧ w' = W) := ⟨fun W => by rw [hes]; exact either_any S yes W⟩
  have f12 : Kpt (∀ W : World, Calls Tryd.prog 15 #[.string S, .bool yes] W fun e w' => e = .returned (.string es) ∧ w' = W) := ⟨fun W => by rw [hes]; exact reither_any S yes W⟩
  clear hfv hfb hnv hnb hls hfs hbs hes hps hn hS hos hn3 hm hlow hhigh hSm hG
  go_enter Tryd.func3, Tryd.ntmps3
  go_wp2_with (first
    | (go_at_call 17; go_must (refine (f8.out _ b5.out).mono ?_; rintro e w6 ⟨rfl, hq⟩; have b6 : Kpt (Below w.heap.size w w6) := ⟨b5.out.trans (hq.bel.mono b5.out.size)⟩; clear hq))
    | (go_at_call 16; go_must (refine (f7.out _ b4x.out).mono ?_; rintro e w5 ⟨rfl, hq⟩; have b5 : Kpt (Below w.heap.size w w5) := ⟨b4x.out.trans (hq.mono b4x.out.size)⟩; clear hq))
    | (go_at_call 15; go_must (refine (f12.out _).mono ?_; rintro e wx ⟨rfl, rfl⟩))
    | (go_at_call 14; go_must (refine (f11.out _).mono ?_; rintro e wx ⟨rfl, rfl⟩))
    | (go_at_call 13; go_must (refine (f10.out _).mono ?_; rintro e wx ⟨rfl, rfl⟩))
    | (go_at_call 12; go_must (refine (f9.out _).mono ?_; rintro e wx ⟨rfl, rfl⟩))
    | (go_at_call 11; go_must (refine (f6.out _).mono ?_; rintro e w4x ⟨rfl, hq⟩; have b4x : Kpt (Below w.heap.size w w4x) := ⟨b4.out.trans (hq.mono b4.out.size)⟩; clear hq))
    | (go_at_call 10; go_must (refine (f5.out _ b3.out).mono ?_; rintro e w4 ⟨rfl, hq⟩; have b4 : Kpt (Below w.heap.size w w4) := ⟨b3.out.trans (hq.mono b3.out.size)⟩; clear hq))
    | (go_at_call 9; go_must (refine (f4.out _).mono ?_; rintro e wx ⟨rfl, rfl⟩))
    | (go_at_call 8; go_must (refine (f3.out _ b2.out).mono ?_; rintro e w3 ⟨rfl, hq⟩; have b3 : Kpt (Below w.heap.size w w3) := ⟨b2.out.trans (hq.mono b2.out.size)⟩; clear hq))
    | (go_at_call 7; go_must (refine (f2.out _ b2.out).mono ?_; rintro e wx ⟨rfl, rfl⟩))
    | (go_at_call 6; go_must (refine (f1.out _ b1.out).mono ?_; rintro e w2 ⟨rfl, hq⟩; have b2 : Kpt (Below w.heap.size w w2) := ⟨b1.out.trans (hq.mono b1.out.size)⟩; clear hq))
    | (go_at_call 5; go_must (refine (awake_any _).mono ?_; rintro e w1 ⟨rfl, hq⟩; have b1 : Kpt (Below w.heap.size w w1) := ⟨hq⟩; clear hq)))
  go_ret
  exact ⟨rfl, b6.out⟩
end Go.Proofs.YtkojkglaljiilaaDoor
