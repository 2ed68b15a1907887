/-
  text: what Write writes, and what Parse says of it.
-/
import Derived.Test.YtkojkglaljiilaaXRw
import Derived.Test.YtkojkglaljiilaaXPs
namespace Go.Proofs.Ytkojkglaljiilaa
open Go.RowKit
set_option linter.unusedVariables false
set_option linter.unusedSimpArgs false

theorem rd_no (w : World) : RdAt w (.slice none 0 0) [] := ⟨none, 0, rfl, fun _ => ⟨rfl, rfl⟩, Nat.le_refl _, .inl rfl⟩
theorem own_cap {w : World} {base m : Nat} {va : Option Addr} {n vc : Nat} {cs : List Value} (h : w.ownsRow base 5 1 (.slice va n vc) m cs) : vc ≤ maxLen := by
  rcases id h.2 with ⟨e, h0⟩ | ⟨g, cap, cur, e, hb, hg, hnc, hcm, hcs, htake⟩
  · simp only [Value.slice.injEq] at e
    rw [e.2.2]; exact Nat.zero_le _
  · simp only [Value.slice.injEq] at e
    rw [e.2.2]; exact hcm

/-- Parse of what was written. -/
theorem parse_back {ps : List (ByteArray × ByteArray)} (hE : wrE ps = 0) (va : Option Addr) (m vc n : Nat) (hn : ps.length = n) (W : World) (hr : RdAt W (.slice va m vc) (rowsL ps)) (hm : m = (rowsL ps).length) (hc : vc ≤ maxLen) :
    Calls Try.prog 7 #[.slice va m vc] W fun e w' => ∃ a c, e = .returned (.tuple #[.slice a n c, .int .i64 0]) ∧ PsAt w' (.slice a n c) ps ∧ Below W.heap.size W w' := by
  obtain ⟨h1, h2, h3, h4⟩ := all_ok hE
  obtain ⟨e1, e2⟩ := par_back hE
  refine (parse_any va m vc (rowsL ps) W hr (by omega) hc (rows_bytes ps)).mono ?_
  rintro e w' ⟨v, rfl, ho, hb⟩
  rw [e2] at ho
  obtain ⟨hp, a, c, rfl, -, -⟩ := prs_of ho
  rw [prS_num] at hp
  rw [List.length_map, hn] at hp
  refine ⟨a, c, ?_, hp, hb⟩
  rw [e1, List.length_map, hn]

set_option maxRecDepth 100000 in
theorem twrites_long (a : Option Addr) (n c : Nat) (w : World) (hn : 64 < n) (hm : n ≤ maxLen) :
    Calls Try.prog 4 #[.slice a n c] w fun e w' => e = .returned (.bool true) ∧ Below w.heap.size w w' := by
  have hW := Kpt.mk (fun W => write_long a n c W hn hm)
  have hR := Kpt.mk (fun W => rwrite_long a n c W hn hm)
  clear hn hm
  go_enter Try.func4, Try.ntmps4
  go_wp2_with (first
    | (go_at_call 11; go_must (refine (hR.out _).mono ?_; rintro e w2 ⟨rfl, rfl⟩; have hcv := conv_rd (rd_no w2)))
    | (go_at_call 10; go_must (refine (hW.out _).mono ?_; rintro e w2 ⟨rfl, rfl⟩))
    | (go_at_call 6; go_must (refine (awake_any _).mono ?_; rintro e w1 ⟨rfl, hbe1⟩; have hbw : Kpt (Below w.heap.size w w1) := ⟨hbe1⟩; clear hbe1)))
  go_ret
  exact ⟨rfl, hbw.out⟩

set_option maxRecDepth 100000 in
set_option maxHeartbeats 1000000 in
theorem twrites_any (a : Option Addr) (n c : Nat) (ps : List (ByteArray × ByteArray)) (w : World) (hr : PsAt w (.slice a n c) ps) (hn : n ≤ 64) (hc : c ≤ maxLen) (hsz : ∀ p ∈ ps, p.1.size ≤ maxLen ∧ p.2.size ≤ maxLen) :
    Calls Try.prog 4 #[.slice a n c] w fun e w' => e = .returned (.bool true) ∧ Below w.heap.size w w' := by
  have hl : ps.length = n := by obtain ⟨a', c', hv, _⟩ := hr; simp only [Value.slice.injEq] at hv; exact hv.2.1.symm
  have hW := Kpt.mk (fun W (h : Below w.heap.size w W) => write_any a n c ps W (hr.bel h) hn hc hsz)
  have hR := Kpt.mk (fun W (h : Below w.heap.size w W) => rwrite_any a n c ps W (hr.bel h) hn hc hsz)
  have hrB : Kpt (∀ W, Below w.heap.size w W → PsAt W (.slice a n c) ps) := ⟨fun W h => hr.bel h⟩
  have hS := Kpt.mk (fun W b d (h : Below w.heap.size w W) (h2 : PsAt W (.slice b n d) ps) => same_any a b n c d ps W (hr.bel h) h2 (by unfold maxLen; omega))
  clear hr hsz hc
  by_cases hE : wrE ps = 0
  · have hO : wrO ps = rowsL ps := if_pos hE
    rw [hE, hO] at hW hR
    obtain ⟨m, hm⟩ : ∃ m, m = (rowsL ps).length := ⟨_, rfl⟩
    rw [← hm] at hW hR
    have hP := Kpt.mk (fun va vc W h1 h2 => parse_back hE va m vc n hl W h1 hm h2)
    obtain ⟨L, hL⟩ : ∃ L, L = rowsL ps := ⟨_, rfl⟩
    rw [← hL] at hW hR hP
    have hLm : Kpt (L.length = m) := ⟨by rw [hL, hm]⟩
    clear hE hO hm hL hl
    go_enter Try.func4, Try.ntmps4
    go_wp2_with (first
      | (go_at_call 9; go_must (refine (hS.out _ _ _ hbw.out hp4.out).mono ?_; rintro e w3 ⟨rfl, hs3⟩; replace hbw : Kpt (Below w.heap.size w w3) := ⟨hbw.out.trans (hs3.bel.mono hbw.out.size)⟩; clear hs3))
      | (go_at_call 7; go_must (refine (hP.out va vc _ (own_row hr4.out hLm.out) (own_cap hr4.out)).mono ?_; rintro e w2 ⟨pa, pc, rfl, hp4, hbe2⟩; replace hp4 := Kpt.mk hp4; replace hbw : Kpt (Below w.heap.size w w2) := ⟨hbw.out.trans (hbe2.mono hbw.out.size)⟩; clear hbe2))
      | (go_at_call 11; go_must (refine (hR.out _ hbw.out).mono ?_; rintro e w2 ⟨v2, rfl, hr7, hbe2⟩; obtain ⟨⟨vb, vd, rfl⟩⟩ := own_slice hr7; replace hr4 : Kpt (w2.ownsRow _ 5 1 (.slice va m vc) m (cels L)) := ⟨own_of_block hr4.out fun g hg => hbe2.block g (World.ownsRow.lt hr4.out g hg).2⟩; have cv1 := conv_rd (own_row hr4.out hLm.out); have cv2 := conv_rd (own_row hr7 hLm.out); replace hr7 := Kpt.mk hr7; replace hbw : Kpt (Below w.heap.size w w2) := ⟨hbw.out.trans (hbe2.mono hbw.out.size)⟩; clear hbe2))
      | (go_at_call 10; go_must (refine (hW.out _ hbw.out).mono ?_; rintro e w2 ⟨v1, rfl, hr4, hbe2⟩; obtain ⟨⟨va, vc, rfl⟩⟩ := own_slice hr4; replace hr4 := Kpt.mk hr4; replace hbw : Kpt (Below w.heap.size w w2) := ⟨hbw.out.trans (hbe2.mono hbw.out.size)⟩; clear hbe2))
      | (go_at_call 6; go_must (refine (awake_any _).mono ?_; rintro e w1 ⟨rfl, hbe1⟩; have hbw : Kpt (Below w.heap.size w w1) := ⟨hbe1⟩; clear hbe1)))
    go_ret
    exact ⟨rfl, hbw.out⟩
  · obtain ⟨L, hL⟩ : ∃ L, L = wrO ps := ⟨_, rfl⟩
    rw [← hL] at hW hR
    obtain ⟨m, hm⟩ : ∃ m, m = L.length := ⟨_, rfl⟩
    rw [← hm] at hW hR
    have hLm : Kpt (L.length = m) := ⟨hm.symm⟩
    obtain ⟨E, hEE⟩ : ∃ E, E = wrE ps := ⟨_, rfl⟩
    rw [← hEE] at hW hR hE
    clear hL hm hEE hl
    go_enter Try.func4, Try.ntmps4
    go_wp2_with (first
      | (go_at_call 11; go_must (refine (hR.out _ hbw.out).mono ?_; rintro e w2 ⟨v2, rfl, hr7, hbe2⟩; obtain ⟨⟨vb, vd, rfl⟩⟩ := own_slice hr7; replace hr4 : Kpt (w2.ownsRow _ 5 1 (.slice va m vc) m (cels L)) := ⟨own_of_block hr4.out fun g hg => hbe2.block g (World.ownsRow.lt hr4.out g hg).2⟩; have cv1 := conv_rd (own_row hr4.out hLm.out); have cv2 := conv_rd (own_row hr7 hLm.out); replace hr7 := Kpt.mk hr7; replace hbw : Kpt (Below w.heap.size w w2) := ⟨hbw.out.trans (hbe2.mono hbw.out.size)⟩; clear hbe2))
      | (go_at_call 10; go_must (refine (hW.out _ hbw.out).mono ?_; rintro e w2 ⟨v1, rfl, hr4, hbe2⟩; obtain ⟨⟨va, vc, rfl⟩⟩ := own_slice hr4; replace hr4 := Kpt.mk hr4; replace hbw : Kpt (Below w.heap.size w w2) := ⟨hbw.out.trans (hbe2.mono hbw.out.size)⟩; clear hbe2))
      | (go_at_call 6; go_must (refine (awake_any _).mono ?_; rintro e w1 ⟨rfl, hbe1⟩; have hbw : Kpt (Below w.heap.size w w1) := ⟨hbe1⟩; clear hbe1)))
    go_ret
    exact ⟨rfl, hbw.out⟩
end Go.Proofs.Ytkojkglaljiilaa
