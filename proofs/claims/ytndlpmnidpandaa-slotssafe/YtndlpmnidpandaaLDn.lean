/-
  The power goes off: call, Read, Write, Sync where it does; Plan of nothing with a number at which it will.
-/
import Derived.Test.YtndlpmnidpandaaLCrash
namespace Go.Proofs.Ytndlpmnidpandaa
open Go.RowKit Go.Maps
set_option linter.unusedVariables false
set_option linter.unusedSimpArgs false

/-- The state behind a call at which the power went off. -/
def dnSt (st : St) : St := { st with ops := st.ops + 1, cnt := st.cnt + 1, off := true, fails := fun _ => true }

theorem Inv.down {w w' : World} {B : Nat} {tag : Tags} {st : St} {M1 M2 n2 : Nat} {wv : Value} {fv : Option Nat} {f1 f2 : ByteArray → Option Value} {l : List (Chg × Value)} (h : Inv w B tag st M1 M2 wv fv f1 f2 l n2) (hg : w.grownBy w' (some B)) (hc : w'.heap[B]? = some (.cells (wdCells M1 M2 wv fv (st.ops + 1) st.stop true) 71 (0, 0))) :
    Inv w' B tag (dnSt st) M1 M2 wv fv f1 f2 l n2 := by
  have s : Step w w' tag tag (fun t => t = .wd) := Step.turned hg tag h.tB rfl
  exact {
    cell := hc
    tB := h.tB
    t1 := h.t1
    t2 := h.t2
    map1 := (h.map1.of_block (s.keep h.map1.lt h.t1 (by simp)).1).mono (Nat.le_succ _)
    map2 := h.map2.of_block (s.keep h.map2.lt h.t2 (by simp)).1
    seen := h.seen.step s (by simp)
    dur := h.dur.step s (by simp)
    waits := h.waits.step s (by simp) (by simp)
    l_eq := h.l_eq
    fails := by
      obtain ⟨p, h1, h2⟩ := h.fails.step s (by simp)
      exact ⟨p, h1, fun x _ => by show true = (p x || decide (x = st.stop) || true); simp⟩
    lt := s.lt h.lt
    opsLo := by have := h.opsLo; show 0 ≤ st.ops + 1; omega
    opsHi := by have := h.opsHi; show st.ops + 1 ≤ ((st.cnt + 1 : Nat) : Int); omega
    cnt2 := by have := h.cnt2; show n2 + l.length ≤ st.cnt + 1; omega }

set_option maxRecDepth 100000 in
set_option maxHeartbeats 1000000 in
theorem call_down (w : World) (B : Nat) (tag : Tags) (st : St) (M1 M2 n2 : Nat) (wv : Value) (fv : Option Nat) (f1 f2 : ByteArray → Option Value) (l : List (Chg × Value))
    (h : Inv w B tag st M1 M2 wv fv f1 f2 l n2) (hc : st.cnt < 1099511627776) (hst : st.stop = st.ops) (hof : st.off = false) :
    Calls Try.prog 41 #[.pointer (some ⟨B, 0, none⟩)] w fun e w' => e = .returned (.int .i64 7) ∧
      Inv w' B tag (dnSt st) M1 M2 wv fv f1 f2 l n2 ∧ w.grownBy w' (some B) := by
  obtain ⟨c0, c1, c2, c3, c4, c5, c6⟩ := h.at
  rw [hof] at c6
  rw [hst] at c4
  have fz := h.frozen 5
  have fz6 := h.frozen 6
  have o1 := h.opsLo
  have o2 := h.opsHi
  have hfin : ∀ W, W = (w.setCell ⟨B, 5, none⟩ (.int .i64 (st.ops + 1))).setCell ⟨B, 6, none⟩ (.bool true) → Inv W B tag (dnSt st) M1 M2 wv fv f1 f2 l n2 ∧ w.grownBy W (some B) := by
    rintro W rfl
    have hg : w.grownBy ((w.setCell ⟨B, 5, none⟩ (.int .i64 (st.ops + 1))).setCell ⟨B, 6, none⟩ (.bool true)) (some B) := (grown_setCell w B 5 _).andThen (grown_setCell _ B 6 _) (fun j h => .inr h)
    refine ⟨h.down hg ?_, hg⟩
    rw [setCell_own _ B 6 _ _ _ (setCell_own w B 5 _ _ _ h.cell)]
    simp [wdCells]
  obtain ⟨x, hx⟩ : ∃ x, x = st.ops := ⟨_, rfl⟩
  rw [← hx] at c4 c5 o1 o2 hfin
  replace hfin := Kpt.mk hfin
  clear hx h hst hof
  go_enter Try.func41, Try.ntmps41
  go_wp2_with (go_at_call 52; refine (ready_ok B M2 _ c1).mono ?_; rintro e w' ⟨rfl, hw'⟩; rw [hw'])
  go_ret
  exact ⟨rfl, hfin.out _ rfl⟩

set_option maxRecDepth 100000 in
set_option maxHeartbeats 1000000 in
theorem sync_down (w : World) (B : Nat) (tag : Tags) (st : St) (h : Wd w B tag st) (hc : st.cnt < 1099511627776) (hst : st.stop = st.ops) (hof : st.off = false) :
    Calls Try.prog 49 #[.pointer (some ⟨B, 0, none⟩)] w fun e w' => e = .returned (.int .i64 7) ∧ Wd w' B tag (dnSt st) ∧ Step w w' tag tag (fun _ => True) := by
  obtain ⟨M1, M2, wv, fv, f1, f2, l, n2, h⟩ := h
  have hcl := call_down w B tag st M1 M2 n2 wv fv f1 f2 l h hc hst hof
  have hBt := h.tB
  clear h
  go_enter Try.func49, Try.ntmps49
  go_wp2_with (go_at_call 41; refine hcl.mono ?_; rintro e w1 ⟨rfl, hI1, hg1⟩)
  go_ret
  exact ⟨rfl, ⟨M1, M2, wv, fv, f1, f2, l, n2, hI1⟩, Step.turned hg1 tag hBt trivial⟩

set_option maxRecDepth 100000 in
set_option maxHeartbeats 1000000 in
theorem write_down (w : World) (B : Nat) (tag : Tags) (st : St) (h : Wd w B tag st) (hc : st.cnt < 1099511627776) (hst : st.stop = st.ops) (hof : st.off = false)
    (s : ByteArray) (h1 : 1 ≤ s.size) (h2 : s.size ≤ 32) (a : Option Addr) (n c : Nat) (hn : n ≤ 1048576) :
    Calls Try.prog 22 #[.pointer (some ⟨B, 0, none⟩), .string s, .int .i64 0, .slice a n c] w fun e w' => e = .returned (.int .i64 7) ∧ Wd w' B tag (dnSt st) ∧ Step w w' tag tag (fun _ => True) := by
  obtain ⟨M1, M2, wv, fv, f1, f2, l, n2, h⟩ := h
  have hcl := call_down w B tag st M1 M2 n2 wv fv f1 f2 l h hc hst hof
  have hBt := h.tB
  have H1 : ¬ ((1048576 : Int) - n < 0) := by omega
  clear h
  go_enter Try.func22, Try.ntmps22
  go_wp2_with (first
      | (go_at_call 40; refine (named_ok s _ h1 h2).mono ?_; rintro e w' ⟨rfl, hw'⟩; rw [hw'])
      | (go_at_call 41; refine hcl.mono ?_; rintro e w1 ⟨rfl, hI1, hg1⟩))
  go_ret
  exact ⟨rfl, ⟨M1, M2, wv, fv, f1, f2, l, n2, hI1⟩, Step.turned hg1 tag hBt trivial⟩

set_option maxRecDepth 100000 in
set_option maxHeartbeats 1000000 in
theorem read_down (w : World) (B : Nat) (tag : Tags) (st : St) (h : Wd w B tag st) (hc : st.cnt < 1099511627776) (hst : st.stop = st.ops) (hof : st.off = false)
    (s : ByteArray) (h1 : 1 ≤ s.size) (h2 : s.size ≤ 32) (n : Nat) (hn : n ≤ 1048576) :
    Calls Try.prog 21 #[.pointer (some ⟨B, 0, none⟩), .string s, .int .i64 0, .int .i64 (n : Int)] w fun e w' => e = .returned (.tuple #[.slice none 0 0, .int .i64 7]) ∧ Wd w' B tag (dnSt st) ∧ Step w w' tag tag (fun _ => True) := by
  obtain ⟨M1, M2, wv, fv, f1, f2, l, n2, h⟩ := h
  have hcl := call_down w B tag st M1 M2 n2 wv fv f1 f2 l h hc hst hof
  have hBt := h.tB
  have H2 : ¬ ((n : Int) < 0) := by omega
  clear h
  go_enter Try.func21, Try.ntmps21
  go_wp2_with (first
      | (go_at_call 40; refine (named_ok s _ h1 h2).mono ?_; rintro e w' ⟨rfl, hw'⟩; rw [hw'])
      | (go_at_call 41; refine hcl.mono ?_; rintro e w1 ⟨rfl, hI1, hg1⟩))
  go_ret2
  exact ⟨rfl, ⟨M1, M2, wv, fv, f1, f2, l, n2, hI1⟩, Step.turned hg1 tag hBt trivial⟩
end Go.Proofs.Ytndlpmnidpandaa
