/-
  Plan of no failures, with the number of a call at which the power goes off.
-/
import Derived.Test.YtndlpmnidpandaaLDn
namespace Go.Proofs.Ytndlpmnidpandaa
open Go.RowKit Go.Maps
set_option linter.unusedVariables false
set_option linter.unusedSimpArgs false

def plSt (st : St) (sp : Int) : St := { st with fails := fun x => decide (x = sp), ops := 0, stop := sp }

theorem Inv.planned {w : World} {B : Nat} {tag : Tags} {st : St} {M1 M2 n2 : Nat} {wv : Value} {fv : Option Nat} {f1 f2 : ByteArray → Option Value} {l : List (Chg × Value)} (h : Inv w B tag st M1 M2 wv fv f1 f2 l n2) (hof : st.off = false) (sp : Int) (b : Nat) (hb : b = w.heap.size) :
    ∃ tag', Inv ((((w.alloc (.map #[] 0)).setCell ⟨B, 3, none⟩ (.map (some b))).setCell ⟨B, 4, none⟩ (.int .i64 sp)).setCell ⟨B, 5, none⟩ (.int .i64 0)) B tag' (plSt st sp) M1 M2 wv (some b) f1 f2 l n2 ∧
    Step w ((((w.alloc (.map #[] 0)).setCell ⟨B, 3, none⟩ (.map (some b))).setCell ⟨B, 4, none⟩ (.int .i64 sp)).setCell ⟨B, 5, none⟩ (.int .i64 0)) tag tag' (fun t => t = .fl ∨ t = .wd) := by
  have g1 := World.grownBy_alloc w (.map #[] 0) none
  have hBlt := (Array.getElem?_eq_some_iff.1 h.cell).1
  have hBb : B ≠ b := by omega
  have hM1 := h.map1.lt
  have hM2 := h.map2.lt
  have s1 : Step w (w.alloc (.map #[] 0)) tag (fun i => if i = b then some .fl else tag i) (fun t => t = .fl ∨ t = .wd) := (Step.grown g1 tag _).tagged b (by omega) (by simp; omega) (.inl rfl) h.lt
  have hB1 : (w.alloc (.map #[] 0)).heap[B]? = some (.cells (wdCells M1 M2 wv fv st.ops st.stop st.off) 71 (0, 0)) := (g1.block B hBlt (by simp)).trans h.cell
  have gg : (w.alloc (.map #[] 0)).grownBy ((((w.alloc (.map #[] 0)).setCell ⟨B, 3, none⟩ (.map (some b))).setCell ⟨B, 4, none⟩ (.int .i64 sp)).setCell ⟨B, 5, none⟩ (.int .i64 0)) (some B) := ((grown_setCell _ B 3 _).andThen (grown_setCell _ B 4 _) (fun j h => .inr h)).andThen (grown_setCell _ B 5 _) (fun j h => .inr h)
  have s2 : Step (w.alloc (.map #[] 0)) ((((w.alloc (.map #[] 0)).setCell ⟨B, 3, none⟩ (.map (some b))).setCell ⟨B, 4, none⟩ (.int .i64 sp)).setCell ⟨B, 5, none⟩ (.int .i64 0)) (fun i => if i = b then some .fl else tag i) (fun i => if i = b then some .fl else tag i) (fun t => t = .fl ∨ t = .wd) := Step.turned gg _ (t := .wd) (by simp [hBb, h.tB]) (.inr rfl)
  have s := s1.trans s2
  have hown : ((((w.alloc (.map #[] 0)).setCell ⟨B, 3, none⟩ (.map (some b))).setCell ⟨B, 4, none⟩ (.int .i64 sp)).setCell ⟨B, 5, none⟩ (.int .i64 0)).ownsMap (H := Unit) Try.prog 3 unitElem b 0 (.map []) := by
    have h0 : (w.alloc (.map #[] 0)).ownsMap (H := Unit) Try.prog 3 unitElem b 0 (.map []) := by rw [hb]; exact World.ownsMap_made w Try.prog 3 unitElem
    exact ((h0.setCell (fun e => hBb e.symm) _).setCell (fun e => hBb e.symm) _).setCell (fun e => hBb e.symm) _
  have hM1b : M1 ≠ b := by omega
  have hM2b : M2 ≠ b := by omega
  refine ⟨_, ?_, s⟩
  exact {
    cell := by rw [setCell_own _ B 5 _ _ _ (setCell_own _ B 4 _ _ _ (setCell_own _ B 3 _ _ _ hB1))]; simp [wdCells, plSt]
    tB := by simp [hBb, h.tB]
    t1 := by simp [hM1b, h.t1]
    t2 := by simp [hM2b, h.t2]
    map1 := h.map1.of_block (s.keep hM1 h.t1 (by simp)).1
    map2 := h.map2.of_block (s.keep hM2 h.t2 (by simp)).1
    seen := h.seen.step s (by simp)
    dur := h.dur.step s (by simp)
    waits := h.waits.step s (by simp) (by simp)
    l_eq := h.l_eq
    fails := ⟨fun _ => false, ⟨by simp, 0, .map [], hown, fun x _ => by simp [has]⟩, fun x _ => by simp [plSt, hof]⟩
    lt := s.lt h.lt
    opsLo := Int.le_refl _
    opsHi := by show (0 : Int) ≤ (st.cnt : Int); omega
    cnt2 := h.cnt2 }

set_option maxRecDepth 100000 in
set_option maxHeartbeats 2000000 in
theorem plan_nil (w : World) (B : Nat) (tag : Tags) (st : St) (h : Wd w B tag st) (hof : st.off = false) (sp : Int) :
    Calls Try.prog 14 #[.pointer (some ⟨B, 0, none⟩), .slice none 0 0, .int .i64 sp] w fun e w' => e = .returned (.tuple #[]) ∧ ∃ tag', Wd w' B tag' (plSt st sp) ∧ Step w w' tag tag' (fun _ => True) := by
  obtain ⟨M1, M2, wv, fv, f1, f2, l, n2, h⟩ := h
  obtain ⟨b, hb⟩ : ∃ b, b = w.heap.size := ⟨_, rfl⟩
  obtain ⟨tag', hI, hs⟩ := h.planned hof sp b hb
  have c3 : (w.alloc (.map #[] 0)).cell? ⟨B, 3, none⟩ = some (.map fv) := (World.grownBy_alloc w (.map #[] 0) none).cell (a := ⟨B, 3, none⟩) h.at.2.2.2.1 (by simp)
  have hB1 := ((World.grownBy_alloc w (.map #[] 0) none).block B (Array.getElem?_eq_some_iff.1 h.cell).1 (by simp)).trans h.cell
  have z3 : (w.alloc (.map #[] 0)).frozen? ⟨B, 3, none⟩ = false := by simp [World.frozen?, hB1]
  have hB2 := setCell_own _ B 3 (.map (some b)) _ _ hB1
  have hB3 := setCell_own _ B 4 (.int .i64 sp) _ _ hB2
  obtain ⟨w0, hw0⟩ : ∃ w0, w0 = (w.alloc (.map #[] 0)).setCell ⟨B, 3, none⟩ (.map (some b)) := ⟨_, rfl⟩
  rw [← hw0] at hI hs hB2 hB3
  have c4 : w0.cell? ⟨B, 4, none⟩ = some (.int .i64 st.stop) := by simp [World.cell?, hB2, wdCells]
  have c5 : w0.cell? ⟨B, 5, none⟩ = some (.int .i64 st.ops) := by simp [World.cell?, hB2, wdCells]
  have z4 : w0.frozen? ⟨B, 4, none⟩ = false := by simp [World.frozen?, hB2]
  have z5 : w0.frozen? ⟨B, 5, none⟩ = false := by simp [World.frozen?, hB2]
  have hmm := @run_makeMap Try.prog
  have hfin : ∃ tag', Wd ((w0.setCell ⟨B, 4, none⟩ (.int .i64 sp)).setCell ⟨B, 5, none⟩ (.int .i64 0)) B tag' (plSt st sp) ∧ Step w ((w0.setCell ⟨B, 4, none⟩ (.int .i64 sp)).setCell ⟨B, 5, none⟩ (.int .i64 0)) tag tag' (fun _ => True) := ⟨tag', ⟨M1, M2, wv, some b, f1, f2, l, n2, hI⟩, hs.weaken (fun _ _ => trivial)⟩
  replace hfin := Kpt.mk hfin
  clear h hI hs hB1 hB2 hB3
  go_enter Try.func14, Try.ntmps14
  go_wp2
  rw [← hb, ← hw0]
  replace hb := Kpt.mk hb
  replace hw0 := Kpt.mk hw0
  clear hmm c3 z3
  go_loopw [16] (fun t wr => t = .int .i64 0 ∧ wr = w0) (fun t _ => 0)
  case atStart => exact ⟨rfl, rfl⟩
  case round =>
    obtain ⟨rfl, rfl⟩ := hrel
    go_wp2
    first | (refine bodyPost_end (results_none rfl _ _ _) rfl ?_) | (refine bodyPost_ret (results_none rfl _ _ _) rfl ?_)
    exact ⟨rfl, hfin.out⟩
end Go.Proofs.Ytndlpmnidpandaa
