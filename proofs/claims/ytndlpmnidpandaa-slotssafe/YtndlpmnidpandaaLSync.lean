/-
  The contract of Sync.
-/
import Derived.Test.YtndlpmnidpandaaLHard
namespace Go.Proofs.Ytndlpmnidpandaa
open Go.RowKit Go.Maps
set_option linter.unusedVariables false
set_option linter.unusedSimpArgs false

/-- Nothing waits any more. -/
theorem Inv.calm {w : World} {B : Nat} {tag : Tags} {st : St} {M1 M2 n2 : Nat} {wv : Value} {fv : Option Nat} {f1 f2 : ByteArray → Option Value} {l : List (Chg × Value)} (h : Inv w B tag st M1 M2 wv fv f1 f2 l n2) :
    Inv (w.setCell ⟨B, 2, none⟩ (.slice none 0 0)) B tag { st with waits := [] } M1 M2 (.slice none 0 0) fv f1 f2 [] n2 ∧ Step w (w.setCell ⟨B, 2, none⟩ (.slice none 0 0)) tag tag (fun t => t = .wd) := by
  have s : Step w (w.setCell ⟨B, 2, none⟩ (.slice none 0 0)) tag tag (fun t => t = .wd) := Step.turned (grown_setCell w B 2 _) tag h.tB rfl
  refine ⟨?_, s⟩
  exact {
    cell := by rw [setCell_own w B 2 _ _ _ h.cell]; simp [wdCells]
    tB := h.tB
    t1 := h.t1
    t2 := h.t2
    map1 := h.map1.of_block (s.keep h.map1.lt h.t1 (by simp)).1
    map2 := h.map2.of_block (s.keep h.map2.lt h.t2 (by simp)).1
    seen := h.seen.step s (by simp)
    dur := h.dur.step s (by simp)
    waits := ⟨by simp, World.ownsRow_nil _ _ _ _, by simp [Value.ownBlock]⟩
    l_eq := rfl
    fails := h.fails.step s (by simp)
    lt := s.lt h.lt
    opsLo := h.opsLo
    opsHi := h.opsHi
    cnt2 := by have := h.cnt2; show n2 + 0 ≤ st.cnt; omega }

set_option maxRecDepth 100000 in
set_option maxHeartbeats 1000000 in
theorem sync_any (w : World) (B : Nat) (tag : Tags) (st : St) (h : Wd w B tag st) (hc : st.cnt + st.waits.length < 549755813888) (hf : st.fails st.ops = false) (hw : Wrs st.waits) :
    Calls Try.prog 49 #[.pointer (some ⟨B, 0, none⟩)] w fun e w' => e = .returned (.int .i64 0) ∧
      ∃ tag', Wd w' B tag' { st with dur := runs st.waits st.dur, waits := [], ops := st.ops + 1, cnt := st.cnt + 1 + st.waits.length } ∧ Step w w' tag tag' (fun _ => True) := by
  obtain ⟨M1, M2, wv, fv, f1, f2, l, n2, h⟩ := h
  have hcl := call_any w B tag st M1 M2 n2 wv fv f1 f2 l h (by omega) (h.live hf)
  rw [hf] at hcl
  simp only [Bool.false_eq_true, if_false] at hcl
  have hBt := h.tB
  have hll : l.length = st.waits.length := by rw [← h.l_eq]; simp
  obtain ⟨aw, cw, rfl⟩ := waits_shape h.waits
  clear h
  obtain ⟨k, hk⟩ : ∃ k, k = l.length := ⟨_, rfl⟩
  have hkl : k ≤ l.length := by omega
  have hkw : st.waits.take k = st.waits := List.take_of_length_le (by omega)
  have hkw2 : k = st.waits.length := by omega
  replace hll := Kpt.mk hll
  replace hkw := Kpt.mk hkw
  replace hkw2 := Kpt.mk hkw2
  rw [← hk] at hcl
  replace hk := Kpt.mk hk
  go_enter Try.func49, Try.ntmps49
  go_wp2_with (first
      | (go_at_call 41; refine hcl.mono ?_; rintro e w1 ⟨rfl, hI1, hg1⟩; have cB := hI1.at.2.2.1)
      | (go_at_call 35; refine (harden_any _ B tag _ M1 M2 n2 _ fv f1 f2 l hI1 (by show st.cnt + 1 < _; omega) hw k hkl (by show st.cnt + 1 + k < _; have := hkw2.out; omega)).mono ?_; rintro e w2 ⟨rfl, tag2, f2', hI2, hs2⟩; have cB2 := hI2.at.2.2.1; have fz2 := hI2.frozen 2))
  go_ret
  obtain ⟨hI3, hs3⟩ := hI2.calm
  have st1 : Step w w1 tag tag (fun _ => True) := Step.turned hg1 tag hBt trivial
  refine ⟨rfl, tag2, ?_, (st1.trans (hs2.weaken (fun _ _ => trivial))).trans (hs3.weaken (fun _ _ => trivial))⟩
  refine ⟨M1, M2, .slice none 0 0, fv, f1, f2', [], n2 + k, ?_⟩
  have e1 := hkw.out
  have e2 := hkw2.out
  simp only [e1] at hI3
  rw [← e2]
  exact hI3
end Go.Proofs.Ytndlpmnidpandaa
