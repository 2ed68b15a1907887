/-
  What the row's list of variables gives: the table of powers lies as it was laid, the two errors lie.
-/
import Derived.Test.YtplifodddfjhdaaDoorXNmBs
import Derived.Test.YtplifodddfjhdaaDoorRows
import Derived.MakeChecks
import Derived.Lib.LaidTab
import Derived.OpenShut
import Derived.ChangeArms
namespace Go.Proofs.YtplifodddfjhdaaDoor
open Go.RowKit Go.Lib
set_option linter.unusedVariables false

theorem trod_ifc {H : Type} {enc : TypeId × Value → H} {P : Program} {w : World} {base : Nat} {sp : Nat → Bool} {held : Bool} {fuel : Nat} {t : TypeId} {cs : List Value} {x : DataW H × List MemPlace} {ms : Array (String × TypeId)}
    (ht : P.underlying t = some (.interface ms)) (h : DataW.trod enc P w base sp held fuel t cs = some x) : cs = [.nilIface] ∨ ∃ u y, cs = [.iface u y] := by
  cases fuel with
  | zero => simp [DataW.trod] at h
  | succ n =>
    unfold DataW.trod at h
    rw [ht] at h
    split at h
    all_goals first
      | (rename_i e; cases e; done)
      | exact .inl rfl
      | exact .inr ⟨_, _, rfl⟩
      | simp_all
theorem gRng : Tryd.prog.globalNamed "strconv.ErrRange" = some 5 := by kernel_rfl
theorem gSyn : Tryd.prog.globalNamed "strconv.ErrSyntax" = some 4 := by kernel_rfl
theorem tPow : (Tryd.prog.globals[1]?).map (·.type) = some 124 := by kernel_rfl
theorem tRng : (Tryd.prog.globals[5]?).map (·.type) = some 104 := by kernel_rfl
theorem tSyn : (Tryd.prog.globals[4]?).map (·.type) = some 104 := by kernel_rfl
theorem cells124 : Tryd.prog.cellsOf 124 = 20 := by kernel_rfl
theorem cells82 : Tryd.prog.cellsOf 82 = 1 := by kernel_rfl
theorem pow_tab {H : Type} : (Rows.laid_internal_strconv_uint64pow10 : DataW H) = tabData .u64 pow10Tab := rfl

theorem of_laid {W : World} (h : laidMetH Tryd.prog [("math/bits.deBruijn32tab", Rows.laid_math_bits_deBruijn32tab), ("math/bits.deBruijn64tab", Rows.laid_math_bits_deBruijn64tab), ("internal/strconv.uint64pow10", Rows.laid_internal_strconv_uint64pow10), ("strconv.ErrRange", Rows.laid_strconv_ErrRange), ("strconv.ErrSyntax", Rows.laid_strconv_ErrSyntax), ("pallet/chap.addends", Rows.laid_pallet_chap_addends), ("pallet/chap.turns", Rows.laid_pallet_chap_turns)] W) : Gl W := by
  rw [MakeChecks.laidMetH_plain _ _ _ (by kernel_rfl)] at h
  obtain ⟨ps, ⟨g0, t0, cs0, f0, p0, q0, hg0, ht0, hv0, hd0, ⟨g1, t1, cs1, f1, p1, q1, hg1, ht1, hv1, hd1, ⟨g2, t2, cs2, f2, p2, q2, hg2, ht2, hv2, hd2, ⟨g3, t3, cs3, f3, p3, q3, hg3, ht3, hv3, hd3, ⟨g4, t4, cs4, f4, p4, q4, hg4, ht4, hv4, hd4, ⟨g5, t5, cs5, f5, p5, q5, hg5, ht5, hv5, hd5, ⟨g6, t6, cs6, f6, p6, q6, hg6, ht6, hv6, hd6, _, _⟩, _⟩, _⟩, _⟩, _⟩, _⟩, _⟩, _, _⟩ := h
  obtain rfl := Option.some.inj (gPow.symm.trans hg2)
  obtain rfl := Option.some.inj (gRng.symm.trans hg3)
  obtain rfl := Option.some.inj (gSyn.symm.trans hg4)
  obtain rfl := Option.some.inj (tPow.symm.trans ht2)
  obtain rfl := Option.some.inj (tRng.symm.trans ht3)
  obtain rfl := Option.some.inj (tSyn.symm.trans ht4)
  rw [pow_tab] at hd2
  have one : ∀ (g : Nat) (nm : String) (cs : Array Value), Tryd.prog.globalNamed nm = some g → W.var? Tryd.prog nm = some cs → (cs.toList = [.nilIface] ∨ ∃ u y, cs.toList = [.iface u y]) → ∃ ev, W.cell? ⟨g, 0, none⟩ = some ev ∧ (ev = .nilIface ∨ ∃ te pe, ev = .iface te pe) := fun g nm cs hg hv hc => by
    have hcell := World.var?_cell hg hv 0
    rw [← Array.getElem?_toList] at hcell
    rcases hc with hc | ⟨u, y, hc⟩
    · rw [hc] at hcell; exact ⟨_, hcell, .inl rfl⟩
    · rw [hc] at hcell; exact ⟨_, hcell, .inr ⟨u, y, rfl⟩⟩
  refine ⟨?_, fun g hg => ?_⟩
  · unfold TabIs
    rw [hv2, ← cells_of_tab Tryd.underlying124 Tryd.underlying82 cells82 cells124 hd2]
  · rcases hg with rfl | rfl
    · exact one 4 _ _ hg4 hv4 (trod_ifc Tryd.underlying104 hd4)
    · exact one 5 _ _ hg3 hv3 (trod_ifc Tryd.underlying104 hd3)
end Go.Proofs.YtplifodddfjhdaaDoor
