/-
  What the row's list of variables gives: the program's tables lie as they were laid.
-/
import Derived.Test.YtaedkofljmonjaaDoorQMix
import Derived.Test.YtaedkofljmonjaaDoorRows
import Derived.MakeChecks
import Derived.Lib.LaidTab
import Derived.OpenShut
namespace Go.Proofs.YtaedkofljmonjaaDoor
open Go.RowKit Go.Lib
set_option linter.unusedVariables false

theorem gAdd : Tryd.prog.globalNamed "pallet/chap.addends" = some 0 := by kernel_rfl
theorem gTurn : Tryd.prog.globalNamed "pallet/chap.turns" = some 1 := by kernel_rfl
theorem tAdd : (Tryd.prog.globals[0]?).map (·.type) = some 59 := by kernel_rfl
theorem tTurn : (Tryd.prog.globals[1]?).map (·.type) = some 61 := by kernel_rfl
theorem cells59 : Tryd.prog.cellsOf 59 = 64 := by kernel_rfl
theorem cells37 : Tryd.prog.cellsOf 37 = 1 := by kernel_rfl
theorem cells60 : Tryd.prog.cellsOf 60 = 4 := by kernel_rfl
theorem cells3 : Tryd.prog.cellsOf 3 = 1 := by kernel_rfl

def kI : List Int := kL.map fun k : Nat => (k : Int)
theorem kI_at (i : Nat) (h : i < 64) : kI.getD i 0 = ((kL.getD i 0 : Nat) : Int) := by
  have hl : i < kL.length := by have : kL.length = 64 := rfl; omega
  simp [kI, List.getD_eq_getElem?_getD, List.getElem?_eq_getElem hl]
theorem add_tab {H : Type} : (Rows.laid_pallet_chap_addends : DataW H) = tabData .u32 kI := rfl
theorem turn_tab {H : Type} : (Rows.laid_pallet_chap_turns : DataW H) = .agg [tabData .i64 [7, 12, 17, 22], tabData .i64 [5, 9, 14, 20], tabData .i64 [4, 11, 16, 23], tabData .i64 [6, 10, 15, 21]] := rfl

theorem of_laid {W : World} (h : laidMetH Tryd.prog [("pallet/chap.addends", Rows.laid_pallet_chap_addends), ("pallet/chap.turns", Rows.laid_pallet_chap_turns)] W) : Gl W := by
  rw [MakeChecks.laidMetH_plain _ _ _ (by kernel_rfl)] at h
  obtain ⟨ps, ⟨g0, t0, cs0, f0, p0, q0, hg0, ht0, hv0, hd0, ⟨g1, t1, cs1, f1, p1, q1, hg1, ht1, hv1, hd1, _, _⟩, _⟩, _, _⟩ := h
  obtain rfl := Option.some.inj (gAdd.symm.trans hg0)
  obtain rfl := Option.some.inj (gTurn.symm.trans hg1)
  obtain rfl := Option.some.inj (tAdd.symm.trans ht0)
  obtain rfl := Option.some.inj (tTurn.symm.trans ht1)
  rw [add_tab] at hd0
  rw [turn_tab] at hd1
  have e0 := cells_of_tab Tryd.underlying59 Tryd.underlying37 cells37 cells59 hd0
  refine ⟨fun i hi => ?_, ?_⟩
  · rw [World.var?_cell hg0 hv0 i, ← Array.getElem?_toList, e0, List.getElem?_map]
    have hl : i < kI.length := by have : kI.length = 64 := rfl; omega
    rw [← kI_at i hi, List.getElem?_eq_getElem hl, List.getD_eq_getElem?_getD, List.getElem?_eq_getElem hl]
    rfl
  · obtain ⟨xs, m, rfl, hx, hlen, hn, hel⟩ := DataW.trod_array Tryd.underlying61 hd1
    have hxs := congrArg Prod.fst hx
    simp only [DataW.agg.injEq] at hxs
    match xs, hn, hxs, hel with
    | [x0, x1, x2, x3], _, hxs, hel =>
      simp only [List.map_cons, List.map_nil, List.cons.injEq, and_true] at hxs
      obtain ⟨y0, y1, y2, y3⟩ := hxs
      have row : ∀ (r : Nat) (x : _) (zs : List Int), r < 4 → [x0, x1, x2, x3][r]? = some x → x.1 = tabData .i64 zs → ((cs1.toList.drop (r * 4)).take 4) = zs.map fun z => Value.int .i64 z := fun r x zs hr hxr hxe => by
        have h1 := hel r hr
        rw [hxr, cells60] at h1
        exact cells_of_tab (p := x.2) Tryd.underlying60 Tryd.underlying3 cells3 cells60 (h1.trans (by rw [← hxe]))
      have r0 := row 0 x0 _ (by omega) rfl y0.symm
      have r1 := row 1 x1 _ (by omega) rfl y1.symm
      have r2 := row 2 x2 _ (by omega) rfl y2.symm
      have r3 := row 3 x3 _ (by omega) rfl y3.symm
      have cell : ∀ (r j : Nat) (zs : List Int), j < 4 → ((cs1.toList.drop (r * 4)).take 4) = zs.map (fun z => Value.int .i64 z) → W.cell? ⟨1, r * 4 + j, none⟩ = zs[j]?.map (fun z => Value.int .i64 z) := fun r j zs hj he => by
        rw [World.var?_cell hg1 hv1 (r * 4 + j), ← Array.getElem?_toList, ← List.getElem?_map, ← he, List.getElem?_take, if_pos hj, List.getElem?_drop]
      intro i hi
      obtain ⟨r, j, rfl, hr, hj⟩ : ∃ r j, i = r * 4 + j ∧ r < 4 ∧ j < 4 := ⟨i / 4, i % 4, by omega, by omega, by omega⟩
      obtain rfl | rfl | rfl | rfl : r = 0 ∨ r = 1 ∨ r = 2 ∨ r = 3 := by omega
      · rw [cell 0 j _ hj r0]; obtain rfl | rfl | rfl | rfl : j = 0 ∨ j = 1 ∨ j = 2 ∨ j = 3 := by omega
        all_goals rfl
      · rw [cell 1 j _ hj r1]; obtain rfl | rfl | rfl | rfl : j = 0 ∨ j = 1 ∨ j = 2 ∨ j = 3 := by omega
        all_goals rfl
      · rw [cell 2 j _ hj r2]; obtain rfl | rfl | rfl | rfl : j = 0 ∨ j = 1 ∨ j = 2 ∨ j = 3 := by omega
        all_goals rfl
      · rw [cell 3 j _ hj r3]; obtain rfl | rfl | rfl | rfl : j = 0 ∨ j = 1 ∨ j = 2 ∨ j = 3 := by omega
        all_goals rfl

end Go.Proofs.YtaedkofljmonjaaDoor
