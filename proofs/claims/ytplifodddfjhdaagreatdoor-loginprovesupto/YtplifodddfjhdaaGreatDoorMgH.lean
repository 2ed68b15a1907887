/-
  What the row's list of variables gives: the table of powers lies as it was laid, the two errors lie. login: what lies of the tables; what an answer is worth.
-/
import Derived.Test.YtplifodddfjhdaaGreatDoorXNmBs
import Derived.Test.YtplifodddfjhdaaGreatDoorRows
import Derived.MakeChecks
import Derived.Lib.LaidTab
import Derived.OpenShut
import Derived.ChangeArms
import Derived.Test.YtplifodddfjhdaaGreatDoorMgD
namespace Go.Proofs.YtplifodddfjhdaaGreatDoor
open Go.RowKit Go.Lib
set_option linter.unusedVariables false

theorem trod_ifc {H : Type} {enc : TypeId × Value → H} {P : Program} {w : World} {base : Nat} {sp : Nat → Bool} {held : Bool} {fuel : Nat} {t : TypeId} {cs : List Value} {x : DataW H × List MemPlace} {ms : Array (String × TypeId)}
    (ht : P.underlying t = some (.interface ms)) (h : DataW.trod enc P w base sp held fuel t cs = some x) : cs = [.nilIface] ∨ ∃ u y, cs = [.iface u y] := by
  cases fuel with
  | zero => simp [DataW.trod] at h
  | succ n =>
    unfold DataW.trod at h
    rw [ht] at h
    split at h
    all_goals first
      | (rename_i e; cases e; done)
      | exact .inl rfl
      | exact .inr ⟨_, _, rfl⟩
      | simp_all
theorem gRng : Tryz.prog.globalNamed "strconv.ErrRange" = some 5 := by kernel_rfl
theorem gSyn : Tryz.prog.globalNamed "strconv.ErrSyntax" = some 4 := by kernel_rfl
theorem tPow : (Tryz.prog.globals[1]?).map (·.type) = some 154 := by kernel_rfl
theorem tRng : (Tryz.prog.globals[5]?).map (·.type) = some 135 := by kernel_rfl
theorem tSyn : (Tryz.prog.globals[4]?).map (·.type) = some 135 := by kernel_rfl
theorem cells124 : Tryz.prog.cellsOf 154 = 20 := by kernel_rfl
theorem cells82 : Tryz.prog.cellsOf 72 = 1 := by kernel_rfl
theorem pow_tab {H : Type} : (Rows.laid_internal_strconv_uint64pow10 : DataW H) = tabData .u64 pow10Tab := rfl

theorem of_laid {W : World} (h : laidMetH Tryz.prog [("math/bits.deBruijn32tab", Rows.laid_math_bits_deBruijn32tab), ("math/bits.deBruijn64tab", Rows.laid_math_bits_deBruijn64tab), ("internal/strconv.uint64pow10", Rows.laid_internal_strconv_uint64pow10), ("strconv.ErrRange", Rows.laid_strconv_ErrRange), ("strconv.ErrSyntax", Rows.laid_strconv_ErrSyntax), ("pallet/chap.addends", Rows.laid_pallet_chap_addends), ("pallet/chap.turns", Rows.laid_pallet_chap_turns)] W) : Gl W := by
  rw [MakeChecks.laidMetH_plain _ _ _ (by kernel_rfl)] at h
  obtain ⟨ps, ⟨g0, t0, cs0, f0, p0, q0, hg0, ht0, hv0, hd0, ⟨g1, t1, cs1, f1, p1, q1, hg1, ht1, hv1, hd1, ⟨g2, t2, cs2, f2, p2, q2, hg2, ht2, hv2, hd2, ⟨g3, t3, cs3, f3, p3, q3, hg3, ht3, hv3, hd3, ⟨g4, t4, cs4, f4, p4, q4, hg4, ht4, hv4, hd4, ⟨g5, t5, cs5, f5, p5, q5, hg5, ht5, hv5, hd5, ⟨g6, t6, cs6, f6, p6, q6, hg6, ht6, hv6, hd6, _, _⟩, _⟩, _⟩, _⟩, _⟩, _⟩, _⟩, _, _⟩ := h
  obtain rfl := Option.some.inj (gPow.symm.trans hg2)
  obtain rfl := Option.some.inj (gRng.symm.trans hg3)
  obtain rfl := Option.some.inj (gSyn.symm.trans hg4)
  obtain rfl := Option.some.inj (tPow.symm.trans ht2)
  obtain rfl := Option.some.inj (tRng.symm.trans ht3)
  obtain rfl := Option.some.inj (tSyn.symm.trans ht4)
  rw [pow_tab] at hd2
  have one : ∀ (g : Nat) (nm : String) (cs : Array Value), Tryz.prog.globalNamed nm = some g → W.var? Tryz.prog nm = some cs → (cs.toList = [.nilIface] ∨ ∃ u y, cs.toList = [.iface u y]) → ∃ ev, W.cell? ⟨g, 0, none⟩ = some ev ∧ (ev = .nilIface ∨ ∃ te pe, ev = .iface te pe) := fun g nm cs hg hv hc => by
    have hcell := World.var?_cell hg hv 0
    rw [← Array.getElem?_toList] at hcell
    rcases hc with hc | ⟨u, y, hc⟩
    · rw [hc] at hcell; exact ⟨_, hcell, .inl rfl⟩
    · rw [hc] at hcell; exact ⟨_, hcell, .inr ⟨u, y, rfl⟩⟩
  refine ⟨?_, fun g hg => ?_⟩
  · unfold TabIs
    rw [hv2, ← cells_of_tab Tryz.underlying154 Tryz.underlying72 cells82 cells124 hd2]
  · rcases hg with rfl | rfl
    · exact one 4 _ _ hg4 hv4 (trod_ifc Tryz.underlying135 hd4)
    · exact one 5 _ _ hg3 hv3 (trod_ifc Tryz.underlying135 hd3)
end Go.Proofs.YtplifodddfjhdaaGreatDoor

namespace Go.Proofs.YtplifodddfjhdaaGreatDoor
open Go.RowKit Go.Lib
set_option linter.unusedVariables false
set_option linter.unusedSimpArgs false

theorem gAdd : Tryz.prog.globalNamed "pallet/chap.addends" = some 2 := by kernel_rfl
theorem gTurn : Tryz.prog.globalNamed "pallet/chap.turns" = some 3 := by kernel_rfl
theorem tAdd : (Tryz.prog.globals[2]?).map (·.type) = some 163 := by kernel_rfl
theorem tTurn : (Tryz.prog.globals[3]?).map (·.type) = some 165 := by kernel_rfl
theorem cellsT64 : Tryz.prog.cellsOf 163 = 64 := by kernel_rfl
theorem cellsU32 : Tryz.prog.cellsOf 92 = 1 := by kernel_rfl
theorem cellsT4 : Tryz.prog.cellsOf 164 = 4 := by kernel_rfl
theorem cellsI : Tryz.prog.cellsOf 3 = 1 := by kernel_rfl

def kI : List Int := kL.map fun k : Nat => (k : Int)
theorem kI_at (i : Nat) (h : i < 64) : kI.getD i 0 = ((kL.getD i 0 : Nat) : Int) := by
  have hl : i < kL.length := by have : kL.length = 64 := rfl; omega
  simp [kI, List.getD_eq_getElem?_getD, List.getElem?_eq_getElem hl]
theorem add_tab {H : Type} : (Rows.laid_pallet_chap_addends : DataW H) = tabData .u32 kI := rfl
theorem turn_tab {H : Type} : (Rows.laid_pallet_chap_turns : DataW H) = .agg [tabData .i64 [7, 12, 17, 22], tabData .i64 [5, 9, 14, 20], tabData .i64 [4, 11, 16, 23], tabData .i64 [6, 10, 15, 21]] := rfl

theorem of_laidQ {W : World} (h : laidMetH Tryz.prog [("math/bits.deBruijn32tab", Rows.laid_math_bits_deBruijn32tab), ("math/bits.deBruijn64tab", Rows.laid_math_bits_deBruijn64tab), ("internal/strconv.uint64pow10", Rows.laid_internal_strconv_uint64pow10), ("strconv.ErrRange", Rows.laid_strconv_ErrRange), ("strconv.ErrSyntax", Rows.laid_strconv_ErrSyntax), ("pallet/chap.addends", Rows.laid_pallet_chap_addends), ("pallet/chap.turns", Rows.laid_pallet_chap_turns)] W) : Gq W := by
  rw [MakeChecks.laidMetH_plain _ _ _ (by kernel_rfl)] at h
  obtain ⟨ps, ⟨g0, t0, cs0, f0, p0, q0, hg0, ht0, hv0, hd0, ⟨g1, t1, cs1, f1, p1, q1, hg1, ht1, hv1, hd1, ⟨g2, t2, cs2, f2, p2, q2, hg2, ht2, hv2, hd2, ⟨g3, t3, cs3, f3, p3, q3, hg3, ht3, hv3, hd3, ⟨g4, t4, cs4, f4, p4, q4, hg4, ht4, hv4, hd4, ⟨g5, t5, cs5, f5, p5, q5, hg5, ht5, hv5, hd5, ⟨g6, t6, cs6, f6, p6, q6, hg6, ht6, hv6, hd6, _, _⟩, _⟩, _⟩, _⟩, _⟩, _⟩, _⟩, _, _⟩ := h
  obtain rfl := Option.some.inj (gAdd.symm.trans hg5)
  obtain rfl := Option.some.inj (gTurn.symm.trans hg6)
  obtain rfl := Option.some.inj (tAdd.symm.trans ht5)
  obtain rfl := Option.some.inj (tTurn.symm.trans ht6)
  rw [add_tab] at hd5
  rw [turn_tab] at hd6
  have e0 := cells_of_tab Tryz.underlying163 Tryz.underlying92 cellsU32 cellsT64 hd5
  refine ⟨fun i hi => ?_, ?_⟩
  · rw [World.var?_cell hg5 hv5 i, ← Array.getElem?_toList, e0, List.getElem?_map]
    have hl : i < kI.length := by have : kI.length = 64 := rfl; omega
    rw [← kI_at i hi, List.getElem?_eq_getElem hl, List.getD_eq_getElem?_getD, List.getElem?_eq_getElem hl]
    rfl
  · obtain ⟨xs, m, rfl, hx, hlen, hn, hel⟩ := DataW.trod_array Tryz.underlying165 hd6
    have hxs := congrArg Prod.fst hx
    simp only [DataW.agg.injEq] at hxs
    match xs, hn, hxs, hel with
    | [x0, x1, x2, x3], _, hxs, hel =>
      simp only [List.map_cons, List.map_nil, List.cons.injEq, and_true] at hxs
      obtain ⟨y0, y1, y2, y3⟩ := hxs
      have row : ∀ (r : Nat) (x : _) (zs : List Int), r < 4 → [x0, x1, x2, x3][r]? = some x → x.1 = tabData .i64 zs → ((cs6.toList.drop (r * 4)).take 4) = zs.map fun z => Value.int .i64 z := fun r x zs hr hxr hxe => by
        have h1 := hel r hr
        rw [hxr, cellsT4] at h1
        exact cells_of_tab (p := x.2) Tryz.underlying164 Tryz.underlying3 cellsI cellsT4 (h1.trans (by rw [← hxe]))
      have r0 := row 0 x0 _ (by omega) rfl y0.symm
      have r1 := row 1 x1 _ (by omega) rfl y1.symm
      have r2 := row 2 x2 _ (by omega) rfl y2.symm
      have r3 := row 3 x3 _ (by omega) rfl y3.symm
      have cell : ∀ (r j : Nat) (zs : List Int), j < 4 → ((cs6.toList.drop (r * 4)).take 4) = zs.map (fun z => Value.int .i64 z) → W.cell? ⟨3, r * 4 + j, none⟩ = zs[j]?.map (fun z => Value.int .i64 z) := fun r j zs hj he => by
        rw [World.var?_cell hg6 hv6 (r * 4 + j), ← Array.getElem?_toList, ← List.getElem?_map, ← he, List.getElem?_take, if_pos hj, List.getElem?_drop]
      intro i hi
      obtain ⟨r, j, rfl, hr, hj⟩ : ∃ r j, i = r * 4 + j ∧ r < 4 ∧ j < 4 := ⟨i / 4, i % 4, by omega, by omega, by omega⟩
      obtain rfl | rfl | rfl | rfl : r = 0 ∨ r = 1 ∨ r = 2 ∨ r = 3 := by omega
      · rw [cell 0 j _ hj r0]; obtain rfl | rfl | rfl | rfl : j = 0 ∨ j = 1 ∨ j = 2 ∨ j = 3 := by omega
        all_goals rfl
      · rw [cell 1 j _ hj r1]; obtain rfl | rfl | rfl | rfl : j = 0 ∨ j = 1 ∨ j = 2 ∨ j = 3 := by omega
        all_goals rfl
      · rw [cell 2 j _ hj r2]; obtain rfl | rfl | rfl | rfl : j = 0 ∨ j = 1 ∨ j = 2 ∨ j = 3 := by omega
        all_goals rfl
      · rw [cell 3 j _ hj r3]; obtain rfl | rfl | rfl | rfl : j = 0 ∨ j = 1 ∨ j = 2 ∨ j = 3 := by omega
        all_goals rfl

/-- A hex text reads as what it was made of. -/
theorem digI_hexL : ∀ d : Fin 16, digI (hexD d.val) = (d.val : Int) := by decide +kernel
theorem unL_hexL (zs : List Int) (hb : Bytes zs) : unL (hexL zs) = some zs := by
  induction zs with
  | nil => rfl
  | cons z r ih =>
    have hz := hb 0
    simp only [List.getD_cons_zero] at hz
    have h1 : digI (hexD (z.toNat / 16)) = ((z.toNat / 16 : Nat) : Int) := digI_hexL ⟨z.toNat / 16, by omega⟩
    have h2 : digI (hexD (z.toNat % 16)) = ((z.toNat % 16 : Nat) : Int) := digI_hexL ⟨z.toNat % 16, by omega⟩
    rw [hexL, unL, if_neg (by omega), ih (fun j => by simpa using hb (j + 1)), h1, h2]
    simp only [Option.map_some, Option.some.injEq, List.cons.injEq, and_true]
    omega
theorem hexS_nums (zs : List Int) (hb : Bytes zs) : nums (hexS zs) = 48 :: 120 :: hexL zs := nums_str _ (Bytes.cons (by decide) (Bytes.cons (by decide) (hexL_bytes zs hb)))
theorem unx_hexS (zs : List Int) (hb : Bytes zs) : unx (nums (hexS zs)) = some zs := by
  rw [hexS_nums zs hb]
  unfold unx
  rw [if_pos ⟨by simp, rfl, .inl rfl, by simp [hexL_length]; omega⟩]
  exact unL_hexL zs hb
theorem hexS_inj {A C : List Int} (hA : Bytes A) (hC : Bytes C) (h : hexS A = hexS C) : A = C := by
  have h1 := unx_hexS A hA
  rw [h, unx_hexS C hC] at h1
  exact (Option.some.inj h1).symm
theorem hexS_size (zs : List Int) : (hexS zs).size = 2 + 2 * zs.length := by
  unfold hexS
  rw [str_size]
  simp [hexL_length]
  omega
/-- The answer to a secret. -/
def rspS (id : Int) (T : ByteArray) (zs : List Int) : ByteArray := hexS (sumL (ansB id T zs))
theorem rsp_size (id : Int) (T : ByteArray) (zs : List Int) : (rspS id T zs).size = 34 := by
  unfold rspS
  rw [hexS_size, sumL_length]
theorem rsp_iff (id : Int) (T S : ByteArray) (zs : List Int) : unx (nums (rspS id T zs)) = some (sumL (ansB id S zs)) ↔ rspS id T zs = rspS id S zs := by
  unfold rspS
  rw [unx_hexS _ (sumL_bytes _)]
  constructor
  · intro h; rw [Option.some.inj h]
  · intro h; rw [hexS_inj (sumL_bytes _) (sumL_bytes _) h]
end Go.Proofs.YtplifodddfjhdaaGreatDoor
