/-
  PDUs that came in.
-/
import Derived.Test.YtigfoldobkigeaaUEnc
import Derived.Deep.Slices
import Derived.Lib.SmallJoins
import Derived.OpenShut
namespace Go.Proofs.Ytigfoldobkigeaa
open Go.ChangeShapes Go.WideShapes Go.ChangeAt Go.RowKit Go.Joins Go.Deep
set_option linter.unusedVariables false
set_option linter.unusedSimpArgs false

theorem Try.cellsP : Try.prog.cellsOf 26 = 14 := by kernel_rfl
theorem Try.cellsW : Try.prog.cellsOf 23 = 7 := by kernel_rfl
theorem Try.cellsU : Try.prog.cellsOf 22 = 1 := by kernel_rfl
theorem Try.cells5 : Try.prog.cellsOf 5 = 1 := by kernel_rfl
theorem Try.cellsS : Try.prog.cellsOf 24 = 1 := by kernel_rfl
theorem wf_u8 {n : Int} (h : (Lit.int .u8 n).wf = true) : 0 ≤ n ∧ n ≤ 255 := by
  simp [Lit.wf, IntKind.min, IntKind.max, IntKind.bits, IntKind.signed] at h; omega
theorem wf_u32 {n : Int} (h : (Lit.int .u32 n).wf = true) : 0 ≤ n ∧ n ≤ 4294967295 := by
  simp [Lit.wf, IntKind.min, IntKind.max, IntKind.bits, IntKind.signed] at h; omega
theorem list14 (cs : List Value) (hl : cs.length = 14) : ∃ c0 c1 c2 c3 c4 c5 c6 c7 c8 c9 c10 c11 c12 c13, cs = [c0, c1, c2, c3, c4, c5, c6, c7, c8, c9, c10, c11, c12, c13] := by
  match cs, hl with
  | [c0, c1, c2, c3, c4, c5, c6, c7, c8, c9, c10, c11, c12, c13], _ => exact ⟨_, _, _, _, _, _, _, _, _, _, _, _, _, _, rfl⟩

theorem came_rd {H : Type} {enc : TypeId × Value → H} {w : World} {sp : Nat → Bool} {hd : Bool} {fuel : Nat} {v : Value} {x : DataW H × List MemPlace}
    (h : DataW.trod enc Try.prog w 0 sp hd fuel 24 [v] = some x) : ∃ a n c zs, v = .slice a n c ∧ RdAt w (.slice a n c) zs ∧ Bytes zs ∧ zs.length = n ∧ n ≤ c ∧ c ≤ maxLen := by
  rcases open_ints Try.underlying24 Try.underlying5 (by kernel_rfl) h with ⟨hcs, _⟩ | ⟨a, l, c, zs, hcs, _, hl, hm, hz, _, hcell, hwz⟩
  · simp only [List.cons.injEq, and_true] at hcs
    subst hcs
    exact ⟨none, 0, 0, [], rfl, rd_nil w, Bytes.nil, rfl, Nat.le_refl _, Nat.zero_le _⟩
  · simp only [List.cons.injEq, and_true] at hcs
    subst hcs
    have hzl : l ≤ zs.length := by rw [hz]; split <;> omega
    have hb : Bytes (zs.take l) := by
      intro j
      rw [List.getD_eq_getElem?_getD]
      cases hj : (zs.take l)[j]? with
      | none => simp
      | some y => exact wf_u8 (hwz y (List.mem_of_mem_take (List.mem_of_getElem? hj)))
    have hlen : (zs.take l).length = l := by rw [List.length_take]; omega
    refine ⟨some a, l, c, zs.take l, rfl, ⟨some a, c, by rw [hlen], (fun h => by cases h), by omega, ?_⟩, hb, hlen, hl, hm⟩
    by_cases h0 : l = 0
    · exact .inl (by omega)
    · have hc0 := hcell 0 (by omega)
      obtain ⟨b, off, spot⟩ := a
      have hspot : spot = none := by simpa [Addr.add] using World.cell?_spot hc0
      subst hspot
      refine .inr ⟨b, off, rfl, fun j u hu => ?_⟩
      have hj : j < l := by have := (List.getElem?_eq_some_iff.1 hu).1; simp at this; omega
      have := hcell j (by omega)
      rw [Go.WideShapes.add_plain] at this
      rw [this]
      rw [cels, List.getElem?_map, List.getElem?_take_of_lt hj] at hu
      rw [List.getD_eq_getElem?_getD]
      cases hq : zs[j]? with
      | none => rw [hq] at hu; cases hu
      | some y => rw [hq] at hu; simpa using hu

set_option maxRecDepth 100000 in
theorem pdu_of {H : Type} {enc : TypeId × Value → H} {w : World} {sp : Nat → Bool} {hd : Bool} {q : Nat} {cs : List Value} {x : DataW H × List MemPlace}
    (h : DataW.trod enc Try.prog w 0 sp hd q 26 cs = some x) : ∃ (p : Pd) (a : Option Addr) (n c : Nat), cs = p.cs (.slice a n c) ∧ p.ok ∧ RdAt w (.slice a n c) p.d ∧ n ≤ c ∧ c ≤ maxLen := by
  obtain ⟨xs, n, _, _, hl, hlen, hfs⟩ := DataW.trod_struct Try.underlying26 h
  rw [Try.cellsP] at hl
  have hxl : xs.length = 8 := hlen.trans (by kernel_rfl)
  obtain ⟨c0, c1, c2, c3, c4, c5, c6, c7, c8, c9, c10, c11, c12, c13, rfl⟩ := list14 cs hl
  have g0 := hfs 0 _ rfl
  rw [List.getElem?_eq_getElem (show 0 < xs.length by omega)] at g0
  have g1 := hfs 1 _ rfl
  rw [List.getElem?_eq_getElem (show 1 < xs.length by omega)] at g1
  have g2 := hfs 2 _ rfl
  rw [List.getElem?_eq_getElem (show 2 < xs.length by omega)] at g2
  have g3 := hfs 3 _ rfl
  rw [List.getElem?_eq_getElem (show 3 < xs.length by omega)] at g3
  have g4 := hfs 4 _ rfl
  rw [List.getElem?_eq_getElem (show 4 < xs.length by omega)] at g4
  have g5 := hfs 5 _ rfl
  rw [List.getElem?_eq_getElem (show 5 < xs.length by omega)] at g5
  have g6 := hfs 6 _ rfl
  rw [List.getElem?_eq_getElem (show 6 < xs.length by omega)] at g6
  have g7 := hfs 7 _ rfl
  rw [List.getElem?_eq_getElem (show 7 < xs.length by omega)] at g7
  obtain ⟨a0, e0, _, w0⟩ := DataW.trod_int Try.underlying5 (show DataW.trod enc Try.prog w 0 sp hd n 5 [c0] = some xs[0] from g0)
  obtain ⟨a1, e1, _, w1⟩ := DataW.trod_int Try.underlying5 (show DataW.trod enc Try.prog w 0 sp hd n 5 [c1] = some xs[1] from g1)
  obtain ⟨a2, e2, _, w2⟩ := DataW.trod_int Try.underlying5 (show DataW.trod enc Try.prog w 0 sp hd n 5 [c2] = some xs[2] from g2)
  obtain ⟨a3, e3, _, w3⟩ := DataW.trod_int Try.underlying5 (show DataW.trod enc Try.prog w 0 sp hd n 5 [c3] = some xs[3] from g3)
  obtain ⟨a4, e4, _, w4⟩ := DataW.trod_int Try.underlying5 (show DataW.trod enc Try.prog w 0 sp hd n 5 [c4] = some xs[4] from g4)
  obtain ⟨a5, e5, _, w5⟩ := DataW.trod_int Try.underlying22 (show DataW.trod enc Try.prog w 0 sp hd n 22 [c5] = some xs[5] from g5)
  have g6' : DataW.trod enc Try.prog w 0 sp hd n 23 [c6, c7, c8, c9, c10, c11, c12] = some xs[6] := g6
  obtain ⟨ys, m, _, _, _, hyl, hy⟩ := DataW.trod_array Try.underlying23 g6'
  have k0 := hy 0 (by decide)
  rw [Try.cellsU, List.getElem?_eq_getElem (show 0 < ys.length by omega)] at k0
  obtain ⟨b0, f0, _, v0⟩ := DataW.trod_int Try.underlying22 (show DataW.trod enc Try.prog w 0 sp hd m 22 [c6] = some ys[0] from k0)
  have k1 := hy 1 (by decide)
  rw [Try.cellsU, List.getElem?_eq_getElem (show 1 < ys.length by omega)] at k1
  obtain ⟨b1, f1, _, v1⟩ := DataW.trod_int Try.underlying22 (show DataW.trod enc Try.prog w 0 sp hd m 22 [c7] = some ys[1] from k1)
  have k2 := hy 2 (by decide)
  rw [Try.cellsU, List.getElem?_eq_getElem (show 2 < ys.length by omega)] at k2
  obtain ⟨b2, f2, _, v2⟩ := DataW.trod_int Try.underlying22 (show DataW.trod enc Try.prog w 0 sp hd m 22 [c8] = some ys[2] from k2)
  have k3 := hy 3 (by decide)
  rw [Try.cellsU, List.getElem?_eq_getElem (show 3 < ys.length by omega)] at k3
  obtain ⟨b3, f3, _, v3⟩ := DataW.trod_int Try.underlying22 (show DataW.trod enc Try.prog w 0 sp hd m 22 [c9] = some ys[3] from k3)
  have k4 := hy 4 (by decide)
  rw [Try.cellsU, List.getElem?_eq_getElem (show 4 < ys.length by omega)] at k4
  obtain ⟨b4, f4, _, v4⟩ := DataW.trod_int Try.underlying22 (show DataW.trod enc Try.prog w 0 sp hd m 22 [c10] = some ys[4] from k4)
  have k5 := hy 5 (by decide)
  rw [Try.cellsU, List.getElem?_eq_getElem (show 5 < ys.length by omega)] at k5
  obtain ⟨b5, f5, _, v5⟩ := DataW.trod_int Try.underlying22 (show DataW.trod enc Try.prog w 0 sp hd m 22 [c11] = some ys[5] from k5)
  have k6 := hy 6 (by decide)
  rw [Try.cellsU, List.getElem?_eq_getElem (show 6 < ys.length by omega)] at k6
  obtain ⟨b6, f6, _, v6⟩ := DataW.trod_int Try.underlying22 (show DataW.trod enc Try.prog w 0 sp hd m 22 [c12] = some ys[6] from k6)
  obtain ⟨da, dn, dc, ds, rfl, hrd, hb, hdl, hnc, hcm⟩ := came_rd (show DataW.trod enc Try.prog w 0 sp hd n 24 [c13] = some xs[7] from g7)
  simp only [List.cons.injEq, and_true] at e0 e1 e2 e3 e4 e5 f0 f1 f2 f3 f4 f5 f6
  subst e0 e1 e2 e3 e4 e5 f0 f1 f2 f3 f4 f5 f6
  refine ⟨⟨a0, a1, a2, a3, a4, a5, [b0, b1, b2, b3, b4, b5, b6], ds⟩, da, dn, dc, rfl, ⟨wf_u8 w0, wf_u8 w1, wf_u8 w2, wf_u8 w3, wf_u8 w4, wf_u32 w5, rfl, fun x hx => ?_, hb⟩, hrd, hnc, hcm⟩
  simp only [List.mem_cons, List.not_mem_nil, or_false] at hx
  rcases hx with rfl | rfl | rfl | rfl | rfl | rfl | rfl
  · exact wf_u32 v0
  · exact wf_u32 v1
  · exact wf_u32 v2
  · exact wf_u32 v3
  · exact wf_u32 v4
  · exact wf_u32 v5
  · exact wf_u32 v6

theorem open_pdu {H : Type} {enc : TypeId × Value → H} {W : World} {b0 : Nat} {sp : Nat → Bool} {hd : Bool} {r : Reach} {v : Value} {d : DataW H} {p : List MemPlace}
    (hv : Value.okWide Try.prog W r b0 26 v) (h : DataW.Trod enc Try.prog W 0 sp hd 26 v d p) : ∃ (p : Pd) (a : Option Addr) (n c : Nat), v = .agg (p.vals (.slice a n c)) ∧ p.ok ∧ RdAt W (.slice a n c) p.d ∧ n ≤ c ∧ c ≤ maxLen := by
  obtain ⟨cs, rfl, hsz⟩ := okWide_struct Try.underlying26 hv
  obtain ⟨fuel, hf⟩ := h
  have hf' : DataW.trod enc Try.prog W 0 sp hd fuel 26 cs.toList = some (d, p) := hf
  obtain ⟨q, a, n, c, e, h1⟩ := pdu_of hf'
  exact ⟨q, a, n, c, by rw [Pd.vals, ← e], h1⟩
end Go.Proofs.Ytigfoldobkigeaa
