/-
  Lists that came in.
-/
import Derived.Test.YtnebcbfjlkhimaaDoorJSp0
import Derived.Deep.Slices
import Derived.Lib.SmallJoins
import Derived.OpenShut
namespace Go.Proofs.YtnebcbfjlkhimaaDoor
open Go.ChangeShapes Go.WideShapes Go.ChangeAt Go.RowKit Go.Joins Go.Deep
set_option linter.unusedVariables false
set_option linter.unusedSimpArgs false
theorem Tryd.cellsG : Tryd.prog.cellsOf 50 = 5 := by kernel_rfl
theorem Tryd.cellsS9 : Tryd.prog.cellsOf 9 = 1 := by kernel_rfl
theorem Tryd.cellsL : Tryd.prog.cellsOf 27 = 2 := by kernel_rfl
theorem wf_u64 {n : Int} (h : (Lit.int .u64 n).wf = true) : 0 ≤ n ∧ n < 18446744073709551616 := by
  simp [Lit.wf, IntKind.min, IntKind.max, IntKind.bits, IntKind.signed] at h; omega
theorem list5 (cs : List Value) (hl : cs.length = 5) : ∃ c0 c1 c2 c3 c4, cs = [c0, c1, c2, c3, c4] := by
  match cs, hl with
  | [c0, c1, c2, c3, c4], _ => exact ⟨_, _, _, _, _, rfl⟩
theorem list2 (cs : List Value) (hl : cs.length = 2) : ∃ c0 c1, cs = [c0, c1] := by
  match cs, hl with
  | [c0, c1], _ => exact ⟨_, _, rfl⟩
set_option maxRecDepth 100000 in
theorem sg_of {H : Type} {enc : TypeId × Value → H} {w : World} {sp : Nat → Bool} {hd : Bool} {q : Nat} {cs : List Value} {x : DataW H × List MemPlace}
    (h : DataW.trod enc Tryd.prog w 0 sp hd q 50 cs = some x) : ∃ g : Sg, cs = g.vals.toList ∧ SegW g := by
  obtain ⟨xs, n, _, _, hl, hlen, hfs⟩ := DataW.trod_struct Tryd.underlying50 h
  rw [Tryd.cellsG] at hl
  have hxl : xs.length = 5 := hlen.trans (by kernel_rfl)
  obtain ⟨c0, c1, c2, c3, c4, rfl⟩ := list5 cs hl
  have g0 := hfs 0 _ rfl
  rw [List.getElem?_eq_getElem (show 0 < xs.length by omega)] at g0
  have g1 := hfs 1 _ rfl
  rw [List.getElem?_eq_getElem (show 1 < xs.length by omega)] at g1
  have g2 := hfs 2 _ rfl
  rw [List.getElem?_eq_getElem (show 2 < xs.length by omega)] at g2
  have g3 := hfs 3 _ rfl
  rw [List.getElem?_eq_getElem (show 3 < xs.length by omega)] at g3
  have g4 := hfs 4 _ rfl
  rw [List.getElem?_eq_getElem (show 4 < xs.length by omega)] at g4
  obtain ⟨a0, e0, _, w0⟩ := DataW.trod_int Tryd.underlying3 (show DataW.trod enc Tryd.prog w 0 sp hd n 3 [c0] = some xs[0] from g0)
  obtain ⟨a1, e1, _, w1⟩ := DataW.trod_int Tryd.underlying3 (show DataW.trod enc Tryd.prog w 0 sp hd n 3 [c1] = some xs[1] from g1)
  obtain ⟨a2, e2, _, w2⟩ := DataW.trod_int Tryd.underlying3 (show DataW.trod enc Tryd.prog w 0 sp hd n 3 [c2] = some xs[2] from g2)
  obtain ⟨a3, e3, _, w3⟩ := DataW.trod_int Tryd.underlying29 (show DataW.trod enc Tryd.prog w 0 sp hd n 29 [c3] = some xs[3] from g3)
  obtain ⟨a4, e4, _, w4⟩ := DataW.trod_int Tryd.underlying29 (show DataW.trod enc Tryd.prog w 0 sp hd n 29 [c4] = some xs[4] from g4)
  simp only [List.cons.injEq, and_true] at e0 e1 e2 e3 e4
  subst e0 e1 e2 e3 e4
  exact ⟨⟨a0, a1, a2, a3, a4⟩, rfl, wf_u64 w3, wf_u64 w4⟩
set_option maxRecDepth 100000 in
theorem strs_ro {H : Type} {enc : TypeId × Value → H} {w : World} {sp : Nat → Bool} {hd : Bool} {fuel : Nat} {v : Value} {x : DataW H × List MemPlace}
    (h : DataW.trod enc Tryd.prog w 0 sp hd fuel 24 [v] = some x) : ∃ a n c, ∃ us : List ByteArray, v = .slice a n c ∧ us.length = n ∧ Ro 1 w (.slice a n c) (us.map sZ) ∧ c ≤ maxLen ∧ (n = 0 ∨ ∃ el s, x.1 = .slice el s ∧ n ≤ el.length + s.length) := by
  rcases open_slice Tryd.underlying24 h with ⟨hcs, _⟩ | ⟨a, l, c, m, n, D, Pl, hcs, _, hl, hm, hmm, hxd, hx⟩
  · simp only [List.cons.injEq, and_true] at hcs
    subst hcs
    exact ⟨none, 0, 0, [], rfl, rfl, (OwnR.nil 9 1 w).rd.ro, Nat.zero_le _, .inl rfl⟩
  · simp only [List.cons.injEq, and_true] at hcs
    subst hcs
    have hlm : l ≤ m := by rw [hmm]; split <;> omega
    rw [Tryd.cellsS9] at hx
    by_cases h0 : l = 0
    · subst h0
      exact ⟨some a, 0, c, [], rfl, rfl, ⟨sZ_wide [], some a, c, rfl, Nat.zero_le _, fun h => absurd h (by simp)⟩, hm, .inl rfl⟩
    obtain ⟨b, off, spot⟩ := a
    have hspot : spot = none := by
      obtain ⟨cs, h1, _⟩ := hx 0 (by omega)
      obtain ⟨_, hlen, hcell⟩ := World.cells?_some h1
      have e0 := hcell 0 (by omega)
      rw [List.getElem?_eq_getElem (by omega)] at e0
      have e1 : w.cell? (((⟨b, off, spot⟩ : Addr).add (0 * 1)).add 0) = some cs[0] := e0
      simpa [Addr.add] using World.cell?_spot e1
    subst hspot
    have key : ∀ j, j < l → ∃ s : ByteArray, w.cell? ⟨b, off + j, none⟩ = some (.string s) ∧ b < w.heap.size := fun j hj => by
      obtain ⟨cs, h1, h2⟩ := hx j (by omega)
      obtain ⟨_, hlen, hcell⟩ := World.cells?_some h1
      obtain ⟨s, q0, _, _⟩ := DataW.trod_string Tryd.underlying9 h2
      subst q0
      have e := hcell 0 (by omega)
      rw [Go.WideShapes.add_plain, Go.WideShapes.add_plain, Nat.mul_one, Nat.add_zero] at e
      exact ⟨s, e, World.block_lt_of_cell? w _ e⟩
    have hcho := fun (j : Fin l) => key j.val j.isLt
    refine ⟨some ⟨b, off, none⟩, l, c, List.ofFn (fun j : Fin l => (hcho j).choose), rfl, by simp, ⟨sZ_wide _, some ⟨b, off, none⟩, c, by simp, by simpa using hl, fun _ => ⟨b, off, rfl, (key 0 (by omega)).choose_spec.2, hm, fun j z hj => ?_⟩⟩, hm, .inr ⟨_, _, congrArg Prod.fst hxd, by simp⟩⟩
    have hjl : j < l := by have := (List.getElem?_eq_some_iff.1 hj).1; simpa using this
    rw [List.getElem?_map, List.getElem?_ofFn, dif_pos hjl] at hj
    simp only [Option.map_some, Option.some.injEq] at hj
    subst hj
    intro i u hu
    have hi : i = 0 := by have := (List.getElem?_eq_some_iff.1 hu).1; simp [sZ] at this; exact this
    subst hi
    rw [Nat.mul_one, Nat.add_zero]
    have hu2 : u = .string (hcho ⟨j, hjl⟩).choose := by simpa [sZ] using hu.symm
    rw [hu2]
    exact (hcho ⟨j, hjl⟩).choose_spec.1
set_option maxRecDepth 100000 in
theorem segs_ro {H : Type} {enc : TypeId × Value → H} {w : World} {sp : Nat → Bool} {hd : Bool} {fuel : Nat} {v : Value} {x : DataW H × List MemPlace}
    (h : DataW.trod enc Tryd.prog w 0 sp hd fuel 25 [v] = some x) : ∃ a n c, ∃ ss : List Sg, v = .slice a n c ∧ ss.length = n ∧ Ro 5 w (.slice a n c) (ss.map Sg.vals) ∧ (∀ g ∈ ss, SegW g) ∧ c ≤ maxLen ∧ (n = 0 ∨ ∃ el s, x.1 = .slice el s ∧ n ≤ el.length + s.length) := by
  rcases open_slice Tryd.underlying25 h with ⟨hcs, _⟩ | ⟨a, l, c, m, n, D, Pl, hcs, _, hl, hm, hmm, hxd, hx⟩
  · simp only [List.cons.injEq, and_true] at hcs
    subst hcs
    exact ⟨none, 0, 0, [], rfl, rfl, (OwnR.nil 9 5 w).rd.ro, (fun g hg => by cases hg), Nat.zero_le _, .inl rfl⟩
  · simp only [List.cons.injEq, and_true] at hcs
    subst hcs
    have hlm : l ≤ m := by rw [hmm]; split <;> omega
    rw [Tryd.cellsG] at hx
    by_cases h0 : l = 0
    · subst h0
      exact ⟨some a, 0, c, [], rfl, rfl, ⟨g_wide [], some a, c, rfl, Nat.zero_le _, fun h => absurd h (by simp)⟩, (fun g hg => by cases hg), hm, .inl rfl⟩
    obtain ⟨b, off, spot⟩ := a
    have hspot : spot = none := by
      obtain ⟨cs, h1, _⟩ := hx 0 (by omega)
      obtain ⟨_, hlen, hcell⟩ := World.cells?_some h1
      have e0 := hcell 0 (by omega)
      rw [List.getElem?_eq_getElem (by omega)] at e0
      have e1 : w.cell? (((⟨b, off, spot⟩ : Addr).add (0 * 5)).add 0) = some cs[0] := e0
      simpa [Addr.add] using World.cell?_spot e1
    subst hspot
    have key : ∀ j, j < l → ∃ g : Sg, SegW g ∧ b < w.heap.size ∧ w.rangeAt b (off + j * 5) g.vals.toList := fun j hj => by
      obtain ⟨cs, h1, h2⟩ := hx j (by omega)
      obtain ⟨_, hlen, hcell⟩ := World.cells?_some h1
      obtain ⟨g, rfl, hg⟩ := sg_of h2
      have hc : ∀ i u, g.vals.toList[i]? = some u → w.cell? ⟨b, off + j * 5 + i, none⟩ = some u := fun i u hu => by
        have hi : i < 5 := by have := (List.getElem?_eq_some_iff.1 hu).1; simpa [Sg.vals] using this
        have e := hcell i hi
        rw [Go.WideShapes.add_plain, Go.WideShapes.add_plain] at e
        rw [← hu]
        exact e
      exact ⟨g, hg, World.block_lt_of_cell? w _ (hc 0 _ rfl), hc⟩
    have hcho := fun (j : Fin l) => key j.val j.isLt
    refine ⟨some ⟨b, off, none⟩, l, c, List.ofFn (fun j : Fin l => (hcho j).choose), rfl, by simp, ⟨g_wide _, some ⟨b, off, none⟩, c, by simp, by simpa using hl, fun _ => ⟨b, off, rfl, (key 0 (by omega)).choose_spec.2.1, hm, fun j z hj => ?_⟩⟩, fun g hg => ?_, hm, .inr ⟨_, _, congrArg Prod.fst hxd, by simp⟩⟩
    · have hjl : j < l := by have := (List.getElem?_eq_some_iff.1 hj).1; simpa using this
      rw [List.getElem?_map, List.getElem?_ofFn, dif_pos hjl] at hj
      simp only [Option.map_some, Option.some.injEq] at hj
      subst hj
      exact (hcho ⟨j, hjl⟩).choose_spec.2.2
    · obtain ⟨j, hj, rfl⟩ := List.mem_iff_getElem.1 hg
      rw [List.getElem_ofFn]
      exact (hcho ⟨j, by simpa using hj⟩).choose_spec.1
/-- A list that came in. -/
structure LCame (W : World) (ua : Option Addr) (un uc : Nat) (sa : Option Addr) (sn sc : Nat) (us : List ByteArray) (ss : List Sg) : Prop where
  ul : us.length = un
  sl : ss.length = sn
  ur : Ro 1 W (.slice ua un uc) (us.map sZ)
  sr : Ro 5 W (.slice sa sn sc) (ss.map Sg.vals)
  sw : ∀ g ∈ ss, SegW g
  um : uc ≤ maxLen
  sm : sc ≤ maxLen
set_option maxRecDepth 100000 in
theorem list_of {H : Type} {enc : TypeId × Value → H} {w : World} {sp : Nat → Bool} {hd : Bool} {q : Nat} {cs : List Value} {x : DataW H × List MemPlace}
    (h : DataW.trod enc Tryd.prog w 0 sp hd q 27 cs = some x) : ∃ ua un uc sa sn sc us ss, cs = (lsV (.slice ua un uc) (.slice sa sn sc)).toList ∧ LCame w ua un uc sa sn sc us ss ∧ ∃ d0 d1, x.1 = .agg [d0, d1] ∧ (un = 0 ∨ ∃ el s, d0 = .slice el s ∧ un ≤ el.length + s.length) ∧ (sn = 0 ∨ ∃ el s, d1 = .slice el s ∧ sn ≤ el.length + s.length) := by
  obtain ⟨xs, n, _, hx, hl, hlen, hfs⟩ := DataW.trod_struct Tryd.underlying27 h
  rw [Tryd.cellsL] at hl
  have hxl : xs.length = 2 := hlen.trans (by kernel_rfl)
  obtain ⟨c0, c1, rfl⟩ := list2 cs hl
  have g0 := hfs 0 _ rfl
  rw [List.getElem?_eq_getElem (show 0 < xs.length by omega)] at g0
  have g1 := hfs 1 _ rfl
  rw [List.getElem?_eq_getElem (show 1 < xs.length by omega)] at g1
  obtain ⟨ua, un, uc, us, rfl, h1, h2, h3, h4⟩ := strs_ro (show DataW.trod enc Tryd.prog w 0 sp hd n 24 [c0] = some xs[0] from g0)
  obtain ⟨sa, sn, sc, ss, rfl, k1, k2, k3, k4, k5⟩ := segs_ro (show DataW.trod enc Tryd.prog w 0 sp hd n 25 [c1] = some xs[1] from g1)
  have hxe : xs.map (·.1) = [xs[0].1, xs[1].1] := List.ext_getElem (by simp; omega) (fun j a b => by
    have hj : j < 2 := b
    rcases j with _ | _ | j
    · simp
    · simp
    · omega)
  exact ⟨ua, un, uc, sa, sn, sc, us, ss, rfl, ⟨h1, k1, h2, k2, k3, h3, k4⟩, xs[0].1, xs[1].1, by rw [hx, ← hxe], h4, k5⟩
set_option maxRecDepth 100000 in
theorem open_list {H : Type} {enc : TypeId × Value → H} {W : World} {b0 : Nat} {sp : Nat → Bool} {hd : Bool} {r : Reach} {v : Value} {d : DataW H} {p : List MemPlace}
    (hv : Value.okWide Tryd.prog W r b0 27 v) (h : DataW.Trod enc Tryd.prog W 0 sp hd 27 v d p) : ∃ ua un uc sa sn sc us ss, v = .agg (lsV (.slice ua un uc) (.slice sa sn sc)) ∧ LCame W ua un uc sa sn sc us ss ∧ ∃ d0 d1, d = .agg [d0, d1] ∧ (un = 0 ∨ ∃ el s, d0 = .slice el s ∧ un ≤ el.length + s.length) ∧ (sn = 0 ∨ ∃ el s, d1 = .slice el s ∧ sn ≤ el.length + s.length) := by
  obtain ⟨cs, rfl, hsz⟩ := okWide_struct Tryd.underlying27 hv
  obtain ⟨fuel, hf⟩ := h
  have hf' : DataW.trod enc Tryd.prog W 0 sp hd fuel 27 cs.toList = some (d, p) := hf
  obtain ⟨ua, un, uc, sa, sn, sc, us, ss, e, h1, h2⟩ := list_of hf'
  refine ⟨ua, un, uc, sa, sn, sc, us, ss, ?_, h1, h2⟩
  have : cs = lsV (.slice ua un uc) (.slice sa sn sc) := Array.toList_inj.1 e
  rw [this]
end Go.Proofs.YtnebcbfjlkhimaaDoor
