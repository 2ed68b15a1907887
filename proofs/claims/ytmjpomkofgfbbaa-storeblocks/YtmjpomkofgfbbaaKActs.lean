/-
  Acts that came in.
-/
import Derived.Test.YtmjpomkofgfbbaaKBlk
import Derived.Test.YtmjpomkofgfbbaaKOpen
namespace Go.Proofs.Ytmjpomkofgfbbaa
open Go.ChangeShapes Go.WideShapes Go.ChangeAt Go.RowKit Go.Joins Go.Deep
set_option linter.unusedVariables false
set_option linter.unusedSimpArgs false

theorem list5 (cs : List Value) (hl : cs.length = 5) : ∃ c0 c1 c2 c3 c4, cs = [c0, c1, c2, c3, c4] := by
  match cs, hl with
  | [c0, c1, c2, c3, c4], _ => exact ⟨_, _, _, _, _, rfl⟩
theorem Try.cells37 : Try.prog.cellsOf 37 = 5 := by kernel_rfl
theorem Try.cells3' : Try.prog.cellsOf 3 = 1 := by kernel_rfl
theorem Try.cells4' : Try.prog.cellsOf 4 = 1 := by kernel_rfl
theorem Try.cells35' : Try.prog.cellsOf 35 = 1 := by kernel_rfl
set_option maxRecDepth 100000 in
theorem act_of {H : Type} {enc : TypeId × Value → H} {w : World} {sp : Nat → Bool} {hd : Bool} {q : Nat} {cs : List Value} {x : DataW H × List MemPlace}
    (h : DataW.trod enc Try.prog w 0 sp hd q 37 cs = some x) (hl : cs.length = 5) : ∃ x : Ac, (0 ≤ x.kd ∧ x.kd ≤ 255) ∧ (-9223372036854775808 ≤ x.a ∧ x.a ≤ 9223372036854775807) ∧ x.bs.length = x.ll ∧ x.ll ≤ x.lc ∧ x.ll ≤ maxLen ∧ Bks w (.slice x.la x.ll x.lc) x.bs ∧ x.cs = cs := by
  obtain ⟨c0, c1, c2, c3, c4, rfl⟩ := list5 cs hl
  obtain ⟨xs, n, _, _, _, hlen, hfs⟩ := DataW.trod_struct Try.underlying37 h
  have hl : xs.length = 5 := hlen.trans (by kernel_rfl)
  have g0 := hfs 0 _ rfl
  rw [List.getElem?_eq_getElem (show 0 < xs.length by omega)] at g0
  have g1 := hfs 1 _ rfl
  rw [List.getElem?_eq_getElem (show 1 < xs.length by omega)] at g1
  have g2 := hfs 2 _ rfl
  rw [List.getElem?_eq_getElem (show 2 < xs.length by omega)] at g2
  have g3 := hfs 3 _ rfl
  rw [List.getElem?_eq_getElem (show 3 < xs.length by omega)] at g3
  have g4 := hfs 4 _ rfl
  rw [List.getElem?_eq_getElem (show 4 < xs.length by omega)] at g4
  obtain ⟨a0, q0, _, r0⟩ := DataW.trod_int Try.underlying5 g0
  obtain ⟨a1, q1, _, r1⟩ := DataW.trod_int Try.underlying3 g1
  obtain ⟨a2, q2, _, r2⟩ := DataW.trod_int Try.underlying3 g2
  obtain ⟨a4, q4, _⟩ := DataW.trod_bool Try.underlying4 g4
  simp [Try.cells5, Try.cells3', Try.cells4'] at q0 q1 q2 q4
  subst q0 q1 q2 q4
  have g3' : DataW.trod enc Try.prog w 0 sp hd n 35 [c3] = some xs[3] := by
    have e : List.take (Try.prog.cellsOf 35) (List.drop 3 [Value.int IntKind.u8 a0, Value.int IntKind.i64 a1, Value.int IntKind.i64 a2, c3, Value.bool a4]) = [c3] := by rw [Try.cells35']; rfl
    rw [← e]
    exact g3
  simp [Lit.wf, IntKind.min, IntKind.max, IntKind.bits, IntKind.signed] at r0 r1
  rcases open_slice Try.underlying35 g3' with ⟨hcs, _⟩ | ⟨y, l, c, m, n', D, Pl, hcs, _⟩
  · simp at hcs
    subst hcs
    obtain ⟨bs, hb1, hb2, hb3⟩ := bks_of (w := w) (a := none) (len := 0) (cap := 0) ⟨n, g3'⟩
    exact ⟨⟨a0, a1, a2, none, 0, 0, a4, bs⟩, by simp only; omega, by simp only; omega, hb1, hb3, Nat.zero_le _, hb2, rfl⟩
  · simp at hcs
    subst hcs
    obtain ⟨bs, hb1, hb2, hb3⟩ := bks_of (w := w) (a := some y) (len := l) (cap := c) ⟨n, g3'⟩
    refine ⟨⟨a0, a1, a2, some y, l, c, a4, bs⟩, by simp only; omega, by simp only; omega, hb1, hb3, ?_, hb2, rfl⟩
    obtain ⟨_, _, _, hm, _⟩ := hb2
    simp only
    omega

theorem acts_of {H : Type} {enc : TypeId × Value → H} {w : World} {sp : Nat → Bool} {hd : Bool} {a : Option Addr} {len cap : Nat} {d : DataW H} {p : List MemPlace}
    (h : DataW.Trod enc Try.prog w 0 sp hd 22 (.slice a len cap) d p) : Acts w a len ∧ len ≤ maxLen := by
  obtain ⟨fuel, hf⟩ := h
  rcases open_slice Try.underlying22 hf with ⟨hcs, _⟩ | ⟨x, l, c, m, n, D, Pl, hcs, _, hl, hm, hmm, _, hx⟩
  · simp [Value.cells] at hcs
    obtain ⟨rfl, rfl, rfl⟩ := hcs
    exact ⟨fun j hj => by omega, Nat.zero_le _⟩
  · simp [Value.cells] at hcs
    obtain ⟨rfl, rfl, rfl⟩ := hcs
    have hlm : len ≤ m := by rw [hmm]; split <;> omega
    refine ⟨fun j hj => ?_, by omega⟩
    rw [Try.cells37] at hx
    obtain ⟨b, off, spot⟩ := x
    have hspot : spot = none := by
      obtain ⟨cs, h1, _⟩ := hx 0 (by omega)
      obtain ⟨_, hlen, hcell⟩ := World.cells?_some h1
      have e0 := hcell 0 (by omega)
      rw [List.getElem?_eq_getElem (by omega)] at e0
      have e1 : w.cell? (((⟨b, off, spot⟩ : Addr).add (0 * 5)).add 0) = some cs[0] := e0
      simpa [Addr.add] using World.cell?_spot e1
    subst hspot
    obtain ⟨cs, h1, h2⟩ := hx j (by omega)
    obtain ⟨_, hlen, hcell⟩ := World.cells?_some h1
    obtain ⟨y, y1, y2, y3, y4, y5, y6, y7⟩ := act_of h2 hlen
    have hc : ∀ i u, cs[i]? = some u → w.cell? ⟨b, off + j * 5 + i, none⟩ = some u := fun i u hu => by
      have hi : i < 5 := by have := (List.getElem?_eq_some_iff.1 hu).1; omega
      have e := hcell i hi
      rw [hu, Go.WideShapes.add_plain, Go.WideShapes.add_plain] at e
      exact e
    exact ⟨y, y1, y2, y3, y4, y5, y6, b, off, rfl, World.block_lt_of_cell? w _ (hc 0 cs[0] (List.getElem?_eq_getElem (by omega))), by rw [y7]; exact hc⟩
end Go.Proofs.Ytmjpomkofgfbbaa
