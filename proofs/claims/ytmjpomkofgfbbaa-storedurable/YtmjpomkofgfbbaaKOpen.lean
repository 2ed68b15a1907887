/-
  Blocks that came in.
-/
import Derived.Test.YtmjpomkofgfbbaaKAwake
import Derived.Deep.Slices
import Derived.Lib.SmallJoins
import Derived.OpenShut
namespace Go.Proofs.Ytmjpomkofgfbbaa
open Go.ChangeShapes Go.WideShapes Go.ChangeAt Go.RowKit Go.Joins Go.Deep
set_option linter.unusedVariables false
set_option linter.unusedSimpArgs false

theorem Try.cellsB : Try.prog.cellsOf 66 = 19 := by kernel_rfl
theorem Try.cellsA : Try.prog.cellsOf 60 = 16 := by kernel_rfl
theorem Try.cellsT : Try.prog.cellsOf 64 = 3 := by kernel_rfl
theorem Try.cells5 : Try.prog.cellsOf 5 = 1 := by kernel_rfl

def numOf : Value → Int
  | .int _ n => n
  | _ => 0
def bkOf (cs : List Value) : Bk := ⟨(cs.take 16).map numOf, numOf (cs.getD 16 undef), numOf (cs.getD 17 undef), numOf (cs.getD 18 undef)⟩

theorem list19 (cs : List Value) (hl : cs.length = 19) : ∃ c0 c1 c2 c3 c4 c5 c6 c7 c8 c9 c10 c11 c12 c13 c14 c15 t0 t1 t2, cs = [c0, c1, c2, c3, c4, c5, c6, c7, c8, c9, c10, c11, c12, c13, c14, c15, t0, t1, t2] := by
  match cs, hl with
  | [c0, c1, c2, c3, c4, c5, c6, c7, c8, c9, c10, c11, c12, c13, c14, c15, t0, t1, t2], _ => exact ⟨_, _, _, _, _, _, _, _, _, _, _, _, _, _, _, _, _, _, _, rfl⟩
set_option maxRecDepth 100000 in
theorem blk_of {H : Type} {enc : TypeId × Value → H} {w : World} {sp : Nat → Bool} {hd : Bool} {q : Nat} {cs : List Value} {x : DataW H × List MemPlace}
    (h : DataW.trod enc Try.prog w 0 sp hd q 66 cs = some x) : (bkOf cs).ok ∧ (bkOf cs).cs = cs := by
  obtain ⟨y0, y1, n, _, hl, h0, h1⟩ := trod_struct2 Try.underlying66 h
  rw [Try.cellsB] at hl
  have h0' : DataW.trod enc Try.prog w 0 sp hd n 60 ((cs.drop 0).take (Try.prog.cellsOf 60)) = some y0 := h0
  have h1' : DataW.trod enc Try.prog w 0 sp hd n 64 ((cs.drop 16).take (Try.prog.cellsOf 64)) = some y1 := h1
  rw [Try.cellsA] at h0'
  rw [Try.cellsT] at h1'
  obtain ⟨xs, m, _, _, _, hxl, hx⟩ := DataW.trod_array Try.underlying60 h0'
  have hdat : ∀ i, i < 16 → ∃ k : Int, cs[i]? = some (.int .u8 k) ∧ 0 ≤ k ∧ k ≤ 255 := fun i hi => by
    have := hx i hi
    rw [Try.cells5, List.getElem?_eq_getElem (by omega)] at this
    obtain ⟨k, k1, _, k2⟩ := DataW.trod_int Try.underlying5 this
    simp [Lit.wf, IntKind.min, IntKind.max, IntKind.bits, IntKind.signed] at k2
    refine ⟨k, ?_, by omega, by omega⟩
    have e := congrArg (fun l => l[0]?) k1
    simp only [List.getElem?_take, List.getElem?_drop, List.getElem?_cons_zero, Nat.mul_one, Nat.add_zero, Nat.zero_add] at e
    simpa [hi] using e
  obtain ⟨z0, z1, z2, r, _, _, g0, g1, g2⟩ := trod_struct3 Try.underlying64 h1'
  obtain ⟨c0, c1, c2, c3, c4, c5, c6, c7, c8, c9, c10, c11, c12, c13, c14, c15, t0, t1, t2, rfl⟩ := list19 cs hl
  obtain ⟨a0, a1, _, a2⟩ := DataW.trod_int Try.underlying61 (show DataW.trod enc Try.prog w 0 sp hd r 61 [t0] = some z0 from g0)
  obtain ⟨b0, b1, _, b2⟩ := DataW.trod_int Try.underlying61 (show DataW.trod enc Try.prog w 0 sp hd r 61 [t1] = some z1 from g1)
  obtain ⟨e0, e1, _, e2⟩ := DataW.trod_int Try.underlying62 (show DataW.trod enc Try.prog w 0 sp hd r 62 [t2] = some z2 from g2)
  simp only [List.cons.injEq, and_true] at a1 b1 e1
  subst a1 b1 e1
  simp [Lit.wf, IntKind.min, IntKind.max, IntKind.bits, IntKind.signed] at a2 b2 e2
  obtain ⟨d0, f0, p0⟩ := hdat 0 (by decide)
  obtain ⟨d1, f1, p1⟩ := hdat 1 (by decide)
  obtain ⟨d2, f2, p2⟩ := hdat 2 (by decide)
  obtain ⟨d3, f3, p3⟩ := hdat 3 (by decide)
  obtain ⟨d4, f4, p4⟩ := hdat 4 (by decide)
  obtain ⟨d5, f5, p5⟩ := hdat 5 (by decide)
  obtain ⟨d6, f6, p6⟩ := hdat 6 (by decide)
  obtain ⟨d7, f7, p7⟩ := hdat 7 (by decide)
  obtain ⟨d8, f8, p8⟩ := hdat 8 (by decide)
  obtain ⟨d9, f9, p9⟩ := hdat 9 (by decide)
  obtain ⟨d10, f10, p10⟩ := hdat 10 (by decide)
  obtain ⟨d11, f11, p11⟩ := hdat 11 (by decide)
  obtain ⟨d12, f12, p12⟩ := hdat 12 (by decide)
  obtain ⟨d13, f13, p13⟩ := hdat 13 (by decide)
  obtain ⟨d14, f14, p14⟩ := hdat 14 (by decide)
  obtain ⟨d15, f15, p15⟩ := hdat 15 (by decide)
  simp at f0 f1 f2 f3 f4 f5 f6 f7 f8 f9 f10 f11 f12 f13 f14 f15
  subst f0 f1 f2 f3 f4 f5 f6 f7 f8 f9 f10 f11 f12 f13 f14 f15
  refine ⟨⟨rfl, fun x hx => ?_, by simp [bkOf, numOf]; omega, by simp [bkOf, numOf]; omega, by simp [bkOf, numOf]; omega⟩, rfl⟩
  simp [bkOf, numOf] at hx
  rcases hx with h | h | h | h | h | h | h | h | h | h | h | h | h | h | h | h <;> subst h <;> assumption

theorem bks_of {H : Type} {enc : TypeId × Value → H} {w : World} {sp : Nat → Bool} {hd : Bool} {a : Option Addr} {len cap : Nat} {d : DataW H} {p : List MemPlace}
    (h : DataW.Trod enc Try.prog w 0 sp hd 35 (.slice a len cap) d p) : ∃ bs : List Bk, bs.length = len ∧ Bks w (.slice a len cap) bs ∧ len ≤ cap := by
  obtain ⟨fuel, hf⟩ := h
  rcases open_slice Try.underlying35 hf with ⟨hcs, _⟩ | ⟨x, l, c, m, n, D, Pl, hcs, _, hl, hm, hmm, _, hx⟩
  · simp [Value.cells] at hcs
    obtain ⟨rfl, rfl, rfl⟩ := hcs
    exact ⟨[], rfl, ⟨none, 0, rfl, Nat.zero_le _, fun j b hj => by simp at hj⟩, Nat.le_refl _⟩
  · simp [Value.cells] at hcs
    obtain ⟨rfl, rfl, rfl⟩ := hcs
    have hlm : len ≤ m := by rw [hmm]; split <;> omega
    rw [Try.cellsB] at hx
    by_cases h0 : len = 0
    · subst h0
      exact ⟨[], rfl, ⟨some x, cap, rfl, Nat.zero_le _, fun j b hj => by simp at hj⟩, hl⟩
    obtain ⟨b, off, spot⟩ := x
    have hspot : spot = none := by
      obtain ⟨cs, h1, _⟩ := hx 0 (by omega)
      obtain ⟨_, hlen, hcell⟩ := World.cells?_some h1
      have e0 := hcell 0 (by omega)
      rw [List.getElem?_eq_getElem (by omega)] at e0
      have e1 : w.cell? (((⟨b, off, spot⟩ : Addr).add (0 * 19)).add 0) = some cs[0] := e0
      simpa [Addr.add] using World.cell?_spot e1
    subst hspot
    have key : ∀ j, j < len → ∃ bk : Bk, bk.ok ∧ w.rangeAt b (off + j * 19) bk.cs ∧ b < w.heap.size := fun j hj => by
      obtain ⟨cs, h1, h2⟩ := hx j (by omega)
      obtain ⟨_, hlen, hcell⟩ := World.cells?_some h1
      obtain ⟨hok, hcs⟩ := blk_of h2
      have hc : ∀ i u, cs[i]? = some u → w.cell? ⟨b, off + j * 19 + i, none⟩ = some u := fun i u hu => by
        have hi : i < 19 := by have := (List.getElem?_eq_some_iff.1 hu).1; omega
        have e := hcell i hi
        rw [hu, Go.WideShapes.add_plain, Go.WideShapes.add_plain] at e
        exact e
      refine ⟨bkOf cs, hok, by rw [hcs]; exact hc, ?_⟩
      exact World.block_lt_of_cell? w _ (hc 0 cs[0] (List.getElem?_eq_getElem (by omega)))
    have hcho := fun (j : Fin len) => key j.val j.isLt
    refine ⟨List.ofFn (fun j : Fin len => (hcho j).choose), by simp, ⟨some ⟨b, off, none⟩, cap, by simp, by simp; omega, fun j bk hj => ?_⟩, hl⟩
    have hjl : j < len := by have := (List.getElem?_eq_some_iff.1 hj).1; simpa using this
    rw [List.getElem?_ofFn, dif_pos hjl] at hj
    simp only [Option.some.injEq] at hj
    have hs := (hcho ⟨j, hjl⟩).choose_spec
    rw [hj] at hs
    exact ⟨hs.1, b, off, rfl, hs.2.2, hs.2.1⟩
end Go.Proofs.Ytmjpomkofgfbbaa
