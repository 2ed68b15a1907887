/-
  Acts that came in.
-/
import Derived.Test.YtdojhgapdocngaaMKeepB
import Derived.Test.YtdojhgapdocngaaMRSelP
import Derived.ProofKit
import Derived.OpenShut
import Derived.Lib.SmallJoins
namespace Go.Proofs.Ytdojhgapdocngaa
open Go.ChangeShapes Go.WideShapes Go.ChangeAt Go.RowKit Go.Joins Go.Deep
set_option linter.unusedVariables false
set_option linter.unusedSimpArgs false
set_option maxRecDepth 100000 in
theorem cmd_of {H : Type} {enc : TypeId × Value → H} {w : World} {base : Nat} {sp : Nat → Bool} {hd : Bool} {fuel : Nat} {c0 c1 c2 c3 c4 c5 c6 c7 c8 c9 c10 c11 c12 c13 c14 : Value} {x : DataW H × List MemPlace}
    (hf : DataW.trod enc Try.prog w base sp hd fuel 36 [c0, c1, c2, c3, c4, c5, c6, c7, c8, c9, c10, c11, c12, c13, c14] = some x) : ∃ s : Cm, [c0, c1, c2, c3, c4, c5, c6, c7, c8, c9, c10, c11, c12, c13, c14] = s.vals.toList ∧ (0 ≤ s.pg ∧ s.pg ≤ 255) ∧ (0 ≤ s.ct ∧ s.ct ≤ 255) := by
  obtain ⟨xs, n, _, _, _, hlen, hfs⟩ := DataW.trod_struct Try.underlying36 hf
  have hl : xs.length = 15 := hlen.trans (by kernel_rfl)
  have g0 := hfs 0 _ rfl
  rw [List.getElem?_eq_getElem (show 0 < xs.length by omega)] at g0
  have g1 := hfs 1 _ rfl
  rw [List.getElem?_eq_getElem (show 1 < xs.length by omega)] at g1
  have g2 := hfs 2 _ rfl
  rw [List.getElem?_eq_getElem (show 2 < xs.length by omega)] at g2
  have g3 := hfs 3 _ rfl
  rw [List.getElem?_eq_getElem (show 3 < xs.length by omega)] at g3
  have g4 := hfs 4 _ rfl
  rw [List.getElem?_eq_getElem (show 4 < xs.length by omega)] at g4
  have g5 := hfs 5 _ rfl
  rw [List.getElem?_eq_getElem (show 5 < xs.length by omega)] at g5
  have g6 := hfs 6 _ rfl
  rw [List.getElem?_eq_getElem (show 6 < xs.length by omega)] at g6
  have g7 := hfs 7 _ rfl
  rw [List.getElem?_eq_getElem (show 7 < xs.length by omega)] at g7
  have g8 := hfs 8 _ rfl
  rw [List.getElem?_eq_getElem (show 8 < xs.length by omega)] at g8
  have g9 := hfs 9 _ rfl
  rw [List.getElem?_eq_getElem (show 9 < xs.length by omega)] at g9
  have g10 := hfs 10 _ rfl
  rw [List.getElem?_eq_getElem (show 10 < xs.length by omega)] at g10
  have g11 := hfs 11 _ rfl
  rw [List.getElem?_eq_getElem (show 11 < xs.length by omega)] at g11
  have g12 := hfs 12 _ rfl
  rw [List.getElem?_eq_getElem (show 12 < xs.length by omega)] at g12
  have g13 := hfs 13 _ rfl
  rw [List.getElem?_eq_getElem (show 13 < xs.length by omega)] at g13
  have g14 := hfs 14 _ rfl
  rw [List.getElem?_eq_getElem (show 14 < xs.length by omega)] at g14
  obtain ⟨a0, e0, _, r0⟩ := DataW.trod_int Try.underlying33 (show DataW.trod enc Try.prog w base sp hd n 33 [c0] = some _ from g0)
  obtain ⟨a1, e1, _⟩ := DataW.trod_bool Try.underlying4 (show DataW.trod enc Try.prog w base sp hd n 4 [c1] = some _ from g1)
  obtain ⟨a2, e2, _, r2⟩ := DataW.trod_int Try.underlying34 (show DataW.trod enc Try.prog w base sp hd n 34 [c2] = some _ from g2)
  obtain ⟨a3, e3, _, r3⟩ := DataW.trod_int Try.underlying34 (show DataW.trod enc Try.prog w base sp hd n 34 [c3] = some _ from g3)
  obtain ⟨a4, e4, _, r4⟩ := DataW.trod_int Try.underlying3 (show DataW.trod enc Try.prog w base sp hd n 3 [c4] = some _ from g4)
  obtain ⟨a5, e5, _⟩ := DataW.trod_bool Try.underlying4 (show DataW.trod enc Try.prog w base sp hd n 4 [c5] = some _ from g5)
  obtain ⟨a6, e6, _, r6⟩ := DataW.trod_int Try.underlying5 (show DataW.trod enc Try.prog w base sp hd n 5 [c6] = some _ from g6)
  obtain ⟨a7, e7, _⟩ := DataW.trod_bool Try.underlying4 (show DataW.trod enc Try.prog w base sp hd n 4 [c7] = some _ from g7)
  obtain ⟨a8, e8, _⟩ := DataW.trod_bool Try.underlying4 (show DataW.trod enc Try.prog w base sp hd n 4 [c8] = some _ from g8)
  obtain ⟨a9, e9, _, r9⟩ := DataW.trod_int Try.underlying5 (show DataW.trod enc Try.prog w base sp hd n 5 [c9] = some _ from g9)
  obtain ⟨a10, e10, _, r10⟩ := DataW.trod_int Try.underlying5 (show DataW.trod enc Try.prog w base sp hd n 5 [c10] = some _ from g10)
  obtain ⟨a11, e11, _⟩ := DataW.trod_bool Try.underlying4 (show DataW.trod enc Try.prog w base sp hd n 4 [c11] = some _ from g11)
  obtain ⟨a12, e12, _, r12⟩ := DataW.trod_int Try.underlying5 (show DataW.trod enc Try.prog w base sp hd n 5 [c12] = some _ from g12)
  obtain ⟨a13, e13, _, r13⟩ := DataW.trod_int Try.underlying5 (show DataW.trod enc Try.prog w base sp hd n 5 [c13] = some _ from g13)
  obtain ⟨a14, e14, _⟩ := DataW.trod_bool Try.underlying4 (show DataW.trod enc Try.prog w base sp hd n 4 [c14] = some _ from g14)
  simp only [List.cons.injEq, and_true] at e0 e1 e2 e3 e4 e5 e6 e7 e8 e9 e10 e11 e12 e13 e14
  subst e0 e1 e2 e3 e4 e5 e6 e7 e8 e9 e10 e11 e12 e13 e14
  exact ⟨⟨a0, a1, a2, a3, a4, a5, a6, a7, a8, a9, a10, a11, a12, a13, a14⟩, rfl, wf_u8 r9, wf_u8 r10⟩

/-- Bytes that came in. -/
def Pb (w : World) (a : Option Addr) (len cap : Nat) : Prop :=
  (len = 0 ∧ RdAt w (.slice a 0 cap) []) ∨ ∃ b off p, a = some ⟨b, off, none⟩ ∧ Cl w b off p ∧ p.length = len ∧ 1 ≤ len ∧ len ≤ cap ∧ cap ≤ maxLen ∧ b < w.heap.size ∧ ∀ j, 0 ≤ p.getD j 0 ∧ p.getD j 0 ≤ 255
def actA (S : Bool) (c : Cm) (a : Option Addr) (l k : Nat) : Array Value := #[.bool S, .int .u8 c.kd, .bool c.lg, .int .u64 c.lba, .int .u64 c.bl, .int .i64 c.al, .bool c.fua, .int .u8 c.pr, .bool c.um, .bool c.ev, .int .u8 c.pg, .int .u8 c.ct, .bool c.sv, .int .u8 c.se, .int .u8 c.ty, .bool c.bs, .slice a l k]
theorem cells39 : Try.prog.cellsOf 39 = 17 := by kernel_rfl
set_option maxRecDepth 100000 in
theorem act_of {H : Type} {enc : TypeId × Value → H} {w : World} {base : Nat} {hd : Bool} {fuel : Nat} {c0 c1 c2 c3 c4 c5 c6 c7 c8 c9 c10 c11 c12 c13 c14 c15 c16 : Value} {x : DataW H × List MemPlace}
    (hf : DataW.trod enc Try.prog w base (fun _ => true) hd fuel 39 [c0, c1, c2, c3, c4, c5, c6, c7, c8, c9, c10, c11, c12, c13, c14, c15, c16] = some x) : ∃ S c a l k, [c0, c1, c2, c3, c4, c5, c6, c7, c8, c9, c10, c11, c12, c13, c14, c15, c16] = (actA S c a l k).toList ∧ Pb w a l k ∧ (0 ≤ c.pg ∧ c.pg ≤ 255) ∧ (0 ≤ c.ct ∧ c.ct ≤ 255) := by
  obtain ⟨y0, y1, y2, n, _, _, g0, g1, g2⟩ := trod_struct3 Try.underlying39 hf
  obtain ⟨S, e0, _⟩ := DataW.trod_bool Try.underlying4 (show DataW.trod enc Try.prog w base (fun _ => true) hd n 4 [c0] = some _ from g0)
  obtain ⟨s, e1, hs⟩ := cmd_of (show DataW.trod enc Try.prog w base (fun _ => true) hd n 36 [c1, c2, c3, c4, c5, c6, c7, c8, c9, c10, c11, c12, c13, c14, c15] = some _ from g1)
  have g2' := show DataW.trod enc Try.prog w base (fun _ => true) hd n 37 [c16] = some _ from g2
  simp only [List.cons.injEq, and_true] at e0
  obtain ⟨a, l, k, e2, hp⟩ : ∃ a l k, c16 = .slice a l k ∧ Pb w a l k := by
    rcases open_ints Try.underlying37 Try.underlying5 (by kernel_rfl) g2' with ⟨hcs, _⟩ | ⟨x, l, c, zs, hcs, _, hl, hm, hz, _, hcell, hwz⟩
    · simp at hcs
      exact ⟨none, 0, 0, hcs, row_of (zs := []) (.inl ⟨rfl, rfl, rfl, rfl⟩)⟩
    · simp at hcs
      exact ⟨some x, l, c, hcs, row_of (.inr ⟨_, rfl, hl, hm, by simpa using hz, hcell, hwz⟩)⟩
  simp only [Cm.vals, List.cons.injEq, and_true] at e1
  obtain ⟨rfl, rfl, rfl, rfl, rfl, rfl, rfl, rfl, rfl, rfl, rfl, rfl, rfl, rfl, rfl⟩ := e1
  subst e0 e2
  exact ⟨S, s, a, l, k, rfl, hp, hs⟩

/-- Acts that came in. -/
def Acts (w : World) (a : Option Addr) (len : Nat) : Prop :=
  len ≤ maxLen ∧ ∀ j, j < len → ∃ b off, a = some ⟨b, off, none⟩ ∧ b < w.heap.size ∧ ∃ S c pa pl pk, w.rangeAt b (off + j * 17) (actA S c pa pl pk).toList ∧ Pb w pa pl pk ∧ (0 ≤ c.pg ∧ c.pg ≤ 255) ∧ (0 ≤ c.ct ∧ c.ct ≤ 255)

set_option maxRecDepth 100000 in
theorem acts_of {H : Type} {enc : TypeId × Value → H} {w : World} {hd : Bool} {a : Option Addr} {len cap : Nat} {d : DataW H} {p : List MemPlace}
    (h : DataW.Trod enc Try.prog w 0 (fun _ => true) hd 24 (.slice a len cap) d p) : Acts w a len := by
  obtain ⟨fuel, hf⟩ := h
  rcases open_slice Try.underlying24 hf with ⟨hcs, _⟩ | ⟨x, l, c, m, n, D, Pl, hcs, _, hl, hm, hmm, _, hx⟩
  · simp [Value.cells] at hcs
    obtain ⟨rfl, rfl, rfl⟩ := hcs
    exact ⟨Nat.zero_le _, fun j hj => by omega⟩
  · simp [Value.cells] at hcs
    obtain ⟨rfl, rfl, rfl⟩ := hcs
    refine ⟨Nat.le_trans hl hm, fun j hj => ?_⟩
    have hjm : j < m := by rw [hmm]; split <;> omega
    obtain ⟨b, off, spot⟩ := x
    have hspot : spot = none := by
      obtain ⟨cs, h1, _⟩ := hx 0 (by omega)
      rw [cells39] at h1
      obtain ⟨_, hlen, hcell⟩ := World.cells?_some h1
      have e0 := hcell 0 (by omega)
      rw [List.getElem?_eq_getElem (by omega)] at e0
      have e1 : w.cell? (((⟨b, off, spot⟩ : Addr).add (0 * 17)).add 0) = some cs[0] := e0
      simpa [Addr.add] using World.cell?_spot e1
    subst hspot
    obtain ⟨cs, h1, h2⟩ := hx j hjm
    rw [cells39] at h1
    obtain ⟨_, hlen, hcell⟩ := World.cells?_some h1
    match cs, hlen with
    | [c0, c1, c2, c3, c4, c5, c6, c7, c8, c9, c10, c11, c12, c13, c14, c15, c16], _ =>
      obtain ⟨S, c, pa, pl, pk, e, hp, hc⟩ := act_of h2
      have e0 : w.cell? (((⟨b, off, none⟩ : Addr).add (j * 17)).add 0) = some c0 := hcell 0 (by omega)
      rw [Go.WideShapes.add_plain, Go.WideShapes.add_plain] at e0
      have hbl : b < w.heap.size := World.block_lt_of_cell? w _ e0
      refine ⟨b, off, rfl, hbl, S, c, pa, pl, pk, fun i x hi => ?_, hp, hc⟩
      have hi7 : i < 17 := by have := (List.getElem?_eq_some_iff.1 hi).1; simpa [actA] using this
      have := hcell i (by omega)
      rw [Go.WideShapes.add_plain, Go.WideShapes.add_plain] at this
      rw [this, e]
      exact hi
def zeroA : Array Value := #[.bool false, .int .u8 0, .bool false, .int .u64 0, .int .u64 0, .int .i64 0, .bool false, .int .u8 0, .bool false, .bool false, .int .u8 0, .int .u8 0, .bool false, .int .u8 0, .int .u8 0, .bool false, .slice none 0 0]
theorem zeroAi : (Try.prog.info? 39).map (fun i => i.zero) = some (some (.agg zeroA)) := by kernel_rfl
theorem infoA : (Try.prog.info? 39).map (·.size) = some 17 := by kernel_rfl
theorem actA_one (S : Bool) (c : Cm) (a : Option Addr) (l k : Nat) : (actA S c a l k).all (·.oneCell') = true := by simp [actA, Value.oneCell']
theorem act_c0 {w : World} {b : Nat} {S : Bool} {c : Cm} {a : Option Addr} {l k : Nat} (h : Bx w b (actA S c a l k)) : w.cell? ⟨b, 0, none⟩ = some (.bool S) := h.cells 0 (show 0 < 17 by decide)
theorem act_c16 {w : World} {b : Nat} {S : Bool} {c : Cm} {a : Option Addr} {l k : Nat} (h : Bx w b (actA S c a l k)) : w.cell? ⟨b, 16, none⟩ = some (.slice a l k) := h.cells 16 (show 16 < 17 by decide)
theorem act_cmd {w : World} {b : Nat} {S : Bool} {c : Cm} {a : Option Addr} {l k : Nat} (h : Bx w b (actA S c a l k)) : w.rangeAt b 1 c.vals.toList := fun j u hu => by
  have hj : j < 15 := by have := (List.getElem?_eq_some_iff.1 hu).1; simpa [Cm.vals] using this
  have e := h.cells (1 + j) (show 1 + j < 17 by omega)
  rw [e, ← hu]
  have : ∀ j, j < 15 → (actA S c a l k)[1 + j]? = c.vals.toList[j]? := by
    intro j hj
    match j, hj with
    | 0, _ | 1, _ | 2, _ | 3, _ | 4, _ | 5, _ | 6, _ | 7, _ | 8, _ | 9, _ | 10, _ | 11, _ | 12, _ | 13, _ | 14, _ => rfl
  exact this j hj
end Go.Proofs.Ytdojhgapdocngaa
