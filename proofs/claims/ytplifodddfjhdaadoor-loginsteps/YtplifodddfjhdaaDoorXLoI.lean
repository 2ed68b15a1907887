/-
  login: keys that came in, with what they weigh.
-/
import Derived.Test.YtplifodddfjhdaaDoorXLoX
import Derived.SizedLaws
import Derived.Deep.Slices
import Derived.ChangeSame
import Derived.Lib.SmallJoins
import Derived.OpenShut
namespace Go.Proofs.YtplifodddfjhdaaDoor
open Go.ChangeShapes Go.WideShapes Go.ChangeAt Go.RowKit Go.Joins Go.Deep
set_option linter.unusedVariables false
set_option linter.unusedSimpArgs false

theorem Tryd.cellsPR : Tryd.prog.cellsOf 25 = 2 := by kernel_rfl
theorem Tryd.cellsS9 : Tryd.prog.cellsOf 9 = 1 := by kernel_rfl

theorem list2 {α : Type} : ∀ (l : List α), l.length = 2 → ∃ a b, l = [a, b]
  | [a, b], _ => ⟨a, b, rfl⟩

theorem pair_ofS {H : Type} {enc : TypeId × Value → H} {w : World} {sp : Nat → Bool} {hd : Bool} {fuel : Nat} {cs : List Value} {x : DataW H × List MemPlace}
    (h : DataW.trod enc Tryd.prog w 0 sp hd fuel 25 cs = some x) : ∃ p : ByteArray × ByteArray, cs = pcs p ∧ x.1 = .agg [.lit (.string p.1.data.toList), .lit (.string p.2.data.toList)] := by
  obtain ⟨xs, n, _, hxe, hcl, hlen, hfs⟩ := DataW.trod_struct Tryd.underlying25 h
  rw [Tryd.cellsPR] at hcl
  obtain ⟨c0, c1, rfl⟩ := list2 cs hcl
  have hl : xs.length = 2 := hlen.trans (by kernel_rfl)
  obtain ⟨x0, x1, rfl⟩ := list2 xs hl
  have g0 := hfs 0 _ rfl
  have g1 := hfs 1 _ rfl
  obtain ⟨a0, q0, e0, w0⟩ := DataW.trod_string Tryd.underlying9 g0
  obtain ⟨a1, q1, e1, w1⟩ := DataW.trod_string Tryd.underlying9 g1
  simp [Tryd.cellsS9] at q0 q1
  subst q0 q1
  refine ⟨(a0, a1), rfl, ?_⟩
  rw [hxe]
  simp [e0, e1]

theorem weights_all {H : Type} {P : Program} {e : TypeId} : ∀ {l : List (DataW H)} {d : DataW H}, d ∈ l → ∀ n ∈ d.weights P e, n ∈ DataW.weightsAll P e l
  | y :: l, d, h, n, hn => by
    simp only [DataW.weightsAll, List.mem_append]
    rcases List.mem_cons.1 h with rfl | h
    · exact .inl hn
    · exact .inr (weights_all h n hn)
theorem pair_weight {H : Type} (k v : List UInt8) : v.length ∈ (DataW.agg [.lit (.string k), .lit (.string v)] : DataW H).weights Tryd.prog 25 := by
  simp only [DataW.weights, Tryd.underlying25]
  simp [DataW.weightsEach, DataW.weights]
theorem ps_ofS {H : Type} {enc : TypeId × Value → H} {w : World} {sp : Nat → Bool} {hd : Bool} {a : Option Addr} {len cap : Nat} {d : DataW H} {p : List MemPlace}
    (h : DataW.Trod enc Tryd.prog w 0 sp hd 22 (.slice a len cap) d p) (hw : ∀ n ∈ d.weights Tryd.prog 22, n ≤ reachBytes) : ∃ ps : List (ByteArray × ByteArray), ps.length = len ∧ PsAt w (.slice a len cap) ps ∧ cap ≤ maxLen ∧ ∀ q ∈ ps, q.2.size ≤ reachBytes := by
  obtain ⟨fuel, hf⟩ := h
  rcases open_slice Tryd.underlying22 hf with ⟨hcs, _⟩ | ⟨x, l, c, m, n, D, Pl, hcs, _, hl, hm, hmm, hxd, hx⟩
  · simp [Value.cells] at hcs
    obtain ⟨rfl, rfl, rfl⟩ := hcs
    exact ⟨[], rfl, ps_nil w, Nat.zero_le _, fun q hq => by simp at hq⟩
  · simp [Value.cells] at hcs
    obtain ⟨rfl, rfl, rfl⟩ := hcs
    have hlm : len ≤ m := by rw [hmm]; split <;> omega
    rw [Tryd.cellsPR] at hx
    by_cases h0 : len = 0
    · subst h0
      exact ⟨[], rfl, ⟨some x, cap, rfl, fun h => (by cases h), Nat.zero_le _, .inl rfl⟩, hm, fun q hq => by simp at hq⟩
    obtain ⟨b, off, spot⟩ := x
    have hspot : spot = none := by
      obtain ⟨cs, h1, _⟩ := hx 0 (by omega)
      obtain ⟨_, hlen, hcell⟩ := World.cells?_some h1
      have e0 := hcell 0 (by omega)
      rw [List.getElem?_eq_getElem (by omega)] at e0
      have e1 : w.cell? (((⟨b, off, spot⟩ : Addr).add (0 * 2)).add 0) = some cs[0] := e0
      simpa [Addr.add] using World.cell?_spot e1
    subst hspot
    have key : ∀ j, j < len → ∃ q : ByteArray × ByteArray, q.2.size ≤ reachBytes ∧ w.rangeAt b (off + j * 2) (pcs q) ∧ b < w.heap.size := fun j hj => by
      obtain ⟨cs, h1, h2⟩ := hx j (by omega)
      obtain ⟨_, hlen, hcell⟩ := World.cells?_some h1
      obtain ⟨q, rfl, hqx⟩ := pair_ofS h2
      have hqs : q.2.size ≤ reachBytes := by
        refine hw _ ?_
        rw [show d = _ from congrArg Prod.fst hxd]
        simp only [DataW.weights, Tryd.underlying22, List.mem_cons, List.mem_append]
        refine .inr (.inl (weights_all (d := D j) (List.mem_map.2 ⟨j, List.mem_range.2 hj, rfl⟩) _ ?_))
        rw [show D j = _ from hqx]
        have hpw := pair_weight (H := H) q.1.data.toList q.2.data.toList
        rw [Array.length_toList] at hpw
        exact hpw
      have hc : ∀ i u, (pcs q)[i]? = some u → w.cell? ⟨b, off + j * 2 + i, none⟩ = some u := fun i u hu => by
        have hi : i < 2 := by have := (List.getElem?_eq_some_iff.1 hu).1; simpa [pcs] using this
        have e := hcell i hi
        rw [hu, Go.WideShapes.add_plain, Go.WideShapes.add_plain] at e
        exact e
      exact ⟨q, hqs, hc, World.block_lt_of_cell? w _ (hc 0 _ rfl)⟩
    have hcho := fun (j : Fin len) => key j.val j.isLt
    refine ⟨List.ofFn (fun j : Fin len => (hcho j).choose), by simp, ⟨some ⟨b, off, none⟩, cap, by simp, fun h => (by cases h), by simpa using hl, .inr ⟨b, off, rfl, ?_, fun j q hj => ?_⟩⟩, hm, fun q hq => ?_⟩
    · exact (key 0 (by omega)).choose_spec.2.2
    · have hjl : j < len := by have := (List.getElem?_eq_some_iff.1 hj).1; simpa using this
      rw [List.getElem?_ofFn, dif_pos hjl] at hj
      simp only [Option.some.injEq] at hj
      have hs := (hcho ⟨j, hjl⟩).choose_spec
      rw [hj] at hs
      exact hs.2.1
    · obtain ⟨j, rfl⟩ := List.mem_ofFn.1 hq
      exact (hcho j).choose_spec.1
theorem steps_any (a : Option Addr) (n c : Nat) (ps : List (ByteArray × ByteArray)) (b : Bool) (w : World) (hr : PsAt w (.slice a n c) ps) (hn : n ≤ maxLen) (hsz : ∀ p ∈ ps, p.2.size ≤ 281474976710656) (hG : Gl w) :
    Calls Tryd.prog 3 #[.slice a n c, .bool b] w fun e w' => e = .returned (.bool true) ∧ Below w.heap.size w w' := by
  cases h : (rsl b (ps.take (min n 30))).2.1 with
  | true => exact steps_t a n c ps b w hr hn hsz hG (min n 30) rfl h
  | false => exact steps_f a n c ps b w hr hn hsz hG (min n 30) rfl h
end Go.Proofs.YtplifodddfjhdaaDoor
