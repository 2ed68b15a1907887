/-
  login: bytes that came in.
-/
import Derived.Test.YtplifodddfjhdaaDoorXLnW
import Derived.WideShapes
namespace Go.Proofs.YtplifodddfjhdaaDoor
open Go.RowKit
set_option linter.unusedVariables false
set_option linter.unusedSimpArgs false

theorem bytes_of_mem {zs : List Int} (h : ∀ z ∈ zs, 0 ≤ z ∧ z ≤ 255) : Bytes zs := fun j => by
  rw [List.getD_eq_getElem?_getD]
  cases e : zs[j]? with
  | none => simp
  | some z => exact h z (List.mem_of_getElem? e)
theorem rd_isrow {w : World} {a : Option Addr} {n c : Nat} {zs : List Int} (h : (a = none ∧ n = 0 ∧ c = 0 ∧ zs = []) ∨ ∃ x, a = some x ∧ n ≤ c ∧ c ≤ 140737488351232 ∧ zs.length = c ∧ (∀ i, i < zs.length → w.cell? (x.add i) = some (.int .u8 (zs.getD i 0))) ∧ ∀ n ∈ zs, (Lit.int .u8 n).wf = true) :
    RdAt w (.slice a n c) (zs.take n) ∧ Bytes (zs.take n) ∧ n ≤ 140737488351232 ∧ (Value.slice a n c = .slice none 0 0 ∨ (∃ x, Value.slice a n c = .slice (some x) 0 0) ∨ ∃ b off n' c', Value.slice a n c = .slice (some ⟨b, off, none⟩) n' c') := by
  rcases h with ⟨rfl, rfl, rfl, rfl⟩ | ⟨x, rfl, h1, h2, h3, h4, h5⟩
  · exact ⟨rd_nil w, Bytes.nil, by omega, .inl rfl⟩
  · have hlen : (zs.take n).length = n := by rw [List.length_take]; omega
    have hb : Bytes (zs.take n) := bytes_of_mem fun y hy => by
      have := h5 y (List.mem_of_mem_take hy)
      simp [Lit.wf, IntKind.min, IntKind.max, IntKind.bits, IntKind.signed] at this
      omega
    have hsp : 0 < c → x.spot = none := fun hc => by
      have hc0 := h4 0 (by omega)
      simpa [Addr.add] using World.cell?_spot hc0
    refine ⟨⟨some x, c, by rw [hlen], (fun h => by cases h), by omega, ?_⟩, hb, by omega, ?_⟩
    · by_cases h0 : n = 0
      · exact .inl (by omega)
      · obtain ⟨b, off, spot⟩ := x
        obtain rfl : spot = none := hsp (by omega)
        refine .inr ⟨b, off, rfl, fun j u hu => ?_⟩
        have hj : j < n := by have := (List.getElem?_eq_some_iff.1 hu).1; simp at this; omega
        have := h4 j (by omega)
        rw [Go.WideShapes.add_plain] at this
        rw [this, ← hu]
        have hjz : j < zs.length := by omega
        simp [cels, List.getElem?_map, List.getElem?_take, hj, List.getElem?_eq_getElem hjz, List.getD_eq_getElem?_getD]
    · by_cases hc : 0 < c
      · obtain ⟨b, off, spot⟩ := x
        obtain rfl : spot = none := hsp hc
        exact .inr (.inr ⟨b, off, n, c, rfl⟩)
      · exact .inr (.inl ⟨x, by rw [show n = 0 by omega, show c = 0 by omega]⟩)

theorem arr4 {cs : Array Value} (h : cs.size = 4) : ∃ x0 x1 x2 x3, cs = #[x0, x1, x2, x3] := by
  refine ⟨cs[0], cs[1], cs[2], cs[3], ?_⟩
  apply Array.ext
  · simp [h]
  · intro i h1 h2
    have hi : i < 4 := by omega
    match i, hi with
    | 0, _ => rfl
    | 1, _ => rfl
    | 2, _ => rfl
    | 3, _ => rfl
theorem cells_req : Tryd.prog.cellsOf 39 = 4 := by kernel_rfl
set_option maxRecDepth 100000 in
theorem open_req {W : World} {b0 : Nat} {r : Reach} {v : Value} (hv : Value.okWide Tryd.prog W r b0 39 v) : ∃ x0 x1 x2 x3, v = .agg #[x0, x1, x2, x3] := by
  obtain ⟨cs, h1, hsz⟩ := Go.WideShapes.okWide_struct Tryd.underlying39 hv
  obtain ⟨x0, x1, x2, x3, h2⟩ := arr4 (hsz.trans cells_req)
  exact ⟨x0, x1, x2, x3, by rw [h1, h2]⟩
end Go.Proofs.YtplifodddfjhdaaDoor
