/-
  Pieces of a list of bytes, as strings.
-/
import Derived.Test.YteegienlkffejaaSame
import Derived.Deep.QuietTactic
import Derived.BigQuiet
namespace Go.Proofs.Yteegienlkffejaa
open Go.RowKit
set_option linter.unusedVariables false

theorem size_elem (W : World) : (sizeOf (Try.prog.elem 22)).run Try.prog W = .ok 1 W := by kernel_rfl
theorem elem22 : Try.prog.underlying 22 = some (.slice (Try.prog.elem 22)) := by kernel_rfl

theorem RowAt.drewN {w : World} {a : Option Addr} {len : Nat} {zs : List Int} (h : RowAt w a len zs) (n : Nat) : RowAt (w.drewN n) a len zs := h

theorem cut_left (w : World) (b off len cap i : Nat) (L : List Int) (hl : L.length = len) (hi : i ≤ len) (hc : len ≤ cap)
    (hcell : ∀ j, j < len → w.cell? ⟨b, off + j, none⟩ = some (.int .u8 (L.getD j 0))) :
    ∃ V, (∀ W : World, (Instr.slice 22 (.slice (some ⟨b, off, none⟩) len cap) none (some (.int .i64 (i : Int))) none).run Try.prog W = .ok V W) ∧
      ∀ n, (convert 22 9 V).run Try.prog (w.drewN n) = .ok (.string (strOfNums (L.take i))) (w.drewN n) := by
  refine ⟨sliced (some ⟨b, off, none⟩) 0 i cap 1, fun W => ?_, fun n => ?_⟩
  · rw [run_slice_h (P := Try.prog) W 22 (some ⟨b, off, none⟩) len cap elem22 .i64 (i : Int) (by omega) (by omega), size_elem]
    simp [Result.andThen]
  · unfold sliced
    refine conv_any _ _ _ _ _ (by simp; omega) ?_
    apply RowAt.drewN
    by_cases h0 : i = 0
    · exact .inl (by omega)
    · rw [if_neg (by omega)]
      refine .inr ⟨b, off, by simp [Go.WideShapes.add_plain], fun j hj => ?_⟩
      rw [hcell j (by omega)]
      rw [List.getD_eq_getElem?_getD, List.getD_eq_getElem?_getD, List.getElem?_take, if_pos (by omega)]

theorem cut_right (w : World) (b off len cap i : Nat) (x : Int) (hx : x = (i : Int)) (L : List Int) (hl : L.length = len) (hi : i ≤ len) (hc : len ≤ cap)
    (hcell : ∀ j, j < len → w.cell? ⟨b, off + j, none⟩ = some (.int .u8 (L.getD j 0))) :
    ∃ V, (∀ W : World, (Instr.slice 22 (.slice (some ⟨b, off, none⟩) len cap) (some (.int .i64 x)) none none).run Try.prog W = .ok V W) ∧
      ∀ n, (convert 22 9 V).run Try.prog (w.drewN n) = .ok (.string (strOfNums (L.drop i))) (w.drewN n) := by
  subst hx
  refine ⟨sliced (some ⟨b, off, none⟩) i len cap 1, fun W => ?_, fun n => ?_⟩
  · rw [run_slice_l (P := Try.prog) W 22 (some ⟨b, off, none⟩) len cap elem22 .i64 (i : Int) (by omega) (by omega), size_elem]
    simp [Result.andThen]
  · unfold sliced
    refine conv_any _ _ _ _ _ (by simp; omega) ?_
    apply RowAt.drewN
    by_cases h0 : len - i = 0
    · exact .inl h0
    · rw [if_neg (by omega)]
      refine .inr ⟨b, off + i, by simp [Go.WideShapes.add_plain], fun j hj => ?_⟩
      rw [Nat.add_assoc, hcell (i + j) (by omega)]
      simp [List.getD_eq_getElem?_getD]

end Go.Proofs.Yteegienlkffejaa
