/-
  pdu: the document's Decode: small facts.
-/
import Derived.Test.YtigfoldobkigeaaURD0
namespace Go.Proofs.Ytigfoldobkigeaa
open Go.RowKit
set_option linter.unusedVariables false
set_option linter.unusedSimpArgs false

theorem headK_take (zs D : List Int) (k : Nat) : headK (zs.take 48) D k = headK zs D k := by
  unfold headK
  rw [take_getD zs 48 0 (by omega), take_getD zs 48 1 (by omega), take_getD zs 48 2 (by omega), take_getD zs 48 3 (by omega), take_getD zs 48 9 (by omega), num_take zs 48 16 4 (by omega)]
  have : wsK (zs.take 48) k = wsK zs k := by
    unfold wsK
    refine List.map_congr_left (fun i hi => ?_)
    have : i < 7 := List.mem_range.1 hi
    rw [num_take zs 48 _ 4 (by omega)]
  rw [this]
theorem headK_13 (zs D : List Int) (v u : Value) : ((headK zs D 7).vals v).setIfInBounds 13 u = (headK zs D 7).vals u := by
  simp [headK, wsK, Pd.vals, Pd.cs, List.range, List.range.loop]
theorem Bx.cells13 {W : World} {B : Nat} {zs D : List Int} {k : Nat} {v : Value} (h : Bx W B ((headK zs D k).vals v)) : W.cell? ⟨B, 13, none⟩ = some v := by
  rw [h.cells 13 (by rw [Pd.size (headK_len _ _ _)]; decide)]
  simp [headK, wsK, Pd.vals, Pd.cs, List.range, List.range.loop]
theorem sizeSB : (Try.prog.info? 24).map (·.size) = some 1 := by kernel_rfl
theorem own_zero {w : World} {b n : Nat} {v : Value} {xs : List Value} (h : w.ownsRow b 5 1 v n xs) : w.ownsRow 0 5 1 v n xs := own_base h (Nat.zero_le _)
end Go.Proofs.Ytigfoldobkigeaa
