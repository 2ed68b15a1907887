/-
  PiHonest: blocks with a byte turned.
-/
import Derived.Test.YtcnjnebhidfogaaGChk
namespace Go.Proofs.Ytcnjnebhidfogaa
open Go.RowKit
set_option linter.unusedVariables false
set_option linter.unusedSimpArgs false

theorem bx_cell {W : World} {B : Nat} (b : Bk) (h : b.ok) (hx : Bx W B b.vals) (i : Nat) (hi : i < 16) : W.cell? ⟨B, i, none⟩ = some (.int .u8 (b.d.getD i 0)) := by
  rw [hx.cells i (by rw [Bk.size h]; omega)]
  exact vals_data b h i hi
theorem bx_turn {W : World} {B : Nat} (b : Bk) (h : b.ok) (hx : Bx W B b.vals) (i : Nat) (hi : i < 16) (y : Int) : Bx (W.setCell ⟨B, i, none⟩ (.int .u8 y)) B (Bk.vals ⟨b.d.set i y, b.g, b.a, b.r⟩) := by
  have hs := Bk.size h
  have hsz : (Bk.vals ⟨b.d.set i y, b.g, b.a, b.r⟩).size = 19 := by simp [Bk.vals, Bk.cs, h.len]
  have hg := grown_setCellK W ⟨B, i, none⟩ (.int .u8 y)
  have hc := bx_cell b h hx i hi
  refine ⟨Nat.lt_of_lt_of_le hx.lt hg.size, fun j hj => ?_, fun j => by rw [World.frozen?_setCell]; exact hx.free j⟩
  by_cases hij : i = j
  · subst hij
    rw [World.cell?_setCell_same _ _ _ hc]
    simp only [Bk.vals, Bk.cs, List.getElem?_toArray]
    rw [List.getElem?_append_left (by simp [h.len]; exact hi)]
    simp [cels, h.len, hi]
  · rw [World.cell?_setCell_other _ _ _ _ (fun e => hij (congrArg Addr.off e)), hx.cells j (by rw [hs]; omega)]
    simp only [Bk.vals, Bk.cs, List.getElem?_toArray]
    by_cases hj16 : j < 16
    · rw [List.getElem?_append_left (by simp [h.len]; exact hj16), List.getElem?_append_left (by simp [h.len]; exact hj16)]
      simp [cels, List.getElem?_set, hij]
    · rw [List.getElem?_append_right (by simp [h.len]; omega), List.getElem?_append_right (by simp [h.len]; omega)]
      simp [h.len]
end Go.Proofs.Ytcnjnebhidfogaa
