/-
  A piece's descriptor, read.
-/
import Derived.Test.YtnebcbfjlkhimaaDoorJHas
namespace Go.Proofs.YtnebcbfjlkhimaaDoor
open Go.RowKit
set_option linter.unusedVariables false
set_option linter.unusedSimpArgs false
theorem resG_run {w : World} {b : Nat} {g : Array Value} (hB : Bx w b g) (h5 : g.size = 5) : (loadVar 50 ⟨b, 0, none⟩).run Tryd.prog w = .ok (.agg g) w := run_res hB 50 _ Tryd.underlying50 rfl (by rw [h5]; exact infoG)
def l4 (zs : List Int) (i : Nat) : List Int := (zs.drop i).take 4
theorem l4_eq {zs : List Int} {i : Nat} (h : i + 4 ≤ zs.length) : l4 zs i = [zs.getD i 0, zs.getD (i + 1) 0, zs.getD (i + 2) 0, zs.getD (i + 3) 0] := by
  unfold l4
  refine list_getD (by rw [List.length_take, List.length_drop]; simp; omega) (fun j hj => ?_)
  have hj' : j < 4 := by rw [List.length_take] at hj; omega
  rw [getD_drop' _ _ _ _ hj']
  rcases j with _ | _ | _ | _ | j
  · rfl
  · rfl
  · rfl
  · rfl
  · omega
theorem num_four (zs : List Int) (i : Nat) : num zs i 4 = ((zs.getD i 0 * 256 + zs.getD (i + 1) 0) * 256 + zs.getD (i + 2) 0) * 256 + zs.getD (i + 3) 0 := by simp [num, B.num]
/-- The beginning of a piece, as text. -/
theorem l4_is {zs : List Int} {i : Nat} (hb : Bytes zs) (h : i + 4 ≤ zs.length) : (strOfNums (l4 zs i)).toList = [2, 0, 0, 24] ↔ num zs i 4 = 33554456 := by
  have h0 := hb i
  have h1 := hb (i + 1)
  have h2 := hb (i + 2)
  have h3 := hb (i + 3)
  have hl : Bytes (l4 zs i) := bytes_dt hb _ _
  have e1 : (strOfNums (l4 zs i)).toList = [2, 0, 0, 24] ↔ l4 zs i = [2, 0, 0, 24] := by
    constructor
    · intro e
      have : strOfNums (l4 zs i) = strOfNums [2, 0, 0, 24] := by
        have e' := congrArg (fun l : List UInt8 => (ByteArray.mk l.toArray)) e
        rw [show (ByteArray.mk (strOfNums (l4 zs i)).toList.toArray) = strOfNums (l4 zs i) by rw [ByteArray.toList_eq]] at e'
        exact e'
      exact str_inj hl (bytes_mem (by decide)) this
    · intro e
      rw [e, ByteArray.toList_eq]
      rfl
  rw [e1, l4_eq h, num_four]
  simp only [List.cons.injEq, and_true]
  omega
end Go.Proofs.YtnebcbfjlkhimaaDoor
