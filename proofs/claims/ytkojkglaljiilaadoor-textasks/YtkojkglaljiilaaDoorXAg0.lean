/-
  text: whoever offers, both come to the same.
-/
import Derived.Test.YtkojkglaljiilaaDoorXNmB
import Derived.Test.YtkojkglaljiilaaDoorXYn
namespace Go.Proofs.YtkojkglaljiilaaDoor
open Go.RowKit
set_option linter.unusedVariables false
set_option linter.unusedSimpArgs false

structure Wds (g : Nat) (W : World) : Prop where
  gl : Gl W
  c0 : W.cell? ⟨g, 0, none⟩ = some (.string ⟨#[78, 111]⟩)
  c1 : W.cell? ⟨g, 1, none⟩ = some (.string ⟨#[89, 101, 115]⟩)
theorem Wds.below {g : Nat} {w w' : World} (h : Wds g w) (hb : Below w.heap.size w w') : Wds g w' :=
  ⟨h.gl.below hb, by rw [hb.cell (p := ⟨g, 0, none⟩) (World.block_lt_of_cell? w ⟨g, 0, none⟩ h.c0)]; exact h.c0, by rw [hb.cell (p := ⟨g, 1, none⟩) (World.block_lt_of_cell? w ⟨g, 1, none⟩ h.c1)]; exact h.c1⟩
theorem Wds.drew {g : Nat} {w : World} (h : Wds g w) : Wds g w.drew := h.below (below_drew w)
theorem wds_new {w : World} {t : TypeId} (h : Gl w) : Wds w.heap.size (w.alloc (.cells #[.string ⟨#[78, 111]⟩, .string ⟨#[89, 101, 115]⟩] t)) :=
  ⟨h.below (below_alloc _ _), by simp, by simp⟩
theorem size_decle (a : Nat) (ha : a < 18446744073709551616) : (decS a).size ≤ 20 := by
  rw [size_dec, ← dig_eq, List.length_map, Lib.decDigits_length]
  by_cases h : 1 ≤ a
  · have := Lib.numDigits_eq a h ha
    split at this <;> omega
  · obtain rfl : a = 0 := by omega
    rw [Lib.nDigits_small (by omega)]
    omega
theorem least_dec (a b : Nat) (w : World) (ha : a < 18446744073709551616) (hb : b < 18446744073709551616) (hG : Gl w) :
    Calls Tryd.prog 10 #[.string (decS a), .int .u64 (b : Nat), .int .u64 0, .int .u64 18446744073709551615] w fun e w' => e = .returned (.string (decS (min a b))) ∧ Below w.heap.size w w' := by
  have h := least_any (decS a) b 0 18446744073709551615 w (by have := size_decle a ha; omega) hG hb (by omega) (by omega)
  rw [nums_dec, numS_dec a ha] at h
  have e : leastS (some a) b 0 18446744073709551615 = decS (min a b) := by unfold leastS; simp only; rw [if_neg (by omega)]
  rw [e] at h
  exact h
theorem no_yes : ¬ (⟨#[89, 101, 115]⟩ : ByteArray) = ⟨#[78, 111]⟩ := fun e => yes_no e.symm
theorem sym_b_ff : bothS ⟨#[78, 111]⟩ false = ⟨#[78, 111]⟩ ∧ bothS ⟨#[78, 111]⟩ false = ⟨#[78, 111]⟩ := by simp [bothS, yes_no]
theorem sym_e_ff : eitherS ⟨#[78, 111]⟩ false = ⟨#[78, 111]⟩ ∧ eitherS ⟨#[78, 111]⟩ false = ⟨#[78, 111]⟩ := by simp [eitherS, yes_no]
theorem sym_b_ft : bothS ⟨#[78, 111]⟩ true = ⟨#[78, 111]⟩ ∧ bothS ⟨#[89, 101, 115]⟩ false = ⟨#[78, 111]⟩ := by simp [bothS, yes_no]
theorem sym_e_ft : eitherS ⟨#[78, 111]⟩ true = ⟨#[89, 101, 115]⟩ ∧ eitherS ⟨#[89, 101, 115]⟩ false = ⟨#[89, 101, 115]⟩ := by simp [eitherS, yes_no]
theorem sym_b_tf : bothS ⟨#[89, 101, 115]⟩ false = ⟨#[78, 111]⟩ ∧ bothS ⟨#[78, 111]⟩ true = ⟨#[78, 111]⟩ := by simp [bothS, yes_no]
theorem sym_e_tf : eitherS ⟨#[89, 101, 115]⟩ false = ⟨#[89, 101, 115]⟩ ∧ eitherS ⟨#[78, 111]⟩ true = ⟨#[89, 101, 115]⟩ := by simp [eitherS, yes_no]
theorem sym_b_tt : bothS ⟨#[89, 101, 115]⟩ true = ⟨#[89, 101, 115]⟩ ∧ bothS ⟨#[89, 101, 115]⟩ true = ⟨#[89, 101, 115]⟩ := by simp [bothS, yes_no]
theorem sym_e_tt : eitherS ⟨#[89, 101, 115]⟩ true = ⟨#[89, 101, 115]⟩ ∧ eitherS ⟨#[89, 101, 115]⟩ true = ⟨#[89, 101, 115]⟩ := by simp [eitherS, yes_no]
end Go.Proofs.YtkojkglaljiilaaDoor
