/-
  Texts that can be read; slices.Contains.
-/
import Derived.Test.YtplifodddfjhdaaGreatDoorXBox
import Derived.Test.YtplifodddfjhdaaGreatDoorShelf
namespace Go.Proofs.YtplifodddfjhdaaGreatDoor
open Go.RowKit Go.Shelf
set_option linter.unusedVariables false
set_option linter.unusedSimpArgs false

/-- Texts that can be read. -/
def StAt (w : World) (v : Value) (os : List ByteArray) : Prop :=
  ∃ a c, v = .slice a os.length c ∧ os.length ≤ c ∧ (os.length = 0 ∨ ∃ b off, a = some ⟨b, off, none⟩ ∧ b < w.heap.size ∧ ∀ j, j < os.length → w.cell? ⟨b, off + j, none⟩ = some (.string (os.getD j ByteArray.empty)))
theorem StAt.bel {w w' : World} {v : Value} {os : List ByteArray} (h : StAt w v os) (hb : Below w.heap.size w w') : StAt w' v os := by
  obtain ⟨a, c, rfl, h1, h2⟩ := h
  refine ⟨a, c, rfl, h1, ?_⟩
  rcases h2 with h2 | ⟨b, off, rfl, hlt, hc⟩
  · exact .inl h2
  · exact .inr ⟨b, off, rfl, Nat.lt_of_lt_of_le hlt hb.size, fun j hj => by rw [hb.cell (p := ⟨b, off + j, none⟩) hlt]; exact hc j hj⟩
theorem contains_any (a : Option Addr) (n c : Nat) (os : List ByteArray) (x : ByteArray) (w : World) (h : StAt w (.slice a n c) os) (hn : n ≤ maxLen) :
    Calls Tryz.prog 53 #[.slice a n c, .string x] w fun e w' => e = .returned (.bool (Lib.containsS os x)) ∧ w' = w := by
  unfold maxLen at hn
  obtain ⟨a', c', hv, h1, h2⟩ := h
  simp only [Value.slice.injEq] at hv
  obtain ⟨rfl, rfl, rfl⟩ := hv
  rcases h2 with h2 | ⟨b, off, rfl, hlt, hc⟩
  · rw [h2]
    have : os = [] := List.length_eq_zero_iff.1 h2
    subst this
    exact Tryz.slices_Contains_string_empty a c x w
  · have := Tryz.slices_Contains_string b off os.length c os x w (Nat.le_refl _) (by omega) hc
    rw [List.take_length] at this
    exact this
end Go.Proofs.YtplifodddfjhdaaGreatDoor
