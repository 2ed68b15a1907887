/-
  The document's Save.
-/
import Derived.Test.YtmnoolcffkjmhaaPLdR
import Derived.Test.YtmnoolcffkjmhaaPKeep
import Derived.Test.YtmnoolcffkjmhaaPLoadC
import Derived.Test.YtmnoolcffkjmhaaPBack
namespace Go.Proofs.Ytmnoolcffkjmhaa
open Go.RowKit
set_option linter.unusedVariables false
set_option linter.unusedSimpArgs false

theorem rsave_none (B : Nat) (t : Tb) (x : Int) (w : World) (h : RTab w B t x) (hla : t.la = false) :
    Calls Try.prog 14 #[.pointer (some ⟨B, 0, none⟩)] w fun e w' => e = .returned (.slice none 0 0) ∧ w' = w := by
  have c11 := h.c11
  rw [hla] at c11
  have hlt := h.lt
  clear h hla
  go_enter Try.func14, Try.ntmps14
  go_wp2
  go_ret
  exact ⟨rfl, rfl⟩
theorem rsave_any (B : Nat) (t : Tb) (x : Int) (w : World) (h : RTab w B t x) (hg : t.good) :
    Calls Try.prog 14 #[.pointer (some ⟨B, 0, none⟩)] w fun e w' => ∃ a len c, e = .returned (.slice a len c) ∧ t.saved.length = len ∧ Go.Proofs.Ytmnoolcffkjmhaa.B.RowAt w' a len t.saved ∧ Below w.heap.size w w' ∧ len ≤ 1000 ∧ (len ≤ c ∧ c ≤ maxLen) ∧ (t.la = true → ∃ g, a = some ⟨g, 0, none⟩ ∧ w.heap.size ≤ g) := by
  cases hla : t.la with
  | false =>
    have : t.saved = [] := by unfold Tb.saved; rw [hla]; rfl
    rw [this]
    exact (rsave_none B t x w h hla).mono fun e w' ⟨h1, h2⟩ => ⟨none, 0, 0, h1, rfl, .inl rfl, by rw [h2]; exact Below.refl _ _, by omega, by unfold maxLen; omega, fun h => by cases h⟩
  | true =>
    have : t.saved = t.save := by unfold Tb.saved; rw [hla]; rfl
    rw [this]
    have hlen : t.save.length ≤ 1000 := by rw [save_len]; have := regs_len t; omega
    exact (rsave_row B t x w _ h hg hla rfl).mono fun e w' ⟨g, c, h1, h2, h3, h4, h5⟩ => ⟨_, _, c, h1, rfl, h2, h3, hlen, h4, fun _ => ⟨g, rfl, h5⟩⟩

end Go.Proofs.Ytmnoolcffkjmhaa
