/-
  The contract of Save, whether the table lasts or not.
-/
import Derived.Test.YtikndkmpedoooabPSave
import Derived.Test.YtikndkmpedoooabBSame
namespace Go.Proofs.Ytikndkmpedoooab
open Go.RowKit
set_option linter.unusedVariables false
set_option linter.unusedSimpArgs false

/-- What is saved: nothing, where the table does not last. -/
def Tb.saved (t : Tb) : List Int := if t.la = true then t.save else []
theorem save_none (B : Nat) (t : Tb) (w : World) (h : Tab w B t) (hla : t.la = false) :
    Calls Try.prog 13 #[.pointer (some ⟨B, 0, none⟩)] w fun e w' => e = .returned (.slice none 0 0) ∧ w' = w := by
  have HLa := Kpt.mk (lasts_any B t w h)
  rw [hla] at HLa
  clear h hla
  go_enter Try.func13, Try.ntmps13
  go_wp2_with (go_at_call 15; go_must (refine HLa.out.mono ?_; rintro e w ⟨rfl, rfl⟩))
  go_ret
  exact ⟨rfl, rfl⟩
theorem save_any (B : Nat) (t : Tb) (w : World) (h : Tab w B t) (hg : t.good) :
    Calls Try.prog 13 #[.pointer (some ⟨B, 0, none⟩)] w fun e w' => ∃ a len c, e = .returned (.slice a len c) ∧ t.saved.length = len ∧ Go.Proofs.Ytikndkmpedoooab.B.RowAt w' a len t.saved ∧ Below w.heap.size w w' ∧ len ≤ 1000 ∧ (len ≤ c ∧ c ≤ maxLen) ∧ (t.la = true → ∃ g, a = some ⟨g, 0, none⟩ ∧ w.heap.size ≤ g) := by
  cases hla : t.la with
  | false =>
    have : t.saved = [] := by unfold Tb.saved; rw [hla]; rfl
    rw [this]
    exact (save_none B t w h hla).mono fun e w' ⟨h1, h2⟩ => ⟨none, 0, 0, h1, rfl, .inl rfl, by rw [h2]; exact Below.refl _ _, by omega, by unfold maxLen; omega, fun h => by cases h⟩
  | true =>
    have : t.saved = t.save := by unfold Tb.saved; rw [hla]; rfl
    rw [this]
    refine (save_last B t w h hg hla).mono fun e w' ⟨v, h1, h2, h3⟩ => ?_
    have hlen : t.save.length ≤ 1000 := by
      unfold Tb.save
      rw [List.length_append, bodyB_len]
      have := regs_len t
      simp [headB]; omega
    have hpos : 0 < t.save.length := by unfold Tb.save headB; simp
    rcases id h2.2 with ⟨rfl, h0⟩ | ⟨g, cap, cur, rfl, hb, hgg, hc1, hc2, rest⟩
    · omega
    · exact ⟨some ⟨g, 0, none⟩, t.save.length, cap, h1, rfl, Go.Proofs.Ytikndkmpedoooab.B.rowAt_own h2, h3, hlen, ⟨hc1, hc2⟩, fun _ => ⟨g, rfl, hb⟩⟩
end Go.Proofs.Ytikndkmpedoooab
