/-
  The document's Save, and its Load of what its Save told.
-/
import Derived.Test.YtikndkmpedoooaaPX16
import Derived.Test.YtikndkmpedoooaaPKeep
import Derived.Test.YtikndkmpedoooaaPLoadC
import Derived.Test.YtikndkmpedoooaaPBack
namespace Go.Proofs.Ytikndkmpedoooaa
open Go.RowKit
set_option linter.unusedVariables false
set_option linter.unusedSimpArgs false

theorem rsave_none (B : Nat) (t : Tb) (x : Int) (w : World) (h : RTab w B t x) (hla : t.la = false) :
    Calls Try.prog 14 #[.pointer (some ⟨B, 0, none⟩)] w fun e w' => e = .returned (.slice none 0 0) ∧ w' = w := by
  have c11 := h.c11
  rw [hla] at c11
  have hlt := h.lt
  clear h hla
  go_enter Try.func14, Try.ntmps14
  go_wp2
  go_ret
  exact ⟨rfl, rfl⟩
theorem rsave_any (B : Nat) (t : Tb) (x : Int) (w : World) (h : RTab w B t x) (hg : t.good) :
    Calls Try.prog 14 #[.pointer (some ⟨B, 0, none⟩)] w fun e w' => ∃ a len c, e = .returned (.slice a len c) ∧ t.saved.length = len ∧ Go.Proofs.Ytikndkmpedoooaa.B.RowAt w' a len t.saved ∧ Below w.heap.size w w' ∧ len ≤ 1000 ∧ (len ≤ c ∧ c ≤ maxLen) ∧ (t.la = true → ∃ g, a = some ⟨g, 0, none⟩ ∧ w.heap.size ≤ g) := by
  cases hla : t.la with
  | false =>
    have : t.saved = [] := by unfold Tb.saved; rw [hla]; rfl
    rw [this]
    exact (rsave_none B t x w h hla).mono fun e w' ⟨h1, h2⟩ => ⟨none, 0, 0, h1, rfl, .inl rfl, by rw [h2]; exact Below.refl _ _, by omega, by unfold maxLen; omega, fun h => by cases h⟩
  | true =>
    have : t.saved = t.save := by unfold Tb.saved; rw [hla]; rfl
    rw [this]
    have hlen : t.save.length ≤ 1000 := by rw [save_len]; have := regs_len t; omega
    exact (rsave_row B t x w _ h hg hla rfl).mono fun e w' ⟨g, c, h1, h2, h3, h4, h5⟩ => ⟨_, _, c, h1, rfl, h2, h3, hlen, h4, fun _ => ⟨g, rfl, h5⟩⟩

/-- What is there behind a Save and a Load. -/
def Tb.anew (t : Tb) : Tb := if t.la = true then t.again else zeroT
theorem anew_good (t : Tb) (hg : t.good) : t.anew.good := by
  unfold Tb.anew
  split
  · exact again_good t hg
  · exact zero_good
theorem load_saved (t : Tb) (hg : t.good) (a : Option Addr) (len c : Nat) (w : World) (hn : t.saved.length = len) (hR : Go.Proofs.Ytikndkmpedoooaa.B.RowAt w a len t.saved) (hc : len ≤ c ∧ c ≤ maxLen) (hla : t.la = true → ∃ g, a = some ⟨g, 0, none⟩ ∧ g < w.heap.size) :
    Calls Try.prog 11 #[.slice a len c] w fun e w' => ∃ B, e = .returned (.tuple #[.pointer (some ⟨B, 0, none⟩), .int .i64 0]) ∧ w.heap.size ≤ B ∧ Tab w' B t.anew ∧ Below w.heap.size w w' := by
  cases h : t.la with
  | false =>
    have e1 : t.saved = [] := by unfold Tb.saved; rw [h]; rfl
    have e2 : t.anew = zeroT := by unfold Tb.anew; rw [h]; rfl
    rw [e1] at hn
    simp only [List.length_nil] at hn
    subst hn
    rw [e2]
    exact (load_nil a c [] w).mono fun e w' ⟨h1, B, h2, h3, h4⟩ => ⟨B, h2, h3, h4, h1⟩
  | true =>
    have e1 : t.saved = t.save := by unfold Tb.saved; rw [h]; rfl
    have e2 : t.anew = t.again := by unfold Tb.anew; rw [h]; rfl
    obtain ⟨g, rfl, hgl⟩ := hla h
    rw [e1] at hn hR
    rw [e2]
    have hL := load_of_save t hg
    rw [hn] at hL
    have H := load_any g 0 len c t.save w ⟨hR, save_bytes t hg, hc⟩ hgl
    rw [hL] at H
    exact H.mono fun e w' ⟨h1, B, h2, h3, h4⟩ => ⟨B, h2, h3, h4, h1⟩
theorem rload_saved (t : Tb) (hg : t.good) (a : Option Addr) (len c : Nat) (w : World) (hn : t.saved.length = len) (hR : Go.Proofs.Ytikndkmpedoooaa.B.RowAt w a len t.saved) (hc : len ≤ c ∧ c ≤ maxLen) (hla : t.la = true → ∃ g, a = some ⟨g, 0, none⟩ ∧ g < w.heap.size) :
    Calls Try.prog 13 #[.slice a len c] w fun e w' => ∃ C y, e = .returned (.tuple #[.pointer (some ⟨C, 0, none⟩), .int .i64 0]) ∧ w.heap.size ≤ C ∧ RTab w' C t.anew y ∧ Below w.heap.size w w' := by
  cases h : t.la with
  | false =>
    have e1 : t.saved = [] := by unfold Tb.saved; rw [h]; rfl
    have e2 : t.anew = zeroT := by unfold Tb.anew; rw [h]; rfl
    rw [e1] at hn
    simp only [List.length_nil] at hn
    subst hn
    rw [e2]
    exact rload_nil a c w
  | true =>
    have e1 : t.saved = t.save := by unfold Tb.saved; rw [h]; rfl
    have e2 : t.anew = t.again := by unfold Tb.anew; rw [h]; rfl
    obtain ⟨g, rfl, hgl⟩ := hla h
    rw [e1] at hn hR
    rw [e2]
    exact rload_back t hg g len c w hn hR hgl hc
end Go.Proofs.Ytikndkmpedoooaa
