/-
  ModeJoins: pages that are brought.
-/
import Derived.Test.YtdojhgapdocngaaMKeepB
namespace Go.Proofs.Ytdojhgapdocngaa
open Go.RowKit
set_option linter.unusedVariables false

def xL (f : Bool) (u : Vs) : List Int := if f then ctlL u else cachL u
def yL (f : Bool) (u : Vs) : List Int := if f then cachL u else ctlL u
def h4 : List Int := [0, 0, 0, 0]
/-- The values behind the first page. -/
def midV (f : Bool) (v u : Vs) : Vs := if f then ⟨v.a, u.b, u.c⟩ else ⟨u.a, v.b, v.c⟩
theorem join_both : ∀ a b c a' b' c' f : Bool, readL ⟨a', b', c'⟩ false (h4 ++ xL f ⟨a, b, c⟩ ++ yL f ⟨a, b, c⟩) = (⟨a, b, c⟩, none) := by
  intro a b c a' b' c' f
  cases a <;> cases b <;> cases c <;> cases a' <;> cases b' <;> cases c' <;> cases f <;> rfl
theorem join_x : ∀ a b c a' b' c' f : Bool, readL ⟨a', b', c'⟩ false (h4 ++ xL f ⟨a, b, c⟩) = (midV f ⟨a', b', c'⟩ ⟨a, b, c⟩, none) := by
  intro a b c a' b' c' f
  cases a <;> cases b <;> cases c <;> cases a' <;> cases b' <;> cases c' <;> cases f <;> rfl
theorem join_y : ∀ a b c a' b' c' f : Bool, readL (midV f ⟨a', b', c'⟩ ⟨a, b, c⟩) false (h4 ++ yL f ⟨a, b, c⟩) = (⟨a, b, c⟩, none) := by
  intro a b c a' b' c' f
  cases a <;> cases b <;> cases c <;> cases a' <;> cases b' <;> cases c' <;> cases f <;> rfl
theorem join_ne : ∀ a b c a' b' c' f : Bool, (neV (midV f ⟨a', b', c'⟩ ⟨a, b, c⟩) ⟨a', b', c'⟩ || neV ⟨a, b, c⟩ (midV f ⟨a', b', c'⟩ ⟨a, b, c⟩)) = neV ⟨a', b', c'⟩ ⟨a, b, c⟩ := by decide
theorem neV_comm : ∀ a b c a' b' c' : Bool, neV ⟨a, b, c⟩ ⟨a', b', c'⟩ = neV ⟨a', b', c'⟩ ⟨a, b, c⟩ := by decide
theorem byt_of (L : List Int) (h : L.all (fun x => decide (0 ≤ x ∧ x ≤ 255)) = true) (j : Nat) : 0 ≤ L.getD j 0 ∧ L.getD j 0 ≤ 255 := by
  by_cases hj : j < L.length
  · rw [List.all_eq_true] at h
    have := h L[j] (List.getElem_mem hj)
    rw [List.getD_eq_getElem?_getD, List.getElem?_eq_getElem hj]
    simpa using this
  · rw [List.getD_eq_getElem?_getD, List.getElem?_eq_none (by omega)]; simp
theorem byt_both : ∀ a b c f : Bool, (h4 ++ xL f ⟨a, b, c⟩ ++ yL f ⟨a, b, c⟩).all (fun x => decide (0 ≤ x ∧ x ≤ 255)) = true := by decide +kernel
theorem byt_x : ∀ a b c f : Bool, (h4 ++ xL f ⟨a, b, c⟩).all (fun x => decide (0 ≤ x ∧ x ≤ 255)) = true := by decide +kernel
theorem byt_y : ∀ a b c f : Bool, (h4 ++ yL f ⟨a, b, c⟩).all (fun x => decide (0 ≤ x ∧ x ≤ 255)) = true := by decide +kernel
end Go.Proofs.Ytdojhgapdocngaa
