/-
  SbcRefuses: the walk.
-/
import Derived.Test.YtklboieemljmiaaVOpC
namespace Go.Proofs.Ytklboieemljmiaa
open Go.RowKit
set_option linter.unusedVariables false
set_option linter.unusedSimpArgs false
def z32 : List Int := List.replicate 32 119
theorem z32_bytes : Bytes z32 := fun j => by
  unfold z32
  rw [List.getD_eq_getElem?_getD, List.getElem?_replicate]
  split <;> simp
def stR (k : Int) : St := wrF st0 nmF 0 (prL k 0 (unBs false z32 2)) true false
theorem stR_fine (k : Int) : Fine 9 (stR k) nmF := by
  have := (fine0 nmF).write 0 (prL k 0 (unBs false z32 2)) (prL_ok k 0 _ (unBs_ok false z32 2 z32_bytes rfl)) true false
  rw [prL_len, unBs_len] at this
  exact this
theorem stR_look (k p : Int) (l m : Nat) : lookS k p l (rdL ((stR k).seen nmF) l m) = noS := by
  refine look_all k p l _ (fun i b hi hb => ?_)
  rw [rdL_len] at hi
  rw [rdL_at _ _ _ i hi, Option.some.injEq] at hb
  have hok := unBs_ok false z32 2 z32_bytes rfl
  unfold stR at hb
  rw [wrF_view good_none 0 _ (prL_ok k 0 _ hok), prL_len, unBs_len] at hb
  by_cases h2 : 0 ≤ l + i ∧ l + i < 0 + 2
  · rw [if_pos h2] at hb
    have e := prL_at k 0 (unBs false z32 2) (l + i)
    rw [unBs_at _ _ _ _ (show l + i < 2 by omega), Nat.zero_add] at e
    rw [List.getD_eq_getElem?_getD, Nat.sub_zero, e] at hb
    rw [← hb]
    exact check_pr k p _ _
  · rw [if_neg h2] at hb
    have : st0.seen nmF = none := rfl
    rw [this] at hb
    rw [← hb]
    exact check_empty k p _
end Go.Proofs.Ytklboieemljmiaa
