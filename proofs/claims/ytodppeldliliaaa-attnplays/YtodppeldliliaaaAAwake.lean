/-
  The contract of awake.
-/
import Derived.Test.YtodppeldliliaaaAAll
namespace Go.Proofs.Ytodppeldliliaaa
open Go.RowKit
set_option linter.unusedVariables false
set_option linter.unusedSimpArgs false

abbrev newW (w : World) : World := w.alloc (.cells #[.slice none 0 0, .slice none 0 0, .slice none 0 0, .slice none 0 0, .slice none 0 0, .slice none 0 0, .slice none 0 0, .slice none 0 0] 46)

set_option maxHeartbeats 2000000 in
theorem awake_any (w : World) : Calls Try.prog 7 #[] w fun e w' => e = .returned (.bool true) ∧ Below w.heap.size w w' := by
  have HN := Kpt.mk (new_any w)
  have HA := Kpt.mk (add_any w.heap.size w.heap.size 1 _ _ 10753 (newW w) (qu_new w) (by decide) (by decide))
  go_enter Try.func7, Try.ntmps7
  go_wp2_with (first
    | (go_at_call 8; refine HN.out.mono ?_; rintro e w1 ⟨rfl, rfl⟩)
    | (go_at_call 9; refine HA.out.mono ?_; rintro e w2 ⟨rfl, hq2, hb2⟩; obtain ⟨S2, hq2, _⟩ := hq2; have HX := Kpt.mk (next_some w.heap.size w.heap.size 1 _ S2 w2 hq2 (by decide) (by decide)); rw [show bestC (upd (fun x => []) 1 (addL [] 10753) 1) = 10753 from by decide] at HX; replace hb2 := Kpt.mk hb2; clear hq2)
    | (go_at_call 14; refine HX.out.mono ?_; rintro e w3 ⟨rfl, _, hb3⟩; replace hb3 := Kpt.mk hb3))
  go_ret
  exact ⟨rfl, (((Below.refl _ _).alloc (Nat.le_refl _) _).trans hb2.out).trans hb3.out⟩
end Go.Proofs.Ytodppeldliliaaa
