/-
  number: v as n bytes.
-/
import Derived.Test.YtklboieemljmiaaVNil
import Derived.Test.YtklboieemljmiaaMB
namespace Go.Proofs.Ytklboieemljmiaa
open Go.RowKit
set_option linter.unusedVariables false
set_option linter.unusedSimpArgs false
set_option maxRecDepth 100000 in
set_option maxHeartbeats 1000000 in
theorem number_any (v : Int) (n : Nat) (w : World) (hn1 : 1 ≤ n) (hn2 : n ≤ 8) (hv : 0 ≤ v) (hf : (v / 2 ^ (8 * n) != 0) = false) :
    Calls Try.prog 41 #[.int .u64 v, .int .i64 n] w fun e w' => ∃ g, e = .returned (.slice (some ⟨g, 0, none⟩) n n) ∧ w'.ownsRow w.heap.size 5 1 (.slice (some ⟨g, 0, none⟩) n n) n (cels (B.asc (List.replicate n 0) 0 n v n)) ∧ Below w.heap.size w w' := by
  obtain ⟨i0, hi0, hz0, hz1, hz2⟩ := info_parts Try.info5
  have HP := fun W (hc : ∀ j, j < n → W.cell? ⟨w.heap.size, 0 + j, none⟩ = some (.int .u8 ((List.replicate n (0 : Int)).getD j 0))) => B.put_ok w.heap.size 0 n n 0 n v (List.replicate n 0) W (by simp) (by omega) hn1 hn2 (by omega) hv hf hc
  replace HP := Kpt.mk HP
  have hi0K := Kpt.mk hi0
  replace hz0 := Kpt.mk hz0
  replace hz1 := Kpt.mk hz1
  replace hz2 := Kpt.mk hz2
  clear hi0 hf
  go_enter Try.func41, Try.ntmps41
  go_wp2_with (first
      | (at_make; refine wpList_make_full _ rfl _ _ 22 rfl w.heap.size 5 i0 (.int .u8 0) 1 Try.underlying22 hi0K.out hz0.out hz1.out .i64 .i64 _ _ n rfl rfl rfl rfl (by rw [hz2.out]; omega) (by unfold maxLen; omega) (Nat.le_refl _) ?_; intro w2 hown2 hg2; rw [made_u8G] at hown2; have hb2 : Kpt (Below w.heap.size w w2) := ⟨(Below.refl _ _).grown hg2 (Nat.le_refl _) (fun k h => by cases h)⟩; replace hown2 := Kpt.mk hown2; clear hg2)
      | (go_at_call 56; go_must (refine (HP.out _ (fun j hj => by rw [Nat.zero_add]; exact own_facts hown2.out j hj)).mono ?_; rintro e w3 ⟨g, rfl, hrow, h3⟩; replace hrow := Kpt.mk hrow; replace h3 := Kpt.mk h3))
      | fail)
  go_ret
  exact ⟨g, rfl, own_base hrow.out hb2.out.size, hb2.out.trans (h3.out.mono hb2.out.size)⟩
end Go.Proofs.Ytklboieemljmiaa
