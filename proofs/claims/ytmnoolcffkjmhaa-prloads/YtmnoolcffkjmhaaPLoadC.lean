/-
  The contract of Load, on any bytes.
-/
import Derived.Test.YtmnoolcffkjmhaaPLoadB
import Derived.Test.YtmnoolcffkjmhaaPLdR
namespace Go.Proofs.Ytmnoolcffkjmhaa
open Go.RowKit
set_option linter.unusedVariables false
set_option linter.unusedSimpArgs false

set_option maxRecDepth 100000 in
set_option maxHeartbeats 2000000 in
theorem load_none (b off m c : Nat) (Z : List Int) (w : World) (h : Rd w (some ⟨b, off, none⟩) (5 + 9 * m) c Z) (hb : b < w.heap.size) (hf : framedB (5 + 9 * m) Z = true) (hm : Z.getD 4 0 = m)
    (ht : tkS (Z.drop 5) m = none) :
    Calls Try.prog 11 #[.slice (some ⟨b, off, none⟩) (5 + 9 * m) c] w fun e w' => Below w.heap.size w w' ∧ Loaded w w' e (loadM (5 + 9 * m) Z) := by
  have hM : Kpt (loadM (5 + 9 * m) Z = none) := ⟨by unfold loadM; rw [if_neg (by omega), if_neg (by simp [hf]), hm, Int.toNat_natCast, ht]⟩
  obtain ⟨A5, hA5⟩ : ∃ A5 : Option Addr, Kpt (A5 = (if c = 5 then some ⟨b, off, none⟩ else some ⟨b, off + 5, none⟩)) := ⟨_, ⟨rfl⟩⟩
  have hc := h.len
  have hlm : (5 + 9 * m : Int) ≤ 9223372036854775807 := by unfold maxLen at hc; omega
  have hcm : (c : Int) ≤ 9223372036854775807 := by unfold maxLen at hc; omega
  have hlb : ((5 + 9 * m : Int) == 0) = false := by simp; omega
  have h5 : (5 : Int) ≤ 5 + 9 * m := by omega
  have h5c : (5 : Int) ≤ c := by omega
  have hlc : (5 + 9 * m : Int) ≤ c := by omega
  have HF : Kpt (∀ W, Below w.heap.size w W → Calls Try.prog 26 #[.slice (some ⟨b, off, none⟩) (5 + 9 * m) c] W fun e w' => e = .returned (.bool true) ∧ w' = W) := ⟨fun W hW => by
    have := framed_any _ (5 + 9 * m) c Z W (h.below hW)
    rw [hf] at this
    exact this⟩
  have hbL : Kpt (Below w.heap.size w (lastW w).drew) := ⟨below_drewN ((Below.refl _ _).alloc (Nat.le_refl _) _) 1⟩
  have HTk : Kpt (Calls Try.prog 27 #[.pointer (some ⟨w.heap.size, 0, none⟩), .slice A5 (9 * m) (c - 5)] (lastW w).drew fun e w' => e = .returned (.bool (tkS (Z.drop 5) m).isSome) ∧ (lastW w).drew.grownBy w' (some w.heap.size) ∧ (∀ f l, tkS (Z.drop 5) m = some (f, l) → Tab w' w.heap.size { lastT with ks := f })) := ⟨by
    have hd := drop_rd (h.below hbL.out) A5 (by by_cases e : c = 5; (left; have := hc.1; omega); (right; rw [hA5.out, if_neg e])) ((c - 5)) (by have := h.len; unfold maxLen at this ⊢; omega)
    rw [show 5 + 9 * m - 5 = 9 * m by omega] at hd
    exact takeRegs_any w.heap.size lastT _ m _ (Z.drop 5) _ (tab_last w).drew (fun j _ => rfl) hd (fun b' off' e => by by_cases e5 : c = 5; (rw [hA5.out, if_pos e5] at e; cases e; omega); (rw [hA5.out, if_neg e5] at e; cases e; omega))⟩
  rw [ht] at HTk
  simp only [Option.isSome_none, Option.isSome_some] at HTk
  clear hf h hm ht
  go_enter Try.func11, Try.ntmps11
  go_wp2_with fail
  refine wp_region_any (by kernel_rfl) ?_
  refine wpAny_of_C (C := fun W => Below w.heap.size w W) _ _ _ _ ?_
  refine wpAnyC_take 0 (.slice (some ⟨b, off, none⟩) (5 + 9 * m) c) rfl (by kernel_rfl) (by kernel_rfl) (by kernel_rfl) (fun _ _ _ h => h) (wanted_free rfl _) (fun W hW => by go_simp) ?_
  simp only [Act.put, List.getElem_toArray, List.getElem_cons_succ, List.getElem_cons_zero, List.setIfInBounds_toArray, List.set_cons_succ, List.set_cons_zero]
  refine wpAnyC_one 1 hbL.out rfl (by kernel_rfl) (wanted_free rfl _) (fun KA hKA => ?_)
  go_simp
  refine (HF.out _ hbL.out).mono ?_
  rintro e w1 ⟨rfl, rfl⟩
  refine hKA _ _ ?_
  try simp only [Act.put, List.getElem_toArray, List.getElem_cons_succ, List.getElem_cons_zero, List.setIfInBounds_toArray, List.set_cons_succ, List.set_cons_zero]
  clear hKA KA
  refine wpAnyC_take 2 (.bool false) rfl (by kernel_rfl) (by kernel_rfl) (by kernel_rfl) (fun _ _ _ h => h) (wanted_free rfl _) (fun W hW => by go_simp) ?_
  simp only [Act.put, List.getElem_toArray, List.getElem_cons_succ, List.getElem_cons_zero, List.setIfInBounds_toArray, List.set_cons_succ, List.set_cons_zero]
  refine wpAnyC_take 3 (.bool false) rfl (by kernel_rfl) (by kernel_rfl) (by kernel_rfl) (fun _ _ _ h => h) (wanted_free rfl _) (fun W hW => by go_simp) ?_
  simp only [Act.put, List.getElem_toArray, List.getElem_cons_succ, List.getElem_cons_zero, List.setIfInBounds_toArray, List.set_cons_succ, List.set_cons_zero]
  refine wpAnyC_take 4 (.pointer (some ⟨w.heap.size, 0, none⟩)) rfl (by kernel_rfl) (by kernel_rfl) (by kernel_rfl) (fun _ _ _ h => h) (wanted_at false rfl rfl rfl rfl) (fun W hW => by go_simp) ?_
  simp only [Act.put, List.getElem_toArray, List.getElem_cons_succ, List.getElem_cons_zero, List.setIfInBounds_toArray, List.set_cons_succ, List.set_cons_zero]
  refine wpAnyC_take 5 (.slice (some ⟨b, off, none⟩) (5 + 9 * m) c) rfl (by kernel_rfl) (by kernel_rfl) (by kernel_rfl) (fun _ _ _ h => h) (wanted_at false rfl rfl rfl rfl) (fun W hW => by go_simp) ?_
  simp only [Act.put, List.getElem_toArray, List.getElem_cons_succ, List.getElem_cons_zero, List.setIfInBounds_toArray, List.set_cons_succ, List.set_cons_zero]
  refine wpAnyC_take 6 (.slice A5 (9 * m) (c - 5)) rfl (by kernel_rfl) (by kernel_rfl) (by kernel_rfl) (fun _ _ _ h => h) (wanted_at false rfl rfl rfl rfl) (fun W hW => by rw [hA5.out]; go_simp) ?_
  simp only [Act.put, List.getElem_toArray, List.getElem_cons_succ, List.getElem_cons_zero, List.setIfInBounds_toArray, List.set_cons_succ, List.set_cons_zero]
  refine wpAnyC_one 7 hbL.out rfl (by kernel_rfl) (wanted_at false rfl rfl rfl rfl) (fun KA hKA => ?_)
  go_simp
  refine HTk.out.mono ?_
  rintro e w2 ⟨rfl, hG2, _⟩
  have hB2 : Kpt (Below w.heap.size w w2) := ⟨hbL.out.grown hG2 (by simp <;> omega) (fun k hk => by simp at hk; omega)⟩
  clear hG2 HTk
  refine hKA _ _ ?_
  try simp only [Act.put, List.getElem_toArray, List.getElem_cons_succ, List.getElem_cons_zero, List.setIfInBounds_toArray, List.set_cons_succ, List.set_cons_zero]
  clear hKA KA
  refine wpAnyC_take 8 (.bool true) rfl (by kernel_rfl) (by kernel_rfl) (by kernel_rfl) (fun _ _ _ h => h) (wanted_at false rfl rfl rfl rfl) (fun W hW => by go_simp) ?_
  simp only [Act.put, List.getElem_toArray, List.getElem_cons_succ, List.getElem_cons_zero, List.setIfInBounds_toArray, List.set_cons_succ, List.set_cons_zero]
  refine wpAnyC_take 9 (.bool true) rfl (by kernel_rfl) (by kernel_rfl) (by kernel_rfl) (fun _ _ _ h => h) (wanted_free rfl _) (fun W hW => by go_simp) ?_
  simp only [Act.put, List.getElem_toArray, List.getElem_cons_succ, List.getElem_cons_zero, List.setIfInBounds_toArray, List.set_cons_succ, List.set_cons_zero]
  refine wpAnyC_take 10 (.bool true) rfl (by kernel_rfl) (by kernel_rfl) (by kernel_rfl) (fun _ _ _ h => h) (wanted_free rfl _) (fun W hW => by go_simp) ?_
  simp only [Act.put, List.getElem_toArray, List.getElem_cons_succ, List.getElem_cons_zero, List.setIfInBounds_toArray, List.set_cons_succ, List.set_cons_zero]
  refine wpAnyC_skip 11 rfl (by kernel_rfl) (by kernel_rfl) (by kernel_rfl) (fun _ _ _ h => h) (wanted_no false rfl rfl rfl rfl) ?_
  simp only [Act.put, List.getElem_toArray, List.getElem_cons_succ, List.getElem_cons_zero, List.setIfInBounds_toArray, List.set_cons_succ, List.set_cons_zero]
  refine wpAnyC_skip 12 rfl (by kernel_rfl) (by kernel_rfl) (by kernel_rfl) (fun _ _ _ h => h) (wanted_no false rfl rfl rfl rfl) ?_
  simp only [Act.put, List.getElem_toArray, List.getElem_cons_succ, List.getElem_cons_zero, List.setIfInBounds_toArray, List.set_cons_succ, List.set_cons_zero]
  refine wpAnyC_skip 13 rfl (by kernel_rfl) (by kernel_rfl) (by kernel_rfl) (fun _ _ _ h => h) (wanted_no false rfl rfl rfl rfl) ?_
  simp only [Act.put, List.getElem_toArray, List.getElem_cons_succ, List.getElem_cons_zero, List.setIfInBounds_toArray, List.set_cons_succ, List.set_cons_zero]
  refine wpAnyC_skip 14 rfl (by kernel_rfl) (by kernel_rfl) (by kernel_rfl) (fun _ _ _ h => h) (wanted_no false rfl rfl rfl rfl) ?_
  simp only [Act.put, List.getElem_toArray, List.getElem_cons_succ, List.getElem_cons_zero, List.setIfInBounds_toArray, List.set_cons_succ, List.set_cons_zero]
  refine wpAnyC_skip 15 rfl (by kernel_rfl) (by kernel_rfl) (by kernel_rfl) (fun _ _ _ h => h) (wanted_no false rfl rfl rfl rfl) ?_
  simp only [Act.put, List.getElem_toArray, List.getElem_cons_succ, List.getElem_cons_zero, List.setIfInBounds_toArray, List.set_cons_succ, List.set_cons_zero]
  refine wpAnyC_skip 16 rfl (by kernel_rfl) (by kernel_rfl) (by kernel_rfl) (fun _ _ _ h => h) (wanted_no false rfl rfl rfl rfl) ?_
  simp only [Act.put, List.getElem_toArray, List.getElem_cons_succ, List.getElem_cons_zero, List.setIfInBounds_toArray, List.set_cons_succ, List.set_cons_zero]
  refine wpAnyC_skip 17 rfl (by kernel_rfl) (by kernel_rfl) (by kernel_rfl) (fun _ _ _ h => h) (wanted_no false rfl rfl rfl rfl) ?_
  simp only [Act.put, List.getElem_toArray, List.getElem_cons_succ, List.getElem_cons_zero, List.setIfInBounds_toArray, List.set_cons_succ, List.set_cons_zero]
  refine wpAnyC_skip 18 rfl (by kernel_rfl) (by kernel_rfl) (by kernel_rfl) (fun _ _ _ h => h) (wanted_no false rfl rfl rfl rfl) ?_
  simp only [Act.put, List.getElem_toArray, List.getElem_cons_succ, List.getElem_cons_zero, List.setIfInBounds_toArray, List.set_cons_succ, List.set_cons_zero]
  refine wpAnyC_skip 19 rfl (by kernel_rfl) (by kernel_rfl) (by kernel_rfl) (fun _ _ _ h => h) (wanted_no false rfl rfl rfl rfl) ?_
  simp only [Act.put, List.getElem_toArray, List.getElem_cons_succ, List.getElem_cons_zero, List.setIfInBounds_toArray, List.set_cons_succ, List.set_cons_zero]
  refine wpAnyC_take 20 (.bool true) rfl (by kernel_rfl) (by kernel_rfl) (by kernel_rfl) (fun _ _ _ h => h) (wanted_free rfl _) (fun W hW => by go_simp) ?_
  simp only [Act.put, List.getElem_toArray, List.getElem_cons_succ, List.getElem_cons_zero, List.setIfInBounds_toArray, List.set_cons_succ, List.set_cons_zero]
  refine wpAnyC_done hB2.out (by kernel_rfl) ?_
  go_wp2
  go_ret2
  exact ⟨hB2.out, by rw [hM.out]; rfl⟩

theorem load_any (b off len c : Nat) (Z : List Int) (w : World) (h : Rd w (some ⟨b, off, none⟩) len c Z) (hb : b < w.heap.size) :
    Calls Try.prog 11 #[.slice (some ⟨b, off, none⟩) len c] w fun e w' => Below w.heap.size w w' ∧ Loaded w w' e (loadM len Z) := by
  by_cases h0 : len = 0
  · subst h0
    exact load_nil _ c Z w
  · cases hf : framedB len Z with
    | false => exact load_frame _ len c Z w h h0 hf
    | true =>
      have hf' := hf
      unfold framedB at hf'
      simp only [decide_eq_true_eq] at hf'
      have hz4 := h.byt 4
      obtain ⟨m, hm⟩ : ∃ m : Nat, Z.getD 4 0 = (m : Int) := ⟨(Z.getD 4 0).toNat, by omega⟩
      rw [hm] at hf'
      have hl : len = 5 + 9 * m := by omega
      subst hl
      cases ht : tkS (Z.drop 5) m with
      | none => exact load_none b off m c Z w h hb hf hm ht
      | some p => exact load_gen b off m c Z w h hb hf hm p.1 p.2 ht
end Go.Proofs.Ytmnoolcffkjmhaa
