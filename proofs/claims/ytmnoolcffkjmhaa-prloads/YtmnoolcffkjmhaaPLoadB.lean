/-
  The contract of Load, of a slice of any capacity.
-/
import Derived.Test.YtmnoolcffkjmhaaPLoadA
namespace Go.Proofs.Ytmnoolcffkjmhaa
open Go.RowKit
set_option linter.unusedVariables false
set_option linter.unusedSimpArgs false

set_option maxRecDepth 100000 in
set_option maxHeartbeats 2000000 in
theorem load_gen (b off m c : Nat) (Z : List Int) (w : World) (h : Rd w (some ⟨b, off, none⟩) (5 + 9 * m) c Z) (hb : b < w.heap.size) (hf : framedB (5 + 9 * m) Z = true) (hm : Z.getD 4 0 = m)
    (f : Nat → Int) (l : Int) (ht : tkS (Z.drop 5) m = some (f, l)) :
    Calls Try.prog 11 #[.slice (some ⟨b, off, none⟩) (5 + 9 * m) c] w fun e w' => Below w.heap.size w w' ∧ Loaded w w' e (loadM (5 + 9 * m) Z) := by
  have hM : Kpt (loadM (5 + 9 * m) Z = if Tb.rsvOk ⟨f, 0, 0, 0, true⟩ (Z.getD 2 0) (Z.getD 3 0) = true then some ⟨f, Z.getD 2 0, Z.getD 3 0, 0, true⟩ else none) := ⟨by unfold loadM; rw [if_neg (by omega), if_neg (by simp [hf]), hm, Int.toNat_natCast, ht]⟩
  obtain ⟨A5, hA5⟩ : ∃ A5 : Option Addr, Kpt (A5 = (if c = 5 then some ⟨b, off, none⟩ else some ⟨b, off + 5, none⟩)) := ⟨_, ⟨rfl⟩⟩
  have hc := h.len
  have hlm : (5 + 9 * m : Int) ≤ 9223372036854775807 := by unfold maxLen at hc; omega
  have hcm : (c : Int) ≤ 9223372036854775807 := by unfold maxLen at hc; omega
  have hlb : ((5 + 9 * m : Int) == 0) = false := by simp; omega
  have h5 : (5 : Int) ≤ 5 + 9 * m := by omega
  have h5c : (5 : Int) ≤ c := by omega
  have hlc : (5 + 9 * m : Int) ≤ c := by omega
  have HF : Kpt (∀ W, Below w.heap.size w W → Calls Try.prog 26 #[.slice (some ⟨b, off, none⟩) (5 + 9 * m) c] W fun e w' => e = .returned (.bool true) ∧ w' = W) := ⟨fun W hW => by
    have := framed_any _ (5 + 9 * m) c Z W (h.below hW)
    rw [hf] at this
    exact this⟩
  have hbL : Kpt (Below w.heap.size w (lastW w).drew) := ⟨below_drewN ((Below.refl _ _).alloc (Nat.le_refl _) _) 1⟩
  have HTk : Kpt (Calls Try.prog 27 #[.pointer (some ⟨w.heap.size, 0, none⟩), .slice A5 (9 * m) (c - 5)] (lastW w).drew fun e w' => e = .returned (.bool (tkS (Z.drop 5) m).isSome) ∧ (lastW w).drew.grownBy w' (some w.heap.size) ∧ (∀ f l, tkS (Z.drop 5) m = some (f, l) → Tab w' w.heap.size { lastT with ks := f })) := ⟨by
    have hd := drop_rd (h.below hbL.out) A5 (by by_cases e : c = 5; (left; have := hc.1; omega); (right; rw [hA5.out, if_neg e])) ((c - 5)) (by have := h.len; unfold maxLen at this ⊢; omega)
    rw [show 5 + 9 * m - 5 = 9 * m by omega] at hd
    exact takeRegs_any w.heap.size lastT _ m _ (Z.drop 5) _ (tab_last w).drew (fun j _ => rfl) hd (fun b' off' e => by by_cases e5 : c = 5; (rw [hA5.out, if_pos e5] at e; cases e; omega); (rw [hA5.out, if_neg e5] at e; cases e; omega))⟩
  rw [ht] at HTk
  simp only [Option.isSome_none, Option.isSome_some] at HTk
  obtain ⟨b', off', ee, _, hcell⟩ := h.at (by omega)
  cases ee
  have hcells : Kpt (∀ W, w.grownBy W (some w.heap.size) → W.cell? ⟨b, off + 2, none⟩ = some (.int .u8 (Z.getD 2 0)) ∧ W.cell? ⟨b, off + 3, none⟩ = some (.int .u8 (Z.getD 3 0))) := ⟨fun W hW => by
    have hbk := hW.block b hb (fun e => by simp at e; omega)
    exact ⟨(World.cell?_of_block (w := w) (w' := W) (a := ⟨b, off + 2, none⟩) hbk).trans (hcell 2 (by omega)), (World.cell?_of_block (w := w) (w' := W) (a := ⟨b, off + 3, none⟩) hbk).trans (hcell 3 (by omega))⟩⟩
  clear hcell
  have y2 := h.byt 2
  have y3 := h.byt 3
  have HRv : Kpt (∀ W, Tab W w.heap.size { lastT with ks := f } → Calls Try.prog 28 #[.pointer (some ⟨w.heap.size, 0, none⟩), .int .u8 (Z.getD 2 0), .int .u8 (Z.getD 3 0)] W fun e w' => e = .returned (.bool (Tb.rsvOk ⟨f, 0, 0, 0, true⟩ (Z.getD 2 0) (Z.getD 3 0))) ∧ W.grownBy w' (some w.heap.size) ∧ Tab w' w.heap.size ⟨f, Z.getD 2 0, Z.getD 3 0, 0, true⟩) := ⟨fun W hW => takeRes_any w.heap.size _ _ _ W hW y2 y3⟩
  generalize Z.getD 2 0 = z2 at *
  generalize Z.getD 3 0 = z3 at *
  have h2l : (2 : Int) < 5 + 9 * m := by omega
  have h3l : (3 : Int) < 5 + 9 * m := by omega
  generalize hrv : Tb.rsvOk ⟨f, 0, 0, 0, true⟩ z2 z3 = rv at *
  clear hrv h hm ht
  cases rv with
  | false =>
    clear hf
    go_enter Try.func11, Try.ntmps11
    go_wp2_with fail
    refine wp_region_any (by kernel_rfl) ?_
    refine wpAny_of_C (C := fun W => Below w.heap.size w W) _ _ _ _ ?_
    refine wpAnyC_take 0 (.slice (some ⟨b, off, none⟩) (5 + 9 * m) c) rfl (by kernel_rfl) (by kernel_rfl) (by kernel_rfl) (fun _ _ _ h => h) (wanted_free rfl _) (fun W hW => by go_simp) ?_
    simp only [Act.put, List.getElem_toArray, List.getElem_cons_succ, List.getElem_cons_zero, List.setIfInBounds_toArray, List.set_cons_succ, List.set_cons_zero]
    refine wpAnyC_one 1 hbL.out rfl (by kernel_rfl) (wanted_free rfl _) (fun KA hKA => ?_)
    go_simp
    refine (HF.out _ hbL.out).mono ?_
    rintro e w1 ⟨rfl, rfl⟩
    refine hKA _ _ ?_
    try simp only [Act.put, List.getElem_toArray, List.getElem_cons_succ, List.getElem_cons_zero, List.setIfInBounds_toArray, List.set_cons_succ, List.set_cons_zero]
    clear hKA KA
    refine wpAnyC_take 2 (.bool false) rfl (by kernel_rfl) (by kernel_rfl) (by kernel_rfl) (fun _ _ _ h => h) (wanted_free rfl _) (fun W hW => by go_simp) ?_
    simp only [Act.put, List.getElem_toArray, List.getElem_cons_succ, List.getElem_cons_zero, List.setIfInBounds_toArray, List.set_cons_succ, List.set_cons_zero]
    refine wpAnyC_take 3 (.bool false) rfl (by kernel_rfl) (by kernel_rfl) (by kernel_rfl) (fun _ _ _ h => h) (wanted_free rfl _) (fun W hW => by go_simp) ?_
    simp only [Act.put, List.getElem_toArray, List.getElem_cons_succ, List.getElem_cons_zero, List.setIfInBounds_toArray, List.set_cons_succ, List.set_cons_zero]
    refine wpAnyC_take 4 (.pointer (some ⟨w.heap.size, 0, none⟩)) rfl (by kernel_rfl) (by kernel_rfl) (by kernel_rfl) (fun _ _ _ h => h) (wanted_at false rfl rfl rfl rfl) (fun W hW => by go_simp) ?_
    simp only [Act.put, List.getElem_toArray, List.getElem_cons_succ, List.getElem_cons_zero, List.setIfInBounds_toArray, List.set_cons_succ, List.set_cons_zero]
    refine wpAnyC_take 5 (.slice (some ⟨b, off, none⟩) (5 + 9 * m) c) rfl (by kernel_rfl) (by kernel_rfl) (by kernel_rfl) (fun _ _ _ h => h) (wanted_at false rfl rfl rfl rfl) (fun W hW => by go_simp) ?_
    simp only [Act.put, List.getElem_toArray, List.getElem_cons_succ, List.getElem_cons_zero, List.setIfInBounds_toArray, List.set_cons_succ, List.set_cons_zero]
    refine wpAnyC_take 6 (.slice A5 (9 * m) (c - 5)) rfl (by kernel_rfl) (by kernel_rfl) (by kernel_rfl) (fun _ _ _ h => h) (wanted_at false rfl rfl rfl rfl) (fun W hW => by rw [hA5.out]; go_simp) ?_
    simp only [Act.put, List.getElem_toArray, List.getElem_cons_succ, List.getElem_cons_zero, List.setIfInBounds_toArray, List.set_cons_succ, List.set_cons_zero]
    refine wpAnyC_one 7 hbL.out rfl (by kernel_rfl) (wanted_at false rfl rfl rfl rfl) (fun KA hKA => ?_)
    go_simp
    refine HTk.out.mono ?_
    rintro e w2 ⟨rfl, hG2, hT2⟩
    have hB2 : Kpt (Below w.heap.size w w2) := ⟨hbL.out.grown hG2 (by simp <;> omega) (fun k hk => by simp at hk; omega)⟩
    replace hT2 := Kpt.mk (hT2 f l rfl)
    clear hG2 HTk
    refine hKA _ _ ?_
    try simp only [Act.put, List.getElem_toArray, List.getElem_cons_succ, List.getElem_cons_zero, List.setIfInBounds_toArray, List.set_cons_succ, List.set_cons_zero]
    clear hKA KA
    refine wpAnyC_take 8 (.bool false) rfl (by kernel_rfl) (by kernel_rfl) (by kernel_rfl) (fun _ _ _ h => h) (wanted_at false rfl rfl rfl rfl) (fun W hW => by go_simp) ?_
    simp only [Act.put, List.getElem_toArray, List.getElem_cons_succ, List.getElem_cons_zero, List.setIfInBounds_toArray, List.set_cons_succ, List.set_cons_zero]
    refine wpAnyC_take 9 (.bool false) rfl (by kernel_rfl) (by kernel_rfl) (by kernel_rfl) (fun _ _ _ h => h) (wanted_free rfl _) (fun W hW => by go_simp) ?_
    simp only [Act.put, List.getElem_toArray, List.getElem_cons_succ, List.getElem_cons_zero, List.setIfInBounds_toArray, List.set_cons_succ, List.set_cons_zero]
    refine wpAnyC_take 10 (.bool false) rfl (by kernel_rfl) (by kernel_rfl) (by kernel_rfl) (fun _ _ _ h => h) (wanted_free rfl _) (fun W hW => by go_simp) ?_
    simp only [Act.put, List.getElem_toArray, List.getElem_cons_succ, List.getElem_cons_zero, List.setIfInBounds_toArray, List.set_cons_succ, List.set_cons_zero]
    refine wpAnyC_take 11 (.pointer (some ⟨w.heap.size, 0, none⟩)) rfl (by kernel_rfl) (by kernel_rfl) (by kernel_rfl) (fun _ _ _ h => h) (wanted_at false rfl rfl rfl rfl) (fun W hW => by go_simp) ?_
    simp only [Act.put, List.getElem_toArray, List.getElem_cons_succ, List.getElem_cons_zero, List.setIfInBounds_toArray, List.set_cons_succ, List.set_cons_zero]
    refine wpAnyC_take 12 (.slice (some ⟨b, off, none⟩) (5 + 9 * m) c) rfl (by kernel_rfl) (by kernel_rfl) (by kernel_rfl) (fun _ _ _ h => h) (wanted_at false rfl rfl rfl rfl) (fun W hW => by go_simp) ?_
    simp only [Act.put, List.getElem_toArray, List.getElem_cons_succ, List.getElem_cons_zero, List.setIfInBounds_toArray, List.set_cons_succ, List.set_cons_zero]
    refine wpAnyC_take 13 (.pointer (some ⟨b, off + 2, none⟩)) rfl (by kernel_rfl) (by kernel_rfl) (by kernel_rfl) (fun _ _ _ h => h) (wanted_at false rfl rfl rfl rfl) (fun W hW => by go_simp) ?_
    simp only [Act.put, List.getElem_toArray, List.getElem_cons_succ, List.getElem_cons_zero, List.setIfInBounds_toArray, List.set_cons_succ, List.set_cons_zero]
    refine wpAnyC_take 14 (.int .u8 z2) rfl (by kernel_rfl) (by kernel_rfl) (by kernel_rfl) (fun _ _ _ h => h) (wanted_at false rfl rfl rfl rfl) (fun W hW => by obtain ⟨g2, g3⟩ := hcells.out W (grown_below hW); go_simp) ?_
    simp only [Act.put, List.getElem_toArray, List.getElem_cons_succ, List.getElem_cons_zero, List.setIfInBounds_toArray, List.set_cons_succ, List.set_cons_zero]
    refine wpAnyC_take 15 (.slice (some ⟨b, off, none⟩) (5 + 9 * m) c) rfl (by kernel_rfl) (by kernel_rfl) (by kernel_rfl) (fun _ _ _ h => h) (wanted_at false rfl rfl rfl rfl) (fun W hW => by go_simp) ?_
    simp only [Act.put, List.getElem_toArray, List.getElem_cons_succ, List.getElem_cons_zero, List.setIfInBounds_toArray, List.set_cons_succ, List.set_cons_zero]
    refine wpAnyC_take 16 (.pointer (some ⟨b, off + 3, none⟩)) rfl (by kernel_rfl) (by kernel_rfl) (by kernel_rfl) (fun _ _ _ h => h) (wanted_at false rfl rfl rfl rfl) (fun W hW => by go_simp) ?_
    simp only [Act.put, List.getElem_toArray, List.getElem_cons_succ, List.getElem_cons_zero, List.setIfInBounds_toArray, List.set_cons_succ, List.set_cons_zero]
    refine wpAnyC_take 17 (.int .u8 z3) rfl (by kernel_rfl) (by kernel_rfl) (by kernel_rfl) (fun _ _ _ h => h) (wanted_at false rfl rfl rfl rfl) (fun W hW => by obtain ⟨g2, g3⟩ := hcells.out W (grown_below hW); go_simp) ?_
    simp only [Act.put, List.getElem_toArray, List.getElem_cons_succ, List.getElem_cons_zero, List.setIfInBounds_toArray, List.set_cons_succ, List.set_cons_zero]
    refine wpAnyC_one 18 hB2.out rfl (by kernel_rfl) (wanted_at false rfl rfl rfl rfl) (fun KA hKA => ?_)
    go_simp
    refine (HRv.out _ hT2.out).mono ?_
    rintro e w3 ⟨rfl, hG3, hT3⟩
    have hB3 : Kpt (Below w.heap.size w w3) := ⟨hB2.out.grown hG3 (by have := hB2.out.size; omega) (fun k hk => by simp at hk; omega)⟩
    replace hT3 := Kpt.mk hT3
    clear hG3
    refine hKA _ _ ?_
    try simp only [Act.put, List.getElem_toArray, List.getElem_cons_succ, List.getElem_cons_zero, List.setIfInBounds_toArray, List.set_cons_succ, List.set_cons_zero]
    clear hKA KA
    refine wpAnyC_take 19 (.bool true) rfl (by kernel_rfl) (by kernel_rfl) (by kernel_rfl) (fun _ _ _ h => h) (wanted_at false rfl rfl rfl rfl) (fun W hW => by go_simp) ?_
    simp only [Act.put, List.getElem_toArray, List.getElem_cons_succ, List.getElem_cons_zero, List.setIfInBounds_toArray, List.set_cons_succ, List.set_cons_zero]
    refine wpAnyC_take 20 (.bool true) rfl (by kernel_rfl) (by kernel_rfl) (by kernel_rfl) (fun _ _ _ h => h) (wanted_free rfl _) (fun W hW => by go_simp) ?_
    simp only [Act.put, List.getElem_toArray, List.getElem_cons_succ, List.getElem_cons_zero, List.setIfInBounds_toArray, List.set_cons_succ, List.set_cons_zero]
    refine wpAnyC_done hB3.out (by kernel_rfl) ?_
    go_wp2
    go_ret2
    exact ⟨hB3.out, by rw [hM.out]; first | rfl | exact ⟨_, rfl, Nat.le_refl _, hT3.out⟩⟩
  | true =>
    clear hf
    go_enter Try.func11, Try.ntmps11
    go_wp2_with fail
    refine wp_region_any (by kernel_rfl) ?_
    refine wpAny_of_C (C := fun W => Below w.heap.size w W) _ _ _ _ ?_
    refine wpAnyC_take 0 (.slice (some ⟨b, off, none⟩) (5 + 9 * m) c) rfl (by kernel_rfl) (by kernel_rfl) (by kernel_rfl) (fun _ _ _ h => h) (wanted_free rfl _) (fun W hW => by go_simp) ?_
    simp only [Act.put, List.getElem_toArray, List.getElem_cons_succ, List.getElem_cons_zero, List.setIfInBounds_toArray, List.set_cons_succ, List.set_cons_zero]
    refine wpAnyC_one 1 hbL.out rfl (by kernel_rfl) (wanted_free rfl _) (fun KA hKA => ?_)
    go_simp
    refine (HF.out _ hbL.out).mono ?_
    rintro e w1 ⟨rfl, rfl⟩
    refine hKA _ _ ?_
    try simp only [Act.put, List.getElem_toArray, List.getElem_cons_succ, List.getElem_cons_zero, List.setIfInBounds_toArray, List.set_cons_succ, List.set_cons_zero]
    clear hKA KA
    refine wpAnyC_take 2 (.bool false) rfl (by kernel_rfl) (by kernel_rfl) (by kernel_rfl) (fun _ _ _ h => h) (wanted_free rfl _) (fun W hW => by go_simp) ?_
    simp only [Act.put, List.getElem_toArray, List.getElem_cons_succ, List.getElem_cons_zero, List.setIfInBounds_toArray, List.set_cons_succ, List.set_cons_zero]
    refine wpAnyC_take 3 (.bool false) rfl (by kernel_rfl) (by kernel_rfl) (by kernel_rfl) (fun _ _ _ h => h) (wanted_free rfl _) (fun W hW => by go_simp) ?_
    simp only [Act.put, List.getElem_toArray, List.getElem_cons_succ, List.getElem_cons_zero, List.setIfInBounds_toArray, List.set_cons_succ, List.set_cons_zero]
    refine wpAnyC_take 4 (.pointer (some ⟨w.heap.size, 0, none⟩)) rfl (by kernel_rfl) (by kernel_rfl) (by kernel_rfl) (fun _ _ _ h => h) (wanted_at false rfl rfl rfl rfl) (fun W hW => by go_simp) ?_
    simp only [Act.put, List.getElem_toArray, List.getElem_cons_succ, List.getElem_cons_zero, List.setIfInBounds_toArray, List.set_cons_succ, List.set_cons_zero]
    refine wpAnyC_take 5 (.slice (some ⟨b, off, none⟩) (5 + 9 * m) c) rfl (by kernel_rfl) (by kernel_rfl) (by kernel_rfl) (fun _ _ _ h => h) (wanted_at false rfl rfl rfl rfl) (fun W hW => by go_simp) ?_
    simp only [Act.put, List.getElem_toArray, List.getElem_cons_succ, List.getElem_cons_zero, List.setIfInBounds_toArray, List.set_cons_succ, List.set_cons_zero]
    refine wpAnyC_take 6 (.slice A5 (9 * m) (c - 5)) rfl (by kernel_rfl) (by kernel_rfl) (by kernel_rfl) (fun _ _ _ h => h) (wanted_at false rfl rfl rfl rfl) (fun W hW => by rw [hA5.out]; go_simp) ?_
    simp only [Act.put, List.getElem_toArray, List.getElem_cons_succ, List.getElem_cons_zero, List.setIfInBounds_toArray, List.set_cons_succ, List.set_cons_zero]
    refine wpAnyC_one 7 hbL.out rfl (by kernel_rfl) (wanted_at false rfl rfl rfl rfl) (fun KA hKA => ?_)
    go_simp
    refine HTk.out.mono ?_
    rintro e w2 ⟨rfl, hG2, hT2⟩
    have hB2 : Kpt (Below w.heap.size w w2) := ⟨hbL.out.grown hG2 (by simp <;> omega) (fun k hk => by simp at hk; omega)⟩
    replace hT2 := Kpt.mk (hT2 f l rfl)
    clear hG2 HTk
    refine hKA _ _ ?_
    try simp only [Act.put, List.getElem_toArray, List.getElem_cons_succ, List.getElem_cons_zero, List.setIfInBounds_toArray, List.set_cons_succ, List.set_cons_zero]
    clear hKA KA
    refine wpAnyC_take 8 (.bool false) rfl (by kernel_rfl) (by kernel_rfl) (by kernel_rfl) (fun _ _ _ h => h) (wanted_at false rfl rfl rfl rfl) (fun W hW => by go_simp) ?_
    simp only [Act.put, List.getElem_toArray, List.getElem_cons_succ, List.getElem_cons_zero, List.setIfInBounds_toArray, List.set_cons_succ, List.set_cons_zero]
    refine wpAnyC_take 9 (.bool false) rfl (by kernel_rfl) (by kernel_rfl) (by kernel_rfl) (fun _ _ _ h => h) (wanted_free rfl _) (fun W hW => by go_simp) ?_
    simp only [Act.put, List.getElem_toArray, List.getElem_cons_succ, List.getElem_cons_zero, List.setIfInBounds_toArray, List.set_cons_succ, List.set_cons_zero]
    refine wpAnyC_take 10 (.bool false) rfl (by kernel_rfl) (by kernel_rfl) (by kernel_rfl) (fun _ _ _ h => h) (wanted_free rfl _) (fun W hW => by go_simp) ?_
    simp only [Act.put, List.getElem_toArray, List.getElem_cons_succ, List.getElem_cons_zero, List.setIfInBounds_toArray, List.set_cons_succ, List.set_cons_zero]
    refine wpAnyC_take 11 (.pointer (some ⟨w.heap.size, 0, none⟩)) rfl (by kernel_rfl) (by kernel_rfl) (by kernel_rfl) (fun _ _ _ h => h) (wanted_at false rfl rfl rfl rfl) (fun W hW => by go_simp) ?_
    simp only [Act.put, List.getElem_toArray, List.getElem_cons_succ, List.getElem_cons_zero, List.setIfInBounds_toArray, List.set_cons_succ, List.set_cons_zero]
    refine wpAnyC_take 12 (.slice (some ⟨b, off, none⟩) (5 + 9 * m) c) rfl (by kernel_rfl) (by kernel_rfl) (by kernel_rfl) (fun _ _ _ h => h) (wanted_at false rfl rfl rfl rfl) (fun W hW => by go_simp) ?_
    simp only [Act.put, List.getElem_toArray, List.getElem_cons_succ, List.getElem_cons_zero, List.setIfInBounds_toArray, List.set_cons_succ, List.set_cons_zero]
    refine wpAnyC_take 13 (.pointer (some ⟨b, off + 2, none⟩)) rfl (by kernel_rfl) (by kernel_rfl) (by kernel_rfl) (fun _ _ _ h => h) (wanted_at false rfl rfl rfl rfl) (fun W hW => by go_simp) ?_
    simp only [Act.put, List.getElem_toArray, List.getElem_cons_succ, List.getElem_cons_zero, List.setIfInBounds_toArray, List.set_cons_succ, List.set_cons_zero]
    refine wpAnyC_take 14 (.int .u8 z2) rfl (by kernel_rfl) (by kernel_rfl) (by kernel_rfl) (fun _ _ _ h => h) (wanted_at false rfl rfl rfl rfl) (fun W hW => by obtain ⟨g2, g3⟩ := hcells.out W (grown_below hW); go_simp) ?_
    simp only [Act.put, List.getElem_toArray, List.getElem_cons_succ, List.getElem_cons_zero, List.setIfInBounds_toArray, List.set_cons_succ, List.set_cons_zero]
    refine wpAnyC_take 15 (.slice (some ⟨b, off, none⟩) (5 + 9 * m) c) rfl (by kernel_rfl) (by kernel_rfl) (by kernel_rfl) (fun _ _ _ h => h) (wanted_at false rfl rfl rfl rfl) (fun W hW => by go_simp) ?_
    simp only [Act.put, List.getElem_toArray, List.getElem_cons_succ, List.getElem_cons_zero, List.setIfInBounds_toArray, List.set_cons_succ, List.set_cons_zero]
    refine wpAnyC_take 16 (.pointer (some ⟨b, off + 3, none⟩)) rfl (by kernel_rfl) (by kernel_rfl) (by kernel_rfl) (fun _ _ _ h => h) (wanted_at false rfl rfl rfl rfl) (fun W hW => by go_simp) ?_
    simp only [Act.put, List.getElem_toArray, List.getElem_cons_succ, List.getElem_cons_zero, List.setIfInBounds_toArray, List.set_cons_succ, List.set_cons_zero]
    refine wpAnyC_take 17 (.int .u8 z3) rfl (by kernel_rfl) (by kernel_rfl) (by kernel_rfl) (fun _ _ _ h => h) (wanted_at false rfl rfl rfl rfl) (fun W hW => by obtain ⟨g2, g3⟩ := hcells.out W (grown_below hW); go_simp) ?_
    simp only [Act.put, List.getElem_toArray, List.getElem_cons_succ, List.getElem_cons_zero, List.setIfInBounds_toArray, List.set_cons_succ, List.set_cons_zero]
    refine wpAnyC_one 18 hB2.out rfl (by kernel_rfl) (wanted_at false rfl rfl rfl rfl) (fun KA hKA => ?_)
    go_simp
    refine (HRv.out _ hT2.out).mono ?_
    rintro e w3 ⟨rfl, hG3, hT3⟩
    have hB3 : Kpt (Below w.heap.size w w3) := ⟨hB2.out.grown hG3 (by have := hB2.out.size; omega) (fun k hk => by simp at hk; omega)⟩
    replace hT3 := Kpt.mk hT3
    clear hG3
    refine hKA _ _ ?_
    try simp only [Act.put, List.getElem_toArray, List.getElem_cons_succ, List.getElem_cons_zero, List.setIfInBounds_toArray, List.set_cons_succ, List.set_cons_zero]
    clear hKA KA
    refine wpAnyC_take 19 (.bool false) rfl (by kernel_rfl) (by kernel_rfl) (by kernel_rfl) (fun _ _ _ h => h) (wanted_at false rfl rfl rfl rfl) (fun W hW => by go_simp) ?_
    simp only [Act.put, List.getElem_toArray, List.getElem_cons_succ, List.getElem_cons_zero, List.setIfInBounds_toArray, List.set_cons_succ, List.set_cons_zero]
    refine wpAnyC_take 20 (.bool false) rfl (by kernel_rfl) (by kernel_rfl) (by kernel_rfl) (fun _ _ _ h => h) (wanted_free rfl _) (fun W hW => by go_simp) ?_
    simp only [Act.put, List.getElem_toArray, List.getElem_cons_succ, List.getElem_cons_zero, List.setIfInBounds_toArray, List.set_cons_succ, List.set_cons_zero]
    refine wpAnyC_done hB3.out (by kernel_rfl) ?_
    go_wp2
    go_ret2
    exact ⟨hB3.out, by rw [hM.out]; first | rfl | exact ⟨_, rfl, Nat.le_refl _, hT3.out⟩⟩
end Go.Proofs.Ytmnoolcffkjmhaa
