/-
  The contract of slices.Delete of one task.
-/
import Derived.Test.YtcnefmfmmgdidaaTDel
namespace Go.Proofs.Ytcnefmfmmgdidaa
open Go.RowKit
set_option linter.unusedVariables false
set_option linter.unusedSimpArgs false

set_option maxRecDepth 100000 in
set_option maxHeartbeats 2000000 in
theorem delete_any (base g cap i m : Nat) (zs : List Tk) (w : World) (h : w.ownsRow base 48 4 (.slice (some ⟨g, 0, none⟩) m cap) m (cels zs)) (hi : i < m) (hl : m ≤ 16) (hcap : m ≤ cap) (hcm : cap ≤ 9223372036854775807) :
    Calls Try.prog 36 #[.slice (some ⟨g, 0, none⟩) m cap, .int .i64 i, .int .i64 ((i : Int) + 1)] w fun e w' => e = .returned (.slice (some ⟨g, 0, none⟩) (m - 1) cap) ∧ w'.ownsRow base 48 4 (.slice (some ⟨g, 0, none⟩) (m - 1) cap) (m - 1) (cels (zs.eraseIdx i)) ∧ w.grownBy w' (some g) := by
  have hz : zs.length = m := by have := h.1; rw [cels_length] at this; omega
  have hT := Kpt.mk (own_take h i (Nat.le_of_lt hi))
  have hK := Kpt.mk h
  have hzK := Kpt.mk hz
  obtain ⟨k, hk⟩ : ∃ k, m = k + 1 := ⟨m - 1, by omega⟩
  rw [show m - 1 = k from by omega]
  have hkK := Kpt.mk hk
  have e7 : (k : Int) < m := by omega
  have e8 : (k : Int) < cap := by omega
  have e9 : m - k = 1 := by omega
  clear hk
  have e1 : (i : Int) < m := by omega
  have e2 : (m : Int) ≤ cap := by omega
  have e3 : (i : Int) + 1 ≤ m := by omega
  have e4 : (i : Int) + 1 ≤ cap := by omega
  have e5 : ¬ (i : Int) = (i : Int) + 1 := by omega
  clear h hz
  go_enter Try.func36, Try.ntmps36
  go_wp2_with fail
  obtain ⟨ad, had⟩ : ∃ ad : Addr, ad = if cap = i + 1 then (⟨g, 0, none⟩ : Addr) else ⟨g, (i + 1) * 4, none⟩ := ⟨_, rfl⟩
  have hnews : ∀ W : World, W.heap = w.heap → ∀ j u, (cels (zs.drop (i + 1)))[j]? = some u → W.cell? (ad.add j) = some u := fun W hW j u hu => by
    have hj : j < (zs.length - (i + 1)) * 4 := by have := (List.getElem?_eq_some_iff.1 hu).1; rw [cels_length, List.length_drop] at this; exact this
    have hne : ¬ cap = i + 1 := by have := hzK.out; omega
    rw [had, if_neg hne, Go.WideShapes.add_plain]
    have := World.ownsRow.cellAt hK.out ((i + 1) * 4 + j) (by have := hzK.out; omega)
    have e : W.cell? ⟨g, (i + 1) * 4 + j, none⟩ = w.cell? ⟨g, (i + 1) * 4 + j, none⟩ := World.cell?_of_block (by rw [hW])
    rw [e, this, ← hu, ← cels_drop, List.getElem?_drop]
  replace hnews := Kpt.mk hnews
  have hadK := Kpt.mk had
  clear had
  refine wp_region_any (by kernel_rfl) ?_
  refine wpAny_of_C (C := fun _ => True) _ _ _ _ ?_
  refine wpAnyC_take 0 (.slice (some ⟨g, 0, none⟩) m cap) rfl (by kernel_rfl) (by kernel_rfl) (by kernel_rfl) (fun _ _ _ h => h) (wanted_free rfl _) (fun W hW => by go_simp) ?_
  try simp only [Act.put, List.setIfInBounds_toArray, List.set_cons_succ, List.set_cons_zero]
  refine wpAnyC_take 1 (.int .i64 i) rfl (by kernel_rfl) (by kernel_rfl) (by kernel_rfl) (fun _ _ _ h => h) (wanted_free rfl _) (fun W hW => by go_simp) ?_
  try simp only [Act.put, List.setIfInBounds_toArray, List.set_cons_succ, List.set_cons_zero]
  refine wpAnyC_take 2 (.slice (some ⟨g, 0, none⟩) i cap) rfl (by kernel_rfl) (by kernel_rfl) (by kernel_rfl) (fun _ _ _ h => h) (wanted_free rfl _) (fun W hW => by go_simp; try (intro hx; omega)) ?_
  try simp only [Act.put, List.setIfInBounds_toArray, List.set_cons_succ, List.set_cons_zero]
  refine wpAnyC_take 3 (.slice (some ⟨g, 0, none⟩) m cap) rfl (by kernel_rfl) (by kernel_rfl) (by kernel_rfl) (fun _ _ _ h => h) (wanted_free rfl _) (fun W hW => by go_simp) ?_
  try simp only [Act.put, List.setIfInBounds_toArray, List.set_cons_succ, List.set_cons_zero]
  refine wpAnyC_take 4 (.int .i64 ((i : Int) + 1)) rfl (by kernel_rfl) (by kernel_rfl) (by kernel_rfl) (fun _ _ _ h => h) (wanted_free rfl _) (fun W hW => by go_simp) ?_
  try simp only [Act.put, List.setIfInBounds_toArray, List.set_cons_succ, List.set_cons_zero]
  refine wpAnyC_take 5 (.slice (some ad) (m - (i + 1)) (cap - (i + 1))) rfl (by kernel_rfl) (by kernel_rfl) (by kernel_rfl) (fun _ _ _ h => h) (wanted_free rfl _) (fun W hW => by
    rw [hadK.out]
    by_cases hc1 : cap = i + 1
    · rw [if_pos hc1]
      subst hc1
      go_simp
      try (intro hx; omega)
    · rw [if_neg hc1]
      have e6 : (i : Int) + 1 < cap := by omega
      go_simp
      intro hx
      omega) ?_
  simp only [Act.put, List.setIfInBounds_toArray, List.set_cons_succ, List.set_cons_zero]
  refine wpAnyC_one 6 trivial rfl (by kernel_rfl) (wanted_free rfl _) (fun K hKK => ?_)
  refine wp_append_fits _ _ rfl base g i cap (m - (i + 1)) (cap - (i + 1)) (zs.take i) (zs.drop (i + 1)) ad (by kernel_rfl) (by kernel_rfl) ?_ (by simp [hzK.out]) (hnews.out _ rfl) (by omega) (fun w1 ho1 hg1 => hKK _ _ ?_)
  · exact hT.out
  replace ho1 : w1.ownsRow base 48 4 (.slice (some ⟨g, 0, none⟩) k cap) k (cels (zs.eraseIdx i)) := by
    rw [List.eraseIdx_eq_take_drop_succ]
    rw [show i + (m - (i + 1)) = k from by have := hkK.out; omega] at ho1
    exact ho1
  rw [show i + (m - (i + 1)) = k from by have := hkK.out; omega]
  replace hg1 : w.grownBy w1 (some g) := ⟨hg1.os, hg1.tape, hg1.output, hg1.size, hg1.block⟩
  simp only [Act.put, List.setIfInBounds_toArray, List.set_cons_succ, List.set_cons_zero]
  refine wpAnyC_take 7 (.slice (some ⟨g, 0, none⟩) k cap) rfl (by kernel_rfl) (by kernel_rfl) (by kernel_rfl) (fun _ _ _ h => h) (wanted_free rfl _) (fun W hW => by go_simp) ?_
  try simp only [Act.put, List.setIfInBounds_toArray, List.set_cons_succ, List.set_cons_zero]
  refine wpAnyC_done trivial (by kernel_rfl) ?_
  replace ho1 := Kpt.mk ho1
  replace hg1 := Kpt.mk hg1
  clear hKK K
  go_wp2_with fail
  rw [run_clear_task w1 _ g (k * 4) _ (fun j hj => own_room ho1.out (k * 4 + j) (by omega)) (fun j hj => ho1.out.frozenAt (k * 4 + j))]
  obtain ⟨ho2, hg2⟩ := own_behind zeroT (k * 4) w1 (Nat.le_refl _) ho1.out
  have hg3 := Kpt.mk (World.grownBy.trans hg1.out hg2)
  replace ho2 := Kpt.mk ho2
  clear hg2
  obtain ⟨w2, hw2⟩ : ∃ w2, w2 = w1.setCells g (k * 4) zeroT := ⟨_, rfl⟩
  rw [← hw2] at ho2 hg3 ⊢
  replace hw2 := Kpt.mk hw2
  simp only [Result.andThen, Oper.upon]
  go_wp2
  go_ret
  exact ⟨rfl, ho2.out, hg3.out⟩
end Go.Proofs.Ytcnefmfmmgdidaa
