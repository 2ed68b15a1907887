/-
  The document's Standard.
-/
import Derived.Test.YteoaadpilaljnaaIRef
namespace Go.Proofs.Yteoaadpilaljnaa
open Go.RowKit
set_option linter.unusedVariables false
set_option linter.unusedSimpArgs false

theorem wpAnyC_mono {P : Program} {md : Region.Mode} {ops : Array Oper} {C C' : World → Prop} {Q : Exit → Act → World → Prop} (hC : ∀ w, C' w → C w) : ∀ (fuel : Nat) (listed : Array Bool) (a : Act) (w : World), wpAnyC P md ops C' Q fuel listed a w → wpAnyC P md ops C Q fuel listed a w
  | 0, _, _, _, h => ⟨hC _ h.1, h.2⟩
  | fuel + 1, _, _, _, h => ⟨hC _ h.1, h.2.1, fun i hi => wpOp_mono (fun a' w' h' => wpAnyC_mono hC fuel _ a' w' h') (h.2.2 i hi)⟩

theorem str_append (a b : List Int) : strOfNums (a ++ b) = strOfNums a ++ strOfNums b := by
  apply Go.WideShapes.bytes_inj
  rw [ByteArray.data_append]
  simp [strOfNums]
theorem str_nums (S : ByteArray) : strOfNums (nums S) = S := by
  apply Go.WideShapes.bytes_inj
  unfold strOfNums nums
  simp [Function.comp_def]

theorem rstd_bad (i : In) (w : World) (hi : i.wf) (hf : i.form = false) : Calls Try.prog 16 #[.agg i.rvals] w fun e w' => e = .returned (.string ⟨#[]⟩) ∧ Below w.heap.size w w' := by
  have HF := Kpt.mk (fun W => rform_any i W hi)
  rw [hf] at HF
  obtain ⟨ve, pr, re, se, pt⟩ := i
  simp only [In.rvals] at HF ⊢
  go_enter Try.func16, Try.ntmps16
  go_wp2_with fail
  refine (HF.out _).mono ?_
  rintro e w1 ⟨rfl, hb⟩
  have hbw : Kpt (Below w.heap.size w w1) := ⟨((Below.refl _ _).alloc (Nat.le_refl _) _).trans (hb.mono (by simp))⟩
  clear hb
  go_wp2_with fail
  go_ret
  exact ⟨rfl, hbw.out⟩

set_option maxRecDepth 100000 in
set_option maxHeartbeats 4000000 in
theorem rstd_pos (i : In) (w : World) (hi : i.wf) (hf : i.form = true) (hpt : 0 < i.pt) : Calls Try.prog 16 #[.agg i.rvals] w fun e w' => e = .returned (.string (strOfNums (stdL i))) ∧ Below w.heap.size w w' := by
  have HF := Kpt.mk (fun W => rform_any i W hi)
  rw [hf] at HF
  obtain ⟨h1, h2, h3, _⟩ := form_sizes hf
  have hsl : strOfNums (stdL i) = strOfNums [0, 0, 6, 2, 31, 1, 0, 2] ++ fillS i.ve 8 ++ fillS i.pr 16 ++ fillS i.re 4 := by
    unfold stdL stdT
    rw [if_pos hpt, str_append, str_nums]; simp only [app_assoc]
  rw [hsl]
  obtain ⟨ve, pr, re, se, pt⟩ := i
  simp only at h1 h2 h3 hpt ⊢
  have HA := Kpt.mk (fun W => as_any ve 8 W h1 (by decide))
  have HB := Kpt.mk (fun W => as_any pr 16 W h2 (by decide))
  have HC := Kpt.mk (fun W => as_any re 4 W h3 (by decide))
  have s1 := fill_size ve 8 h1
  have s2 := fill_size pr 16 h2
  have s3 := fill_size re 4 h3
  generalize fillS ve 8 = FA at *
  generalize fillS pr 16 = FB at *
  generalize fillS re 4 = FC at *
  obtain ⟨H, hH⟩ : ∃ H, H = strOfNums [0, 0, 6, 2, 31, 1, 0, 2] := ⟨_, rfl⟩
  have s0 : H.size = 8 := by rw [hH]; rfl
  rw [← hH]
  replace hH := Kpt.mk hH
  obtain ⟨U1, hU1⟩ : ∃ U, U = H ++ FA := ⟨_, rfl⟩
  have t1 : U1.size = H.size + FA.size := by rw [hU1, size_app]
  rw [← hU1]
  obtain ⟨U2, hU2⟩ : ∃ U, U = U1 ++ FB := ⟨_, rfl⟩
  have t2 : U2.size = U1.size + FB.size := by rw [hU2, size_app]
  rw [← hU2]
  obtain ⟨U3, hU3⟩ : ∃ U, U = U2 ++ FC := ⟨_, rfl⟩
  rw [← hU3]
  have l1 : ¬ 9223372036854775807 < H.size + FA.size := by omega
  have l2 : ¬ 9223372036854775807 < U1.size + FB.size := by omega
  have l3 : ¬ 9223372036854775807 < U2.size + FC.size := by omega
  replace hU1 := Kpt.mk hU1
  replace hU2 := Kpt.mk hU2
  replace hU3 := Kpt.mk hU3
  simp only [In.rvals] at HF ⊢
  clear s0 s1 s2 s3 t1 t2 hf hi hsl
  go_enter Try.func16, Try.ntmps16
  go_wp2_with fail
  refine (HF.out _).mono ?_
  rintro e w1 ⟨rfl, hb1⟩
  have hs0 : (w.alloc (.cells #[.string ve, .string pr, .string re, .string se, .int .i64 pt] 31)).heap.size = w.heap.size + 1 := by simp
  have hl1 : w.heap.size < w1.heap.size := by have := hb1.size; omega
  have zA0 : w1.cell? ⟨w.heap.size, 0, none⟩ = some (.string ve) := (hb1.cell (p := ⟨w.heap.size, 0, none⟩) (by show w.heap.size < _; omega)).trans (by simp)
  have zA1 : w1.cell? ⟨w.heap.size, 1, none⟩ = some (.string pr) := (hb1.cell (p := ⟨w.heap.size, 1, none⟩) (by show w.heap.size < _; omega)).trans (by simp)
  have zA2 : w1.cell? ⟨w.heap.size, 2, none⟩ = some (.string re) := (hb1.cell (p := ⟨w.heap.size, 2, none⟩) (by show w.heap.size < _; omega)).trans (by simp)
  have zA3 : w1.cell? ⟨w.heap.size, 3, none⟩ = some (.string se) := (hb1.cell (p := ⟨w.heap.size, 3, none⟩) (by show w.heap.size < _; omega)).trans (by simp)
  have zA4 : w1.cell? ⟨w.heap.size, 4, none⟩ = some (.int .i64 pt) := (hb1.cell (p := ⟨w.heap.size, 4, none⟩) (by show w.heap.size < _; omega)).trans (by simp)
  have hB1 : Kpt (Below w.heap.size w w1) := ⟨((Below.refl _ _).alloc (Nat.le_refl _) _).trans (hb1.mono (by omega))⟩
  clear hb1 hs0 HF
  go_wp2_with fail
  obtain ⟨V1, hV1⟩ : ∃ V, V = w1.drew.alloc (.cells #[.int .u8 0, .int .u8 0, .int .u8 6, .int .u8 2, .int .u8 31, .int .u8 1, .int .u8 0, .int .u8 2] 5) := ⟨_, rfl⟩
  have hbV : Below w1.heap.size w1 V1 := by rw [hV1]; exact (below_drew w1).alloc (Nat.le_refl _) _
  have hoV : V1.ownsRow w.heap.size 5 1 (.slice (some ⟨w1.heap.size, 0, none⟩) 8 8) 8 (cels [0, 0, 6, 2, 31, 1, 0, 2]) := by rw [hV1]; exact own_alloc w1.drew w1.heap.size 8 w.heap.size [0, 0, 6, 2, 31, 1, 0, 2] rfl rfl (by decide) (Nat.le_of_lt hl1)
  have zV0 : V1.cell? ⟨w.heap.size, 0, none⟩ = some (.string ve) := (hbV.cell (p := ⟨w.heap.size, 0, none⟩) (by show w.heap.size < _; omega)).trans zA0
  have zV1 : V1.cell? ⟨w.heap.size, 1, none⟩ = some (.string pr) := (hbV.cell (p := ⟨w.heap.size, 1, none⟩) (by show w.heap.size < _; omega)).trans zA1
  have zV2 : V1.cell? ⟨w.heap.size, 2, none⟩ = some (.string re) := (hbV.cell (p := ⟨w.heap.size, 2, none⟩) (by show w.heap.size < _; omega)).trans zA2
  have zV3 : V1.cell? ⟨w.heap.size, 3, none⟩ = some (.string se) := (hbV.cell (p := ⟨w.heap.size, 3, none⟩) (by show w.heap.size < _; omega)).trans zA3
  have zV4 : V1.cell? ⟨w.heap.size, 4, none⟩ = some (.int .i64 pt) := (hbV.cell (p := ⟨w.heap.size, 4, none⟩) (by show w.heap.size < _; omega)).trans zA4
  have hBV : Kpt (Below w.heap.size w V1) := ⟨hB1.out.trans (hbV.mono hB1.out.size)⟩
  have hcV : ∀ W, RdAt W (.slice (some ⟨w1.heap.size, 0, none⟩) 8 8) [0, 0, 6, 2, 31, 1, 0, 2] → (convert 25 9 (.slice (some ⟨w1.heap.size, 0, none⟩) 8 8)).run Try.prog W = .ok (.string H) W := fun W h => by rw [hH.out]; exact conv_rd h
  have hrV := own_rd hoV
  replace hcV := Kpt.mk hcV
  have hV1K := Kpt.mk hV1
  clear hV1 hbV hoV
  refine wp_region_any (by kernel_rfl) ?_
  refine wpAny_of_C (C := fun W => (W.cell? ⟨w.heap.size, 0, none⟩ = some (.string ve) ∧ W.cell? ⟨w.heap.size, 1, none⟩ = some (.string pr) ∧ W.cell? ⟨w.heap.size, 2, none⟩ = some (.string re))) _ _ _ _ ?_
  refine wpAnyC_take 0 (.int .u8 1) rfl (by kernel_rfl) (by kernel_rfl) (by kernel_rfl) (fun _ _ _ h => h) (wanted_free rfl _) (fun W hW => by go_simp) ?_
  simp only [Act.put, List.getElem_toArray, List.getElem_cons_succ, List.getElem_cons_zero, List.setIfInBounds_toArray, List.set_cons_succ, List.set_cons_zero]
  refine wpAnyC_take 3 (.pointer (some ⟨w.heap.size, 0, none⟩)) rfl (by kernel_rfl) (by kernel_rfl) (by kernel_rfl) (fun _ _ _ h => h) (wanted_free rfl _) (fun W hW => by go_simp) ?_
  simp only [Act.put, List.getElem_toArray, List.getElem_cons_succ, List.getElem_cons_zero, List.setIfInBounds_toArray, List.set_cons_succ, List.set_cons_zero]
  refine wpAnyC_take 4 (.string ve) rfl (by kernel_rfl) (by kernel_rfl) (by kernel_rfl) (fun _ _ _ h => h) (wanted_free rfl _) (fun W hW => by obtain ⟨y0, y1, y2⟩ := hW; go_simp) ?_
  simp only [Act.put, List.getElem_toArray, List.getElem_cons_succ, List.getElem_cons_zero, List.setIfInBounds_toArray, List.set_cons_succ, List.set_cons_zero]
  refine wpAnyC_take 7 (.pointer (some ⟨w.heap.size, 1, none⟩)) rfl (by kernel_rfl) (by kernel_rfl) (by kernel_rfl) (fun _ _ _ h => h) (wanted_free rfl _) (fun W hW => by go_simp) ?_
  simp only [Act.put, List.getElem_toArray, List.getElem_cons_succ, List.getElem_cons_zero, List.setIfInBounds_toArray, List.set_cons_succ, List.set_cons_zero]
  refine wpAnyC_take 8 (.string pr) rfl (by kernel_rfl) (by kernel_rfl) (by kernel_rfl) (fun _ _ _ h => h) (wanted_free rfl _) (fun W hW => by obtain ⟨y0, y1, y2⟩ := hW; go_simp) ?_
  simp only [Act.put, List.getElem_toArray, List.getElem_cons_succ, List.getElem_cons_zero, List.setIfInBounds_toArray, List.set_cons_succ, List.set_cons_zero]
  refine wpAnyC_take 11 (.pointer (some ⟨w.heap.size, 2, none⟩)) rfl (by kernel_rfl) (by kernel_rfl) (by kernel_rfl) (fun _ _ _ h => h) (wanted_free rfl _) (fun W hW => by go_simp) ?_
  simp only [Act.put, List.getElem_toArray, List.getElem_cons_succ, List.getElem_cons_zero, List.setIfInBounds_toArray, List.set_cons_succ, List.set_cons_zero]
  refine wpAnyC_take 12 (.string re) rfl (by kernel_rfl) (by kernel_rfl) (by kernel_rfl) (fun _ _ _ h => h) (wanted_free rfl _) (fun W hW => by obtain ⟨y0, y1, y2⟩ := hW; go_simp) ?_
  simp only [Act.put, List.getElem_toArray, List.getElem_cons_succ, List.getElem_cons_zero, List.setIfInBounds_toArray, List.set_cons_succ, List.set_cons_zero]
  refine wpAnyC_two 1 5 ⟨zA0, zA1, zA2⟩ rfl rfl (by kernel_rfl) (wanted_free rfl _) (wanted_free rfl _) (fun KA hKA => ?_) (fun KA hKA => ?_)
  · go_simp
    refine hKA _ _ ?_
    clear hKA KA
    first | rw [← hV1K.out] | (show wpAnyC _ _ _ _ _ _ _ _ (w1.drew.alloc _); rw [← hV1K.out])
    try simp only [Act.put, List.getElem_toArray, List.getElem_cons_succ, List.getElem_cons_zero, List.setIfInBounds_toArray, List.set_cons_succ, List.set_cons_zero]
    refine wpAnyC_mono (C' := fun W => ((W.cell? ⟨w.heap.size, 0, none⟩ = some (.string ve) ∧ W.cell? ⟨w.heap.size, 1, none⟩ = some (.string pr) ∧ W.cell? ⟨w.heap.size, 2, none⟩ = some (.string re)) ∧ RdAt W (.slice (some ⟨w1.heap.size, 0, none⟩) 8 8) [0, 0, 6, 2, 31, 1, 0, 2])) (fun W h => h.1) _ _ _ _ ?_
    refine wpAnyC_take 2 (.string H) rfl (by kernel_rfl) (by kernel_rfl) (by kernel_rfl) (fun _ _ _ h => h) (wanted_free rfl _) (fun W hW => by exact (by have := hcV.out W hW.2; go_simp)) ?_
    simp only [Act.put, List.getElem_toArray, List.getElem_cons_succ, List.getElem_cons_zero, List.setIfInBounds_toArray, List.set_cons_succ, List.set_cons_zero]
    refine wpAnyC_one 5 ⟨⟨zV0, zV1, zV2⟩, hrV⟩ rfl (by kernel_rfl) (wanted_free rfl _) (fun KA hKA => ?_)
    go_simp
    refine (HA.out _).mono ?_
    rintro e w3 ⟨rfl, rfl⟩
    refine hKA _ _ ?_
    clear hKA KA
    try simp only [Act.put, List.getElem_toArray, List.getElem_cons_succ, List.getElem_cons_zero, List.setIfInBounds_toArray, List.set_cons_succ, List.set_cons_zero]
    refine wpAnyC_take 6 (.string U1) rfl (by kernel_rfl) (by kernel_rfl) (by kernel_rfl) (fun _ _ _ h => h) (wanted_free rfl _) (fun W hW => by rw [hU1.out]; go_simp) ?_
    simp only [Act.put, List.getElem_toArray, List.getElem_cons_succ, List.getElem_cons_zero, List.setIfInBounds_toArray, List.set_cons_succ, List.set_cons_zero]
    refine wpAnyC_one 9 ⟨⟨zV0, zV1, zV2⟩, hrV⟩ rfl (by kernel_rfl) (wanted_free rfl _) (fun KA hKA => ?_)
    go_simp
    refine (HB.out _).mono ?_
    rintro e w3 ⟨rfl, rfl⟩
    refine hKA _ _ ?_
    clear hKA KA
    try simp only [Act.put, List.getElem_toArray, List.getElem_cons_succ, List.getElem_cons_zero, List.setIfInBounds_toArray, List.set_cons_succ, List.set_cons_zero]
    refine wpAnyC_take 10 (.string U2) rfl (by kernel_rfl) (by kernel_rfl) (by kernel_rfl) (fun _ _ _ h => h) (wanted_free rfl _) (fun W hW => by rw [hU2.out]; go_simp) ?_
    simp only [Act.put, List.getElem_toArray, List.getElem_cons_succ, List.getElem_cons_zero, List.setIfInBounds_toArray, List.set_cons_succ, List.set_cons_zero]
    refine wpAnyC_one 13 ⟨⟨zV0, zV1, zV2⟩, hrV⟩ rfl (by kernel_rfl) (wanted_free rfl _) (fun KA hKA => ?_)
    go_simp
    refine (HC.out _).mono ?_
    rintro e w3 ⟨rfl, rfl⟩
    refine hKA _ _ ?_
    clear hKA KA
    try simp only [Act.put, List.getElem_toArray, List.getElem_cons_succ, List.getElem_cons_zero, List.setIfInBounds_toArray, List.set_cons_succ, List.set_cons_zero]
    refine wpAnyC_take 14 (.string U3) rfl (by kernel_rfl) (by kernel_rfl) (by kernel_rfl) (fun _ _ _ h => h) (wanted_free rfl _) (fun W hW => by rw [hU3.out]; go_simp) ?_
    simp only [Act.put, List.getElem_toArray, List.getElem_cons_succ, List.getElem_cons_zero, List.setIfInBounds_toArray, List.set_cons_succ, List.set_cons_zero]
    refine wpAnyC_take 15 (.string U3) rfl (by kernel_rfl) (by kernel_rfl) (by kernel_rfl) (fun _ _ _ h => h) (wanted_free rfl _) (fun W hW => by go_simp) ?_
    simp only [Act.put, List.getElem_toArray, List.getElem_cons_succ, List.getElem_cons_zero, List.setIfInBounds_toArray, List.set_cons_succ, List.set_cons_zero]
    refine wpAnyC_done ⟨⟨zV0, zV1, zV2⟩, hrV⟩ (by kernel_rfl) ?_
    clear zV0 zV1 zV2 zV3 zV4 hrV zA0 zA1 zA2 zA3 zA4
    go_wp2_with fail
    go_ret
    exact ⟨rfl, hBV.out⟩
  · go_simp
    refine (HA.out _).mono ?_
    rintro e w3 ⟨rfl, rfl⟩
    refine hKA _ _ ?_
    clear hKA KA
    try simp only [Act.put, List.getElem_toArray, List.getElem_cons_succ, List.getElem_cons_zero, List.setIfInBounds_toArray, List.set_cons_succ, List.set_cons_zero]
    refine wpAnyC_two 1 9 ⟨zA0, zA1, zA2⟩ rfl rfl (by kernel_rfl) (wanted_free rfl _) (wanted_free rfl _) (fun KA hKA => ?_) (fun KA hKA => ?_)
    · go_simp
      refine hKA _ _ ?_
      clear hKA KA
      first | rw [← hV1K.out] | (show wpAnyC _ _ _ _ _ _ _ _ (w1.drew.alloc _); rw [← hV1K.out])
      try simp only [Act.put, List.getElem_toArray, List.getElem_cons_succ, List.getElem_cons_zero, List.setIfInBounds_toArray, List.set_cons_succ, List.set_cons_zero]
      refine wpAnyC_mono (C' := fun W => ((W.cell? ⟨w.heap.size, 0, none⟩ = some (.string ve) ∧ W.cell? ⟨w.heap.size, 1, none⟩ = some (.string pr) ∧ W.cell? ⟨w.heap.size, 2, none⟩ = some (.string re)) ∧ RdAt W (.slice (some ⟨w1.heap.size, 0, none⟩) 8 8) [0, 0, 6, 2, 31, 1, 0, 2])) (fun W h => h.1) _ _ _ _ ?_
      refine wpAnyC_take 2 (.string H) rfl (by kernel_rfl) (by kernel_rfl) (by kernel_rfl) (fun _ _ _ h => h) (wanted_free rfl _) (fun W hW => by exact (by have := hcV.out W hW.2; go_simp)) ?_
      simp only [Act.put, List.getElem_toArray, List.getElem_cons_succ, List.getElem_cons_zero, List.setIfInBounds_toArray, List.set_cons_succ, List.set_cons_zero]
      refine wpAnyC_take 6 (.string U1) rfl (by kernel_rfl) (by kernel_rfl) (by kernel_rfl) (fun _ _ _ h => h) (wanted_free rfl _) (fun W hW => by rw [hU1.out]; go_simp) ?_
      simp only [Act.put, List.getElem_toArray, List.getElem_cons_succ, List.getElem_cons_zero, List.setIfInBounds_toArray, List.set_cons_succ, List.set_cons_zero]
      refine wpAnyC_one 9 ⟨⟨zV0, zV1, zV2⟩, hrV⟩ rfl (by kernel_rfl) (wanted_free rfl _) (fun KA hKA => ?_)
      go_simp
      refine (HB.out _).mono ?_
      rintro e w3 ⟨rfl, rfl⟩
      refine hKA _ _ ?_
      clear hKA KA
      try simp only [Act.put, List.getElem_toArray, List.getElem_cons_succ, List.getElem_cons_zero, List.setIfInBounds_toArray, List.set_cons_succ, List.set_cons_zero]
      refine wpAnyC_take 10 (.string U2) rfl (by kernel_rfl) (by kernel_rfl) (by kernel_rfl) (fun _ _ _ h => h) (wanted_free rfl _) (fun W hW => by rw [hU2.out]; go_simp) ?_
      simp only [Act.put, List.getElem_toArray, List.getElem_cons_succ, List.getElem_cons_zero, List.setIfInBounds_toArray, List.set_cons_succ, List.set_cons_zero]
      refine wpAnyC_one 13 ⟨⟨zV0, zV1, zV2⟩, hrV⟩ rfl (by kernel_rfl) (wanted_free rfl _) (fun KA hKA => ?_)
      go_simp
      refine (HC.out _).mono ?_
      rintro e w3 ⟨rfl, rfl⟩
      refine hKA _ _ ?_
      clear hKA KA
      try simp only [Act.put, List.getElem_toArray, List.getElem_cons_succ, List.getElem_cons_zero, List.setIfInBounds_toArray, List.set_cons_succ, List.set_cons_zero]
      refine wpAnyC_take 14 (.string U3) rfl (by kernel_rfl) (by kernel_rfl) (by kernel_rfl) (fun _ _ _ h => h) (wanted_free rfl _) (fun W hW => by rw [hU3.out]; go_simp) ?_
      simp only [Act.put, List.getElem_toArray, List.getElem_cons_succ, List.getElem_cons_zero, List.setIfInBounds_toArray, List.set_cons_succ, List.set_cons_zero]
      refine wpAnyC_take 15 (.string U3) rfl (by kernel_rfl) (by kernel_rfl) (by kernel_rfl) (fun _ _ _ h => h) (wanted_free rfl _) (fun W hW => by go_simp) ?_
      simp only [Act.put, List.getElem_toArray, List.getElem_cons_succ, List.getElem_cons_zero, List.setIfInBounds_toArray, List.set_cons_succ, List.set_cons_zero]
      refine wpAnyC_done ⟨⟨zV0, zV1, zV2⟩, hrV⟩ (by kernel_rfl) ?_
      clear zV0 zV1 zV2 zV3 zV4 hrV zA0 zA1 zA2 zA3 zA4
      go_wp2_with fail
      go_ret
      exact ⟨rfl, hBV.out⟩
    · go_simp
      refine (HB.out _).mono ?_
      rintro e w3 ⟨rfl, rfl⟩
      refine hKA _ _ ?_
      clear hKA KA
      try simp only [Act.put, List.getElem_toArray, List.getElem_cons_succ, List.getElem_cons_zero, List.setIfInBounds_toArray, List.set_cons_succ, List.set_cons_zero]
      refine wpAnyC_two 1 13 ⟨zA0, zA1, zA2⟩ rfl rfl (by kernel_rfl) (wanted_free rfl _) (wanted_free rfl _) (fun KA hKA => ?_) (fun KA hKA => ?_)
      · go_simp
        refine hKA _ _ ?_
        clear hKA KA
        first | rw [← hV1K.out] | (show wpAnyC _ _ _ _ _ _ _ _ (w1.drew.alloc _); rw [← hV1K.out])
        try simp only [Act.put, List.getElem_toArray, List.getElem_cons_succ, List.getElem_cons_zero, List.setIfInBounds_toArray, List.set_cons_succ, List.set_cons_zero]
        refine wpAnyC_mono (C' := fun W => ((W.cell? ⟨w.heap.size, 0, none⟩ = some (.string ve) ∧ W.cell? ⟨w.heap.size, 1, none⟩ = some (.string pr) ∧ W.cell? ⟨w.heap.size, 2, none⟩ = some (.string re)) ∧ RdAt W (.slice (some ⟨w1.heap.size, 0, none⟩) 8 8) [0, 0, 6, 2, 31, 1, 0, 2])) (fun W h => h.1) _ _ _ _ ?_
        refine wpAnyC_take 2 (.string H) rfl (by kernel_rfl) (by kernel_rfl) (by kernel_rfl) (fun _ _ _ h => h) (wanted_free rfl _) (fun W hW => by exact (by have := hcV.out W hW.2; go_simp)) ?_
        simp only [Act.put, List.getElem_toArray, List.getElem_cons_succ, List.getElem_cons_zero, List.setIfInBounds_toArray, List.set_cons_succ, List.set_cons_zero]
        refine wpAnyC_take 6 (.string U1) rfl (by kernel_rfl) (by kernel_rfl) (by kernel_rfl) (fun _ _ _ h => h) (wanted_free rfl _) (fun W hW => by rw [hU1.out]; go_simp) ?_
        simp only [Act.put, List.getElem_toArray, List.getElem_cons_succ, List.getElem_cons_zero, List.setIfInBounds_toArray, List.set_cons_succ, List.set_cons_zero]
        refine wpAnyC_take 10 (.string U2) rfl (by kernel_rfl) (by kernel_rfl) (by kernel_rfl) (fun _ _ _ h => h) (wanted_free rfl _) (fun W hW => by rw [hU2.out]; go_simp) ?_
        simp only [Act.put, List.getElem_toArray, List.getElem_cons_succ, List.getElem_cons_zero, List.setIfInBounds_toArray, List.set_cons_succ, List.set_cons_zero]
        refine wpAnyC_one 13 ⟨⟨zV0, zV1, zV2⟩, hrV⟩ rfl (by kernel_rfl) (wanted_free rfl _) (fun KA hKA => ?_)
        go_simp
        refine (HC.out _).mono ?_
        rintro e w3 ⟨rfl, rfl⟩
        refine hKA _ _ ?_
        clear hKA KA
        try simp only [Act.put, List.getElem_toArray, List.getElem_cons_succ, List.getElem_cons_zero, List.setIfInBounds_toArray, List.set_cons_succ, List.set_cons_zero]
        refine wpAnyC_take 14 (.string U3) rfl (by kernel_rfl) (by kernel_rfl) (by kernel_rfl) (fun _ _ _ h => h) (wanted_free rfl _) (fun W hW => by rw [hU3.out]; go_simp) ?_
        simp only [Act.put, List.getElem_toArray, List.getElem_cons_succ, List.getElem_cons_zero, List.setIfInBounds_toArray, List.set_cons_succ, List.set_cons_zero]
        refine wpAnyC_take 15 (.string U3) rfl (by kernel_rfl) (by kernel_rfl) (by kernel_rfl) (fun _ _ _ h => h) (wanted_free rfl _) (fun W hW => by go_simp) ?_
        simp only [Act.put, List.getElem_toArray, List.getElem_cons_succ, List.getElem_cons_zero, List.setIfInBounds_toArray, List.set_cons_succ, List.set_cons_zero]
        refine wpAnyC_done ⟨⟨zV0, zV1, zV2⟩, hrV⟩ (by kernel_rfl) ?_
        clear zV0 zV1 zV2 zV3 zV4 hrV zA0 zA1 zA2 zA3 zA4
        go_wp2_with fail
        go_ret
        exact ⟨rfl, hBV.out⟩
      · go_simp
        refine (HC.out _).mono ?_
        rintro e w3 ⟨rfl, rfl⟩
        refine hKA _ _ ?_
        clear hKA KA
        try simp only [Act.put, List.getElem_toArray, List.getElem_cons_succ, List.getElem_cons_zero, List.setIfInBounds_toArray, List.set_cons_succ, List.set_cons_zero]
        refine wpAnyC_one 1 ⟨zA0, zA1, zA2⟩ rfl (by kernel_rfl) (wanted_free rfl _) (fun KA hKA => ?_)
        go_simp
        refine hKA _ _ ?_
        clear hKA KA
        first | rw [← hV1K.out] | (show wpAnyC _ _ _ _ _ _ _ _ (w1.drew.alloc _); rw [← hV1K.out])
        try simp only [Act.put, List.getElem_toArray, List.getElem_cons_succ, List.getElem_cons_zero, List.setIfInBounds_toArray, List.set_cons_succ, List.set_cons_zero]
        refine wpAnyC_mono (C' := fun W => ((W.cell? ⟨w.heap.size, 0, none⟩ = some (.string ve) ∧ W.cell? ⟨w.heap.size, 1, none⟩ = some (.string pr) ∧ W.cell? ⟨w.heap.size, 2, none⟩ = some (.string re)) ∧ RdAt W (.slice (some ⟨w1.heap.size, 0, none⟩) 8 8) [0, 0, 6, 2, 31, 1, 0, 2])) (fun W h => h.1) _ _ _ _ ?_
        refine wpAnyC_take 2 (.string H) rfl (by kernel_rfl) (by kernel_rfl) (by kernel_rfl) (fun _ _ _ h => h) (wanted_free rfl _) (fun W hW => by exact (by have := hcV.out W hW.2; go_simp)) ?_
        simp only [Act.put, List.getElem_toArray, List.getElem_cons_succ, List.getElem_cons_zero, List.setIfInBounds_toArray, List.set_cons_succ, List.set_cons_zero]
        refine wpAnyC_take 6 (.string U1) rfl (by kernel_rfl) (by kernel_rfl) (by kernel_rfl) (fun _ _ _ h => h) (wanted_free rfl _) (fun W hW => by rw [hU1.out]; go_simp) ?_
        simp only [Act.put, List.getElem_toArray, List.getElem_cons_succ, List.getElem_cons_zero, List.setIfInBounds_toArray, List.set_cons_succ, List.set_cons_zero]
        refine wpAnyC_take 10 (.string U2) rfl (by kernel_rfl) (by kernel_rfl) (by kernel_rfl) (fun _ _ _ h => h) (wanted_free rfl _) (fun W hW => by rw [hU2.out]; go_simp) ?_
        simp only [Act.put, List.getElem_toArray, List.getElem_cons_succ, List.getElem_cons_zero, List.setIfInBounds_toArray, List.set_cons_succ, List.set_cons_zero]
        refine wpAnyC_take 14 (.string U3) rfl (by kernel_rfl) (by kernel_rfl) (by kernel_rfl) (fun _ _ _ h => h) (wanted_free rfl _) (fun W hW => by rw [hU3.out]; go_simp) ?_
        simp only [Act.put, List.getElem_toArray, List.getElem_cons_succ, List.getElem_cons_zero, List.setIfInBounds_toArray, List.set_cons_succ, List.set_cons_zero]
        refine wpAnyC_take 15 (.string U3) rfl (by kernel_rfl) (by kernel_rfl) (by kernel_rfl) (fun _ _ _ h => h) (wanted_free rfl _) (fun W hW => by go_simp) ?_
        simp only [Act.put, List.getElem_toArray, List.getElem_cons_succ, List.getElem_cons_zero, List.setIfInBounds_toArray, List.set_cons_succ, List.set_cons_zero]
        refine wpAnyC_done ⟨⟨zV0, zV1, zV2⟩, hrV⟩ (by kernel_rfl) ?_
        clear zV0 zV1 zV2 zV3 zV4 hrV zA0 zA1 zA2 zA3 zA4
        go_wp2_with fail
        go_ret
        exact ⟨rfl, hBV.out⟩

set_option maxRecDepth 100000 in
set_option maxHeartbeats 4000000 in
theorem rstd_zero (i : In) (w : World) (hi : i.wf) (hf : i.form = true) (hpt : ¬ 0 < i.pt) : Calls Try.prog 16 #[.agg i.rvals] w fun e w' => e = .returned (.string (strOfNums (stdL i))) ∧ Below w.heap.size w w' := by
  have HF := Kpt.mk (fun W => rform_any i W hi)
  rw [hf] at HF
  obtain ⟨h1, h2, h3, _⟩ := form_sizes hf
  have hsl : strOfNums (stdL i) = strOfNums [0, 0, 6, 2, 31, 0, 0, 2] ++ fillS i.ve 8 ++ fillS i.pr 16 ++ fillS i.re 4 := by
    unfold stdL stdT
    rw [if_neg hpt, str_append, str_nums]; simp only [app_assoc]
  rw [hsl]
  obtain ⟨ve, pr, re, se, pt⟩ := i
  simp only at h1 h2 h3 hpt ⊢
  have HA := Kpt.mk (fun W => as_any ve 8 W h1 (by decide))
  have HB := Kpt.mk (fun W => as_any pr 16 W h2 (by decide))
  have HC := Kpt.mk (fun W => as_any re 4 W h3 (by decide))
  have s1 := fill_size ve 8 h1
  have s2 := fill_size pr 16 h2
  have s3 := fill_size re 4 h3
  generalize fillS ve 8 = FA at *
  generalize fillS pr 16 = FB at *
  generalize fillS re 4 = FC at *
  obtain ⟨H, hH⟩ : ∃ H, H = strOfNums [0, 0, 6, 2, 31, 0, 0, 2] := ⟨_, rfl⟩
  have s0 : H.size = 8 := by rw [hH]; rfl
  rw [← hH]
  replace hH := Kpt.mk hH
  obtain ⟨U1, hU1⟩ : ∃ U, U = H ++ FA := ⟨_, rfl⟩
  have t1 : U1.size = H.size + FA.size := by rw [hU1, size_app]
  rw [← hU1]
  obtain ⟨U2, hU2⟩ : ∃ U, U = U1 ++ FB := ⟨_, rfl⟩
  have t2 : U2.size = U1.size + FB.size := by rw [hU2, size_app]
  rw [← hU2]
  obtain ⟨U3, hU3⟩ : ∃ U, U = U2 ++ FC := ⟨_, rfl⟩
  rw [← hU3]
  have l1 : ¬ 9223372036854775807 < H.size + FA.size := by omega
  have l2 : ¬ 9223372036854775807 < U1.size + FB.size := by omega
  have l3 : ¬ 9223372036854775807 < U2.size + FC.size := by omega
  replace hU1 := Kpt.mk hU1
  replace hU2 := Kpt.mk hU2
  replace hU3 := Kpt.mk hU3
  simp only [In.rvals] at HF ⊢
  clear s0 s1 s2 s3 t1 t2 hf hi hsl
  go_enter Try.func16, Try.ntmps16
  go_wp2_with fail
  refine (HF.out _).mono ?_
  rintro e w1 ⟨rfl, hb1⟩
  have hs0 : (w.alloc (.cells #[.string ve, .string pr, .string re, .string se, .int .i64 pt] 31)).heap.size = w.heap.size + 1 := by simp
  have hl1 : w.heap.size < w1.heap.size := by have := hb1.size; omega
  have zA0 : w1.cell? ⟨w.heap.size, 0, none⟩ = some (.string ve) := (hb1.cell (p := ⟨w.heap.size, 0, none⟩) (by show w.heap.size < _; omega)).trans (by simp)
  have zA1 : w1.cell? ⟨w.heap.size, 1, none⟩ = some (.string pr) := (hb1.cell (p := ⟨w.heap.size, 1, none⟩) (by show w.heap.size < _; omega)).trans (by simp)
  have zA2 : w1.cell? ⟨w.heap.size, 2, none⟩ = some (.string re) := (hb1.cell (p := ⟨w.heap.size, 2, none⟩) (by show w.heap.size < _; omega)).trans (by simp)
  have zA3 : w1.cell? ⟨w.heap.size, 3, none⟩ = some (.string se) := (hb1.cell (p := ⟨w.heap.size, 3, none⟩) (by show w.heap.size < _; omega)).trans (by simp)
  have zA4 : w1.cell? ⟨w.heap.size, 4, none⟩ = some (.int .i64 pt) := (hb1.cell (p := ⟨w.heap.size, 4, none⟩) (by show w.heap.size < _; omega)).trans (by simp)
  have hB1 : Kpt (Below w.heap.size w w1) := ⟨((Below.refl _ _).alloc (Nat.le_refl _) _).trans (hb1.mono (by omega))⟩
  clear hb1 hs0 HF
  go_wp2_with fail
  obtain ⟨V1, hV1⟩ : ∃ V, V = w1.drew.alloc (.cells #[.int .u8 0, .int .u8 0, .int .u8 6, .int .u8 2, .int .u8 31, .int .u8 0, .int .u8 0, .int .u8 2] 5) := ⟨_, rfl⟩
  have hbV : Below w1.heap.size w1 V1 := by rw [hV1]; exact (below_drew w1).alloc (Nat.le_refl _) _
  have hoV : V1.ownsRow w.heap.size 5 1 (.slice (some ⟨w1.heap.size, 0, none⟩) 8 8) 8 (cels [0, 0, 6, 2, 31, 0, 0, 2]) := by rw [hV1]; exact own_alloc w1.drew w1.heap.size 8 w.heap.size [0, 0, 6, 2, 31, 0, 0, 2] rfl rfl (by decide) (Nat.le_of_lt hl1)
  have zV0 : V1.cell? ⟨w.heap.size, 0, none⟩ = some (.string ve) := (hbV.cell (p := ⟨w.heap.size, 0, none⟩) (by show w.heap.size < _; omega)).trans zA0
  have zV1 : V1.cell? ⟨w.heap.size, 1, none⟩ = some (.string pr) := (hbV.cell (p := ⟨w.heap.size, 1, none⟩) (by show w.heap.size < _; omega)).trans zA1
  have zV2 : V1.cell? ⟨w.heap.size, 2, none⟩ = some (.string re) := (hbV.cell (p := ⟨w.heap.size, 2, none⟩) (by show w.heap.size < _; omega)).trans zA2
  have zV3 : V1.cell? ⟨w.heap.size, 3, none⟩ = some (.string se) := (hbV.cell (p := ⟨w.heap.size, 3, none⟩) (by show w.heap.size < _; omega)).trans zA3
  have zV4 : V1.cell? ⟨w.heap.size, 4, none⟩ = some (.int .i64 pt) := (hbV.cell (p := ⟨w.heap.size, 4, none⟩) (by show w.heap.size < _; omega)).trans zA4
  have hBV : Kpt (Below w.heap.size w V1) := ⟨hB1.out.trans (hbV.mono hB1.out.size)⟩
  have hcV : ∀ W, RdAt W (.slice (some ⟨w1.heap.size, 0, none⟩) 8 8) [0, 0, 6, 2, 31, 0, 0, 2] → (convert 25 9 (.slice (some ⟨w1.heap.size, 0, none⟩) 8 8)).run Try.prog W = .ok (.string H) W := fun W h => by rw [hH.out]; exact conv_rd h
  have hrV := own_rd hoV
  replace hcV := Kpt.mk hcV
  have hV1K := Kpt.mk hV1
  clear hV1 hbV hoV
  refine wp_region_any (by kernel_rfl) ?_
  refine wpAny_of_C (C := fun W => (W.cell? ⟨w.heap.size, 0, none⟩ = some (.string ve) ∧ W.cell? ⟨w.heap.size, 1, none⟩ = some (.string pr) ∧ W.cell? ⟨w.heap.size, 2, none⟩ = some (.string re))) _ _ _ _ ?_
  refine wpAnyC_take 0 (.int .u8 0) rfl (by kernel_rfl) (by kernel_rfl) (by kernel_rfl) (fun _ _ _ h => h) (wanted_free rfl _) (fun W hW => by go_simp) ?_
  simp only [Act.put, List.getElem_toArray, List.getElem_cons_succ, List.getElem_cons_zero, List.setIfInBounds_toArray, List.set_cons_succ, List.set_cons_zero]
  refine wpAnyC_take 3 (.pointer (some ⟨w.heap.size, 0, none⟩)) rfl (by kernel_rfl) (by kernel_rfl) (by kernel_rfl) (fun _ _ _ h => h) (wanted_free rfl _) (fun W hW => by go_simp) ?_
  simp only [Act.put, List.getElem_toArray, List.getElem_cons_succ, List.getElem_cons_zero, List.setIfInBounds_toArray, List.set_cons_succ, List.set_cons_zero]
  refine wpAnyC_take 4 (.string ve) rfl (by kernel_rfl) (by kernel_rfl) (by kernel_rfl) (fun _ _ _ h => h) (wanted_free rfl _) (fun W hW => by obtain ⟨y0, y1, y2⟩ := hW; go_simp) ?_
  simp only [Act.put, List.getElem_toArray, List.getElem_cons_succ, List.getElem_cons_zero, List.setIfInBounds_toArray, List.set_cons_succ, List.set_cons_zero]
  refine wpAnyC_take 7 (.pointer (some ⟨w.heap.size, 1, none⟩)) rfl (by kernel_rfl) (by kernel_rfl) (by kernel_rfl) (fun _ _ _ h => h) (wanted_free rfl _) (fun W hW => by go_simp) ?_
  simp only [Act.put, List.getElem_toArray, List.getElem_cons_succ, List.getElem_cons_zero, List.setIfInBounds_toArray, List.set_cons_succ, List.set_cons_zero]
  refine wpAnyC_take 8 (.string pr) rfl (by kernel_rfl) (by kernel_rfl) (by kernel_rfl) (fun _ _ _ h => h) (wanted_free rfl _) (fun W hW => by obtain ⟨y0, y1, y2⟩ := hW; go_simp) ?_
  simp only [Act.put, List.getElem_toArray, List.getElem_cons_succ, List.getElem_cons_zero, List.setIfInBounds_toArray, List.set_cons_succ, List.set_cons_zero]
  refine wpAnyC_take 11 (.pointer (some ⟨w.heap.size, 2, none⟩)) rfl (by kernel_rfl) (by kernel_rfl) (by kernel_rfl) (fun _ _ _ h => h) (wanted_free rfl _) (fun W hW => by go_simp) ?_
  simp only [Act.put, List.getElem_toArray, List.getElem_cons_succ, List.getElem_cons_zero, List.setIfInBounds_toArray, List.set_cons_succ, List.set_cons_zero]
  refine wpAnyC_take 12 (.string re) rfl (by kernel_rfl) (by kernel_rfl) (by kernel_rfl) (fun _ _ _ h => h) (wanted_free rfl _) (fun W hW => by obtain ⟨y0, y1, y2⟩ := hW; go_simp) ?_
  simp only [Act.put, List.getElem_toArray, List.getElem_cons_succ, List.getElem_cons_zero, List.setIfInBounds_toArray, List.set_cons_succ, List.set_cons_zero]
  refine wpAnyC_two 1 5 ⟨zA0, zA1, zA2⟩ rfl rfl (by kernel_rfl) (wanted_free rfl _) (wanted_free rfl _) (fun KA hKA => ?_) (fun KA hKA => ?_)
  · go_simp
    refine hKA _ _ ?_
    clear hKA KA
    first | rw [← hV1K.out] | (show wpAnyC _ _ _ _ _ _ _ _ (w1.drew.alloc _); rw [← hV1K.out])
    try simp only [Act.put, List.getElem_toArray, List.getElem_cons_succ, List.getElem_cons_zero, List.setIfInBounds_toArray, List.set_cons_succ, List.set_cons_zero]
    refine wpAnyC_mono (C' := fun W => ((W.cell? ⟨w.heap.size, 0, none⟩ = some (.string ve) ∧ W.cell? ⟨w.heap.size, 1, none⟩ = some (.string pr) ∧ W.cell? ⟨w.heap.size, 2, none⟩ = some (.string re)) ∧ RdAt W (.slice (some ⟨w1.heap.size, 0, none⟩) 8 8) [0, 0, 6, 2, 31, 0, 0, 2])) (fun W h => h.1) _ _ _ _ ?_
    refine wpAnyC_take 2 (.string H) rfl (by kernel_rfl) (by kernel_rfl) (by kernel_rfl) (fun _ _ _ h => h) (wanted_free rfl _) (fun W hW => by exact (by have := hcV.out W hW.2; go_simp)) ?_
    simp only [Act.put, List.getElem_toArray, List.getElem_cons_succ, List.getElem_cons_zero, List.setIfInBounds_toArray, List.set_cons_succ, List.set_cons_zero]
    refine wpAnyC_one 5 ⟨⟨zV0, zV1, zV2⟩, hrV⟩ rfl (by kernel_rfl) (wanted_free rfl _) (fun KA hKA => ?_)
    go_simp
    refine (HA.out _).mono ?_
    rintro e w3 ⟨rfl, rfl⟩
    refine hKA _ _ ?_
    clear hKA KA
    try simp only [Act.put, List.getElem_toArray, List.getElem_cons_succ, List.getElem_cons_zero, List.setIfInBounds_toArray, List.set_cons_succ, List.set_cons_zero]
    refine wpAnyC_take 6 (.string U1) rfl (by kernel_rfl) (by kernel_rfl) (by kernel_rfl) (fun _ _ _ h => h) (wanted_free rfl _) (fun W hW => by rw [hU1.out]; go_simp) ?_
    simp only [Act.put, List.getElem_toArray, List.getElem_cons_succ, List.getElem_cons_zero, List.setIfInBounds_toArray, List.set_cons_succ, List.set_cons_zero]
    refine wpAnyC_one 9 ⟨⟨zV0, zV1, zV2⟩, hrV⟩ rfl (by kernel_rfl) (wanted_free rfl _) (fun KA hKA => ?_)
    go_simp
    refine (HB.out _).mono ?_
    rintro e w3 ⟨rfl, rfl⟩
    refine hKA _ _ ?_
    clear hKA KA
    try simp only [Act.put, List.getElem_toArray, List.getElem_cons_succ, List.getElem_cons_zero, List.setIfInBounds_toArray, List.set_cons_succ, List.set_cons_zero]
    refine wpAnyC_take 10 (.string U2) rfl (by kernel_rfl) (by kernel_rfl) (by kernel_rfl) (fun _ _ _ h => h) (wanted_free rfl _) (fun W hW => by rw [hU2.out]; go_simp) ?_
    simp only [Act.put, List.getElem_toArray, List.getElem_cons_succ, List.getElem_cons_zero, List.setIfInBounds_toArray, List.set_cons_succ, List.set_cons_zero]
    refine wpAnyC_one 13 ⟨⟨zV0, zV1, zV2⟩, hrV⟩ rfl (by kernel_rfl) (wanted_free rfl _) (fun KA hKA => ?_)
    go_simp
    refine (HC.out _).mono ?_
    rintro e w3 ⟨rfl, rfl⟩
    refine hKA _ _ ?_
    clear hKA KA
    try simp only [Act.put, List.getElem_toArray, List.getElem_cons_succ, List.getElem_cons_zero, List.setIfInBounds_toArray, List.set_cons_succ, List.set_cons_zero]
    refine wpAnyC_take 14 (.string U3) rfl (by kernel_rfl) (by kernel_rfl) (by kernel_rfl) (fun _ _ _ h => h) (wanted_free rfl _) (fun W hW => by rw [hU3.out]; go_simp) ?_
    simp only [Act.put, List.getElem_toArray, List.getElem_cons_succ, List.getElem_cons_zero, List.setIfInBounds_toArray, List.set_cons_succ, List.set_cons_zero]
    refine wpAnyC_take 15 (.string U3) rfl (by kernel_rfl) (by kernel_rfl) (by kernel_rfl) (fun _ _ _ h => h) (wanted_free rfl _) (fun W hW => by go_simp) ?_
    simp only [Act.put, List.getElem_toArray, List.getElem_cons_succ, List.getElem_cons_zero, List.setIfInBounds_toArray, List.set_cons_succ, List.set_cons_zero]
    refine wpAnyC_done ⟨⟨zV0, zV1, zV2⟩, hrV⟩ (by kernel_rfl) ?_
    clear zV0 zV1 zV2 zV3 zV4 hrV zA0 zA1 zA2 zA3 zA4
    go_wp2_with fail
    go_ret
    exact ⟨rfl, hBV.out⟩
  · go_simp
    refine (HA.out _).mono ?_
    rintro e w3 ⟨rfl, rfl⟩
    refine hKA _ _ ?_
    clear hKA KA
    try simp only [Act.put, List.getElem_toArray, List.getElem_cons_succ, List.getElem_cons_zero, List.setIfInBounds_toArray, List.set_cons_succ, List.set_cons_zero]
    refine wpAnyC_two 1 9 ⟨zA0, zA1, zA2⟩ rfl rfl (by kernel_rfl) (wanted_free rfl _) (wanted_free rfl _) (fun KA hKA => ?_) (fun KA hKA => ?_)
    · go_simp
      refine hKA _ _ ?_
      clear hKA KA
      first | rw [← hV1K.out] | (show wpAnyC _ _ _ _ _ _ _ _ (w1.drew.alloc _); rw [← hV1K.out])
      try simp only [Act.put, List.getElem_toArray, List.getElem_cons_succ, List.getElem_cons_zero, List.setIfInBounds_toArray, List.set_cons_succ, List.set_cons_zero]
      refine wpAnyC_mono (C' := fun W => ((W.cell? ⟨w.heap.size, 0, none⟩ = some (.string ve) ∧ W.cell? ⟨w.heap.size, 1, none⟩ = some (.string pr) ∧ W.cell? ⟨w.heap.size, 2, none⟩ = some (.string re)) ∧ RdAt W (.slice (some ⟨w1.heap.size, 0, none⟩) 8 8) [0, 0, 6, 2, 31, 0, 0, 2])) (fun W h => h.1) _ _ _ _ ?_
      refine wpAnyC_take 2 (.string H) rfl (by kernel_rfl) (by kernel_rfl) (by kernel_rfl) (fun _ _ _ h => h) (wanted_free rfl _) (fun W hW => by exact (by have := hcV.out W hW.2; go_simp)) ?_
      simp only [Act.put, List.getElem_toArray, List.getElem_cons_succ, List.getElem_cons_zero, List.setIfInBounds_toArray, List.set_cons_succ, List.set_cons_zero]
      refine wpAnyC_take 6 (.string U1) rfl (by kernel_rfl) (by kernel_rfl) (by kernel_rfl) (fun _ _ _ h => h) (wanted_free rfl _) (fun W hW => by rw [hU1.out]; go_simp) ?_
      simp only [Act.put, List.getElem_toArray, List.getElem_cons_succ, List.getElem_cons_zero, List.setIfInBounds_toArray, List.set_cons_succ, List.set_cons_zero]
      refine wpAnyC_one 9 ⟨⟨zV0, zV1, zV2⟩, hrV⟩ rfl (by kernel_rfl) (wanted_free rfl _) (fun KA hKA => ?_)
      go_simp
      refine (HB.out _).mono ?_
      rintro e w3 ⟨rfl, rfl⟩
      refine hKA _ _ ?_
      clear hKA KA
      try simp only [Act.put, List.getElem_toArray, List.getElem_cons_succ, List.getElem_cons_zero, List.setIfInBounds_toArray, List.set_cons_succ, List.set_cons_zero]
      refine wpAnyC_take 10 (.string U2) rfl (by kernel_rfl) (by kernel_rfl) (by kernel_rfl) (fun _ _ _ h => h) (wanted_free rfl _) (fun W hW => by rw [hU2.out]; go_simp) ?_
      simp only [Act.put, List.getElem_toArray, List.getElem_cons_succ, List.getElem_cons_zero, List.setIfInBounds_toArray, List.set_cons_succ, List.set_cons_zero]
      refine wpAnyC_one 13 ⟨⟨zV0, zV1, zV2⟩, hrV⟩ rfl (by kernel_rfl) (wanted_free rfl _) (fun KA hKA => ?_)
      go_simp
      refine (HC.out _).mono ?_
      rintro e w3 ⟨rfl, rfl⟩
      refine hKA _ _ ?_
      clear hKA KA
      try simp only [Act.put, List.getElem_toArray, List.getElem_cons_succ, List.getElem_cons_zero, List.setIfInBounds_toArray, List.set_cons_succ, List.set_cons_zero]
      refine wpAnyC_take 14 (.string U3) rfl (by kernel_rfl) (by kernel_rfl) (by kernel_rfl) (fun _ _ _ h => h) (wanted_free rfl _) (fun W hW => by rw [hU3.out]; go_simp) ?_
      simp only [Act.put, List.getElem_toArray, List.getElem_cons_succ, List.getElem_cons_zero, List.setIfInBounds_toArray, List.set_cons_succ, List.set_cons_zero]
      refine wpAnyC_take 15 (.string U3) rfl (by kernel_rfl) (by kernel_rfl) (by kernel_rfl) (fun _ _ _ h => h) (wanted_free rfl _) (fun W hW => by go_simp) ?_
      simp only [Act.put, List.getElem_toArray, List.getElem_cons_succ, List.getElem_cons_zero, List.setIfInBounds_toArray, List.set_cons_succ, List.set_cons_zero]
      refine wpAnyC_done ⟨⟨zV0, zV1, zV2⟩, hrV⟩ (by kernel_rfl) ?_
      clear zV0 zV1 zV2 zV3 zV4 hrV zA0 zA1 zA2 zA3 zA4
      go_wp2_with fail
      go_ret
      exact ⟨rfl, hBV.out⟩
    · go_simp
      refine (HB.out _).mono ?_
      rintro e w3 ⟨rfl, rfl⟩
      refine hKA _ _ ?_
      clear hKA KA
      try simp only [Act.put, List.getElem_toArray, List.getElem_cons_succ, List.getElem_cons_zero, List.setIfInBounds_toArray, List.set_cons_succ, List.set_cons_zero]
      refine wpAnyC_two 1 13 ⟨zA0, zA1, zA2⟩ rfl rfl (by kernel_rfl) (wanted_free rfl _) (wanted_free rfl _) (fun KA hKA => ?_) (fun KA hKA => ?_)
      · go_simp
        refine hKA _ _ ?_
        clear hKA KA
        first | rw [← hV1K.out] | (show wpAnyC _ _ _ _ _ _ _ _ (w1.drew.alloc _); rw [← hV1K.out])
        try simp only [Act.put, List.getElem_toArray, List.getElem_cons_succ, List.getElem_cons_zero, List.setIfInBounds_toArray, List.set_cons_succ, List.set_cons_zero]
        refine wpAnyC_mono (C' := fun W => ((W.cell? ⟨w.heap.size, 0, none⟩ = some (.string ve) ∧ W.cell? ⟨w.heap.size, 1, none⟩ = some (.string pr) ∧ W.cell? ⟨w.heap.size, 2, none⟩ = some (.string re)) ∧ RdAt W (.slice (some ⟨w1.heap.size, 0, none⟩) 8 8) [0, 0, 6, 2, 31, 0, 0, 2])) (fun W h => h.1) _ _ _ _ ?_
        refine wpAnyC_take 2 (.string H) rfl (by kernel_rfl) (by kernel_rfl) (by kernel_rfl) (fun _ _ _ h => h) (wanted_free rfl _) (fun W hW => by exact (by have := hcV.out W hW.2; go_simp)) ?_
        simp only [Act.put, List.getElem_toArray, List.getElem_cons_succ, List.getElem_cons_zero, List.setIfInBounds_toArray, List.set_cons_succ, List.set_cons_zero]
        refine wpAnyC_take 6 (.string U1) rfl (by kernel_rfl) (by kernel_rfl) (by kernel_rfl) (fun _ _ _ h => h) (wanted_free rfl _) (fun W hW => by rw [hU1.out]; go_simp) ?_
        simp only [Act.put, List.getElem_toArray, List.getElem_cons_succ, List.getElem_cons_zero, List.setIfInBounds_toArray, List.set_cons_succ, List.set_cons_zero]
        refine wpAnyC_take 10 (.string U2) rfl (by kernel_rfl) (by kernel_rfl) (by kernel_rfl) (fun _ _ _ h => h) (wanted_free rfl _) (fun W hW => by rw [hU2.out]; go_simp) ?_
        simp only [Act.put, List.getElem_toArray, List.getElem_cons_succ, List.getElem_cons_zero, List.setIfInBounds_toArray, List.set_cons_succ, List.set_cons_zero]
        refine wpAnyC_one 13 ⟨⟨zV0, zV1, zV2⟩, hrV⟩ rfl (by kernel_rfl) (wanted_free rfl _) (fun KA hKA => ?_)
        go_simp
        refine (HC.out _).mono ?_
        rintro e w3 ⟨rfl, rfl⟩
        refine hKA _ _ ?_
        clear hKA KA
        try simp only [Act.put, List.getElem_toArray, List.getElem_cons_succ, List.getElem_cons_zero, List.setIfInBounds_toArray, List.set_cons_succ, List.set_cons_zero]
        refine wpAnyC_take 14 (.string U3) rfl (by kernel_rfl) (by kernel_rfl) (by kernel_rfl) (fun _ _ _ h => h) (wanted_free rfl _) (fun W hW => by rw [hU3.out]; go_simp) ?_
        simp only [Act.put, List.getElem_toArray, List.getElem_cons_succ, List.getElem_cons_zero, List.setIfInBounds_toArray, List.set_cons_succ, List.set_cons_zero]
        refine wpAnyC_take 15 (.string U3) rfl (by kernel_rfl) (by kernel_rfl) (by kernel_rfl) (fun _ _ _ h => h) (wanted_free rfl _) (fun W hW => by go_simp) ?_
        simp only [Act.put, List.getElem_toArray, List.getElem_cons_succ, List.getElem_cons_zero, List.setIfInBounds_toArray, List.set_cons_succ, List.set_cons_zero]
        refine wpAnyC_done ⟨⟨zV0, zV1, zV2⟩, hrV⟩ (by kernel_rfl) ?_
        clear zV0 zV1 zV2 zV3 zV4 hrV zA0 zA1 zA2 zA3 zA4
        go_wp2_with fail
        go_ret
        exact ⟨rfl, hBV.out⟩
      · go_simp
        refine (HC.out _).mono ?_
        rintro e w3 ⟨rfl, rfl⟩
        refine hKA _ _ ?_
        clear hKA KA
        try simp only [Act.put, List.getElem_toArray, List.getElem_cons_succ, List.getElem_cons_zero, List.setIfInBounds_toArray, List.set_cons_succ, List.set_cons_zero]
        refine wpAnyC_one 1 ⟨zA0, zA1, zA2⟩ rfl (by kernel_rfl) (wanted_free rfl _) (fun KA hKA => ?_)
        go_simp
        refine hKA _ _ ?_
        clear hKA KA
        first | rw [← hV1K.out] | (show wpAnyC _ _ _ _ _ _ _ _ (w1.drew.alloc _); rw [← hV1K.out])
        try simp only [Act.put, List.getElem_toArray, List.getElem_cons_succ, List.getElem_cons_zero, List.setIfInBounds_toArray, List.set_cons_succ, List.set_cons_zero]
        refine wpAnyC_mono (C' := fun W => ((W.cell? ⟨w.heap.size, 0, none⟩ = some (.string ve) ∧ W.cell? ⟨w.heap.size, 1, none⟩ = some (.string pr) ∧ W.cell? ⟨w.heap.size, 2, none⟩ = some (.string re)) ∧ RdAt W (.slice (some ⟨w1.heap.size, 0, none⟩) 8 8) [0, 0, 6, 2, 31, 0, 0, 2])) (fun W h => h.1) _ _ _ _ ?_
        refine wpAnyC_take 2 (.string H) rfl (by kernel_rfl) (by kernel_rfl) (by kernel_rfl) (fun _ _ _ h => h) (wanted_free rfl _) (fun W hW => by exact (by have := hcV.out W hW.2; go_simp)) ?_
        simp only [Act.put, List.getElem_toArray, List.getElem_cons_succ, List.getElem_cons_zero, List.setIfInBounds_toArray, List.set_cons_succ, List.set_cons_zero]
        refine wpAnyC_take 6 (.string U1) rfl (by kernel_rfl) (by kernel_rfl) (by kernel_rfl) (fun _ _ _ h => h) (wanted_free rfl _) (fun W hW => by rw [hU1.out]; go_simp) ?_
        simp only [Act.put, List.getElem_toArray, List.getElem_cons_succ, List.getElem_cons_zero, List.setIfInBounds_toArray, List.set_cons_succ, List.set_cons_zero]
        refine wpAnyC_take 10 (.string U2) rfl (by kernel_rfl) (by kernel_rfl) (by kernel_rfl) (fun _ _ _ h => h) (wanted_free rfl _) (fun W hW => by rw [hU2.out]; go_simp) ?_
        simp only [Act.put, List.getElem_toArray, List.getElem_cons_succ, List.getElem_cons_zero, List.setIfInBounds_toArray, List.set_cons_succ, List.set_cons_zero]
        refine wpAnyC_take 14 (.string U3) rfl (by kernel_rfl) (by kernel_rfl) (by kernel_rfl) (fun _ _ _ h => h) (wanted_free rfl _) (fun W hW => by rw [hU3.out]; go_simp) ?_
        simp only [Act.put, List.getElem_toArray, List.getElem_cons_succ, List.getElem_cons_zero, List.setIfInBounds_toArray, List.set_cons_succ, List.set_cons_zero]
        refine wpAnyC_take 15 (.string U3) rfl (by kernel_rfl) (by kernel_rfl) (by kernel_rfl) (fun _ _ _ h => h) (wanted_free rfl _) (fun W hW => by go_simp) ?_
        simp only [Act.put, List.getElem_toArray, List.getElem_cons_succ, List.getElem_cons_zero, List.setIfInBounds_toArray, List.set_cons_succ, List.set_cons_zero]
        refine wpAnyC_done ⟨⟨zV0, zV1, zV2⟩, hrV⟩ (by kernel_rfl) ?_
        clear zV0 zV1 zV2 zV3 zV4 hrV zA0 zA1 zA2 zA3 zA4
        go_wp2_with fail
        go_ret
        exact ⟨rfl, hBV.out⟩

theorem rstd_some (i : In) (w : World) (hi : i.wf) (hf : i.form = true) : Calls Try.prog 16 #[.agg i.rvals] w fun e w' => e = .returned (.string (strOfNums (stdL i))) ∧ Below w.heap.size w w' := by
  by_cases h : 0 < i.pt
  · exact rstd_pos i w hi hf h
  · exact rstd_zero i w hi hf h
end Go.Proofs.Yteoaadpilaljnaa
