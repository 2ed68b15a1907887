/-
  The document's Page: the pages 83 and b0.
-/
import Derived.Test.YteoaadpilaljnaaIRPage
namespace Go.Proofs.Yteoaadpilaljnaa
open Go.RowKit
set_option linter.unusedVariables false
set_option linter.unusedSimpArgs false

set_option maxRecDepth 100000 in
set_option maxHeartbeats 2000000 in
theorem rpage_131 (i : In) (w : World) (hi : i.wf) (hf : i.form = true) : Calls Try.prog 11 #[.agg i.rvals, .int .u8 131] w fun e w' => e = .returned (.tuple #[.string (strOfNums (pageL i 131)), .bool true]) ∧ Below w.heap.size w w' := by
  have HF := Kpt.mk (fun W => rform_any i W hi)
  rw [hf] at HF
  obtain ⟨h1, _, _, _, h5, _⟩ := form_sizes hf
  have s1 := fill_size i.ve 8 h1
  have hps : strOfNums (pageL i 131) = strOfNums [0, 131, 0, 12 + (i.se.size : Int)] ++ (strOfNums [2, 1, 0, 8 + (i.se.size : Int)] ++ fillS i.ve 8 ++ i.se) := by
    have hsz : (fillS i.ve 8 ++ i.se).size = 8 + i.se.size := by rw [size_app, s1]
    rw [page_str, show vitL i 131 = ([2, 1, 0, (((fillS i.ve 8 ++ i.se).size : Nat) : Int)] : List Int) ++ nums (fillS i.ve 8 ++ i.se) from rfl, List.length_append, nums_len, hsz, str_append, str_nums]
    rw [show ((([2, 1, 0, ((8 + i.se.size : Nat) : Int)] : List Int).length + (8 + i.se.size) : Nat) : Int) = 12 + (i.se.size : Int) from by simp; omega]
    rw [show (((8 + i.se.size : Nat)) : Int) = 8 + (i.se.size : Int) from by omega]
    simp only [app_assoc]
  rw [hps]
  obtain ⟨ve, pr, re, se, pt⟩ := i
  simp only [In.rvals] at HF h5 s1 h1 ⊢
  have HA := Kpt.mk (fun W => as_any ve 8 W h1 (by decide))
  generalize fillS ve 8 = FA at *
  obtain ⟨m, hm⟩ : ∃ m, m = se.size := ⟨_, rfl⟩
  rw [← hm]
  rw [← hm] at h5
  have v1 : IntKind.u8.wrap (8 + (m : Int)) = 8 + m := by rw [IntKind.wrap_u8]; omega
  have v2 : IntKind.u8.wrap (12 + (m : Int)) = 12 + m := by rw [IntKind.wrap_u8]; omega
  have v3 : IntKind.i64.wrap (8 + (m : Int)) = 8 + m := by rw [IntKind.wrap_i64]; omega
  obtain ⟨HD, hHD⟩ : ∃ S, S = strOfNums [0, 131, 0, 12 + (m : Int)] := ⟨_, rfl⟩
  obtain ⟨H, hH⟩ : ∃ S, S = strOfNums [2, 1, 0, 8 + (m : Int)] := ⟨_, rfl⟩
  have z2 : HD.size = 4 := by rw [hHD]; rfl
  have z3 : H.size = 4 := by rw [hH]; rfl
  rw [← hHD, ← hH]
  obtain ⟨U1, hU1⟩ : ∃ U, U = H ++ FA := ⟨_, rfl⟩
  have t1 : U1.size = 12 := by rw [hU1, size_app]; omega
  rw [← hU1]
  obtain ⟨U2, hU2⟩ : ∃ U, U = U1 ++ se := ⟨_, rfl⟩
  have t2 : U2.size = 12 + m := by rw [hU2, size_app]; omega
  rw [← hU2]
  have hms : se.size = m := hm.symm
  have l1 : ¬ 9223372036854775807 < H.size + FA.size := by omega
  have l2 : ¬ 9223372036854775807 < U1.size + m := by omega
  have l2' : ¬ 9223372036854775807 < U1.size + se.size := by omega
  have l3 : ¬ 9223372036854775807 < HD.size + U2.size := by omega
  have l3' : ¬ 9223372036854775807 < HD.size + (12 + m) := by omega
  replace hHD := Kpt.mk hHD
  replace hH := Kpt.mk hH
  replace hU1 := Kpt.mk hU1
  replace hU2 := Kpt.mk hU2
  clear hps hm z2 z3 t1 s1 h1 hf hi
  go_enter Try.func11, Try.ntmps11
  go_wp2_with fail
  refine (HF.out _).mono ?_
  rintro e w1 ⟨rfl, hb1⟩
  have hs0 : (w.alloc (.cells #[.string ve, .string pr, .string re, .string se, .int .i64 pt] 31)).heap.size = w.heap.size + 1 := by simp
  have hl1 : w.heap.size < w1.heap.size := by have := hb1.size; omega
  have zA0 : w1.cell? ⟨w.heap.size, 0, none⟩ = some (.string ve) := (hb1.cell (p := ⟨w.heap.size, 0, none⟩) (by show w.heap.size < _; omega)).trans (by simp)
  have zA1 : w1.cell? ⟨w.heap.size, 1, none⟩ = some (.string pr) := (hb1.cell (p := ⟨w.heap.size, 1, none⟩) (by show w.heap.size < _; omega)).trans (by simp)
  have zA2 : w1.cell? ⟨w.heap.size, 2, none⟩ = some (.string re) := (hb1.cell (p := ⟨w.heap.size, 2, none⟩) (by show w.heap.size < _; omega)).trans (by simp)
  have zA3 : w1.cell? ⟨w.heap.size, 3, none⟩ = some (.string se) := (hb1.cell (p := ⟨w.heap.size, 3, none⟩) (by show w.heap.size < _; omega)).trans (by simp)
  have zA4 : w1.cell? ⟨w.heap.size, 4, none⟩ = some (.int .i64 pt) := (hb1.cell (p := ⟨w.heap.size, 4, none⟩) (by show w.heap.size < _; omega)).trans (by simp)
  have hB1 : Kpt (Below w.heap.size w w1) := ⟨((Below.refl _ _).alloc (Nat.le_refl _) _).trans (hb1.mono (by omega))⟩
  clear hb1 hs0 HF
  go_wp2_with fail
  obtain ⟨V1, hV1⟩ : ∃ V, V = w1.drew.alloc (.cells #[.int .u8 2, .int .u8 1, .int .u8 0, .int .u8 (8 + (m : Int))] 5) := ⟨_, rfl⟩
  have hbV : Below w1.heap.size w1 V1 := by rw [hV1]; exact (below_drew w1).alloc (Nat.le_refl _) _
  have hoV : V1.ownsRow w.heap.size 5 1 (.slice (some ⟨w1.heap.size, 0, none⟩) 4 4) 4 (cels [2, 1, 0, 8 + (m : Int)]) := by rw [hV1]; exact own_alloc w1.drew w1.heap.size 4 w.heap.size [2, 1, 0, 8 + (m : Int)] rfl rfl (by decide) (Nat.le_of_lt hl1)
  have hsV : V1.heap.size = w1.heap.size + 1 := by rw [hV1]; simp
  have zV0 : V1.cell? ⟨w.heap.size, 0, none⟩ = some (.string ve) := (hbV.cell (p := ⟨w.heap.size, 0, none⟩) (by show w.heap.size < _; omega)).trans zA0
  have zV1 : V1.cell? ⟨w.heap.size, 1, none⟩ = some (.string pr) := (hbV.cell (p := ⟨w.heap.size, 1, none⟩) (by show w.heap.size < _; omega)).trans zA1
  have zV2 : V1.cell? ⟨w.heap.size, 2, none⟩ = some (.string re) := (hbV.cell (p := ⟨w.heap.size, 2, none⟩) (by show w.heap.size < _; omega)).trans zA2
  have zV3 : V1.cell? ⟨w.heap.size, 3, none⟩ = some (.string se) := (hbV.cell (p := ⟨w.heap.size, 3, none⟩) (by show w.heap.size < _; omega)).trans zA3
  have zV4 : V1.cell? ⟨w.heap.size, 4, none⟩ = some (.int .i64 pt) := (hbV.cell (p := ⟨w.heap.size, 4, none⟩) (by show w.heap.size < _; omega)).trans zA4
  have hBV : Kpt (Below w.heap.size w V1) := ⟨hB1.out.trans (hbV.mono hB1.out.size)⟩
  have hcV : ∀ W, RdAt W (.slice (some ⟨w1.heap.size, 0, none⟩) 4 4) [2, 1, 0, 8 + (m : Int)] → (convert 25 9 (.slice (some ⟨w1.heap.size, 0, none⟩) 4 4)).run Try.prog W = .ok (.string H) W := fun W h => by rw [hH.out]; exact conv_rd h
  have hrV := own_rd hoV
  replace hcV := Kpt.mk hcV
  have hV1K := Kpt.mk hV1
  have hc2 : Kpt ((convert 25 9 (.slice (some ⟨w1.heap.size + 1, 0, none⟩) 4 4)).run Try.prog (V1.alloc (.cells #[.int .u8 0, .int .u8 131, .int .u8 0, .int .u8 (12 + (m : Int))] 5)) = .ok (.string HD) (V1.alloc (.cells #[.int .u8 0, .int .u8 131, .int .u8 0, .int .u8 (12 + (m : Int))] 5))) := ⟨by rw [← hsV]; exact conv_new V1 [0, 131, 0, 12 + (m : Int)] 4 HD rfl (by decide) hHD.out⟩
  have hBW : Kpt (Below w.heap.size w (V1.alloc (.cells #[.int .u8 0, .int .u8 131, .int .u8 0, .int .u8 (12 + (m : Int))] 5))) := ⟨hBV.out.alloc hBV.out.size _⟩
  clear hV1 hbV hoV
  refine wp_region_any (by kernel_rfl) ?_
  refine wpAny_of_C (C := fun W => (W.cell? ⟨w.heap.size, 0, none⟩ = some (.string ve) ∧ W.cell? ⟨w.heap.size, 3, none⟩ = some (.string se))) _ _ _ _ ?_
  refine wpAnyC_take 0 (.pointer (some ⟨w.heap.size, 3, none⟩)) rfl (by kernel_rfl) (by kernel_rfl) (by kernel_rfl) (fun _ _ _ h => h) (wanted_free rfl _) (fun W hW => by go_simp) ?_
  simp only [Act.put, List.getElem_toArray, List.getElem_cons_succ, List.getElem_cons_zero, List.setIfInBounds_toArray, List.set_cons_succ, List.set_cons_zero]
  refine wpAnyC_take 1 (.string se) rfl (by kernel_rfl) (by kernel_rfl) (by kernel_rfl) (fun _ _ _ h => h) (wanted_free rfl _) (fun W hW => by obtain ⟨y0, y3⟩ := hW; go_simp) ?_
  simp only [Act.put, List.getElem_toArray, List.getElem_cons_succ, List.getElem_cons_zero, List.setIfInBounds_toArray, List.set_cons_succ, List.set_cons_zero]
  refine wpAnyC_take 2 (.int .i64 m) rfl (by kernel_rfl) (by kernel_rfl) (by kernel_rfl) (fun _ _ _ h => h) (wanted_free rfl _) (fun W hW => by go_simp) ?_
  simp only [Act.put, List.getElem_toArray, List.getElem_cons_succ, List.getElem_cons_zero, List.setIfInBounds_toArray, List.set_cons_succ, List.set_cons_zero]
  refine wpAnyC_take 3 (.int .i64 (8 + (m : Int))) rfl (by kernel_rfl) (by kernel_rfl) (by kernel_rfl) (fun _ _ _ h => h) (wanted_free rfl _) (fun W hW => by go_simp; first | done | omega) ?_
  simp only [Act.put, List.getElem_toArray, List.getElem_cons_succ, List.getElem_cons_zero, List.setIfInBounds_toArray, List.set_cons_succ, List.set_cons_zero]
  refine wpAnyC_take 4 (.int .u8 (8 + (m : Int))) rfl (by kernel_rfl) (by kernel_rfl) (by kernel_rfl) (fun _ _ _ h => h) (wanted_free rfl _) (fun W hW => by go_simp) ?_
  simp only [Act.put, List.getElem_toArray, List.getElem_cons_succ, List.getElem_cons_zero, List.setIfInBounds_toArray, List.set_cons_succ, List.set_cons_zero]
  refine wpAnyC_take 7 (.pointer (some ⟨w.heap.size, 0, none⟩)) rfl (by kernel_rfl) (by kernel_rfl) (by kernel_rfl) (fun _ _ _ h => h) (wanted_free rfl _) (fun W hW => by go_simp) ?_
  simp only [Act.put, List.getElem_toArray, List.getElem_cons_succ, List.getElem_cons_zero, List.setIfInBounds_toArray, List.set_cons_succ, List.set_cons_zero]
  refine wpAnyC_take 8 (.string ve) rfl (by kernel_rfl) (by kernel_rfl) (by kernel_rfl) (fun _ _ _ h => h) (wanted_free rfl _) (fun W hW => by obtain ⟨y0, y3⟩ := hW; go_simp) ?_
  simp only [Act.put, List.getElem_toArray, List.getElem_cons_succ, List.getElem_cons_zero, List.setIfInBounds_toArray, List.set_cons_succ, List.set_cons_zero]
  refine wpAnyC_take 11 (.pointer (some ⟨w.heap.size, 3, none⟩)) rfl (by kernel_rfl) (by kernel_rfl) (by kernel_rfl) (fun _ _ _ h => h) (wanted_free rfl _) (fun W hW => by go_simp) ?_
  simp only [Act.put, List.getElem_toArray, List.getElem_cons_succ, List.getElem_cons_zero, List.setIfInBounds_toArray, List.set_cons_succ, List.set_cons_zero]
  refine wpAnyC_take 12 (.string se) rfl (by kernel_rfl) (by kernel_rfl) (by kernel_rfl) (fun _ _ _ h => h) (wanted_free rfl _) (fun W hW => by obtain ⟨y0, y3⟩ := hW; go_simp) ?_
  simp only [Act.put, List.getElem_toArray, List.getElem_cons_succ, List.getElem_cons_zero, List.setIfInBounds_toArray, List.set_cons_succ, List.set_cons_zero]
  refine wpAnyC_two 5 9 ⟨zA0, zA3⟩ rfl rfl (by kernel_rfl) (wanted_free rfl _) (wanted_free rfl _) (fun KA hKA => ?_) (fun KA hKA => ?_)
  · go_simp
    refine hKA _ _ ?_
    clear hKA KA
    first | rw [← hV1K.out] | (show wpAnyC _ _ _ _ _ _ _ _ (w1.drew.alloc _); rw [← hV1K.out])
    try simp only [Act.put, List.getElem_toArray, List.getElem_cons_succ, List.getElem_cons_zero, List.setIfInBounds_toArray, List.set_cons_succ, List.set_cons_zero]
    refine wpAnyC_mono (C' := fun W => ((W.cell? ⟨w.heap.size, 0, none⟩ = some (.string ve) ∧ W.cell? ⟨w.heap.size, 3, none⟩ = some (.string se)) ∧ RdAt W (.slice (some ⟨w1.heap.size, 0, none⟩) 4 4) [2, 1, 0, 8 + (m : Int)])) (fun W h => h.1) _ _ _ _ ?_
    refine wpAnyC_take 6 (.string H) rfl (by kernel_rfl) (by kernel_rfl) (by kernel_rfl) (fun _ _ _ h => h) (wanted_free rfl _) (fun W hW => by exact (by have := hcV.out W hW.2; go_simp)) ?_
    simp only [Act.put, List.getElem_toArray, List.getElem_cons_succ, List.getElem_cons_zero, List.setIfInBounds_toArray, List.set_cons_succ, List.set_cons_zero]
    refine wpAnyC_one 9 ⟨⟨zV0, zV3⟩, hrV⟩ rfl (by kernel_rfl) (wanted_free rfl _) (fun KA hKA => ?_)
    go_simp
    refine (HA.out _).mono ?_
    rintro e w3 ⟨rfl, rfl⟩
    refine hKA _ _ ?_
    clear hKA KA
    try simp only [Act.put, List.getElem_toArray, List.getElem_cons_succ, List.getElem_cons_zero, List.setIfInBounds_toArray, List.set_cons_succ, List.set_cons_zero]
    refine wpAnyC_take 10 (.string U1) rfl (by kernel_rfl) (by kernel_rfl) (by kernel_rfl) (fun _ _ _ h => h) (wanted_free rfl _) (fun W hW => by rw [hU1.out]; go_simp) ?_
    simp only [Act.put, List.getElem_toArray, List.getElem_cons_succ, List.getElem_cons_zero, List.setIfInBounds_toArray, List.set_cons_succ, List.set_cons_zero]
    refine wpAnyC_take 13 (.string U2) rfl (by kernel_rfl) (by kernel_rfl) (by kernel_rfl) (fun _ _ _ h => h) (wanted_free rfl _) (fun W hW => by rw [hU2.out]; go_simp) ?_
    simp only [Act.put, List.getElem_toArray, List.getElem_cons_succ, List.getElem_cons_zero, List.setIfInBounds_toArray, List.set_cons_succ, List.set_cons_zero]
    refine wpAnyC_take 14 (.string U2) rfl (by kernel_rfl) (by kernel_rfl) (by kernel_rfl) (fun _ _ _ h => h) (wanted_free rfl _) (fun W hW => by go_simp) ?_
    simp only [Act.put, List.getElem_toArray, List.getElem_cons_succ, List.getElem_cons_zero, List.setIfInBounds_toArray, List.set_cons_succ, List.set_cons_zero]
    refine wpAnyC_done ⟨⟨zV0, zV3⟩, hrV⟩ (by kernel_rfl) ?_
    have hc2' := hc2.out
    clear zV0 zV1 zV2 zV3 zV4 hrV zA0 zA1 zA2 zA3 zA4 hcV HA
    go_wp2_with fail
    refine bodyPost_ret (v := .tuple #[.string (HD ++ U2), .bool true]) (by simp [results, Try.results11, go_sem]) rfl ⟨rfl, hBW.out⟩
  · go_simp
    refine (HA.out _).mono ?_
    rintro e w3 ⟨rfl, rfl⟩
    refine hKA _ _ ?_
    clear hKA KA
    try simp only [Act.put, List.getElem_toArray, List.getElem_cons_succ, List.getElem_cons_zero, List.setIfInBounds_toArray, List.set_cons_succ, List.set_cons_zero]
    refine wpAnyC_one 5 ⟨zA0, zA3⟩ rfl (by kernel_rfl) (wanted_free rfl _) (fun KA hKA => ?_)
    go_simp
    refine hKA _ _ ?_
    clear hKA KA
    first | rw [← hV1K.out] | (show wpAnyC _ _ _ _ _ _ _ _ (w1.drew.alloc _); rw [← hV1K.out])
    try simp only [Act.put, List.getElem_toArray, List.getElem_cons_succ, List.getElem_cons_zero, List.setIfInBounds_toArray, List.set_cons_succ, List.set_cons_zero]
    refine wpAnyC_mono (C' := fun W => ((W.cell? ⟨w.heap.size, 0, none⟩ = some (.string ve) ∧ W.cell? ⟨w.heap.size, 3, none⟩ = some (.string se)) ∧ RdAt W (.slice (some ⟨w1.heap.size, 0, none⟩) 4 4) [2, 1, 0, 8 + (m : Int)])) (fun W h => h.1) _ _ _ _ ?_
    refine wpAnyC_take 6 (.string H) rfl (by kernel_rfl) (by kernel_rfl) (by kernel_rfl) (fun _ _ _ h => h) (wanted_free rfl _) (fun W hW => by exact (by have := hcV.out W hW.2; go_simp)) ?_
    simp only [Act.put, List.getElem_toArray, List.getElem_cons_succ, List.getElem_cons_zero, List.setIfInBounds_toArray, List.set_cons_succ, List.set_cons_zero]
    refine wpAnyC_take 10 (.string U1) rfl (by kernel_rfl) (by kernel_rfl) (by kernel_rfl) (fun _ _ _ h => h) (wanted_free rfl _) (fun W hW => by rw [hU1.out]; go_simp) ?_
    simp only [Act.put, List.getElem_toArray, List.getElem_cons_succ, List.getElem_cons_zero, List.setIfInBounds_toArray, List.set_cons_succ, List.set_cons_zero]
    refine wpAnyC_take 13 (.string U2) rfl (by kernel_rfl) (by kernel_rfl) (by kernel_rfl) (fun _ _ _ h => h) (wanted_free rfl _) (fun W hW => by rw [hU2.out]; go_simp) ?_
    simp only [Act.put, List.getElem_toArray, List.getElem_cons_succ, List.getElem_cons_zero, List.setIfInBounds_toArray, List.set_cons_succ, List.set_cons_zero]
    refine wpAnyC_take 14 (.string U2) rfl (by kernel_rfl) (by kernel_rfl) (by kernel_rfl) (fun _ _ _ h => h) (wanted_free rfl _) (fun W hW => by go_simp) ?_
    simp only [Act.put, List.getElem_toArray, List.getElem_cons_succ, List.getElem_cons_zero, List.setIfInBounds_toArray, List.set_cons_succ, List.set_cons_zero]
    refine wpAnyC_done ⟨⟨zV0, zV3⟩, hrV⟩ (by kernel_rfl) ?_
    have hc2' := hc2.out
    clear zV0 zV1 zV2 zV3 zV4 hrV zA0 zA1 zA2 zA3 zA4 hcV HA
    go_wp2_with fail
    refine bodyPost_ret (v := .tuple #[.string (HD ++ U2), .bool true]) (by simp [results, Try.results11, go_sem]) rfl ⟨rfl, hBW.out⟩

theorem lim_step : ∀ k : Fin 60, 24 ≤ k.val → limL.take (k.val + 1) = limL.take k.val ++ [0] := by decide
set_option maxRecDepth 100000 in
set_option maxHeartbeats 2000000 in
theorem rpage_176 (i : In) (w : World) (hi : i.wf) (hf : i.form = true) : Calls Try.prog 11 #[.agg i.rvals, .int .u8 176] w fun e w' => e = .returned (.tuple #[.string (strOfNums (pageL i 176)), .bool true]) ∧ Below w.heap.size w w' := by
  have HF := Kpt.mk (fun W => rform_any i W hi)
  rw [hf] at HF
  have hps : strOfNums (pageL i 176) = strOfNums [0, 176, 0, 60] ++ strOfNums limL := page_str i 176
  rw [hps]
  obtain ⟨ve, pr, re, se, pt⟩ := i
  simp only [In.rvals] at HF ⊢
  obtain ⟨BD, hBD⟩ : ∃ S, S = strOfNums limL := ⟨_, rfl⟩
  obtain ⟨HD, hHD⟩ : ∃ S, S = strOfNums [0, 176, 0, 60] := ⟨_, rfl⟩
  have hz1 : BD.size = 60 := by rw [hBD]; rfl
  have hz2 : HD.size = 4 := by rw [hHD]; rfl
  have hlim : ¬ 9223372036854775807 < HD.size + BD.size := by omega
  rw [← hBD, ← hHD]
  replace hBD := Kpt.mk hBD
  replace hHD := Kpt.mk hHD
  replace hz2 := Kpt.mk hz2
  clear hps hi hf
  go_enter Try.func11, Try.ntmps11
  go_wp2_with fail
  refine (HF.out _).mono ?_
  rintro e w1 ⟨rfl, hb1⟩
  have hs0 : (w.alloc (.cells #[.string ve, .string pr, .string re, .string se, .int .i64 pt] 31)).heap.size = w.heap.size + 1 := by simp
  have hl1 : w.heap.size < w1.heap.size := by have := hb1.size; omega
  have hB1 : Kpt (Below w.heap.size w w1) := ⟨((Below.refl _ _).alloc (Nat.le_refl _) _).trans (hb1.mono (by omega))⟩
  clear hb1 hs0 HF
  have hoA : Kpt (((w1.alloc (.cells #[.int .u8 0, .int .u8 255, .int .u8 0, .int .u8 0, .int .u8 0, .int .u8 0, .int .u8 1, .int .u8 0] 5)).alloc (.cells #[.int .u8 0, .int .u8 0, .int .u8 0, .int .u8 0, .int .u8 0, .int .u8 0, .int .u8 0, .int .u8 0] 5)).ownsRow w.heap.size 5 1 (.slice (some ⟨w1.heap.size, 0, none⟩) 8 8) 8 (cels [0, 255, 0, 0, 0, 0, 1, 0])) := ⟨own_of_block (own_alloc w1 w1.heap.size 8 w.heap.size [0, 255, 0, 0, 0, 0, 1, 0] rfl rfl (by decide) (Nat.le_of_lt hl1)) (fun q hq => by cases hq; exact Below.heap_alloc _ _ _ (by simp))⟩
  have hrA : Kpt (RdAt ((w1.alloc (.cells #[.int .u8 0, .int .u8 255, .int .u8 0, .int .u8 0, .int .u8 0, .int .u8 0, .int .u8 1, .int .u8 0] 5)).alloc (.cells #[.int .u8 0, .int .u8 0, .int .u8 0, .int .u8 0, .int .u8 0, .int .u8 0, .int .u8 0, .int .u8 0] 5)) (.slice (some ⟨w1.heap.size + 1, 0, none⟩) 8 8) [0, 0, 0, 0, 0, 0, 0, 0]) := ⟨own_rd (own_alloc (w1.alloc (.cells #[.int .u8 0, .int .u8 255, .int .u8 0, .int .u8 0, .int .u8 0, .int .u8 0, .int .u8 1, .int .u8 0] 5)) (w1.heap.size + 1) 8 0 [0, 0, 0, 0, 0, 0, 0, 0] (by simp) rfl (by decide) (Nat.zero_le _))⟩
  have hBA : Kpt (Below w.heap.size w ((w1.alloc (.cells #[.int .u8 0, .int .u8 255, .int .u8 0, .int .u8 0, .int .u8 0, .int .u8 0, .int .u8 1, .int .u8 0] 5)).alloc (.cells #[.int .u8 0, .int .u8 0, .int .u8 0, .int .u8 0, .int .u8 0, .int .u8 0, .int .u8 0, .int .u8 0] 5))) := ⟨(hB1.out.alloc (Nat.le_of_lt hl1) _).alloc (by simp; omega) _⟩
  go_wp2_with (first
    | (refine wpList_append_new rfl (.tmp 42) (.tmp 43) rfl w.heap.size _ _ ([0, 255, 0, 0, 0, 0, 1, 0] ++ [0, 0, 0, 0, 0, 0, 0, 0]) [0, 0, 1, 0, 0, 0, 0, 8] 16 24 rfl rfl hoB.out hrB.out (by decide) rfl rfl (by decide) hBB.out.size ?_; intro g3 k3 w3 ho3 hl3 hg3; have hB3 : Kpt (Below w.heap.size w w3) := ⟨hBB.out.grown hg3.out hBB.out.size (fun q hq => by cases hq; exact hl2.out.1)⟩; clear hoB hrB hBB hg3)
    | (refine wpList_append_new rfl (.tmp 39) (.tmp 40) rfl w.heap.size _ _ [0, 255, 0, 0, 0, 0, 1, 0] [0, 0, 0, 0, 0, 0, 0, 0] 8 16 rfl rfl hoA.out hrA.out (by decide) rfl rfl (by decide) hBA.out.size ?_; intro g2 k2 w2 ho2 hl2 hg2; have hB2 : Kpt (Below w.heap.size w w2) := ⟨hBA.out.grown hg2.out hBA.out.size (fun q hq => by cases hq; exact Nat.le_of_lt hl1)⟩; have hoB : Kpt ((w2.alloc (.cells #[.int .u8 0, .int .u8 0, .int .u8 1, .int .u8 0, .int .u8 0, .int .u8 0, .int .u8 0, .int .u8 8] 5)).ownsRow w.heap.size 5 1 (.slice (some ⟨g2, 0, none⟩) 16 k2) 16 (cels ([0, 255, 0, 0, 0, 0, 1, 0] ++ [0, 0, 0, 0, 0, 0, 0, 0]))) := ⟨own_of_block ho2.out (fun q hq => by cases hq; exact Below.heap_alloc _ _ _ hl2.out.2)⟩; have hrB : Kpt (RdAt (w2.alloc (.cells #[.int .u8 0, .int .u8 0, .int .u8 1, .int .u8 0, .int .u8 0, .int .u8 0, .int .u8 0, .int .u8 8] 5)) (.slice (some ⟨w2.heap.size, 0, none⟩) 8 8) [0, 0, 1, 0, 0, 0, 0, 8]) := ⟨own_rd (own_alloc w2 w2.heap.size 8 0 [0, 0, 1, 0, 0, 0, 0, 8] rfl rfl (by decide) (Nat.zero_le _))⟩; have hBB : Kpt (Below w.heap.size w (w2.alloc (.cells #[.int .u8 0, .int .u8 0, .int .u8 1, .int .u8 0, .int .u8 0, .int .u8 0, .int .u8 0, .int .u8 8] 5))) := ⟨hB2.out.alloc hB2.out.size _⟩; clear hoA hrA hBA hg2 ho2))
  go_loopw [7] (fun s wr => ∃ k g c : Nat, 24 ≤ k ∧ k ≤ 60 ∧ s = .slice (some ⟨g, 0, none⟩) k c ∧ Kpt (wr.ownsRow w.heap.size 5 1 (.slice (some ⟨g, 0, none⟩) k c) k (cels (limL.take k))) ∧ Kpt (Below w.heap.size w wr)) (fun s _ => match s with | .slice _ n _ => 60 - n | _ => 0)
  case atStart => exact ⟨24, g3, k3, by omega, by omega, rfl, ho3, hB3⟩
  case round =>
    obtain ⟨k, g, c, hk1, hk2, rfl, ho, hB⟩ := hrel
    clear ho3 hB3
    have hgl := (World.ownsRow.lt ho.out g rfl)
    by_cases hlt : k < 60
    · have e1 : (k : Int) < 60 := by omega
      have hst := lim_step ⟨k, hlt⟩ hk1
      simp only at hst
      have hoC : Kpt ((wr.alloc (.cells #[.int .u8 0] 5)).ownsRow w.heap.size 5 1 (.slice (some ⟨g, 0, none⟩) k c) k (cels (limL.take k))) := ⟨own_of_block ho.out (fun q hq => by cases hq; exact Below.heap_alloc _ _ _ hgl.2)⟩
      have hrC : Kpt (RdAt (wr.alloc (.cells #[.int .u8 0] 5)) (.slice (some ⟨wr.heap.size, 0, none⟩) 1 1) [0]) := ⟨own_rd (own_alloc wr wr.heap.size 1 0 [0] rfl rfl (by decide) (Nat.zero_le _))⟩
      have hBC : Kpt (Below w.heap.size w (wr.alloc (.cells #[.int .u8 0] 5))) := ⟨hB.out.alloc hB.out.size _⟩
      have hlk : (limL.take k).length = k := by rw [List.length_take]; show min k 60 = k; omega
      replace hst := Kpt.mk hst
      replace hlk := Kpt.mk hlk
      clear ho hB
      go_wp2_with (refine wpList_append_new rfl (.tmp 48) (.tmp 49) rfl w.heap.size _ _ (limL.take k) [0] k (k + 1) rfl rfl hoC.out hrC.out (by decide) hlk.out rfl (by omega) hBC.out.size ?_; intro g4 k4 w4 ho4 hl4 hg4)
      go_roundw
      case rel => exact ⟨k + 1, g4, k4, by omega, by omega, rfl, ⟨by rw [hst.out]; exact ho4.out⟩, ⟨hBC.out.grown hg4.out hBC.out.size (fun q hq => by cases hq; exact hgl.1)⟩⟩
      case measure => first | (simp; omega) | omega | simp
    · obtain rfl : k = 60 := by omega
      have hc1 : (convert 25 9 (.slice (some ⟨g, 0, none⟩) 60 c)).run Try.prog wr = .ok (.string BD) wr := by rw [hBD.out]; exact conv_rd (own_rd ho.out)
      have hc2 : (convert 25 9 (.slice (some ⟨wr.heap.size, 0, none⟩) 4 4)).run Try.prog (wr.alloc (.cells #[.int .u8 0, .int .u8 176, .int .u8 0, .int .u8 60] 5)) = .ok (.string HD) (wr.alloc (.cells #[.int .u8 0, .int .u8 176, .int .u8 0, .int .u8 60] 5)) := conv_new wr [0, 176, 0, 60] 4 HD rfl (by decide) hHD.out
      have hlw : w.heap.size ≤ wr.heap.size := hB.out.size
      clear ho
      go_wp2_with fail
      refine bodyPost_ret (v := .tuple #[.string (HD ++ BD), .bool true]) (by simp [results, Try.results11, go_sem]) rfl ⟨rfl, hB.out.alloc hlw _⟩

theorem rpage_some (i : In) (p : Int) (w : World) (hi : i.wf) (hf : i.form = true) (hp : isVit p) : Calls Try.prog 11 #[.agg i.rvals, .int .u8 p] w fun e w' => e = .returned (.tuple #[.string (strOfNums (pageL i p)), .bool true]) ∧ Below w.heap.size w w' := by
  rcases hp with rfl | rfl | rfl | rfl | rfl
  · exact rpage_0 i w hi hf
  · exact rpage_128 i w hi hf
  · exact rpage_131 i w hi hf
  · exact rpage_176 i w hi hf
  · exact rpage_178 i w hi hf
end Go.Proofs.Yteoaadpilaljnaa
