/-
  InqPages: the walk.
-/
import Derived.Test.YteoaadpilaljnaaIRPageB
import Derived.Test.YteoaadpilaljnaaISup
namespace Go.Proofs.Yteoaadpilaljnaa
open Go.RowKit
set_option linter.unusedVariables false
set_option linter.unusedSimpArgs false

set_option maxRecDepth 100000 in
set_option maxHeartbeats 8000000 in
theorem pages_go (i : In) (p : Int) (w : World) (hi : i.wf) (f ok : Bool) (LP LS : List Int)
    (HF0 : ∀ W, Calls Try.prog 13 #[.agg i.vals] W fun e w' => e = .returned (.bool f) ∧ Below W.heap.size W w')
    (HG0 : ∀ W, Calls Try.prog 14 #[.agg i.rvals] W fun e w' => e = .returned (.bool f) ∧ Below W.heap.size W w')
    (HP0 : ∀ W, Calls Try.prog 10 #[.agg i.vals, .int .u8 p] W fun e w' => ∃ v, e = .returned (.tuple #[v, .bool ok]) ∧ RdAt w' v LP ∧ Below W.heap.size W w')
    (HQ0 : ∀ W, Calls Try.prog 11 #[.agg i.rvals, .int .u8 p] W fun e w' => e = .returned (.tuple #[.string (strOfNums LP), .bool ok]) ∧ Below W.heap.size W w')
    (HS0 : ∀ W, Calls Try.prog 15 #[.agg i.vals] W fun e w' => ∃ v, e = .returned v ∧ RdAt w' v LS ∧ Below W.heap.size W w')
    (HT0 : ∀ W, Calls Try.prog 16 #[.agg i.rvals] W fun e w' => e = .returned (.string (strOfNums LS)) ∧ Below W.heap.size W w') :
    Calls Try.prog 3 #[.agg i.vals, .int .u8 p] w fun e w' => e = .returned (.bool true) ∧ Below w.heap.size w w' := by
  have HA := Kpt.mk awake_any
  have HO := Kpt.mk (fun W => of_any i W hi)
  have HF := Kpt.mk HF0
  have HG := Kpt.mk HG0
  have HP := Kpt.mk HP0
  have HQ := Kpt.mk HQ0
  have HS := Kpt.mk HS0
  have HT := Kpt.mk HT0
  have HC : Kpt (∀ W v, RdAt W v LP → (convert 25 9 v).run Try.prog W = .ok (.string (strOfNums LP)) W) := ⟨fun W v h => conv_rd h⟩
  have HD : Kpt (∀ W v, RdAt W v LS → (convert 25 9 v).run Try.prog W = .ok (.string (strOfNums LS)) W) := ⟨fun W v h => conv_rd h⟩
  generalize strOfNums LP = SP at *
  generalize strOfNums LS = SS at *
  clear HF0 HG0 HP0 HQ0 HS0 HT0 hi
  obtain ⟨rv, hrv⟩ : ∃ rv, rv = i.rvals := ⟨_, rfl⟩
  rw [← hrv] at HO HG HQ HT
  obtain ⟨ve, pr, re, se, pt⟩ := i
  simp only [In.vals] at HO HF HP HS ⊢
  clear hrv
  go_enter Try.func3, Try.ntmps3
  go_wp2_with fail
  refine (HA.out _).mono ?_
  rintro e w1 ⟨rfl, hb1⟩
  have hs0 : (w.alloc (.cells #[.string ve, .string pr, .string re, .string se, .int .u8 pt] 23)).heap.size = w.heap.size + 1 := by simp
  have hl1 : w.heap.size < w1.heap.size := by have := hb1.size; omega
  have zA0 : w1.cell? ⟨w.heap.size, 0, none⟩ = some (.string ve) := (hb1.cell (p := ⟨w.heap.size, 0, none⟩) (by show w.heap.size < _; omega)).trans (by simp)
  have zA1 : w1.cell? ⟨w.heap.size, 1, none⟩ = some (.string pr) := (hb1.cell (p := ⟨w.heap.size, 1, none⟩) (by show w.heap.size < _; omega)).trans (by simp)
  have zA2 : w1.cell? ⟨w.heap.size, 2, none⟩ = some (.string re) := (hb1.cell (p := ⟨w.heap.size, 2, none⟩) (by show w.heap.size < _; omega)).trans (by simp)
  have zA3 : w1.cell? ⟨w.heap.size, 3, none⟩ = some (.string se) := (hb1.cell (p := ⟨w.heap.size, 3, none⟩) (by show w.heap.size < _; omega)).trans (by simp)
  have zA4 : w1.cell? ⟨w.heap.size, 4, none⟩ = some (.int .u8 pt) := (hb1.cell (p := ⟨w.heap.size, 4, none⟩) (by show w.heap.size < _; omega)).trans (by simp)
  have hB1 : Kpt (Below w.heap.size w w1) := ⟨((Below.refl _ _).alloc (Nat.le_refl _) _).trans (hb1.mono (by omega))⟩
  clear hb1 hs0 HA
  go_wp2_with fail
  refine (HP.out w1).mono ?_
  rintro e w2 ⟨vP, rfl, hr2, hb2⟩
  have zB0 : w2.cell? ⟨w.heap.size, 0, none⟩ = some (.string ve) := (hb2.cell (p := ⟨w.heap.size, 0, none⟩) (by show w.heap.size < _; omega)).trans zA0
  have zB1 : w2.cell? ⟨w.heap.size, 1, none⟩ = some (.string pr) := (hb2.cell (p := ⟨w.heap.size, 1, none⟩) (by show w.heap.size < _; omega)).trans zA1
  have zB2 : w2.cell? ⟨w.heap.size, 2, none⟩ = some (.string re) := (hb2.cell (p := ⟨w.heap.size, 2, none⟩) (by show w.heap.size < _; omega)).trans zA2
  have zB3 : w2.cell? ⟨w.heap.size, 3, none⟩ = some (.string se) := (hb2.cell (p := ⟨w.heap.size, 3, none⟩) (by show w.heap.size < _; omega)).trans zA3
  have zB4 : w2.cell? ⟨w.heap.size, 4, none⟩ = some (.int .u8 pt) := (hb2.cell (p := ⟨w.heap.size, 4, none⟩) (by show w.heap.size < _; omega)).trans zA4
  have hB2 : Kpt (Below w.heap.size w w2) := ⟨hB1.out.trans (hb2.mono hB1.out.size)⟩
  have hl2 : w.heap.size < w2.heap.size := Nat.lt_of_lt_of_le hl1 hb2.size
  replace hr2 := Kpt.mk hr2
  clear zA0 zA1 zA2 zA3 zA4 hb2 hB1 hl1 HP
  go_wp2_with fail
  refine (HO.out w2).mono ?_
  rintro e w3 ⟨rfl, hb3⟩
  have zC0 : w3.cell? ⟨w.heap.size, 0, none⟩ = some (.string ve) := (hb3.cell (p := ⟨w.heap.size, 0, none⟩) (by show w.heap.size < _; omega)).trans zB0
  have zC1 : w3.cell? ⟨w.heap.size, 1, none⟩ = some (.string pr) := (hb3.cell (p := ⟨w.heap.size, 1, none⟩) (by show w.heap.size < _; omega)).trans zB1
  have zC2 : w3.cell? ⟨w.heap.size, 2, none⟩ = some (.string re) := (hb3.cell (p := ⟨w.heap.size, 2, none⟩) (by show w.heap.size < _; omega)).trans zB2
  have zC3 : w3.cell? ⟨w.heap.size, 3, none⟩ = some (.string se) := (hb3.cell (p := ⟨w.heap.size, 3, none⟩) (by show w.heap.size < _; omega)).trans zB3
  have zC4 : w3.cell? ⟨w.heap.size, 4, none⟩ = some (.int .u8 pt) := (hb3.cell (p := ⟨w.heap.size, 4, none⟩) (by show w.heap.size < _; omega)).trans zB4
  have hB3 : Kpt (Below w.heap.size w w3) := ⟨hB2.out.trans (hb3.mono hB2.out.size)⟩
  have hl3 : w.heap.size < w3.heap.size := Nat.lt_of_lt_of_le hl2 hb3.size
  have hr3 := Kpt.mk (rd_below hr2.out hb3)
  clear zB0 zB1 zB2 zB3 zB4 hb3 hB2 hl2 hr2
  go_wp2_with fail
  refine (HQ.out w3).mono ?_
  rintro e w4 ⟨rfl, hb4⟩
  have zD0 : w4.cell? ⟨w.heap.size, 0, none⟩ = some (.string ve) := (hb4.cell (p := ⟨w.heap.size, 0, none⟩) (by show w.heap.size < _; omega)).trans zC0
  have zD1 : w4.cell? ⟨w.heap.size, 1, none⟩ = some (.string pr) := (hb4.cell (p := ⟨w.heap.size, 1, none⟩) (by show w.heap.size < _; omega)).trans zC1
  have zD2 : w4.cell? ⟨w.heap.size, 2, none⟩ = some (.string re) := (hb4.cell (p := ⟨w.heap.size, 2, none⟩) (by show w.heap.size < _; omega)).trans zC2
  have zD3 : w4.cell? ⟨w.heap.size, 3, none⟩ = some (.string se) := (hb4.cell (p := ⟨w.heap.size, 3, none⟩) (by show w.heap.size < _; omega)).trans zC3
  have zD4 : w4.cell? ⟨w.heap.size, 4, none⟩ = some (.int .u8 pt) := (hb4.cell (p := ⟨w.heap.size, 4, none⟩) (by show w.heap.size < _; omega)).trans zC4
  have hB4 : Kpt (Below w.heap.size w w4) := ⟨hB3.out.trans (hb4.mono hB3.out.size)⟩
  have hl4 : w.heap.size < w4.heap.size := Nat.lt_of_lt_of_le hl3 hb4.size
  have hr4 := Kpt.mk (rd_below hr3.out hb4)
  clear zC0 zC1 zC2 zC3 zC4 hb4 hB3 hl3 hr3 HQ
  go_wp2_with fail
  have carry : Kpt (∀ W, Below w4.heap.size w4 W → (W.cell? ⟨w.heap.size, 0, none⟩ = some (.string ve) ∧ W.cell? ⟨w.heap.size, 1, none⟩ = some (.string pr) ∧ W.cell? ⟨w.heap.size, 2, none⟩ = some (.string re) ∧ W.cell? ⟨w.heap.size, 3, none⟩ = some (.string se) ∧ W.cell? ⟨w.heap.size, 4, none⟩ = some (.int .u8 pt) ∧ RdAt W vP LP)) := ⟨fun W h => ⟨(h.cell (p := ⟨w.heap.size, 0, none⟩) hl4).trans zD0, (h.cell (p := ⟨w.heap.size, 1, none⟩) hl4).trans zD1, (h.cell (p := ⟨w.heap.size, 2, none⟩) hl4).trans zD2, (h.cell (p := ⟨w.heap.size, 3, none⟩) hl4).trans zD3, (h.cell (p := ⟨w.heap.size, 4, none⟩) hl4).trans zD4, rd_below hr4.out h⟩⟩
  clear zD0 zD1 zD2 zD3 zD4 hr4
  refine wp_region_any (by kernel_rfl) ?_
  refine wpAny_of_C (C := fun W => (W.cell? ⟨w.heap.size, 0, none⟩ = some (.string ve) ∧ W.cell? ⟨w.heap.size, 1, none⟩ = some (.string pr) ∧ W.cell? ⟨w.heap.size, 2, none⟩ = some (.string re) ∧ W.cell? ⟨w.heap.size, 3, none⟩ = some (.string se) ∧ W.cell? ⟨w.heap.size, 4, none⟩ = some (.int .u8 pt) ∧ RdAt W vP LP)) _ _ _ _ ?_
  refine wpAnyC_take 0 (.agg #[.string ve, .string pr, .string re, .string se, .int .u8 pt]) rfl (by kernel_rfl) (by kernel_rfl) (by kernel_rfl) (fun _ _ _ h => h) (wanted_free rfl _) (fun W hW => by obtain ⟨y0, y1, y2, y3, y4, _⟩ := hW; go_simp) ?_
  simp only [Act.put, List.getElem_toArray, List.getElem_cons_succ, List.getElem_cons_zero, List.setIfInBounds_toArray, List.set_cons_succ, List.set_cons_zero]
  refine wpAnyC_take 2 (.agg #[.string ve, .string pr, .string re, .string se, .int .u8 pt]) rfl (by kernel_rfl) (by kernel_rfl) (by kernel_rfl) (fun _ _ _ h => h) (wanted_free rfl _) (fun W hW => by obtain ⟨y0, y1, y2, y3, y4, _⟩ := hW; go_simp) ?_
  simp only [Act.put, List.getElem_toArray, List.getElem_cons_succ, List.getElem_cons_zero, List.setIfInBounds_toArray, List.set_cons_succ, List.set_cons_zero]
  refine wpAnyC_one 1 (carry.out _ (below_drew _)) rfl (by kernel_rfl) (wanted_free rfl _) (fun KA hKA => ?_)
  go_simp
  refine (HF.out _).mono ?_
  rintro e x1 ⟨rfl, hb⟩
  replace hb := below_undrew hb
  have hx1 : Below w4.heap.size w4 x1 := hb
  refine hKA _ _ ?_
  clear hKA KA hb
  try simp only [Act.put, List.getElem_toArray, List.getElem_cons_succ, List.getElem_cons_zero, List.setIfInBounds_toArray, List.set_cons_succ, List.set_cons_zero]
  refine wpAnyC_one 3 (carry.out _ hx1) rfl (by kernel_rfl) (wanted_free rfl _) (fun KA hKA => ?_)
  go_simp
  refine (HO.out _).mono ?_
  rintro e x2 ⟨rfl, hb⟩
  have hx2 : Below w4.heap.size w4 x2 := hx1.trans (hb.mono hx1.size)
  refine hKA _ _ ?_
  clear hKA KA hb
  try simp only [Act.put, List.getElem_toArray, List.getElem_cons_succ, List.getElem_cons_zero, List.setIfInBounds_toArray, List.set_cons_succ, List.set_cons_zero]
  refine wpAnyC_one 4 (carry.out _ hx2) rfl (by kernel_rfl) (wanted_free rfl _) (fun KA hKA => ?_)
  go_simp
  refine (HG.out _).mono ?_
  rintro e x3 ⟨rfl, hb⟩
  have hx3 : Below w4.heap.size w4 x3 := hx2.trans (hb.mono hx2.size)
  refine hKA _ _ ?_
  clear hKA KA hb
  try simp only [Act.put, List.getElem_toArray, List.getElem_cons_succ, List.getElem_cons_zero, List.setIfInBounds_toArray, List.set_cons_succ, List.set_cons_zero]
  refine wpAnyC_take 5 (.bool true) rfl (by kernel_rfl) (by kernel_rfl) (by kernel_rfl) (fun _ _ _ h => h) (wanted_free rfl _) (fun W hW => by go_simp) ?_
  simp only [Act.put, List.getElem_toArray, List.getElem_cons_succ, List.getElem_cons_zero, List.setIfInBounds_toArray, List.set_cons_succ, List.set_cons_zero]
  refine wpAnyC_take 6 (.bool true) rfl (by kernel_rfl) (by kernel_rfl) (by kernel_rfl) (fun _ _ _ h => h) (wanted_free rfl _) (fun W hW => by go_simp) ?_
  simp only [Act.put, List.getElem_toArray, List.getElem_cons_succ, List.getElem_cons_zero, List.setIfInBounds_toArray, List.set_cons_succ, List.set_cons_zero]
  refine wpAnyC_take 7 (.agg #[.string ve, .string pr, .string re, .string se, .int .u8 pt]) rfl (by kernel_rfl) (by kernel_rfl) (by kernel_rfl) (fun _ _ _ h => h) (wanted_at true rfl rfl rfl rfl) (fun W hW => by obtain ⟨y0, y1, y2, y3, y4, _⟩ := hW; go_simp) ?_
  simp only [Act.put, List.getElem_toArray, List.getElem_cons_succ, List.getElem_cons_zero, List.setIfInBounds_toArray, List.set_cons_succ, List.set_cons_zero]
  refine wpAnyC_take 10 (.agg #[.string ve, .string pr, .string re, .string se, .int .u8 pt]) rfl (by kernel_rfl) (by kernel_rfl) (by kernel_rfl) (fun _ _ _ h => h) (wanted_at true rfl rfl rfl rfl) (fun W hW => by obtain ⟨y0, y1, y2, y3, y4, _⟩ := hW; go_simp) ?_
  simp only [Act.put, List.getElem_toArray, List.getElem_cons_succ, List.getElem_cons_zero, List.setIfInBounds_toArray, List.set_cons_succ, List.set_cons_zero]
  refine wpAnyC_one 8 (carry.out _ hx3) rfl (by kernel_rfl) (wanted_at true rfl rfl rfl rfl) (fun KA hKA => ?_)
  go_simp
  refine (HS.out _).mono ?_
  rintro e x4 ⟨vS, rfl, hrS, hb⟩
  have hx4 : Below w4.heap.size w4 x4 := hx3.trans (hb.mono hx3.size)
  refine hKA _ _ ?_
  clear hKA KA hb
  try simp only [Act.put, List.getElem_toArray, List.getElem_cons_succ, List.getElem_cons_zero, List.setIfInBounds_toArray, List.set_cons_succ, List.set_cons_zero]
  have carry2 : Kpt (∀ W, Below x4.heap.size x4 W → ((W.cell? ⟨w.heap.size, 0, none⟩ = some (.string ve) ∧ W.cell? ⟨w.heap.size, 1, none⟩ = some (.string pr) ∧ W.cell? ⟨w.heap.size, 2, none⟩ = some (.string re) ∧ W.cell? ⟨w.heap.size, 3, none⟩ = some (.string se) ∧ W.cell? ⟨w.heap.size, 4, none⟩ = some (.int .u8 pt) ∧ RdAt W vP LP) ∧ RdAt W vS LS)) := ⟨fun W h => ⟨carry.out W (hx4.trans (h.mono hx4.size)), rd_below hrS h⟩⟩
  refine wpAnyC_mono (C' := fun W => ((W.cell? ⟨w.heap.size, 0, none⟩ = some (.string ve) ∧ W.cell? ⟨w.heap.size, 1, none⟩ = some (.string pr) ∧ W.cell? ⟨w.heap.size, 2, none⟩ = some (.string re) ∧ W.cell? ⟨w.heap.size, 3, none⟩ = some (.string se) ∧ W.cell? ⟨w.heap.size, 4, none⟩ = some (.int .u8 pt) ∧ RdAt W vP LP) ∧ RdAt W vS LS)) (fun W h => h.1) _ _ _ _ ?_
  refine wpAnyC_take 9 (.string SS) rfl (by kernel_rfl) (by kernel_rfl) (by kernel_rfl) (fun _ _ _ h => h) (wanted_at true rfl rfl rfl rfl) (fun W hW => by exact (by have := HD.out W _ hW.2; go_simp)) ?_
  simp only [Act.put, List.getElem_toArray, List.getElem_cons_succ, List.getElem_cons_zero, List.setIfInBounds_toArray, List.set_cons_succ, List.set_cons_zero]
  refine wpAnyC_one 11 (carry2.out _ (Below.refl _ _)) rfl (by kernel_rfl) (wanted_at true rfl rfl rfl rfl) (fun KA hKA => ?_)
  go_simp
  refine (HO.out _).mono ?_
  rintro e x5 ⟨rfl, hb⟩
  have hx5 : Below x4.heap.size x4 x5 := hb
  refine hKA _ _ ?_
  clear hKA KA hb
  try simp only [Act.put, List.getElem_toArray, List.getElem_cons_succ, List.getElem_cons_zero, List.setIfInBounds_toArray, List.set_cons_succ, List.set_cons_zero]
  refine wpAnyC_one 12 (carry2.out _ hx5) rfl (by kernel_rfl) (wanted_at true rfl rfl rfl rfl) (fun KA hKA => ?_)
  go_simp
  refine (HT.out _).mono ?_
  rintro e x6 ⟨rfl, hb⟩
  have hx6 : Below x4.heap.size x4 x6 := hx5.trans (hb.mono hx5.size)
  refine hKA _ _ ?_
  clear hKA KA hb
  try simp only [Act.put, List.getElem_toArray, List.getElem_cons_succ, List.getElem_cons_zero, List.setIfInBounds_toArray, List.set_cons_succ, List.set_cons_zero]
  refine wpAnyC_take 13 (.bool true) rfl (by kernel_rfl) (by kernel_rfl) (by kernel_rfl) (fun _ _ _ h => h) (wanted_at true rfl rfl rfl rfl) (fun W hW => by go_simp) ?_
  simp only [Act.put, List.getElem_toArray, List.getElem_cons_succ, List.getElem_cons_zero, List.setIfInBounds_toArray, List.set_cons_succ, List.set_cons_zero]
  refine wpAnyC_take 14 (.bool true) rfl (by kernel_rfl) (by kernel_rfl) (by kernel_rfl) (fun _ _ _ h => h) (wanted_free rfl _) (fun W hW => by go_simp) ?_
  simp only [Act.put, List.getElem_toArray, List.getElem_cons_succ, List.getElem_cons_zero, List.setIfInBounds_toArray, List.set_cons_succ, List.set_cons_zero]
  refine wpAnyC_take 15 (.bool true) rfl (by kernel_rfl) (by kernel_rfl) (by kernel_rfl) (fun _ _ _ h => h) (wanted_free rfl _) (fun W hW => by go_simp) ?_
  simp only [Act.put, List.getElem_toArray, List.getElem_cons_succ, List.getElem_cons_zero, List.setIfInBounds_toArray, List.set_cons_succ, List.set_cons_zero]
  refine wpAnyC_take 16 (vP) rfl (by kernel_rfl) (by kernel_rfl) (by kernel_rfl) (fun _ _ _ h => h) (wanted_at true rfl rfl rfl rfl) (fun W hW => by go_simp) ?_
  simp only [Act.put, List.getElem_toArray, List.getElem_cons_succ, List.getElem_cons_zero, List.setIfInBounds_toArray, List.set_cons_succ, List.set_cons_zero]
  refine wpAnyC_take 17 (.string SP) rfl (by kernel_rfl) (by kernel_rfl) (by kernel_rfl) (fun _ _ _ h => h) (wanted_at true rfl rfl rfl rfl) (fun W hW => by exact (by have := HC.out W _ hW.1.2.2.2.2.2; go_simp)) ?_
  simp only [Act.put, List.getElem_toArray, List.getElem_cons_succ, List.getElem_cons_zero, List.setIfInBounds_toArray, List.set_cons_succ, List.set_cons_zero]
  refine wpAnyC_take 18 (.string SP) rfl (by kernel_rfl) (by kernel_rfl) (by kernel_rfl) (fun _ _ _ h => h) (wanted_at true rfl rfl rfl rfl) (fun W hW => by go_simp) ?_
  simp only [Act.put, List.getElem_toArray, List.getElem_cons_succ, List.getElem_cons_zero, List.setIfInBounds_toArray, List.set_cons_succ, List.set_cons_zero]
  refine wpAnyC_take 19 (.bool true) rfl (by kernel_rfl) (by kernel_rfl) (by kernel_rfl) (fun _ _ _ h => h) (wanted_at true rfl rfl rfl rfl) (fun W hW => by go_simp) ?_
  simp only [Act.put, List.getElem_toArray, List.getElem_cons_succ, List.getElem_cons_zero, List.setIfInBounds_toArray, List.set_cons_succ, List.set_cons_zero]
  refine wpAnyC_take 20 (.bool true) rfl (by kernel_rfl) (by kernel_rfl) (by kernel_rfl) (fun _ _ _ h => h) (wanted_free rfl _) (fun W hW => by go_simp) ?_
  simp only [Act.put, List.getElem_toArray, List.getElem_cons_succ, List.getElem_cons_zero, List.setIfInBounds_toArray, List.set_cons_succ, List.set_cons_zero]
  refine wpAnyC_take 21 (.bool true) rfl (by kernel_rfl) (by kernel_rfl) (by kernel_rfl) (fun _ _ _ h => h) (wanted_free rfl _) (fun W hW => by go_simp) ?_
  simp only [Act.put, List.getElem_toArray, List.getElem_cons_succ, List.getElem_cons_zero, List.setIfInBounds_toArray, List.set_cons_succ, List.set_cons_zero]
  refine wpAnyC_take 22 (.bool ok) rfl (by kernel_rfl) (by kernel_rfl) (by kernel_rfl) (fun _ _ _ h => h) (wanted_at true rfl rfl rfl rfl) (fun W hW => by go_simp) ?_
  simp only [Act.put, List.getElem_toArray, List.getElem_cons_succ, List.getElem_cons_zero, List.setIfInBounds_toArray, List.set_cons_succ, List.set_cons_zero]
  refine wpAnyC_take 23 (.bool ok) rfl (by kernel_rfl) (by kernel_rfl) (by kernel_rfl) (fun _ _ _ h => h) (wanted_at true rfl rfl rfl rfl) (fun W hW => by go_simp) ?_
  simp only [Act.put, List.getElem_toArray, List.getElem_cons_succ, List.getElem_cons_zero, List.setIfInBounds_toArray, List.set_cons_succ, List.set_cons_zero]
  refine wpAnyC_take 24 (.bool true) rfl (by kernel_rfl) (by kernel_rfl) (by kernel_rfl) (fun _ _ _ h => h) (wanted_at true rfl rfl rfl rfl) (fun W hW => by go_simp) ?_
  simp only [Act.put, List.getElem_toArray, List.getElem_cons_succ, List.getElem_cons_zero, List.setIfInBounds_toArray, List.set_cons_succ, List.set_cons_zero]
  refine wpAnyC_take 25 (.bool true) rfl (by kernel_rfl) (by kernel_rfl) (by kernel_rfl) (fun _ _ _ h => h) (wanted_free rfl _) (fun W hW => by go_simp) ?_
  simp only [Act.put, List.getElem_toArray, List.getElem_cons_succ, List.getElem_cons_zero, List.setIfInBounds_toArray, List.set_cons_succ, List.set_cons_zero]
  refine wpAnyC_take 26 (.bool true) rfl (by kernel_rfl) (by kernel_rfl) (by kernel_rfl) (fun _ _ _ h => h) (wanted_free rfl _) (fun W hW => by go_simp) ?_
  simp only [Act.put, List.getElem_toArray, List.getElem_cons_succ, List.getElem_cons_zero, List.setIfInBounds_toArray, List.set_cons_succ, List.set_cons_zero]
  refine wpAnyC_done (carry2.out _ hx6) (by kernel_rfl) ?_
  have hBF : Kpt (Below w.heap.size w x6) := ⟨(hB4.out.trans (hx4.mono hB4.out.size)).trans (hx6.mono (Nat.le_trans hB4.out.size hx4.size))⟩
  clear carry carry2 hx1 hx2 hx3 hx4 hx5 hx6 hrS
  go_wp2_with fail
  go_ret
  exact ⟨rfl, hBF.out⟩

theorem pages_any (i : In) (p : Int) (w : World) (hi : i.wf) : Calls Try.prog 3 #[.agg i.vals, .int .u8 p] w fun e w' => e = .returned (.bool true) ∧ Below w.heap.size w w' := by
  cases hf : i.form
  · exact pages_go i p w hi false false [] [] (fun W => by have := form_any i W hi; rw [hf] at this; exact this) (fun W => by have := rform_any i W hi; rw [hf] at this; exact this)
      (fun W => (page_bad i p W hi hf).mono (fun e w' ⟨h1, h2⟩ => ⟨_, h1, rd_nil w', h2⟩)) (fun W => rpage_bad i p W hi hf)
      (fun W => (std_bad i W hi hf).mono (fun e w' ⟨h1, h2⟩ => ⟨_, h1, rd_nil w', h2⟩)) (fun W => rstd_bad i W hi hf)
  · by_cases hp : isVit p
    · exact pages_go i p w hi true true (pageL i p) (stdL i) (fun W => by have := form_any i W hi; rw [hf] at this; exact this) (fun W => by have := rform_any i W hi; rw [hf] at this; exact this)
        (fun W => (page_some i p W hi hf hp).mono (fun e w' ⟨g, k, h1, h2, h3⟩ => ⟨_, h1, own_rd h2, h3⟩)) (fun W => rpage_some i p W hi hf hp)
        (fun W => (std_some i W hi hf).mono (fun e w' ⟨g, k, h1, h2, h3⟩ => ⟨_, h1, own_rd h2, h3⟩)) (fun W => rstd_some i W hi hf)
    · exact pages_go i p w hi true false [] (stdL i) (fun W => by have := form_any i W hi; rw [hf] at this; exact this) (fun W => by have := rform_any i W hi; rw [hf] at this; exact this)
        (fun W => (page_no i p W hi hf hp).mono (fun e w' ⟨h1, h2⟩ => ⟨_, h1, rd_nil w', h2⟩)) (fun W => rpage_no i p W hi hf hp)
        (fun W => (std_some i W hi hf).mono (fun e w' ⟨g, k, h1, h2, h3⟩ => ⟨_, h1, own_rd h2, h3⟩)) (fun W => rstd_some i W hi hf)
end Go.Proofs.Yteoaadpilaljnaa
