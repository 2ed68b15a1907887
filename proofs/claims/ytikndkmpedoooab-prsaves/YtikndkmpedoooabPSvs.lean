/-
  PrSaves.
-/
import Derived.Test.YtikndkmpedoooabPPlay
import Derived.Test.YtikndkmpedoooabPSavA
import Derived.Test.YtikndkmpedoooabPBack
namespace Go.Proofs.Ytikndkmpedoooab
open Go.RowKit
set_option linter.unusedVariables false
set_option linter.unusedSimpArgs false
theorem load_back (t : Tb) (hg : t.good) (hm : 0 < t.regs.length) (g n c : Nat) (w : World) (hn : t.save.length = n) (hR : B.RowAt w (some ⟨g, 0, none⟩) n t.save) (hgl : g < w.heap.size) (hc : n ≤ c ∧ c ≤ maxLen) :
    Calls Try.prog 14 #[.slice (some ⟨g, 0, none⟩) n c] w fun e w' => ∃ B, e = .returned (.tuple #[.pointer (some ⟨B, 0, none⟩), .int .i64 0]) ∧ w.heap.size ≤ B ∧ Tab w' B t.again ∧ Below w.heap.size w w' := by
  obtain ⟨h1, h2, h3, h4, h5, ⟨z, h6⟩, h7⟩ := load_save t hg
  have hlen := save_len t
  have hld := load_of_save t hg
  have hn' : n = 5 + 9 * t.regs.length := by omega
  subst hn'
  rw [hn] at h1 hld
  have hrd : Rd w (some ⟨g, 0, none⟩) (5 + 9 * t.regs.length) c t.save := ⟨hR, save_bytes t hg, hc⟩
  refine (load_some g 0 t.regs.length c t.save w hrd hgl h1 h2 (by omega) (keyF t.regs) z (by rw [h5]; exact h6)).mono fun e w' ⟨hb, hl⟩ => ?_
  rw [hld] at hl
  obtain ⟨B, e1, e2, e3⟩ := hl
  exact ⟨B, e1, e2, e3, hb⟩
theorem load_zero (a : Option Addr) (c : Nat) (w : World) : Calls Try.prog 14 #[.slice a 0 c] w fun e w' => ∃ B, e = .returned (.tuple #[.pointer (some ⟨B, 0, none⟩), .int .i64 0]) ∧ w.heap.size ≤ B ∧ Tab w' B zeroT ∧ Below w.heap.size w w' :=
  (load_nil a c [] w).mono fun e w' ⟨hb, B, e1, e2, e3⟩ => ⟨B, e1, e2, e3, hb⟩
end Go.Proofs.Ytikndkmpedoooab

namespace Go.Proofs.Ytikndkmpedoooab.prSaves
open Go.Proofs.Ytikndkmpedoooab
open Go.RowKit
set_option linter.unusedVariables false
set_option linter.unusedSimpArgs false

theorem five_pos (t : Tb) (p : Bool) : 0 < (t.doT 5 ⟨6, 0, 0, 77, p⟩).regs.length := by
  have h := ign_T t 5 77 p (by omega) (by omega)
  have h' : t.doT 5 ⟨6, 0, 0, 77, p⟩ = { t with ks := upd t.ks 5 77, gn := (t.gn + 1) % 4294967296, la := p } := h
  rw [h']
  exact List.length_pos_of_mem ((regs_mem _ (5, 77)).2 ⟨5, by omega, by simp [upd], by simp [upd]⟩)
theorem five_la (t : Tb) (p : Bool) : (t.doT 5 ⟨6, 0, 0, 77, p⟩).la = p := by
  have h := ign_T t 5 77 p (by omega) (by omega)
  have h' : t.doT 5 ⟨6, 0, 0, 77, p⟩ = { t with ks := upd t.ks 5 77, gn := (t.gn + 1) % 4294967296, la := p } := h
  rw [h']
theorem zero_regs : zeroT.regs = [] := by simp [Tb.regs, zeroT, regsTo]

set_option maxRecDepth 100000 in
set_option maxHeartbeats 4000000 in
theorem svs_none (a0 : Option Addr) (l0 c0 : Nat) (w : World) (hA : Acts w a0 l0) :
    Calls Try.prog 4 #[.slice a0 l0 c0, .bool false] w fun e w' => e = .returned (.bool true) ∧ Below w.heap.size w w' := by
  replace hA := Kpt.mk hA
  go_enter Try.func4, Try.ntmps4
  go_wp2_with fail
  refine (awake_any _).mono ?_
  rintro e w1 ⟨rfl, hb1⟩
  replace hb1 := Kpt.mk hb1
  go_wp2_with fail
  refine (play_any a0 l0 c0 w w1 hA.out hb1.out).mono ?_
  rintro e w2 ⟨B, t, rfl, hS⟩
  replace hS := Kpt.mk hS
  clear hA hb1
  go_wp2_with fail
  refine (ss_do hS.out 5 ⟨6, 0, 0, 77, false⟩ (by simp)).mono ?_
  rintro e w3 ⟨v3, rfl, _, hS3, _⟩
  have hla := Kpt.mk (five_la t false)
  replace hS3 := Kpt.mk hS3
  clear hS
  generalize t.doT 5 ⟨6, 0, 0, 77, false⟩ = T at *
  generalize t.doR 5 ⟨6, 0, 0, 77, false⟩ = R5
  go_wp2_with fail
  refine (save_none B T w3 hS3.out.tab hla.out).mono ?_
  rintro e w3 ⟨rfl, rfl⟩
  go_wp2_with fail
  refine (load_zero none 0 w3).mono ?_
  rintro e w4 ⟨C, rfl, hC, hTC, hb4⟩
  have hS4 := Kpt.mk (hS3.out.below hb4)
  replace hTC := Kpt.mk hTC
  clear hb4 hS3
  go_wp2_with fail
  refine (lasts_any B T w4 hS4.out.tab).mono ?_
  rw [hla.out]
  rintro e w4 ⟨rfl, rfl⟩
  go_wp2_with fail
  refine (regs_any C zeroT w4 hTC.out).mono ?_
  rw [zero_regs]
  rintro e w5 ⟨v5, rfl, hO5, hb5⟩
  obtain ⟨a5, c5, hv5⟩ := own_len hO5
  subst hv5
  have hS5 := Kpt.mk (hS4.out.below hb5)
  clear hO5 hb5 hS4 hTC
  dsimp only [List.length_nil]
  go_wp2
  go_ret
  exact ⟨rfl, hS5.out.bel⟩

set_option maxRecDepth 100000 in
set_option maxHeartbeats 8000000 in
theorem svs_last (a0 : Option Addr) (l0 c0 : Nat) (w : World) (hA : Acts w a0 l0) :
    Calls Try.prog 4 #[.slice a0 l0 c0, .bool true] w fun e w' => e = .returned (.bool true) ∧ Below w.heap.size w w' := by
  replace hA := Kpt.mk hA
  go_enter Try.func4, Try.ntmps4
  go_wp2_with fail
  refine (awake_any _).mono ?_
  rintro e w1 ⟨rfl, hb1⟩
  replace hb1 := Kpt.mk hb1
  go_wp2_with fail
  refine (play_any a0 l0 c0 w w1 hA.out hb1.out).mono ?_
  rintro e w2 ⟨B, t, rfl, hS⟩
  replace hS := Kpt.mk hS
  clear hA hb1
  go_wp2_with fail
  refine (ss_do hS.out 5 ⟨6, 0, 0, 77, true⟩ (by simp)).mono ?_
  rintro e w3 ⟨v3, rfl, _, hS3, _⟩
  have hla := Kpt.mk (five_la t true)
  have hpos := Kpt.mk (five_pos t true)
  replace hS3 := Kpt.mk hS3
  clear hS
  generalize t.doT 5 ⟨6, 0, 0, 77, true⟩ = T at *
  generalize t.doR 5 ⟨6, 0, 0, 77, true⟩ = R5
  have hsv : Kpt (T.saved = T.save) := ⟨by unfold Tb.saved; rw [hla.out]; rfl⟩
  go_wp2_with fail
  refine (save_any B T w3 hS3.out.tab hS3.out.good).mono ?_
  rintro e w4 ⟨a4, n4, c4, rfl, hn4, hR4, hb4, hn4b, hc4, hg4⟩
  obtain ⟨g4, rfl, _⟩ := hg4 hla.out
  rw [hsv.out] at hn4 hR4
  have hS4 := Kpt.mk (hS3.out.below hb4)
  have hg4l : g4 < w4.heap.size := by
    rcases hR4 with e | ⟨b, off, e, hcell⟩
    · rw [save_len] at hn4; omega
    · cases e
      exact World.block_lt_of_cell? w4 ⟨g4, 0 + 0, none⟩ (hcell 0 (by rw [save_len] at hn4; omega))
  have HLd := Kpt.mk (load_back T hS4.out.good hpos.out g4 n4 c4 w4 hn4 hR4 hg4l hc4)
  replace hR4 := Kpt.mk hR4
  clear hS3 hb4 hg4
  go_wp2_with fail
  refine HLd.out.mono ?_
  rintro e w5 ⟨C, rfl, hC, hTC, hb5⟩
  have hS5 := Kpt.mk (hS4.out.below hb5)
  have hR5 : Kpt (Go.Proofs.Ytikndkmpedoooab.B.RowAt w5 (some ⟨g4, 0, none⟩) n4 T.save) := ⟨hR4.out.below hb5⟩
  replace hTC := Kpt.mk hTC
  clear hb5 hS4 HLd hR4
  go_wp2_with fail
  refine (lasts_any B T w5 hS5.out.tab).mono ?_
  rw [hla.out]
  rintro e w5 ⟨rfl, rfl⟩
  go_wp2_with fail
  refine (reserved_any B T w5 hS5.out.tab).mono ?_
  rintro e w6 ⟨rfl, q6, hq6⟩
  have hb6 : Below w5.heap.size w5 w6 := by rw [hq6]; exact below_drewN (Below.refl _ _) q6
  have hS6 := Kpt.mk (hS5.out.below hb6)
  have hTC6 := Kpt.mk (hTC.out.below' hb6)
  have hR6 : Kpt (Go.Proofs.Ytikndkmpedoooab.B.RowAt w6 (some ⟨g4, 0, none⟩) n4 T.save) := ⟨hR5.out.below hb6⟩
  clear hb6 hq6 hS5 hTC hR5
  dsimp only
  go_wp2_with fail
  refine (reserved_any C T.again w6 hTC6.out).mono ?_
  rw [again_res T hS6.out.good]
  rintro e w7 ⟨rfl, q7, hq7⟩
  have hb7 : Below w6.heap.size w6 w7 := by rw [hq7]; exact below_drewN (Below.refl _ _) q7
  have hS7 := Kpt.mk (hS6.out.below hb7)
  have hTC7 := Kpt.mk (hTC6.out.below' hb7)
  have hR7 : Kpt (Go.Proofs.Ytikndkmpedoooab.B.RowAt w7 (some ⟨g4, 0, none⟩) n4 T.save) := ⟨hR6.out.below hb7⟩
  clear hb7 hq7 hS6 hTC6 hR6
  have hgd := Kpt.mk hS7.out.good
  have hgC := Kpt.mk (again_good T hgd.out)
  have hsvC : Kpt (T.again.saved = T.save) := ⟨by unfold Tb.saved; rw [show T.again.la = true from rfl, if_pos rfl, again_save T hgd.out]⟩
  have hrl := Kpt.mk (congrArg List.length (again_regs T))
  have hCV : Kpt (∀ W, Below w7.heap.size w7 W → (convert 24 9 (.slice (some ⟨g4, 0, none⟩) n4 c4)).run Try.prog W = .ok (.string (strOfNums T.save)) W) := ⟨fun W hW => Go.Proofs.Ytikndkmpedoooab.B.conv_any W _ n4 c4 T.save hn4 (hR7.out.below hW)⟩
  have HH1 := Kpt.mk (again_holds T hgd.out)
  have HC1 := Kpt.mk (again_conf T hgd.out)
  generalize T.res.1 = r1 at *
  generalize T.res.2 = r2 at *
  dsimp only
  go_wp2_with fail
  refine wp_region_any (by kernel_rfl) ?_
  refine wpAny_of_C (C := fun W => Below w7.heap.size w7 W) _ _ _ _ ?_
  refine wpAnyC_take 0 (.pointer (some ⟨C, 0, none⟩)) rfl (by kernel_rfl) (by kernel_rfl) (by kernel_rfl) (fun _ _ _ h => h) (wanted_free rfl _) (fun W hW => by go_simp) ?_
  simp only [Act.put, List.getElem_toArray, List.getElem_cons_succ, List.getElem_cons_zero, List.setIfInBounds_toArray, List.set_cons_succ, List.set_cons_zero]
  refine wpAnyC_take 3 (.slice (some ⟨g4, 0, none⟩) n4 c4) rfl (by kernel_rfl) (by kernel_rfl) (by kernel_rfl) (fun _ _ _ h => h) (wanted_free rfl _) (fun W hW => by go_simp) ?_
  simp only [Act.put, List.getElem_toArray, List.getElem_cons_succ, List.getElem_cons_zero, List.setIfInBounds_toArray, List.set_cons_succ, List.set_cons_zero]
  refine wpAnyC_take 4 (.string (strOfNums T.save)) rfl (by kernel_rfl) (by kernel_rfl) (by kernel_rfl) (fun _ _ _ h => h) (wanted_free rfl _) (fun W hW => by have hcv := hCV.out W hW; go_simp) ?_
  simp only [Act.put, List.getElem_toArray, List.getElem_cons_succ, List.getElem_cons_zero, List.setIfInBounds_toArray, List.set_cons_succ, List.set_cons_zero]
  refine wpAnyC_one 1 (below_drewN (Below.refl _ _) 1) rfl (by kernel_rfl) (wanted_free rfl _) (fun KA hKA => ?_)
  go_simp
  refine (save_any C T.again _ hTC7.out.drew hgC.out).mono ?_
  rw [hsvC.out]
  rintro e w9 ⟨a9, n9, c9, rfl, hn9, hR9, hb9, _, _, _⟩
  have hb79 : Kpt (Below w7.heap.size w7 w9) := ⟨(below_drewN (Below.refl _ _) 1).trans hb9⟩
  have hCV9 : Kpt (∀ W, Below w9.heap.size w9 W → (convert 24 9 (.slice a9 n9 c9)).run Try.prog W = .ok (.string (strOfNums T.save)) W) := ⟨fun W hW => Go.Proofs.Ytikndkmpedoooab.B.conv_any W _ n9 c9 T.save hn9 (hR9.below hW)⟩
  clear hb9 hR9
  refine hKA _ _ ?_
  try simp only [Act.put, List.getElem_toArray, List.getElem_cons_succ, List.getElem_cons_zero, List.setIfInBounds_toArray, List.set_cons_succ, List.set_cons_zero]
  clear hKA KA
  refine wpAnyC_mono (C' := fun W => Below w9.heap.size w9 W) (fun W hW => hb79.out.trans (hW.mono hb79.out.size)) _ _ _ _ ?_
  refine wpAnyC_take 2 (.string (strOfNums T.save)) rfl (by kernel_rfl) (by kernel_rfl) (by kernel_rfl) (fun _ _ _ h => h) (wanted_free rfl _) (fun W hW => by have hcv := hCV9.out W hW; go_simp) ?_
  simp only [Act.put, List.getElem_toArray, List.getElem_cons_succ, List.getElem_cons_zero, List.setIfInBounds_toArray, List.set_cons_succ, List.set_cons_zero]
  generalize strOfNums T.save = STR at *
  refine wpAnyC_take 5 (.bool false) rfl (by kernel_rfl) (by kernel_rfl) (by kernel_rfl) (fun _ _ _ h => h) (wanted_free rfl _) (fun W hW => by go_simp) ?_
  simp only [Act.put, List.getElem_toArray, List.getElem_cons_succ, List.getElem_cons_zero, List.setIfInBounds_toArray, List.set_cons_succ, List.set_cons_zero]
  refine wpAnyC_take 6 (.bool false) rfl (by kernel_rfl) (by kernel_rfl) (by kernel_rfl) (fun _ _ _ h => h) (wanted_free rfl _) (fun W hW => by go_simp) ?_
  simp only [Act.put, List.getElem_toArray, List.getElem_cons_succ, List.getElem_cons_zero, List.setIfInBounds_toArray, List.set_cons_succ, List.set_cons_zero]
  refine wpAnyC_take 7 (.int .u8 r1) rfl (by kernel_rfl) (by kernel_rfl) (by kernel_rfl) (fun _ _ _ h => h) (wanted_at false rfl rfl rfl rfl) (fun W hW => by go_simp) ?_
  simp only [Act.put, List.getElem_toArray, List.getElem_cons_succ, List.getElem_cons_zero, List.setIfInBounds_toArray, List.set_cons_succ, List.set_cons_zero]
  refine wpAnyC_take 8 (.int .u8 r1) rfl (by kernel_rfl) (by kernel_rfl) (by kernel_rfl) (fun _ _ _ h => h) (wanted_at false rfl rfl rfl rfl) (fun W hW => by go_simp) ?_
  simp only [Act.put, List.getElem_toArray, List.getElem_cons_succ, List.getElem_cons_zero, List.setIfInBounds_toArray, List.set_cons_succ, List.set_cons_zero]
  refine wpAnyC_take 9 (.bool false) rfl (by kernel_rfl) (by kernel_rfl) (by kernel_rfl) (fun _ _ _ h => h) (wanted_at false rfl rfl rfl rfl) (fun W hW => by go_simp) ?_
  simp only [Act.put, List.getElem_toArray, List.getElem_cons_succ, List.getElem_cons_zero, List.setIfInBounds_toArray, List.set_cons_succ, List.set_cons_zero]
  refine wpAnyC_take 10 (.bool false) rfl (by kernel_rfl) (by kernel_rfl) (by kernel_rfl) (fun _ _ _ h => h) (wanted_free rfl _) (fun W hW => by go_simp) ?_
  simp only [Act.put, List.getElem_toArray, List.getElem_cons_succ, List.getElem_cons_zero, List.setIfInBounds_toArray, List.set_cons_succ, List.set_cons_zero]
  refine wpAnyC_take 11 (.bool false) rfl (by kernel_rfl) (by kernel_rfl) (by kernel_rfl) (fun _ _ _ h => h) (wanted_free rfl _) (fun W hW => by go_simp) ?_
  simp only [Act.put, List.getElem_toArray, List.getElem_cons_succ, List.getElem_cons_zero, List.setIfInBounds_toArray, List.set_cons_succ, List.set_cons_zero]
  refine wpAnyC_take 12 (.int .i64 r2) rfl (by kernel_rfl) (by kernel_rfl) (by kernel_rfl) (fun _ _ _ h => h) (wanted_at false rfl rfl rfl rfl) (fun W hW => by go_simp) ?_
  simp only [Act.put, List.getElem_toArray, List.getElem_cons_succ, List.getElem_cons_zero, List.setIfInBounds_toArray, List.set_cons_succ, List.set_cons_zero]
  refine wpAnyC_take 13 (.int .i64 r2) rfl (by kernel_rfl) (by kernel_rfl) (by kernel_rfl) (fun _ _ _ h => h) (wanted_at false rfl rfl rfl rfl) (fun W hW => by go_simp) ?_
  simp only [Act.put, List.getElem_toArray, List.getElem_cons_succ, List.getElem_cons_zero, List.setIfInBounds_toArray, List.set_cons_succ, List.set_cons_zero]
  refine wpAnyC_take 14 (.bool false) rfl (by kernel_rfl) (by kernel_rfl) (by kernel_rfl) (fun _ _ _ h => h) (wanted_at false rfl rfl rfl rfl) (fun W hW => by go_simp) ?_
  simp only [Act.put, List.getElem_toArray, List.getElem_cons_succ, List.getElem_cons_zero, List.setIfInBounds_toArray, List.set_cons_succ, List.set_cons_zero]
  refine wpAnyC_take 15 (.bool false) rfl (by kernel_rfl) (by kernel_rfl) (by kernel_rfl) (fun _ _ _ h => h) (wanted_free rfl _) (fun W hW => by go_simp) ?_
  simp only [Act.put, List.getElem_toArray, List.getElem_cons_succ, List.getElem_cons_zero, List.setIfInBounds_toArray, List.set_cons_succ, List.set_cons_zero]
  refine wpAnyC_take 16 (.bool false) rfl (by kernel_rfl) (by kernel_rfl) (by kernel_rfl) (fun _ _ _ h => h) (wanted_free rfl _) (fun W hW => by go_simp) ?_
  simp only [Act.put, List.getElem_toArray, List.getElem_cons_succ, List.getElem_cons_zero, List.setIfInBounds_toArray, List.set_cons_succ, List.set_cons_zero]
  refine wpAnyC_take 17 (.pointer (some ⟨C, 0, none⟩)) rfl (by kernel_rfl) (by kernel_rfl) (by kernel_rfl) (fun _ _ _ h => h) (wanted_at false rfl rfl rfl rfl) (fun W hW => by go_simp) ?_
  simp only [Act.put, List.getElem_toArray, List.getElem_cons_succ, List.getElem_cons_zero, List.setIfInBounds_toArray, List.set_cons_succ, List.set_cons_zero]
  have hS9 := Kpt.mk (hS7.out.below hb79.out)
  have hTC9 := Kpt.mk (hTC7.out.below' hb79.out)
  refine wpAnyC_one 18 (Below.refl _ _) rfl (by kernel_rfl) (wanted_at false rfl rfl rfl rfl) (fun KA hKA => ?_)
  go_simp
  refine (lasts_any C T.again w9 hTC9.out).mono ?_
  rw [show T.again.la = true from rfl]
  rintro e w9 ⟨rfl, rfl⟩
  refine hKA _ _ ?_
  try simp only [Act.put, List.getElem_toArray, List.getElem_cons_succ, List.getElem_cons_zero, List.setIfInBounds_toArray, List.set_cons_succ, List.set_cons_zero]
  clear hKA KA
  refine wpAnyC_take 19 (.bool false) rfl (by kernel_rfl) (by kernel_rfl) (by kernel_rfl) (fun _ _ _ h => h) (wanted_at false rfl rfl rfl rfl) (fun W hW => by go_simp) ?_
  simp only [Act.put, List.getElem_toArray, List.getElem_cons_succ, List.getElem_cons_zero, List.setIfInBounds_toArray, List.set_cons_succ, List.set_cons_zero]
  refine wpAnyC_take 20 (.bool false) rfl (by kernel_rfl) (by kernel_rfl) (by kernel_rfl) (fun _ _ _ h => h) (wanted_free rfl _) (fun W hW => by go_simp) ?_
  simp only [Act.put, List.getElem_toArray, List.getElem_cons_succ, List.getElem_cons_zero, List.setIfInBounds_toArray, List.set_cons_succ, List.set_cons_zero]
  refine wpAnyC_take 21 (.bool false) rfl (by kernel_rfl) (by kernel_rfl) (by kernel_rfl) (fun _ _ _ h => h) (wanted_free rfl _) (fun W hW => by go_simp) ?_
  simp only [Act.put, List.getElem_toArray, List.getElem_cons_succ, List.getElem_cons_zero, List.setIfInBounds_toArray, List.set_cons_succ, List.set_cons_zero]
  refine wpAnyC_take 22 (.pointer (some ⟨C, 0, none⟩)) rfl (by kernel_rfl) (by kernel_rfl) (by kernel_rfl) (fun _ _ _ h => h) (wanted_at false rfl rfl rfl rfl) (fun W hW => by go_simp) ?_
  simp only [Act.put, List.getElem_toArray, List.getElem_cons_succ, List.getElem_cons_zero, List.setIfInBounds_toArray, List.set_cons_succ, List.set_cons_zero]
  refine wpAnyC_take 25 (.pointer (some ⟨B, 0, none⟩)) rfl (by kernel_rfl) (by kernel_rfl) (by kernel_rfl) (fun _ _ _ h => h) (wanted_at false rfl rfl rfl rfl) (fun W hW => by go_simp) ?_
  simp only [Act.put, List.getElem_toArray, List.getElem_cons_succ, List.getElem_cons_zero, List.setIfInBounds_toArray, List.set_cons_succ, List.set_cons_zero]
  refine wpAnyC_one 23 (Below.refl _ _) rfl (by kernel_rfl) (wanted_at false rfl rfl rfl rfl) (fun KA hKA => ?_)
  go_simp
  refine (regs_any C T.again w9 hTC9.out).mono ?_
  rintro e w10 ⟨v10, rfl, hO10, hb10⟩
  obtain ⟨a10, c10, hv10⟩ := own_len hO10
  subst hv10
  rw [hrl.out]
  replace hb10 := Kpt.mk hb10
  clear hO10
  refine hKA _ _ ?_
  try simp only [Act.put, List.getElem_toArray, List.getElem_cons_succ, List.getElem_cons_zero, List.setIfInBounds_toArray, List.set_cons_succ, List.set_cons_zero]
  clear hKA KA
  refine wpAnyC_take 24 (.int .i64 (T.regs.length : Int)) rfl (by kernel_rfl) (by kernel_rfl) (by kernel_rfl) (fun _ _ _ h => h) (wanted_at false rfl rfl rfl rfl) (fun W hW => by go_simp) ?_
  simp only [Act.put, List.getElem_toArray, List.getElem_cons_succ, List.getElem_cons_zero, List.setIfInBounds_toArray, List.set_cons_succ, List.set_cons_zero]
  refine wpAnyC_one 26 hb10.out rfl (by kernel_rfl) (wanted_at false rfl rfl rfl rfl) (fun KA hKA => ?_)
  go_simp
  refine (regs_any B T w10 (hS9.out.tab.below' hb10.out)).mono ?_
  rintro e w11 ⟨v11, rfl, hO11, hb11⟩
  obtain ⟨a11, c11, hv11⟩ := own_len hO11
  subst hv11
  have hb911 : Kpt (Below w9.heap.size w9 w11) := ⟨hb10.out.trans (hb11.mono hb10.out.size)⟩
  clear hO11
  refine hKA _ _ ?_
  try simp only [Act.put, List.getElem_toArray, List.getElem_cons_succ, List.getElem_cons_zero, List.setIfInBounds_toArray, List.set_cons_succ, List.set_cons_zero]
  clear hKA KA
  refine wpAnyC_take 27 (.int .i64 (T.regs.length : Int)) rfl (by kernel_rfl) (by kernel_rfl) (by kernel_rfl) (fun _ _ _ h => h) (wanted_at false rfl rfl rfl rfl) (fun W hW => by go_simp) ?_
  simp only [Act.put, List.getElem_toArray, List.getElem_cons_succ, List.getElem_cons_zero, List.setIfInBounds_toArray, List.set_cons_succ, List.set_cons_zero]
  refine wpAnyC_take 28 (.bool false) rfl (by kernel_rfl) (by kernel_rfl) (by kernel_rfl) (fun _ _ _ h => h) (wanted_at false rfl rfl rfl rfl) (fun W hW => by go_simp) ?_
  simp only [Act.put, List.getElem_toArray, List.getElem_cons_succ, List.getElem_cons_zero, List.setIfInBounds_toArray, List.set_cons_succ, List.set_cons_zero]
  refine wpAnyC_take 29 (.bool false) rfl (by kernel_rfl) (by kernel_rfl) (by kernel_rfl) (fun _ _ _ h => h) (wanted_free rfl _) (fun W hW => by go_simp) ?_
  simp only [Act.put, List.getElem_toArray, List.getElem_cons_succ, List.getElem_cons_zero, List.setIfInBounds_toArray, List.set_cons_succ, List.set_cons_zero]
  refine wpAnyC_done hb911.out (by kernel_rfl) ?_
  have hbel := Kpt.mk (hS9.out.below hb911.out).bel
  have hTB := Kpt.mk (hS9.out.below hb911.out).tab
  have hTC11 := Kpt.mk (hTC9.out.below' hb911.out)
  have GH : Kpt (∀ n : Nat, Calls Try.prog 8 #[.pointer (some ⟨B, 0, none⟩), .int .i64 n] w11 fun e w' => e = .returned (.bool (T.holds n)) ∧ w' = w11) := ⟨fun n => holds_any B T n w11 hTB.out⟩
  have GH' : Kpt (∀ n : Nat, Calls Try.prog 8 #[.pointer (some ⟨C, 0, none⟩), .int .i64 n] w11 fun e w' => e = .returned (.bool (T.holds n)) ∧ w' = w11) := ⟨fun n => by have := holds_any C T.again n w11 hTC11.out; rw [HH1.out] at this; exact this⟩
  have GC : Kpt (∀ (n : Nat) (c : Int), Calls Try.prog 11 #[.pointer (some ⟨B, 0, none⟩), .int .i64 n, .int .u8 c] w11 fun e w' => e = .returned (.bool (T.conf n c)) ∧ w' = w11) := ⟨fun n c => conflict_any B T n c w11 hTB.out⟩
  have GC' : Kpt (∀ (n : Nat) (c : Int), Calls Try.prog 11 #[.pointer (some ⟨C, 0, none⟩), .int .i64 n, .int .u8 c] w11 fun e w' => e = .returned (.bool (T.conf n c)) ∧ w' = w11) := ⟨fun n c => by have := conflict_any C T.again n c w11 hTC11.out; rw [HC1.out] at this; exact this⟩
  clear hTB hTC11 hS9 hTC9 hb911 hb10 hCV9 hCV hS7 hTC7 hR7 hgd hgC hsvC hrl HH1 HC1 hb79
  go_wp2_with fail
  go_loopw [13] (fun r wq => ∃ k : Nat, k ≤ 8 ∧ r = .int .i64 k ∧ Kpt (wq = w11)) (fun r _ => 8 - (intOf r).toNat)
  case atStart => exact ⟨0, by omega, rfl, ⟨rfl⟩⟩
  case round =>
    obtain ⟨k, hk8, rfl, hw⟩ := hrel
    have := hw.out
    subst this
    by_cases hlt : k < 8
    · have e1 : (k : Int) < 8 := by omega
      have g1 := Kpt.mk (GH.out k)
      have g2 := Kpt.mk (GH'.out k)
      have g3 := Kpt.mk (GC.out k 1)
      have g4 := Kpt.mk (GC'.out k 1)
      have g5 := Kpt.mk (GC.out k 2)
      have g6 := Kpt.mk (GC'.out k 2)
      generalize T.holds k = x1 at *
      generalize T.conf k 1 = x2 at *
      generalize T.conf k 2 = x3 at *
      clear GH GH' GC GC'
      go_wp2_with fail
      refine g1.out.mono ?_
      rintro e wr ⟨rfl, rfl⟩
      go_wp2_with fail
      refine g2.out.mono ?_
      rintro e wr ⟨rfl, rfl⟩
      go_wp2_with fail
      refine g3.out.mono ?_
      rintro e wr ⟨rfl, rfl⟩
      go_wp2_with fail
      refine g4.out.mono ?_
      rintro e wr ⟨rfl, rfl⟩
      go_wp2_with fail
      refine g5.out.mono ?_
      rintro e wr ⟨rfl, rfl⟩
      go_wp2_with fail
      refine g6.out.mono ?_
      rintro e wr ⟨rfl, rfl⟩
      go_wp2
      go_roundw
      case rel => exact ⟨k + 1, by omega, by go_num, by first | exact ⟨rfl⟩ | exact ⟨trivial⟩⟩
      case measure => simp [intOf]; omega
    · have e1 : ¬ (k : Int) < 8 := by omega
      go_wp2
      go_ret
      exact ⟨rfl, hbel.out⟩
end Go.Proofs.Ytikndkmpedoooab.prSaves
