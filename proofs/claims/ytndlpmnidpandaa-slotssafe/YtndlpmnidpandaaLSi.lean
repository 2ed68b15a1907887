/-
  Slots: the walk of SlotsSafe.
-/
import Derived.Test.YtndlpmnidpandaaLSh1
import Derived.Deep.Matrix
import Derived.Deep.Grids
namespace Go.Proofs.Ytndlpmnidpandaa
open Go.RowKit
set_option linter.unusedVariables false
set_option linter.unusedSimpArgs false

theorem wpAnyC_mono {P : Program} {md : Region.Mode} {ops : Array Oper} {C C' : World → Prop} {Q : Exit → Act → World → Prop} (hC : ∀ w, C' w → C w) : ∀ (fuel : Nat) (listed : Array Bool) (a : Act) (w : World), wpAnyC P md ops C' Q fuel listed a w → wpAnyC P md ops C Q fuel listed a w
  | 0, _, _, _, h => ⟨hC _ h.1, h.2⟩
  | fuel + 1, _, _, _, h => ⟨hC _ h.1, h.2.1, fun i hi => wpOp_mono (fun a' w' h' => wpAnyC_mono hC fuel _ a' w' h') (h.2.2 i hi)⟩
theorem sf_start {w w3 w4 : World} {B S FB stp : Nat} {tag : Tags} {P : Nat → List Int} (hw : Wd w3 B tag (plSt st0 stp)) (hS : Sl w3 S B tag KK false 0 0) (hb : Below w.heap.size w w3) (ht : ∀ i, i < w.heap.size → tag i = none) (hSl : w.heap.size ≤ S) (hl : w3.heap.size ≤ FB)
    (hX : Bx w4 FB #[.slice none 0 0, .slice none 0 0]) (hB : Below w3.heap.size w3 w4) : Sf w w4 B S FB 0 P stp tag (plSt st0 stp) 0 0 [] none 0 0 none 0 0 where
  wd := hw.below hB
  sl := hS.below hB
  run := ⟨hold_st0 KK, fun s zs h => by simp [plSt, st0] at h, rfl, fun _ => rfl, rfl, rfl, rfl, rfl, fun s zs h => by simp [plSt, st0] at h, by simp [plSt, st0]⟩
  cnt := by simp [plSt, st0]
  ahead := by simp
  knows := ⟨by simp⟩
  pay := fun h => by omega
  tags := ht
  tF := wd_none hw hl
  bx := hX
  r0 := rd_nil _
  r1 := rd_nil _
  s0 := fun h => absurd rfl h
  s1 := fun h => absurd rfl h
  below := hb.trans (hB.mono hb.size)
  lo := hSl
  loF := Nat.le_trans hb.size hl
  ne := by have := hS.bx.lt; omega

set_option maxRecDepth 100000 in
set_option maxHeartbeats 40000000 in
theorem safe_walk (a0 : Option Addr) (n0 c0 : Nat) (P : Nat → List Int) (stp kp ct : Nat) (w : World) (hP : PiecesAt w (.slice a0 n0 c0) n0 P) (l0 : n0 ≤ maxLen) (hst : stp < 256) (hkp : kp < 256) (hct : ct < 256) :
    Calls Try.prog 4 #[.slice a0 n0 c0, .int .u8 stp, .int .u8 kp, .int .u8 ct] w fun e w' => e = .returned (.bool true) ∧ Below w.heap.size w w' := by
  have HA := Kpt.mk (awake_any w)
  have HN : Kpt (∀ W, Below w.heap.size w W → Calls Try.prog 12 #[] W fun e w' => ∃ B tag, e = .returned (.pointer (some ⟨B, 0, none⟩)) ∧ Wd w' B tag st0 ∧ Below w.heap.size w w' ∧ (∀ i, i < w.heap.size → tag i = none)) := ⟨fun W hW => (new_any W).mono (fun e w' ⟨B, tag, h1, h2, h3, h4⟩ => ⟨B, tag, h1, h2, hW.trans (((Below.refl _ _).grown h3 (Nat.le_refl _) (fun k h => by cases h)).mono hW.size), fun i hi => h4 i (Nat.lt_of_lt_of_le hi hW.size)⟩)⟩
  have HO : Kpt (∀ W B tag st, Wd W B tag st → Below w.heap.size w W → Calls Try.prog 13 #[.pointer (some ⟨B, 0, none⟩), .string ⟨#[107]⟩] W fun e w' => ∃ S, e = .returned (.tuple #[.pointer (some ⟨S, 0, none⟩), .int .i64 0]) ∧ Wd w' B tag st ∧ Sl w' S B tag ⟨#[107]⟩ false 0 0 ∧ w.heap.size ≤ S ∧ Below w.heap.size w w') := ⟨fun W B tag st h hW => (open_h B ⟨#[107]⟩ tag st W h (by rw [size_k]; omega) (by rw [size_k]; omega)).mono (fun e w' ⟨S, h1, h2, h3, h4, h5⟩ => ⟨S, h1, h2, h3, Nat.le_trans hW.size h4, hW.trans (h5.mono hW.size)⟩)⟩
  have HPl : Kpt (∀ W B tag, Wd W B tag st0 → Below w.heap.size w W → (∀ i, i < w.heap.size → tag i = none) → ∀ S, Sl W S B tag KK false 0 0 → Calls Try.prog 14 #[.pointer (some ⟨B, 0, none⟩), .slice none 0 0, .int .i64 (stp : Int)] W fun e w' => e = .returned (.tuple #[]) ∧ ∃ tag', Wd w' B tag' (plSt st0 stp) ∧ Below w.heap.size w w' ∧ (∀ i, i < w.heap.size → tag' i = none) ∧ Sl w' S B tag' KK false 0 0) := ⟨fun W B tag h hW ht S hS => (plan_nil W B tag st0 h rfl stp).mono (fun e w' ⟨h1, tag', h2, h3⟩ => ⟨h1, tag', h2, hW.trans ((h3.sp w.heap.size).bel hW.size ht (Nat.le_refl _)), fun i hi => h3.bare i (Nat.lt_of_lt_of_le hi hW.size) (ht i hi), hS.step h3⟩)⟩
  unfold maxLen at l0
  obtain ⟨x0, y0, e0, hP⟩ := hP
  simp only [Value.slice.injEq, true_and] at e0
  obtain ⟨rfl, rfl⟩ := e0
  replace hP := Kpt.mk hP
  obtain ⟨km, hkm⟩ : ∃ km : Nat, km = kp % 4 := ⟨_, rfl⟩
  have tk : Int.tmod (kp : Int) 4 = (km : Int) := by rw [Int.tmod_eq_emod_of_nonneg (by omega)]; omega
  have tk2 : (kp : Int) % 4 = (km : Int) := by omega
  have hkml : km < 4 := by omega
  replace hkm := Kpt.mk hkm
  go_enter Try.func4, Try.ntmps4
  go_wp2_with fail
  refine HA.out.mono ?_
  rintro e w0 ⟨rfl, hb0⟩
  replace hb0 := Kpt.mk hb0
  go_wp2_with fail
  refine (HN.out _ hb0.out).mono ?_
  rintro e w1 ⟨B, tag1, rfl, hw1, hb1, ht1⟩
  replace hw1 := Kpt.mk hw1
  replace hb1 := Kpt.mk hb1
  replace ht1 := Kpt.mk ht1
  go_wp2_with fail
  refine (HO.out _ B tag1 st0 hw1.out hb1.out).mono ?_
  rintro e w2 ⟨S, rfl, hw2, hS2, hSl, hb2⟩
  replace hw2 := Kpt.mk hw2
  replace hS2 := Kpt.mk hS2
  replace hb2 := Kpt.mk hb2
  clear hw1 hb1 hb0 HA HN
  go_wp2_with fail
  refine (HPl.out _ B tag1 hw2.out hb2.out ht1.out S hS2.out).mono ?_
  rintro e w3 ⟨rfl, tag3, hw3, hb3, ht3, hS3⟩
  replace hw3 := Kpt.mk hw3
  replace hb3 := Kpt.mk hb3
  replace ht3 := Kpt.mk ht3
  replace hS3 := Kpt.mk hS3
  clear hw2 hS2 hb2 ht1 HPl
  have HCr : Kpt (∀ (k : Nat) W tag st, Wd W B tag st → Dn st P k n0 → Below w.heap.size w W → (∀ i, i < w.heap.size → tag i = none) → Calls Try.prog 18 #[.pointer (some ⟨B, 0, none⟩), .int .i64 (km : Int), .int .i64 (ct : Int)] W fun e w' => e = .returned (.tuple #[]) ∧ ∃ tag' st', Wd w' B tag' st' ∧ FinF st'.seen P k n0 ∧ (∀ x, st'.fails x = false) ∧ st'.cnt ≤ 10000 ∧ Below w.heap.size w w' ∧ (∀ i, i < w.heap.size → tag' i = none)) := ⟨fun k W tag st h hD hW ht => (crash_h W B tag st h P k n0 hD km ct (by omega) (by omega)).mono (fun e w' ⟨h1, tag', st', h2, h3, h4, h5, h6⟩ => ⟨h1, tag', st', h2, h3, h4, h5, hW.trans ((h6.sp w.heap.size).bel hW.size ht (Nat.le_refl _)), fun i hi => h6.bare i (Nat.lt_of_lt_of_le hi hW.size) (ht i hi)⟩)⟩
  go_wp2_with (refine wpList_var rfl 41 rfl #[.slice none 0 0, .slice none 0 0] zero41 ?_; intro FB w4 hlF hXF hBF; have L0 : Kpt (∃ tag st g nx p a0 m0 c0 a1 m1 c1, Sf w w4 B S FB 0 P stp tag st g nx p a0 m0 c0 a1 m1 c1) := ⟨⟨tag3, plSt st0 stp, 0, 0, [], none, 0, 0, none, 0, 0, sf_start hw3.out hS3.out hb3.out ht3.out hSl hlF hXF hBF⟩⟩; clear hw3 hS3 hb3 ht3 hXF hBF hlF)
  simp only [Act.put, List.getElem_toArray, List.getElem_cons_succ, List.getElem_cons_zero, List.setIfInBounds_toArray, List.set_cons_succ, List.set_cons_zero]
  go_loopw [12, 13] (fun t12 t13 W => ∃ (k : Nat) (lst : Int), k ≤ n0 ∧ k ≤ 12 ∧ t13 = .int .i64 k ∧ t12 = .int .i64 lst ∧ Kpt (lst = (k : Int) - 1) ∧ Kpt (∃ tag st g nx p a0 m0 c0 a1 m1 c1, Sf w W B S FB k P stp tag st g nx p a0 m0 c0 a1 m1 c1)) (fun _ t _ => 12 - (intOf t).toNat)
  case atStart => exact ⟨0, -1, by omega, by omega, rfl, rfl, ⟨by omega⟩, L0⟩
  case round =>
    obtain ⟨k, lst, hk, hk12, rfl, rfl, hlst, hL⟩ := hrel
    clear L0
    obtain ⟨tag, st, g, nx, p, a0F, m0F, c0F, a1F, m1F, c1F, L⟩ := hL.out
    clear hL
    replace L := Kpt.mk L
    have HCr := Kpt.mk (HCr.out k)
    by_cases hlt : k < n0
    · by_cases h12 : k < 12
      · have i0 : (k : Int) < n0 := by omega
        have i12 : (k : Int) < 12 := by omega
        obtain ⟨b0, off0, A, C, rfl, hc0, hr0, hby⟩ := hP.out k hlt
        have hb0l : b0 < w.heap.size := World.block_lt_of_cell? w ⟨b0, off0 + k, none⟩ hc0
        have hcW : Kpt (∀ W, Below w.heap.size w W → W.cell? ⟨b0, off0 + k, none⟩ = some (.slice A (P k).length C)) := ⟨fun W h => (World.cell?_of_block (a := ⟨b0, off0 + k, none⟩) (h.block b0 hb0l)).trans hc0⟩
        obtain ⟨m, hm⟩ : ∃ m, m = (P k).length := ⟨_, rfl⟩
        rw [← hm] at hcW hr0
        have hcr := hcW.out _ L.out.below
        have kw : IntKind.i64.wrap ((k : Int) + 1) = (k : Int) + 1 := by rw [IntKind.wrap_i64]; omega
        have ku : IntKind.u64.wrap ((k : Int) + 1) = (k : Int) + 1 := Go.Proofs.Ytndlpmnidpandaa.B.wrap64_id _ (by omega) (by omega)
        clear hc0
        by_cases hpar : k % 2 = 0
        · have efk : fnk k = fn0 KK := if_pos hpar
          have tm : Int.tmod (k : Int) 2 = 0 := by rw [Int.tmod_eq_emod_of_nonneg (by omega)]; omega
          have tm2 : (k : Int) % 2 = 0 := by omega
          obtain ⟨F, hF⟩ : ∃ F, F = (st.seen (fnk k)).getD [] := ⟨_, rfl⟩
          have hrF : RdAt wr (.slice a0F m0F c0F) F := by rw [hF, efk]; exact L.out.r0
          have hFl : F.length = m0F := rd_lenF hrF
          have hFb : Bytes F := by rw [hF]; exact getD_byt L.out.run.byt _
          have hFn : F.length ≤ 1000 := by rw [hF]; exact getD_len L.out.run _
          have hcF := L.out.at0
          by_cases hlen : 200 < m
          · have j0 : (200 : Int) < m := by omega
            replace hm := Kpt.mk hm
            replace hr0 := Kpt.mk hr0
            replace hrF := Kpt.mk hrF
            go_wp2_with fail
            refine wp_region_any (by kernel_rfl) ?_
            refine wpAny_of_C (C := fun W => W.cell? ⟨b0, off0 + k, none⟩ = some (.slice A m C) ∧ W.cell? ⟨FB, 0, none⟩ = some (.slice a0F m0F c0F)) _ _ _ _ ?_
            refine wpAnyC_take 0 (.slice (some ⟨b0, off0, none⟩) n0 c0) rfl (by kernel_rfl) (by kernel_rfl) (by kernel_rfl) (fun _ _ _ h => h) (wanted_free rfl _) (fun W hW => by go_simp) ?_
            try simp only [Act.put, List.getElem_toArray, List.getElem_cons_succ, List.getElem_cons_zero, List.setIfInBounds_toArray, List.set_cons_succ, List.set_cons_zero]
            refine wpAnyC_take 1 (.int .i64 k) rfl (by kernel_rfl) (by kernel_rfl) (by kernel_rfl) (fun _ _ _ h => h) (wanted_free rfl _) (fun W hW => by go_simp) ?_
            try simp only [Act.put, List.getElem_toArray, List.getElem_cons_succ, List.getElem_cons_zero, List.setIfInBounds_toArray, List.set_cons_succ, List.set_cons_zero]
            refine wpAnyC_take 2 (.pointer (some ⟨b0, off0 + k, none⟩)) rfl (by kernel_rfl) (by kernel_rfl) (by kernel_rfl) (fun _ _ _ h => h) (wanted_free rfl _) (fun W hW => by go_simp) ?_
            try simp only [Act.put, List.getElem_toArray, List.getElem_cons_succ, List.getElem_cons_zero, List.setIfInBounds_toArray, List.set_cons_succ, List.set_cons_zero]
            refine wpAnyC_take 3 (.slice A m C) rfl (by kernel_rfl) (by kernel_rfl) (by kernel_rfl) (fun _ _ _ h => h) (wanted_free rfl _) (fun W hW => by have h := hW.1; go_simp) ?_
            try simp only [Act.put, List.getElem_toArray, List.getElem_cons_succ, List.getElem_cons_zero, List.setIfInBounds_toArray, List.set_cons_succ, List.set_cons_zero]
            refine wpAnyC_take 4 (.int .i64 m) rfl (by kernel_rfl) (by kernel_rfl) (by kernel_rfl) (fun _ _ _ h => h) (wanted_free rfl _) (fun W hW => by go_simp) ?_
            try simp only [Act.put, List.getElem_toArray, List.getElem_cons_succ, List.getElem_cons_zero, List.setIfInBounds_toArray, List.set_cons_succ, List.set_cons_zero]
            refine wpAnyC_take 5 (.bool true) rfl (by kernel_rfl) (by kernel_rfl) (by kernel_rfl) (fun _ _ _ h => h) (wanted_free rfl _) (fun W hW => by go_simp) ?_
            try simp only [Act.put, List.getElem_toArray, List.getElem_cons_succ, List.getElem_cons_zero, List.setIfInBounds_toArray, List.set_cons_succ, List.set_cons_zero]
            refine wpAnyC_take 6 (.bool true) rfl (by kernel_rfl) (by kernel_rfl) (by kernel_rfl) (fun _ _ _ h => h) (wanted_free rfl _) (fun W hW => by go_simp) ?_
            try simp only [Act.put, List.getElem_toArray, List.getElem_cons_succ, List.getElem_cons_zero, List.setIfInBounds_toArray, List.set_cons_succ, List.set_cons_zero]
            refine wpAnyC_skip 7 rfl (by kernel_rfl) (by kernel_rfl) (by kernel_rfl) (fun _ _ _ h => h) (wanted_no false rfl rfl rfl rfl) ?_
            try simp only [Act.put, List.getElem_toArray, List.getElem_cons_succ, List.getElem_cons_zero, List.setIfInBounds_toArray, List.set_cons_succ, List.set_cons_zero]
            refine wpAnyC_skip 8 rfl (by kernel_rfl) (by kernel_rfl) (by kernel_rfl) (fun _ _ _ h => h) (wanted_no false rfl rfl rfl rfl) ?_
            try simp only [Act.put, List.getElem_toArray, List.getElem_cons_succ, List.getElem_cons_zero, List.setIfInBounds_toArray, List.set_cons_succ, List.set_cons_zero]
            refine wpAnyC_skip 9 rfl (by kernel_rfl) (by kernel_rfl) (by kernel_rfl) (fun _ _ _ h => h) (wanted_no false rfl rfl rfl rfl) ?_
            try simp only [Act.put, List.getElem_toArray, List.getElem_cons_succ, List.getElem_cons_zero, List.setIfInBounds_toArray, List.set_cons_succ, List.set_cons_zero]
            refine wpAnyC_skip 10 rfl (by kernel_rfl) (by kernel_rfl) (by kernel_rfl) (fun _ _ _ h => h) (wanted_no false rfl rfl rfl rfl) ?_
            try simp only [Act.put, List.getElem_toArray, List.getElem_cons_succ, List.getElem_cons_zero, List.setIfInBounds_toArray, List.set_cons_succ, List.set_cons_zero]
            refine wpAnyC_skip 11 rfl (by kernel_rfl) (by kernel_rfl) (by kernel_rfl) (fun _ _ _ h => h) (wanted_no false rfl rfl rfl rfl) ?_
            try simp only [Act.put, List.getElem_toArray, List.getElem_cons_succ, List.getElem_cons_zero, List.setIfInBounds_toArray, List.set_cons_succ, List.set_cons_zero]
            refine wpAnyC_skip 12 rfl (by kernel_rfl) (by kernel_rfl) (by kernel_rfl) (fun _ _ _ h => h) (wanted_no false rfl rfl rfl rfl) ?_
            try simp only [Act.put, List.getElem_toArray, List.getElem_cons_succ, List.getElem_cons_zero, List.setIfInBounds_toArray, List.set_cons_succ, List.set_cons_zero]
            refine wpAnyC_skip 13 rfl (by kernel_rfl) (by kernel_rfl) (by kernel_rfl) (fun _ _ _ h => h) (wanted_no false rfl rfl rfl rfl) ?_
            try simp only [Act.put, List.getElem_toArray, List.getElem_cons_succ, List.getElem_cons_zero, List.setIfInBounds_toArray, List.set_cons_succ, List.set_cons_zero]
            refine wpAnyC_skip 14 rfl (by kernel_rfl) (by kernel_rfl) (by kernel_rfl) (fun _ _ _ h => h) (wanted_no false rfl rfl rfl rfl) ?_
            try simp only [Act.put, List.getElem_toArray, List.getElem_cons_succ, List.getElem_cons_zero, List.setIfInBounds_toArray, List.set_cons_succ, List.set_cons_zero]
            refine wpAnyC_skip 15 rfl (by kernel_rfl) (by kernel_rfl) (by kernel_rfl) (fun _ _ _ h => h) (wanted_no false rfl rfl rfl rfl) ?_
            try simp only [Act.put, List.getElem_toArray, List.getElem_cons_succ, List.getElem_cons_zero, List.setIfInBounds_toArray, List.set_cons_succ, List.set_cons_zero]
            refine wpAnyC_skip 16 rfl (by kernel_rfl) (by kernel_rfl) (by kernel_rfl) (fun _ _ _ h => h) (wanted_no false rfl rfl rfl rfl) ?_
            try simp only [Act.put, List.getElem_toArray, List.getElem_cons_succ, List.getElem_cons_zero, List.setIfInBounds_toArray, List.set_cons_succ, List.set_cons_zero]
            refine wpAnyC_skip 17 rfl (by kernel_rfl) (by kernel_rfl) (by kernel_rfl) (fun _ _ _ h => h) (wanted_no false rfl rfl rfl rfl) ?_
            try simp only [Act.put, List.getElem_toArray, List.getElem_cons_succ, List.getElem_cons_zero, List.setIfInBounds_toArray, List.set_cons_succ, List.set_cons_zero]
            refine wpAnyC_skip 18 rfl (by kernel_rfl) (by kernel_rfl) (by kernel_rfl) (fun _ _ _ h => h) (wanted_no false rfl rfl rfl rfl) ?_
            try simp only [Act.put, List.getElem_toArray, List.getElem_cons_succ, List.getElem_cons_zero, List.setIfInBounds_toArray, List.set_cons_succ, List.set_cons_zero]
            refine wpAnyC_take 19 (.bool true) rfl (by kernel_rfl) (by kernel_rfl) (by kernel_rfl) (fun _ _ _ h => h) (wanted_free rfl _) (fun W hW => by go_simp) ?_
            try simp only [Act.put, List.getElem_toArray, List.getElem_cons_succ, List.getElem_cons_zero, List.setIfInBounds_toArray, List.set_cons_succ, List.set_cons_zero]
            refine wpAnyC_done (⟨hcr, hcF⟩) (by kernel_rfl) ?_
            go_wp2_with fail
            go_ret
            exact ⟨rfl, L.out.below.trans ((below_drawn wr _).mono L.out.below.size)⟩
          · have j0 : ¬ (200 : Int) < m := by omega
            have HCh : Kpt (∀ V, Below wr.heap.size wr V → Calls Try.prog 15 #[.slice a0F m0F c0F, .int .u64 ((k : Int) + 1), .slice A m C] V fun e w' => ∃ b, e = .returned (.bool b) ∧ Below V.heap.size V w' ∧ (b = false → ∀ j, j < 20 + m → Fair F ((k : Int) + 1) (P k) j)) := ⟨fun V hV => chance_any _ _ _ F ((k : Int) + 1) A m C (P k) V (hrF.bel hV) hFl hFb (by omega) ((hr0.bel L.out.below).bel hV) hm.symm hby (by omega) (by omega) (by omega)⟩
            have HRc : Kpt (∀ V, Below wr.heap.size wr V → Calls Try.prog 11 #[.int .u64 ((k : Int) + 1), .slice A m C] V fun e w' => ∃ g cap, e = .returned (.slice (some ⟨g, 0, none⟩) (20 + m) cap) ∧ RdAt w' (.slice (some ⟨g, 0, none⟩) (20 + m) cap) (recL ((k : Int) + 1) (P k)) ∧ Below V.heap.size V w') := ⟨fun V hV => (rrec_any ((k : Int) + 1) A m C (P k) V (by omega) (by omega) ((hr0.bel L.out.below).bel hV) hm.symm (by omega) hby).mono (fun e w' ⟨g, cap, x1, x2, x3⟩ => ⟨g, cap, x1, own_rd x2, x3⟩)⟩
            obtain ⟨X, hX⟩ : ∃ X, X = laidL F 0 (recL ((k : Int) + 1) (P k)) := ⟨_, rfl⟩
            obtain ⟨N, hN⟩ : ∃ N, N = X.length := ⟨_, rfl⟩
            have HLa : Kpt (∀ V g cap, Below wr.heap.size wr V → RdAt V (.slice (some ⟨g, 0, none⟩) (20 + m) cap) (recL ((k : Int) + 1) (P k)) → Calls Try.prog 16 #[.slice a0F m0F c0F, .slice (some ⟨g, 0, none⟩) (20 + m) cap] V fun e w' => ∃ a c, e = .returned (.slice a N c) ∧ RdAt w' (.slice a N c) X ∧ (∀ q, (Value.slice a N c).ownBlock = some q → V.heap.size ≤ q) ∧ Below V.heap.size V w') := ⟨fun V g cap hV hr => by
              refine (llaid_any _ _ _ F _ (20 + m) cap _ V (hrF.bel hV) hFl hr (by rw [recL_len, hm]) (by omega) N (by rw [hN, hX])).mono ?_
              rintro e w' ⟨a, c, x1, x2, x3⟩
              rw [← hX] at x2
              exact ⟨a, c, x1, own_rd0 x2 hN.symm, fun q hq => (World.ownsRow.lt x2 q hq).1, x3⟩⟩
            have hLd : Kpt (∀ y, wr.grownBy y (some FB) → True) := ⟨fun _ _ => trivial⟩
            replace hr0 := Kpt.mk hr0
            replace hrF := Kpt.mk hrF
            replace hX := Kpt.mk hX
            replace hN := Kpt.mk hN
            replace hF := Kpt.mk hF
            replace hFl := Kpt.mk hFl
            replace hFb := Kpt.mk hFb
            replace hby := Kpt.mk hby
            replace hm := Kpt.mk hm
            go_wp2_with fail
            refine wp_region_any (by kernel_rfl) ?_
            refine wpAny_of_C (C := fun W => W.cell? ⟨b0, off0 + k, none⟩ = some (.slice A m C) ∧ W.cell? ⟨FB, 0, none⟩ = some (.slice a0F m0F c0F)) _ _ _ _ ?_
            refine wpAnyC_take 0 (.slice (some ⟨b0, off0, none⟩) n0 c0) rfl (by kernel_rfl) (by kernel_rfl) (by kernel_rfl) (fun _ _ _ h => h) (wanted_free rfl _) (fun W hW => by go_simp) ?_
            try simp only [Act.put, List.getElem_toArray, List.getElem_cons_succ, List.getElem_cons_zero, List.setIfInBounds_toArray, List.set_cons_succ, List.set_cons_zero]
            refine wpAnyC_take 1 (.int .i64 k) rfl (by kernel_rfl) (by kernel_rfl) (by kernel_rfl) (fun _ _ _ h => h) (wanted_free rfl _) (fun W hW => by go_simp) ?_
            try simp only [Act.put, List.getElem_toArray, List.getElem_cons_succ, List.getElem_cons_zero, List.setIfInBounds_toArray, List.set_cons_succ, List.set_cons_zero]
            refine wpAnyC_take 2 (.pointer (some ⟨b0, off0 + k, none⟩)) rfl (by kernel_rfl) (by kernel_rfl) (by kernel_rfl) (fun _ _ _ h => h) (wanted_free rfl _) (fun W hW => by go_simp) ?_
            try simp only [Act.put, List.getElem_toArray, List.getElem_cons_succ, List.getElem_cons_zero, List.setIfInBounds_toArray, List.set_cons_succ, List.set_cons_zero]
            refine wpAnyC_take 3 (.slice A m C) rfl (by kernel_rfl) (by kernel_rfl) (by kernel_rfl) (fun _ _ _ h => h) (wanted_free rfl _) (fun W hW => by have h := hW.1; go_simp) ?_
            try simp only [Act.put, List.getElem_toArray, List.getElem_cons_succ, List.getElem_cons_zero, List.setIfInBounds_toArray, List.set_cons_succ, List.set_cons_zero]
            refine wpAnyC_take 4 (.int .i64 m) rfl (by kernel_rfl) (by kernel_rfl) (by kernel_rfl) (fun _ _ _ h => h) (wanted_free rfl _) (fun W hW => by go_simp) ?_
            try simp only [Act.put, List.getElem_toArray, List.getElem_cons_succ, List.getElem_cons_zero, List.setIfInBounds_toArray, List.set_cons_succ, List.set_cons_zero]
            refine wpAnyC_take 5 (.bool false) rfl (by kernel_rfl) (by kernel_rfl) (by kernel_rfl) (fun _ _ _ h => h) (wanted_free rfl _) (fun W hW => by go_simp) ?_
            try simp only [Act.put, List.getElem_toArray, List.getElem_cons_succ, List.getElem_cons_zero, List.setIfInBounds_toArray, List.set_cons_succ, List.set_cons_zero]
            refine wpAnyC_take 6 (.bool false) rfl (by kernel_rfl) (by kernel_rfl) (by kernel_rfl) (fun _ _ _ h => h) (wanted_free rfl _) (fun W hW => by go_simp) ?_
            try simp only [Act.put, List.getElem_toArray, List.getElem_cons_succ, List.getElem_cons_zero, List.setIfInBounds_toArray, List.set_cons_succ, List.set_cons_zero]
            refine wpAnyC_take 7 (.int .i64 k) rfl (by kernel_rfl) (by kernel_rfl) (by kernel_rfl) (fun _ _ _ h => h) (wanted_at false rfl rfl rfl rfl) (fun W hW => by go_simp) ?_
            try simp only [Act.put, List.getElem_toArray, List.getElem_cons_succ, List.getElem_cons_zero, List.setIfInBounds_toArray, List.set_cons_succ, List.set_cons_zero]
            refine wpAnyC_take 8 (.int .i64 0) rfl (by kernel_rfl) (by kernel_rfl) (by kernel_rfl) (fun _ _ _ h => h) (wanted_at false rfl rfl rfl rfl) (fun W hW => by go_simp) ?_
            try simp only [Act.put, List.getElem_toArray, List.getElem_cons_succ, List.getElem_cons_zero, List.setIfInBounds_toArray, List.set_cons_succ, List.set_cons_zero]
            refine wpAnyC_take 9 (.pointer (some ⟨FB, 0, none⟩)) rfl (by kernel_rfl) (by kernel_rfl) (by kernel_rfl) (fun _ _ _ h => h) (wanted_at false rfl rfl rfl rfl) (fun W hW => by go_simp) ?_
            try simp only [Act.put, List.getElem_toArray, List.getElem_cons_succ, List.getElem_cons_zero, List.setIfInBounds_toArray, List.set_cons_succ, List.set_cons_zero]
            refine wpAnyC_take 10 (.slice a0F m0F c0F) rfl (by kernel_rfl) (by kernel_rfl) (by kernel_rfl) (fun _ _ _ h => h) (wanted_at false rfl rfl rfl rfl) (fun W hW => by have h := hW.2; go_simp) ?_
            try simp only [Act.put, List.getElem_toArray, List.getElem_cons_succ, List.getElem_cons_zero, List.setIfInBounds_toArray, List.set_cons_succ, List.set_cons_zero]
            refine wpAnyC_take 11 (.int .i64 k) rfl (by kernel_rfl) (by kernel_rfl) (by kernel_rfl) (fun _ _ _ h => h) (wanted_at false rfl rfl rfl rfl) (fun W hW => by go_simp) ?_
            try simp only [Act.put, List.getElem_toArray, List.getElem_cons_succ, List.getElem_cons_zero, List.setIfInBounds_toArray, List.set_cons_succ, List.set_cons_zero]
            refine wpAnyC_take 12 (.int .i64 ((k : Int) + 1)) rfl (by kernel_rfl) (by kernel_rfl) (by kernel_rfl) (fun _ _ _ h => h) (wanted_at false rfl rfl rfl rfl) (fun W hW => by go_simp) ?_
            try simp only [Act.put, List.getElem_toArray, List.getElem_cons_succ, List.getElem_cons_zero, List.setIfInBounds_toArray, List.set_cons_succ, List.set_cons_zero]
            refine wpAnyC_take 13 (.int .u64 ((k : Int) + 1)) rfl (by kernel_rfl) (by kernel_rfl) (by kernel_rfl) (fun _ _ _ h => h) (wanted_at false rfl rfl rfl rfl) (fun W hW => by go_simp) ?_
            try simp only [Act.put, List.getElem_toArray, List.getElem_cons_succ, List.getElem_cons_zero, List.setIfInBounds_toArray, List.set_cons_succ, List.set_cons_zero]
            refine wpAnyC_take 14 (.slice (some ⟨b0, off0, none⟩) n0 c0) rfl (by kernel_rfl) (by kernel_rfl) (by kernel_rfl) (fun _ _ _ h => h) (wanted_at false rfl rfl rfl rfl) (fun W hW => by go_simp) ?_
            try simp only [Act.put, List.getElem_toArray, List.getElem_cons_succ, List.getElem_cons_zero, List.setIfInBounds_toArray, List.set_cons_succ, List.set_cons_zero]
            refine wpAnyC_take 15 (.int .i64 k) rfl (by kernel_rfl) (by kernel_rfl) (by kernel_rfl) (fun _ _ _ h => h) (wanted_at false rfl rfl rfl rfl) (fun W hW => by go_simp) ?_
            try simp only [Act.put, List.getElem_toArray, List.getElem_cons_succ, List.getElem_cons_zero, List.setIfInBounds_toArray, List.set_cons_succ, List.set_cons_zero]
            refine wpAnyC_take 16 (.pointer (some ⟨b0, off0 + k, none⟩)) rfl (by kernel_rfl) (by kernel_rfl) (by kernel_rfl) (fun _ _ _ h => h) (wanted_at false rfl rfl rfl rfl) (fun W hW => by go_simp) ?_
            try simp only [Act.put, List.getElem_toArray, List.getElem_cons_succ, List.getElem_cons_zero, List.setIfInBounds_toArray, List.set_cons_succ, List.set_cons_zero]
            refine wpAnyC_take 17 (.slice A m C) rfl (by kernel_rfl) (by kernel_rfl) (by kernel_rfl) (fun _ _ _ h => h) (wanted_at false rfl rfl rfl rfl) (fun W hW => by have h := hW.1; go_simp) ?_
            try simp only [Act.put, List.getElem_toArray, List.getElem_cons_succ, List.getElem_cons_zero, List.setIfInBounds_toArray, List.set_cons_succ, List.set_cons_zero]
            refine wpAnyC_one 18 (⟨hcr, hcF⟩) rfl (by kernel_rfl) (wanted_at false rfl rfl rfl rfl) (fun KA hKA => ?_)
            go_simp
            refine (HCh.out _ (below_drawn wr _)).mono ?_
            rintro e z ⟨bb, rfl, hbb, hch⟩
            replace hbb : Below wr.heap.size wr z := (below_drawn wr _).trans (hbb.mono (Nat.le_refl _))
            have hcz : z.cell? ⟨b0, off0 + k, none⟩ = some (.slice A m C) ∧ z.cell? ⟨FB, 0, none⟩ = some (.slice a0F m0F c0F) := ⟨hcW.out _ (L.out.bel hbb).below, (L.out.bel hbb).at0⟩
            refine hKA _ _ ?_
            clear hKA KA
            try simp only [Act.put, List.getElem_toArray, List.getElem_cons_succ, List.getElem_cons_zero, List.setIfInBounds_toArray, List.set_cons_succ, List.set_cons_zero]
            refine wpAnyC_take 19 (.bool bb) rfl (by kernel_rfl) (by kernel_rfl) (by kernel_rfl) (fun _ _ _ h => h) (wanted_free rfl _) (fun W hW => by go_simp) ?_
            try simp only [Act.put, List.getElem_toArray, List.getElem_cons_succ, List.getElem_cons_zero, List.setIfInBounds_toArray, List.set_cons_succ, List.set_cons_zero]
            refine wpAnyC_done (hcz) (by kernel_rfl) ?_
            cases bb with
            | true =>
              go_wp2_with fail
              go_ret
              exact ⟨rfl, (L.out.bel hbb).below⟩
            | false =>
              have hfair := Kpt.mk (hch rfl)
              have hbbK := Kpt.mk hbb
              clear hch hbb
              go_wp2_with fail
              refine wp_region_any (by kernel_rfl) ?_
              refine wpAny_of_C (C := fun W => W.cell? ⟨b0, off0 + k, none⟩ = some (.slice A m C)) _ _ _ _ ?_
              refine wpAnyC_take 0 (.int .i64 k) rfl (by kernel_rfl) (by kernel_rfl) (by kernel_rfl) (fun _ _ _ h => h) (wanted_free rfl _) (fun W hW => by go_simp) ?_
              try simp only [Act.put, List.getElem_toArray, List.getElem_cons_succ, List.getElem_cons_zero, List.setIfInBounds_toArray, List.set_cons_succ, List.set_cons_zero]
              refine wpAnyC_take 1 (.int .i64 0) rfl (by kernel_rfl) (by kernel_rfl) (by kernel_rfl) (fun _ _ _ h => h) (wanted_free rfl _) (fun W hW => by go_simp) ?_
              try simp only [Act.put, List.getElem_toArray, List.getElem_cons_succ, List.getElem_cons_zero, List.setIfInBounds_toArray, List.set_cons_succ, List.set_cons_zero]
              refine wpAnyC_take 2 (.int .i64 k) rfl (by kernel_rfl) (by kernel_rfl) (by kernel_rfl) (fun _ _ _ h => h) (wanted_free rfl _) (fun W hW => by go_simp) ?_
              try simp only [Act.put, List.getElem_toArray, List.getElem_cons_succ, List.getElem_cons_zero, List.setIfInBounds_toArray, List.set_cons_succ, List.set_cons_zero]
              refine wpAnyC_take 3 (.int .i64 0) rfl (by kernel_rfl) (by kernel_rfl) (by kernel_rfl) (fun _ _ _ h => h) (wanted_free rfl _) (fun W hW => by go_simp) ?_
              try simp only [Act.put, List.getElem_toArray, List.getElem_cons_succ, List.getElem_cons_zero, List.setIfInBounds_toArray, List.set_cons_succ, List.set_cons_zero]
              refine wpAnyC_take 4 (.pointer (some ⟨FB, 0, none⟩)) rfl (by kernel_rfl) (by kernel_rfl) (by kernel_rfl) (fun _ _ _ h => h) (wanted_free rfl _) (fun W hW => by go_simp) ?_
              try simp only [Act.put, List.getElem_toArray, List.getElem_cons_succ, List.getElem_cons_zero, List.setIfInBounds_toArray, List.set_cons_succ, List.set_cons_zero]
              refine wpAnyC_take 6 (.int .i64 k) rfl (by kernel_rfl) (by kernel_rfl) (by kernel_rfl) (fun _ _ _ h => h) (wanted_free rfl _) (fun W hW => by go_simp) ?_
              try simp only [Act.put, List.getElem_toArray, List.getElem_cons_succ, List.getElem_cons_zero, List.setIfInBounds_toArray, List.set_cons_succ, List.set_cons_zero]
              refine wpAnyC_take 7 (.int .i64 ((k : Int) + 1)) rfl (by kernel_rfl) (by kernel_rfl) (by kernel_rfl) (fun _ _ _ h => h) (wanted_free rfl _) (fun W hW => by go_simp) ?_
              try simp only [Act.put, List.getElem_toArray, List.getElem_cons_succ, List.getElem_cons_zero, List.setIfInBounds_toArray, List.set_cons_succ, List.set_cons_zero]
              refine wpAnyC_take 8 (.int .u64 ((k : Int) + 1)) rfl (by kernel_rfl) (by kernel_rfl) (by kernel_rfl) (fun _ _ _ h => h) (wanted_free rfl _) (fun W hW => by go_simp) ?_
              try simp only [Act.put, List.getElem_toArray, List.getElem_cons_succ, List.getElem_cons_zero, List.setIfInBounds_toArray, List.set_cons_succ, List.set_cons_zero]
              refine wpAnyC_take 9 (.slice (some ⟨b0, off0, none⟩) n0 c0) rfl (by kernel_rfl) (by kernel_rfl) (by kernel_rfl) (fun _ _ _ h => h) (wanted_free rfl _) (fun W hW => by go_simp) ?_
              try simp only [Act.put, List.getElem_toArray, List.getElem_cons_succ, List.getElem_cons_zero, List.setIfInBounds_toArray, List.set_cons_succ, List.set_cons_zero]
              refine wpAnyC_take 10 (.int .i64 k) rfl (by kernel_rfl) (by kernel_rfl) (by kernel_rfl) (fun _ _ _ h => h) (wanted_free rfl _) (fun W hW => by go_simp) ?_
              try simp only [Act.put, List.getElem_toArray, List.getElem_cons_succ, List.getElem_cons_zero, List.setIfInBounds_toArray, List.set_cons_succ, List.set_cons_zero]
              refine wpAnyC_take 11 (.pointer (some ⟨b0, off0 + k, none⟩)) rfl (by kernel_rfl) (by kernel_rfl) (by kernel_rfl) (fun _ _ _ h => h) (wanted_free rfl _) (fun W hW => by go_simp) ?_
              try simp only [Act.put, List.getElem_toArray, List.getElem_cons_succ, List.getElem_cons_zero, List.setIfInBounds_toArray, List.set_cons_succ, List.set_cons_zero]
              refine wpAnyC_take 12 (.slice A m C) rfl (by kernel_rfl) (by kernel_rfl) (by kernel_rfl) (fun _ _ _ h => h) (wanted_free rfl _) (fun W hW => by have h := hW; go_simp) ?_
              try simp only [Act.put, List.getElem_toArray, List.getElem_cons_succ, List.getElem_cons_zero, List.setIfInBounds_toArray, List.set_cons_succ, List.set_cons_zero]
              refine wpAnyC_two 5 13 hcz.1 rfl rfl (by kernel_rfl) (wanted_free rfl _) (wanted_free rfl _) (fun KA hKA => ?_) (fun KA hKA => ?_)
              · have hcl := hcz.2
                go_simp
                refine hKA _ _ ?_
                clear hKA KA hcl
                try simp only [Act.put, List.getElem_toArray, List.getElem_cons_succ, List.getElem_cons_zero, List.setIfInBounds_toArray, List.set_cons_succ, List.set_cons_zero]
                refine wpAnyC_one 13 (hcz.1) rfl (by kernel_rfl) (wanted_free rfl _) (fun KA hKA => ?_)
                go_simp
                refine (HRc.out _ (hbbK.out.trans ((below_drawn z _).mono hbbK.out.size))).mono ?_
                rintro e z1 ⟨g1, cap1, rfl, hr1, hb1⟩
                have hB1 : Kpt (Below wr.heap.size wr z1) := ⟨(hbbK.out.trans ((below_drawn z _).mono hbbK.out.size)).trans (hb1.mono hbbK.out.size)⟩
                have hcz1 : z1.cell? ⟨b0, off0 + k, none⟩ = some (.slice A m C) := hcW.out _ (L.out.bel hB1.out).below
                have hcf1 : z1.cell? ⟨FB, 0, none⟩ = some (.slice a0F m0F c0F) := (L.out.bel hB1.out).at0
                refine hKA _ _ ?_
                clear hKA KA
                try simp only [Act.put, List.getElem_toArray, List.getElem_cons_succ, List.getElem_cons_zero, List.setIfInBounds_toArray, List.set_cons_succ, List.set_cons_zero]
                refine wpAnyC_one 14 (hcz1) rfl (by kernel_rfl) (wanted_free rfl _) (fun KA hKA => ?_)
                go_simp
                refine (HLa.out _ g1 cap1 hB1.out hr1).mono ?_
                rintro e z2 ⟨a2, c2, rfl, hr2, hq2, hb2⟩
                have hBz : Kpt (Below wr.heap.size wr z2) := ⟨(hB1.out).trans (hb2.mono (hB1.out).size)⟩
                have hRz := Kpt.mk hr2
                have hqz : Kpt (Aside tag S FB (.slice a2 N c2) X) := ⟨fun _ q hq => by
                  have h1 := hq2 q hq
                  have h2 := hB1.out.size
                  have h3 := L.out.bx.lt
                  have h4 := L.out.sl.bx.lt
                  have h5 : z1.heap.size ≤ q := h1
                  exact ⟨wd_none L.out.wd (by omega), by omega, by omega⟩⟩
                have hcz2 : z2.cell? ⟨b0, off0 + k, none⟩ = some (.slice A m C) := hcW.out _ (L.out.bel hBz.out).below
                refine hKA _ _ ?_
                clear hKA KA
                try simp only [Act.put, List.getElem_toArray, List.getElem_cons_succ, List.getElem_cons_zero, List.setIfInBounds_toArray, List.set_cons_succ, List.set_cons_zero]
                refine wpAnyC_take 15 (.pointer (some ⟨FB, 0, none⟩)) rfl (by kernel_rfl) (by kernel_rfl) (by kernel_rfl) (fun _ _ _ h => h) (wanted_free rfl _) (fun W hW => by go_simp) ?_
                try simp only [Act.put, List.getElem_toArray, List.getElem_cons_succ, List.getElem_cons_zero, List.setIfInBounds_toArray, List.set_cons_succ, List.set_cons_zero]
                refine wpAnyC_one 16 (hcz2) rfl (by kernel_rfl) (wanted_free rfl _) (fun KA hKA => ?_)
                refine wp_store_cell rfl (b := FB) (j := 0) (v := .slice a2 N c2) rfl rfl rfl (L.out.bel hBz.out).bx (by simp) info23 (fun y hXy hgy => ?_)
                refine hKA _ _ ?_
                clear hKA KA
                try simp only [Act.put, List.getElem_toArray, List.getElem_cons_succ, List.getElem_cons_zero, List.setIfInBounds_toArray, List.set_cons_succ, List.set_cons_zero]
                have hcy : y.cell? ⟨b0, off0 + k, none⟩ = some (.slice A m C) := hcW.out _ ((L.out.bel hBz.out).below.trans (Below.ofGrown hgy (L.out.bel hBz.out).below.size L.out.loF))
                refine wpAnyC_done (hcy) (by kernel_rfl) ?_
                have L2 := Kpt.mk (L.out.bel hBz.out)
                have HSv := Kpt.mk (sf_save L2.out hgy h12 n0 hlt A m C (P := P) hr0.out hm.out.symm (by omega) hby.out (by rw [← hF.out]; exact hfair.out))
                replace hXy := Kpt.mk hXy
                replace hgy := Kpt.mk hgy
                have hcR : y.cell? ⟨b0, off0 + k, none⟩ = some (.slice A m C) := hcW.out _ ((L2.out.below).trans (Below.ofGrown hgy.out L2.out.below.size L2.out.loF))
                clear HLa HRc
                go_wp2_with fail
                refine HSv.out.mono ?_
                rintro e w7 ⟨tag7, st7, hw7, hs7, hor⟩
                have hby7 : Kpt (Below w.heap.size w w7) := ⟨(L2.out.below.trans (Below.ofGrown hgy.out L2.out.below.size L2.out.loF)).trans (hs7.bel (Nat.le_trans L2.out.below.size hgy.out.size) L2.out.tags L2.out.lo)⟩
                have ht7 : Kpt (∀ i, i < w.heap.size → tag7 i = none) := ⟨fun i hi => hs7.bare i (Nat.lt_of_lt_of_le hi (Nat.le_trans L2.out.below.size hgy.out.size)) (L2.out.tags i hi)⟩
                rcases hor with ⟨v7, rfl, hR7, ha7, hc7, hS7, hse7⟩ | ⟨rfl, hD7⟩
                · have Ln := Kpt.mk (sf_next0 L2.out hpar h12 (by rw [hX.out, hF.out]) hRz.out hqz.out hgy.out hXy.out hw7 hs7 hR7 ha7 hc7 hS7 hse7)
                  clear hR7 hS7 hse7 hw7 hs7 HSv
                  go_wp2_with fail
                  go_roundw
                  case rel => exact ⟨k + 1, (k : Int), by omega, by omega, by go_num, rfl, ⟨by omega⟩, ⟨_, _, _, _, _, _, _, _, _, _, _, Ln.out⟩⟩
                  case measure => simp [intOf]; omega
                · replace hw7 := Kpt.mk hw7
                  replace hD7 := Kpt.mk hD7
                  clear hs7 HSv
                  go_wp2_with fail
                  refine (HCr.out _ _ _ hw7.out hD7.out hby7.out ht7.out).mono ?_
                  rintro e z5 ⟨rfl, tag5, st5, hw5, hF5, hf5, hc5, hb5, ht5⟩
                  replace hw5 := Kpt.mk hw5
                  replace hF5 := Kpt.mk hF5
                  replace hf5 := Kpt.mk hf5
                  replace hb5 := Kpt.mk hb5
                  replace ht5 := Kpt.mk ht5
                  go_wp2_with fail
                  refine (HO.out _ B tag5 st5 hw5.out hb5.out).mono ?_
                  rintro e z6 ⟨S6, rfl, hw6, hS6, hSl6, hb6⟩
                  replace hw6 := Kpt.mk hw6
                  replace hS6 := Kpt.mk hS6
                  replace hb6 := Kpt.mk hb6
                  clear hw5 hb5
                  go_wp2_with fail
                  refine (load_j S6 B _ _ _ tag5 st5 _ hS6.out hw6.out P k n0 hF5.out hf5.out hc5).mono ?_
                  rintro e z7 ⟨hs7, hor⟩
                  have hb7 : Kpt (Below w.heap.size w z7) := ⟨hb6.out.trans (hs7.bel hb6.out.size ht5.out hSl6)⟩
                  clear hs7 hw6 hS6 hb6 hF5 hf5
                  rcases hor with ⟨hk00, a7, c7, rfl⟩ | ⟨J, a7, c7, j1, j2, j3, rfl, hr7⟩
                  · have hl1 : lst = -1 := by have := hlst.out; omega
                    subst hl1
                    go_wp2_with fail
                    go_ret
                    exact ⟨rfl, hb7.out⟩
                  · obtain ⟨bJ, offJ, AJ, CJ, haJ, hcJ0, hrJ0, hbyJ⟩ := hP.out J j3
                    obtain ⟨eb, eo⟩ : bJ = b0 ∧ offJ = off0 := by cases haJ; exact ⟨rfl, rfl⟩
                    rw [eb, eo] at hcJ0
                    clear haJ eb eo
                    have hbJl : b0 < w.heap.size := World.block_lt_of_cell? w ⟨b0, off0 + J, none⟩ hcJ0
                    obtain ⟨mJ, hmJ⟩ : ∃ m, m = (P J).length := ⟨_, rfl⟩
                    rw [← hmJ] at hcJ0 hrJ0 hr7 ⊢
                    have hcJ := (World.cell?_of_block (a := ⟨b0, off0 + J, none⟩) (hb7.out.block b0 hbJl)).trans hcJ0
                    have hrJ := hrJ0.bel hb7.out
                    have k1 : IntKind.i64.wrap ((J : Int) + 1) = (J : Int) + 1 := by rw [IntKind.wrap_i64]; omega
                    have k2 : IntKind.i64.wrap ((k : Int) + 1) = (k : Int) + 1 := by rw [IntKind.wrap_i64]; omega
                    have k3 : IntKind.i64.wrap ((J : Int) + 1 - 1) = (J : Int) := by rw [IntKind.wrap_i64]; omega
                    have k4 : ¬ ((J : Int) + 1 < 1) := by omega
                    have k5 : ¬ ((k : Int) + 1 < (J : Int) + 1) := by omega
                    have k5b : ¬ ((k : Int) < (J : Int)) := by omega
                    have k6 : lst ≤ (J : Int) := by have := hlst.out; omega
                    have k7 : (J : Int) < n0 := by omega
                    have k8 : ¬ ((J : Int) < lst) := by omega
                    replace hmJ := Kpt.mk hmJ
                    replace hcJ0 := Kpt.mk hcJ0
                    clear hrJ0 hbyJ
                    replace hcJ := Kpt.mk hcJ
                    replace hrJ := Kpt.mk hrJ
                    replace hr7 := Kpt.mk hr7
                    go_wp2_with fail
                    refine wp_region_any (by kernel_rfl) ?_
                    refine wpAny_of_C (C := fun W => W.cell? ⟨b0, off0 + J, none⟩ = some (.slice AJ mJ CJ) ∧ RdAt W (.slice AJ mJ CJ) (P J) ∧ RdAt W (.slice a7 mJ c7) (P J)) _ _ _ _ ?_
                    refine wpAnyC_take 0 (.int .i64 J) rfl (by kernel_rfl) (by kernel_rfl) (by kernel_rfl) (fun _ _ _ h => h) (wanted_free rfl _) (fun W hW => by go_simp) ?_
                    try simp only [Act.put, List.getElem_toArray, List.getElem_cons_succ, List.getElem_cons_zero, List.setIfInBounds_toArray, List.set_cons_succ, List.set_cons_zero]
                    refine wpAnyC_take 1 (.int .i64 lst) rfl (by kernel_rfl) (by kernel_rfl) (by kernel_rfl) (fun _ _ _ h => h) (wanted_free rfl _) (fun W hW => by go_simp) ?_
                    try simp only [Act.put, List.getElem_toArray, List.getElem_cons_succ, List.getElem_cons_zero, List.setIfInBounds_toArray, List.set_cons_succ, List.set_cons_zero]
                    refine wpAnyC_take 2 (.bool true) rfl (by kernel_rfl) (by kernel_rfl) (by kernel_rfl) (fun _ _ _ h => h) (wanted_free rfl _) (fun W hW => by go_simp) ?_
                    try simp only [Act.put, List.getElem_toArray, List.getElem_cons_succ, List.getElem_cons_zero, List.setIfInBounds_toArray, List.set_cons_succ, List.set_cons_zero]
                    refine wpAnyC_take 3 (.bool true) rfl (by kernel_rfl) (by kernel_rfl) (by kernel_rfl) (fun _ _ _ h => h) (wanted_free rfl _) (fun W hW => by go_simp) ?_
                    try simp only [Act.put, List.getElem_toArray, List.getElem_cons_succ, List.getElem_cons_zero, List.setIfInBounds_toArray, List.set_cons_succ, List.set_cons_zero]
                    refine wpAnyC_take 4 (.int .i64 J) rfl (by kernel_rfl) (by kernel_rfl) (by kernel_rfl) (fun _ _ _ h => h) (wanted_at true rfl rfl rfl rfl) (fun W hW => by go_simp) ?_
                    try simp only [Act.put, List.getElem_toArray, List.getElem_cons_succ, List.getElem_cons_zero, List.setIfInBounds_toArray, List.set_cons_succ, List.set_cons_zero]
                    refine wpAnyC_take 5 (.slice (some ⟨b0, off0, none⟩) n0 c0) rfl (by kernel_rfl) (by kernel_rfl) (by kernel_rfl) (fun _ _ _ h => h) (wanted_at true rfl rfl rfl rfl) (fun W hW => by go_simp) ?_
                    try simp only [Act.put, List.getElem_toArray, List.getElem_cons_succ, List.getElem_cons_zero, List.setIfInBounds_toArray, List.set_cons_succ, List.set_cons_zero]
                    refine wpAnyC_take 6 (.int .i64 n0) rfl (by kernel_rfl) (by kernel_rfl) (by kernel_rfl) (fun _ _ _ h => h) (wanted_at true rfl rfl rfl rfl) (fun W hW => by go_simp) ?_
                    try simp only [Act.put, List.getElem_toArray, List.getElem_cons_succ, List.getElem_cons_zero, List.setIfInBounds_toArray, List.set_cons_succ, List.set_cons_zero]
                    refine wpAnyC_take 7 (.bool true) rfl (by kernel_rfl) (by kernel_rfl) (by kernel_rfl) (fun _ _ _ h => h) (wanted_at true rfl rfl rfl rfl) (fun W hW => by go_simp) ?_
                    try simp only [Act.put, List.getElem_toArray, List.getElem_cons_succ, List.getElem_cons_zero, List.setIfInBounds_toArray, List.set_cons_succ, List.set_cons_zero]
                    refine wpAnyC_take 8 (.bool true) rfl (by kernel_rfl) (by kernel_rfl) (by kernel_rfl) (fun _ _ _ h => h) (wanted_free rfl _) (fun W hW => by go_simp) ?_
                    try simp only [Act.put, List.getElem_toArray, List.getElem_cons_succ, List.getElem_cons_zero, List.setIfInBounds_toArray, List.set_cons_succ, List.set_cons_zero]
                    refine wpAnyC_take 9 (.bool true) rfl (by kernel_rfl) (by kernel_rfl) (by kernel_rfl) (fun _ _ _ h => h) (wanted_free rfl _) (fun W hW => by go_simp) ?_
                    try simp only [Act.put, List.getElem_toArray, List.getElem_cons_succ, List.getElem_cons_zero, List.setIfInBounds_toArray, List.set_cons_succ, List.set_cons_zero]
                    refine wpAnyC_take 10 (.slice a7 mJ c7) rfl (by kernel_rfl) (by kernel_rfl) (by kernel_rfl) (fun _ _ _ h => h) (wanted_at true rfl rfl rfl rfl) (fun W hW => by go_simp) ?_
                    try simp only [Act.put, List.getElem_toArray, List.getElem_cons_succ, List.getElem_cons_zero, List.setIfInBounds_toArray, List.set_cons_succ, List.set_cons_zero]
                    refine wpAnyC_take 11 (.string (strOfNums (P J))) rfl (by kernel_rfl) (by kernel_rfl) (by kernel_rfl) (fun _ _ _ h => h) (wanted_at true rfl rfl rfl rfl) (fun W hW => by have h := conv_rd W _ (P J) hW.2.2; go_simp) ?_
                    try simp only [Act.put, List.getElem_toArray, List.getElem_cons_succ, List.getElem_cons_zero, List.setIfInBounds_toArray, List.set_cons_succ, List.set_cons_zero]
                    refine wpAnyC_take 12 (.slice (some ⟨b0, off0, none⟩) n0 c0) rfl (by kernel_rfl) (by kernel_rfl) (by kernel_rfl) (fun _ _ _ h => h) (wanted_at true rfl rfl rfl rfl) (fun W hW => by go_simp) ?_
                    try simp only [Act.put, List.getElem_toArray, List.getElem_cons_succ, List.getElem_cons_zero, List.setIfInBounds_toArray, List.set_cons_succ, List.set_cons_zero]
                    refine wpAnyC_take 13 (.int .i64 J) rfl (by kernel_rfl) (by kernel_rfl) (by kernel_rfl) (fun _ _ _ h => h) (wanted_at true rfl rfl rfl rfl) (fun W hW => by go_simp) ?_
                    try simp only [Act.put, List.getElem_toArray, List.getElem_cons_succ, List.getElem_cons_zero, List.setIfInBounds_toArray, List.set_cons_succ, List.set_cons_zero]
                    refine wpAnyC_take 14 (.pointer (some ⟨b0, off0 + J, none⟩)) rfl (by kernel_rfl) (by kernel_rfl) (by kernel_rfl) (fun _ _ _ h => h) (wanted_at true rfl rfl rfl rfl) (fun W hW => by go_simp) ?_
                    try simp only [Act.put, List.getElem_toArray, List.getElem_cons_succ, List.getElem_cons_zero, List.setIfInBounds_toArray, List.set_cons_succ, List.set_cons_zero]
                    refine wpAnyC_take 15 (.slice AJ mJ CJ) rfl (by kernel_rfl) (by kernel_rfl) (by kernel_rfl) (fun _ _ _ h => h) (wanted_at true rfl rfl rfl rfl) (fun W hW => by have h := hW.1; go_simp) ?_
                    try simp only [Act.put, List.getElem_toArray, List.getElem_cons_succ, List.getElem_cons_zero, List.setIfInBounds_toArray, List.set_cons_succ, List.set_cons_zero]
                    refine wpAnyC_take 16 (.string (strOfNums (P J))) rfl (by kernel_rfl) (by kernel_rfl) (by kernel_rfl) (fun _ _ _ h => h) (wanted_at true rfl rfl rfl rfl) (fun W hW => by have h := conv_rd W _ (P J) hW.2.1; go_simp) ?_
                    try simp only [Act.put, List.getElem_toArray, List.getElem_cons_succ, List.getElem_cons_zero, List.setIfInBounds_toArray, List.set_cons_succ, List.set_cons_zero]
                    refine wpAnyC_take 17 (.bool true) rfl (by kernel_rfl) (by kernel_rfl) (by kernel_rfl) (fun _ _ _ h => h) (wanted_at true rfl rfl rfl rfl) (fun W hW => by go_simp) ?_
                    try simp only [Act.put, List.getElem_toArray, List.getElem_cons_succ, List.getElem_cons_zero, List.setIfInBounds_toArray, List.set_cons_succ, List.set_cons_zero]
                    refine wpAnyC_take 18 (.bool true) rfl (by kernel_rfl) (by kernel_rfl) (by kernel_rfl) (fun _ _ _ h => h) (wanted_free rfl _) (fun W hW => by go_simp) ?_
                    try simp only [Act.put, List.getElem_toArray, List.getElem_cons_succ, List.getElem_cons_zero, List.setIfInBounds_toArray, List.set_cons_succ, List.set_cons_zero]
                    refine wpAnyC_take 19 (.bool true) rfl (by kernel_rfl) (by kernel_rfl) (by kernel_rfl) (fun _ _ _ h => h) (wanted_free rfl _) (fun W hW => by go_simp) ?_
                    try simp only [Act.put, List.getElem_toArray, List.getElem_cons_succ, List.getElem_cons_zero, List.setIfInBounds_toArray, List.set_cons_succ, List.set_cons_zero]
                    refine wpAnyC_done (⟨hcJ.out, hrJ.out.bel (below_drawn z7 _), hr7.out.bel (below_drawn z7 _)⟩) (by kernel_rfl) ?_
                    go_wp2_with fail
                    go_ret
                    exact ⟨rfl, hb7.out.trans ((below_drawn z7 _).mono hb7.out.size)⟩
              · go_simp
                refine (HRc.out _ (hbbK.out.trans ((below_drawn z _).mono hbbK.out.size))).mono ?_
                rintro e z1 ⟨g1, cap1, rfl, hr1, hb1⟩
                have hB1 : Kpt (Below wr.heap.size wr z1) := ⟨(hbbK.out.trans ((below_drawn z _).mono hbbK.out.size)).trans (hb1.mono hbbK.out.size)⟩
                have hcz1 : z1.cell? ⟨b0, off0 + k, none⟩ = some (.slice A m C) := hcW.out _ (L.out.bel hB1.out).below
                have hcf1 : z1.cell? ⟨FB, 0, none⟩ = some (.slice a0F m0F c0F) := (L.out.bel hB1.out).at0
                refine hKA _ _ ?_
                clear hKA KA
                try simp only [Act.put, List.getElem_toArray, List.getElem_cons_succ, List.getElem_cons_zero, List.setIfInBounds_toArray, List.set_cons_succ, List.set_cons_zero]
                refine wpAnyC_one 5 (hcz1) rfl (by kernel_rfl) (wanted_free rfl _) (fun KA hKA => ?_)
                have hcl := hcf1
                go_simp
                refine hKA _ _ ?_
                clear hKA KA hcl
                try simp only [Act.put, List.getElem_toArray, List.getElem_cons_succ, List.getElem_cons_zero, List.setIfInBounds_toArray, List.set_cons_succ, List.set_cons_zero]
                refine wpAnyC_one 14 (hcz1) rfl (by kernel_rfl) (wanted_free rfl _) (fun KA hKA => ?_)
                go_simp
                refine (HLa.out _ g1 cap1 (hB1.out.trans ((below_drawn z1 _).mono hB1.out.size)) (hr1.bel (below_drawn z1 _))).mono ?_
                rintro e z2 ⟨a2, c2, rfl, hr2, hq2, hb2⟩
                have hBz : Kpt (Below wr.heap.size wr z2) := ⟨((hB1.out.trans ((below_drawn z1 _).mono hB1.out.size))).trans (hb2.mono ((hB1.out.trans ((below_drawn z1 _).mono hB1.out.size))).size)⟩
                have hRz := Kpt.mk hr2
                have hqz : Kpt (Aside tag S FB (.slice a2 N c2) X) := ⟨fun _ q hq => by
                  have h1 := hq2 q hq
                  have h2 := hB1.out.size
                  have h3 := L.out.bx.lt
                  have h4 := L.out.sl.bx.lt
                  have h5 : z1.heap.size ≤ q := h1
                  exact ⟨wd_none L.out.wd (by omega), by omega, by omega⟩⟩
                have hcz2 : z2.cell? ⟨b0, off0 + k, none⟩ = some (.slice A m C) := hcW.out _ (L.out.bel hBz.out).below
                refine hKA _ _ ?_
                clear hKA KA
                try simp only [Act.put, List.getElem_toArray, List.getElem_cons_succ, List.getElem_cons_zero, List.setIfInBounds_toArray, List.set_cons_succ, List.set_cons_zero]
                refine wpAnyC_take 15 (.pointer (some ⟨FB, 0, none⟩)) rfl (by kernel_rfl) (by kernel_rfl) (by kernel_rfl) (fun _ _ _ h => h) (wanted_free rfl _) (fun W hW => by go_simp) ?_
                try simp only [Act.put, List.getElem_toArray, List.getElem_cons_succ, List.getElem_cons_zero, List.setIfInBounds_toArray, List.set_cons_succ, List.set_cons_zero]
                refine wpAnyC_one 16 (hcz2) rfl (by kernel_rfl) (wanted_free rfl _) (fun KA hKA => ?_)
                refine wp_store_cell rfl (b := FB) (j := 0) (v := .slice a2 N c2) rfl rfl rfl (L.out.bel hBz.out).bx (by simp) info23 (fun y hXy hgy => ?_)
                refine hKA _ _ ?_
                clear hKA KA
                try simp only [Act.put, List.getElem_toArray, List.getElem_cons_succ, List.getElem_cons_zero, List.setIfInBounds_toArray, List.set_cons_succ, List.set_cons_zero]
                have hcy : y.cell? ⟨b0, off0 + k, none⟩ = some (.slice A m C) := hcW.out _ ((L.out.bel hBz.out).below.trans (Below.ofGrown hgy (L.out.bel hBz.out).below.size L.out.loF))
                refine wpAnyC_done (hcy) (by kernel_rfl) ?_
                have L2 := Kpt.mk (L.out.bel hBz.out)
                have HSv := Kpt.mk (sf_save L2.out hgy h12 n0 hlt A m C (P := P) hr0.out hm.out.symm (by omega) hby.out (by rw [← hF.out]; exact hfair.out))
                replace hXy := Kpt.mk hXy
                replace hgy := Kpt.mk hgy
                have hcR : y.cell? ⟨b0, off0 + k, none⟩ = some (.slice A m C) := hcW.out _ ((L2.out.below).trans (Below.ofGrown hgy.out L2.out.below.size L2.out.loF))
                clear HLa HRc
                go_wp2_with fail
                refine HSv.out.mono ?_
                rintro e w7 ⟨tag7, st7, hw7, hs7, hor⟩
                have hby7 : Kpt (Below w.heap.size w w7) := ⟨(L2.out.below.trans (Below.ofGrown hgy.out L2.out.below.size L2.out.loF)).trans (hs7.bel (Nat.le_trans L2.out.below.size hgy.out.size) L2.out.tags L2.out.lo)⟩
                have ht7 : Kpt (∀ i, i < w.heap.size → tag7 i = none) := ⟨fun i hi => hs7.bare i (Nat.lt_of_lt_of_le hi (Nat.le_trans L2.out.below.size hgy.out.size)) (L2.out.tags i hi)⟩
                rcases hor with ⟨v7, rfl, hR7, ha7, hc7, hS7, hse7⟩ | ⟨rfl, hD7⟩
                · have Ln := Kpt.mk (sf_next0 L2.out hpar h12 (by rw [hX.out, hF.out]) hRz.out hqz.out hgy.out hXy.out hw7 hs7 hR7 ha7 hc7 hS7 hse7)
                  clear hR7 hS7 hse7 hw7 hs7 HSv
                  go_wp2_with fail
                  go_roundw
                  case rel => exact ⟨k + 1, (k : Int), by omega, by omega, by go_num, rfl, ⟨by omega⟩, ⟨_, _, _, _, _, _, _, _, _, _, _, Ln.out⟩⟩
                  case measure => simp [intOf]; omega
                · replace hw7 := Kpt.mk hw7
                  replace hD7 := Kpt.mk hD7
                  clear hs7 HSv
                  go_wp2_with fail
                  refine (HCr.out _ _ _ hw7.out hD7.out hby7.out ht7.out).mono ?_
                  rintro e z5 ⟨rfl, tag5, st5, hw5, hF5, hf5, hc5, hb5, ht5⟩
                  replace hw5 := Kpt.mk hw5
                  replace hF5 := Kpt.mk hF5
                  replace hf5 := Kpt.mk hf5
                  replace hb5 := Kpt.mk hb5
                  replace ht5 := Kpt.mk ht5
                  go_wp2_with fail
                  refine (HO.out _ B tag5 st5 hw5.out hb5.out).mono ?_
                  rintro e z6 ⟨S6, rfl, hw6, hS6, hSl6, hb6⟩
                  replace hw6 := Kpt.mk hw6
                  replace hS6 := Kpt.mk hS6
                  replace hb6 := Kpt.mk hb6
                  clear hw5 hb5
                  go_wp2_with fail
                  refine (load_j S6 B _ _ _ tag5 st5 _ hS6.out hw6.out P k n0 hF5.out hf5.out hc5).mono ?_
                  rintro e z7 ⟨hs7, hor⟩
                  have hb7 : Kpt (Below w.heap.size w z7) := ⟨hb6.out.trans (hs7.bel hb6.out.size ht5.out hSl6)⟩
                  clear hs7 hw6 hS6 hb6 hF5 hf5
                  rcases hor with ⟨hk00, a7, c7, rfl⟩ | ⟨J, a7, c7, j1, j2, j3, rfl, hr7⟩
                  · have hl1 : lst = -1 := by have := hlst.out; omega
                    subst hl1
                    go_wp2_with fail
                    go_ret
                    exact ⟨rfl, hb7.out⟩
                  · obtain ⟨bJ, offJ, AJ, CJ, haJ, hcJ0, hrJ0, hbyJ⟩ := hP.out J j3
                    obtain ⟨eb, eo⟩ : bJ = b0 ∧ offJ = off0 := by cases haJ; exact ⟨rfl, rfl⟩
                    rw [eb, eo] at hcJ0
                    clear haJ eb eo
                    have hbJl : b0 < w.heap.size := World.block_lt_of_cell? w ⟨b0, off0 + J, none⟩ hcJ0
                    obtain ⟨mJ, hmJ⟩ : ∃ m, m = (P J).length := ⟨_, rfl⟩
                    rw [← hmJ] at hcJ0 hrJ0 hr7 ⊢
                    have hcJ := (World.cell?_of_block (a := ⟨b0, off0 + J, none⟩) (hb7.out.block b0 hbJl)).trans hcJ0
                    have hrJ := hrJ0.bel hb7.out
                    have k1 : IntKind.i64.wrap ((J : Int) + 1) = (J : Int) + 1 := by rw [IntKind.wrap_i64]; omega
                    have k2 : IntKind.i64.wrap ((k : Int) + 1) = (k : Int) + 1 := by rw [IntKind.wrap_i64]; omega
                    have k3 : IntKind.i64.wrap ((J : Int) + 1 - 1) = (J : Int) := by rw [IntKind.wrap_i64]; omega
                    have k4 : ¬ ((J : Int) + 1 < 1) := by omega
                    have k5 : ¬ ((k : Int) + 1 < (J : Int) + 1) := by omega
                    have k5b : ¬ ((k : Int) < (J : Int)) := by omega
                    have k6 : lst ≤ (J : Int) := by have := hlst.out; omega
                    have k7 : (J : Int) < n0 := by omega
                    have k8 : ¬ ((J : Int) < lst) := by omega
                    replace hmJ := Kpt.mk hmJ
                    replace hcJ0 := Kpt.mk hcJ0
                    clear hrJ0 hbyJ
                    replace hcJ := Kpt.mk hcJ
                    replace hrJ := Kpt.mk hrJ
                    replace hr7 := Kpt.mk hr7
                    go_wp2_with fail
                    refine wp_region_any (by kernel_rfl) ?_
                    refine wpAny_of_C (C := fun W => W.cell? ⟨b0, off0 + J, none⟩ = some (.slice AJ mJ CJ) ∧ RdAt W (.slice AJ mJ CJ) (P J) ∧ RdAt W (.slice a7 mJ c7) (P J)) _ _ _ _ ?_
                    refine wpAnyC_take 0 (.int .i64 J) rfl (by kernel_rfl) (by kernel_rfl) (by kernel_rfl) (fun _ _ _ h => h) (wanted_free rfl _) (fun W hW => by go_simp) ?_
                    try simp only [Act.put, List.getElem_toArray, List.getElem_cons_succ, List.getElem_cons_zero, List.setIfInBounds_toArray, List.set_cons_succ, List.set_cons_zero]
                    refine wpAnyC_take 1 (.int .i64 lst) rfl (by kernel_rfl) (by kernel_rfl) (by kernel_rfl) (fun _ _ _ h => h) (wanted_free rfl _) (fun W hW => by go_simp) ?_
                    try simp only [Act.put, List.getElem_toArray, List.getElem_cons_succ, List.getElem_cons_zero, List.setIfInBounds_toArray, List.set_cons_succ, List.set_cons_zero]
                    refine wpAnyC_take 2 (.bool true) rfl (by kernel_rfl) (by kernel_rfl) (by kernel_rfl) (fun _ _ _ h => h) (wanted_free rfl _) (fun W hW => by go_simp) ?_
                    try simp only [Act.put, List.getElem_toArray, List.getElem_cons_succ, List.getElem_cons_zero, List.setIfInBounds_toArray, List.set_cons_succ, List.set_cons_zero]
                    refine wpAnyC_take 3 (.bool true) rfl (by kernel_rfl) (by kernel_rfl) (by kernel_rfl) (fun _ _ _ h => h) (wanted_free rfl _) (fun W hW => by go_simp) ?_
                    try simp only [Act.put, List.getElem_toArray, List.getElem_cons_succ, List.getElem_cons_zero, List.setIfInBounds_toArray, List.set_cons_succ, List.set_cons_zero]
                    refine wpAnyC_take 4 (.int .i64 J) rfl (by kernel_rfl) (by kernel_rfl) (by kernel_rfl) (fun _ _ _ h => h) (wanted_at true rfl rfl rfl rfl) (fun W hW => by go_simp) ?_
                    try simp only [Act.put, List.getElem_toArray, List.getElem_cons_succ, List.getElem_cons_zero, List.setIfInBounds_toArray, List.set_cons_succ, List.set_cons_zero]
                    refine wpAnyC_take 5 (.slice (some ⟨b0, off0, none⟩) n0 c0) rfl (by kernel_rfl) (by kernel_rfl) (by kernel_rfl) (fun _ _ _ h => h) (wanted_at true rfl rfl rfl rfl) (fun W hW => by go_simp) ?_
                    try simp only [Act.put, List.getElem_toArray, List.getElem_cons_succ, List.getElem_cons_zero, List.setIfInBounds_toArray, List.set_cons_succ, List.set_cons_zero]
                    refine wpAnyC_take 6 (.int .i64 n0) rfl (by kernel_rfl) (by kernel_rfl) (by kernel_rfl) (fun _ _ _ h => h) (wanted_at true rfl rfl rfl rfl) (fun W hW => by go_simp) ?_
                    try simp only [Act.put, List.getElem_toArray, List.getElem_cons_succ, List.getElem_cons_zero, List.setIfInBounds_toArray, List.set_cons_succ, List.set_cons_zero]
                    refine wpAnyC_take 7 (.bool true) rfl (by kernel_rfl) (by kernel_rfl) (by kernel_rfl) (fun _ _ _ h => h) (wanted_at true rfl rfl rfl rfl) (fun W hW => by go_simp) ?_
                    try simp only [Act.put, List.getElem_toArray, List.getElem_cons_succ, List.getElem_cons_zero, List.setIfInBounds_toArray, List.set_cons_succ, List.set_cons_zero]
                    refine wpAnyC_take 8 (.bool true) rfl (by kernel_rfl) (by kernel_rfl) (by kernel_rfl) (fun _ _ _ h => h) (wanted_free rfl _) (fun W hW => by go_simp) ?_
                    try simp only [Act.put, List.getElem_toArray, List.getElem_cons_succ, List.getElem_cons_zero, List.setIfInBounds_toArray, List.set_cons_succ, List.set_cons_zero]
                    refine wpAnyC_take 9 (.bool true) rfl (by kernel_rfl) (by kernel_rfl) (by kernel_rfl) (fun _ _ _ h => h) (wanted_free rfl _) (fun W hW => by go_simp) ?_
                    try simp only [Act.put, List.getElem_toArray, List.getElem_cons_succ, List.getElem_cons_zero, List.setIfInBounds_toArray, List.set_cons_succ, List.set_cons_zero]
                    refine wpAnyC_take 10 (.slice a7 mJ c7) rfl (by kernel_rfl) (by kernel_rfl) (by kernel_rfl) (fun _ _ _ h => h) (wanted_at true rfl rfl rfl rfl) (fun W hW => by go_simp) ?_
                    try simp only [Act.put, List.getElem_toArray, List.getElem_cons_succ, List.getElem_cons_zero, List.setIfInBounds_toArray, List.set_cons_succ, List.set_cons_zero]
                    refine wpAnyC_take 11 (.string (strOfNums (P J))) rfl (by kernel_rfl) (by kernel_rfl) (by kernel_rfl) (fun _ _ _ h => h) (wanted_at true rfl rfl rfl rfl) (fun W hW => by have h := conv_rd W _ (P J) hW.2.2; go_simp) ?_
                    try simp only [Act.put, List.getElem_toArray, List.getElem_cons_succ, List.getElem_cons_zero, List.setIfInBounds_toArray, List.set_cons_succ, List.set_cons_zero]
                    refine wpAnyC_take 12 (.slice (some ⟨b0, off0, none⟩) n0 c0) rfl (by kernel_rfl) (by kernel_rfl) (by kernel_rfl) (fun _ _ _ h => h) (wanted_at true rfl rfl rfl rfl) (fun W hW => by go_simp) ?_
                    try simp only [Act.put, List.getElem_toArray, List.getElem_cons_succ, List.getElem_cons_zero, List.setIfInBounds_toArray, List.set_cons_succ, List.set_cons_zero]
                    refine wpAnyC_take 13 (.int .i64 J) rfl (by kernel_rfl) (by kernel_rfl) (by kernel_rfl) (fun _ _ _ h => h) (wanted_at true rfl rfl rfl rfl) (fun W hW => by go_simp) ?_
                    try simp only [Act.put, List.getElem_toArray, List.getElem_cons_succ, List.getElem_cons_zero, List.setIfInBounds_toArray, List.set_cons_succ, List.set_cons_zero]
                    refine wpAnyC_take 14 (.pointer (some ⟨b0, off0 + J, none⟩)) rfl (by kernel_rfl) (by kernel_rfl) (by kernel_rfl) (fun _ _ _ h => h) (wanted_at true rfl rfl rfl rfl) (fun W hW => by go_simp) ?_
                    try simp only [Act.put, List.getElem_toArray, List.getElem_cons_succ, List.getElem_cons_zero, List.setIfInBounds_toArray, List.set_cons_succ, List.set_cons_zero]
                    refine wpAnyC_take 15 (.slice AJ mJ CJ) rfl (by kernel_rfl) (by kernel_rfl) (by kernel_rfl) (fun _ _ _ h => h) (wanted_at true rfl rfl rfl rfl) (fun W hW => by have h := hW.1; go_simp) ?_
                    try simp only [Act.put, List.getElem_toArray, List.getElem_cons_succ, List.getElem_cons_zero, List.setIfInBounds_toArray, List.set_cons_succ, List.set_cons_zero]
                    refine wpAnyC_take 16 (.string (strOfNums (P J))) rfl (by kernel_rfl) (by kernel_rfl) (by kernel_rfl) (fun _ _ _ h => h) (wanted_at true rfl rfl rfl rfl) (fun W hW => by have h := conv_rd W _ (P J) hW.2.1; go_simp) ?_
                    try simp only [Act.put, List.getElem_toArray, List.getElem_cons_succ, List.getElem_cons_zero, List.setIfInBounds_toArray, List.set_cons_succ, List.set_cons_zero]
                    refine wpAnyC_take 17 (.bool true) rfl (by kernel_rfl) (by kernel_rfl) (by kernel_rfl) (fun _ _ _ h => h) (wanted_at true rfl rfl rfl rfl) (fun W hW => by go_simp) ?_
                    try simp only [Act.put, List.getElem_toArray, List.getElem_cons_succ, List.getElem_cons_zero, List.setIfInBounds_toArray, List.set_cons_succ, List.set_cons_zero]
                    refine wpAnyC_take 18 (.bool true) rfl (by kernel_rfl) (by kernel_rfl) (by kernel_rfl) (fun _ _ _ h => h) (wanted_free rfl _) (fun W hW => by go_simp) ?_
                    try simp only [Act.put, List.getElem_toArray, List.getElem_cons_succ, List.getElem_cons_zero, List.setIfInBounds_toArray, List.set_cons_succ, List.set_cons_zero]
                    refine wpAnyC_take 19 (.bool true) rfl (by kernel_rfl) (by kernel_rfl) (by kernel_rfl) (fun _ _ _ h => h) (wanted_free rfl _) (fun W hW => by go_simp) ?_
                    try simp only [Act.put, List.getElem_toArray, List.getElem_cons_succ, List.getElem_cons_zero, List.setIfInBounds_toArray, List.set_cons_succ, List.set_cons_zero]
                    refine wpAnyC_done (⟨hcJ.out, hrJ.out.bel (below_drawn z7 _), hr7.out.bel (below_drawn z7 _)⟩) (by kernel_rfl) ?_
                    go_wp2_with fail
                    go_ret
                    exact ⟨rfl, hb7.out.trans ((below_drawn z7 _).mono hb7.out.size)⟩
        · replace hpar : k % 2 = 1 := by omega
          have efk : fnk k = fn1 KK := if_neg (by omega)
          have tm : Int.tmod (k : Int) 2 = 1 := by rw [Int.tmod_eq_emod_of_nonneg (by omega)]; omega
          have tm2 : (k : Int) % 2 = 1 := by omega
          obtain ⟨F, hF⟩ : ∃ F, F = (st.seen (fnk k)).getD [] := ⟨_, rfl⟩
          have hrF : RdAt wr (.slice a1F m1F c1F) F := by rw [hF, efk]; exact L.out.r1
          have hFl : F.length = m1F := rd_lenF hrF
          have hFb : Bytes F := by rw [hF]; exact getD_byt L.out.run.byt _
          have hFn : F.length ≤ 1000 := by rw [hF]; exact getD_len L.out.run _
          have hcF := L.out.at1
          by_cases hlen : 200 < m
          · have j0 : (200 : Int) < m := by omega
            replace hm := Kpt.mk hm
            replace hr0 := Kpt.mk hr0
            replace hrF := Kpt.mk hrF
            go_wp2_with fail
            refine wp_region_any (by kernel_rfl) ?_
            refine wpAny_of_C (C := fun W => W.cell? ⟨b0, off0 + k, none⟩ = some (.slice A m C) ∧ W.cell? ⟨FB, 1, none⟩ = some (.slice a1F m1F c1F)) _ _ _ _ ?_
            refine wpAnyC_take 0 (.slice (some ⟨b0, off0, none⟩) n0 c0) rfl (by kernel_rfl) (by kernel_rfl) (by kernel_rfl) (fun _ _ _ h => h) (wanted_free rfl _) (fun W hW => by go_simp) ?_
            try simp only [Act.put, List.getElem_toArray, List.getElem_cons_succ, List.getElem_cons_zero, List.setIfInBounds_toArray, List.set_cons_succ, List.set_cons_zero]
            refine wpAnyC_take 1 (.int .i64 k) rfl (by kernel_rfl) (by kernel_rfl) (by kernel_rfl) (fun _ _ _ h => h) (wanted_free rfl _) (fun W hW => by go_simp) ?_
            try simp only [Act.put, List.getElem_toArray, List.getElem_cons_succ, List.getElem_cons_zero, List.setIfInBounds_toArray, List.set_cons_succ, List.set_cons_zero]
            refine wpAnyC_take 2 (.pointer (some ⟨b0, off0 + k, none⟩)) rfl (by kernel_rfl) (by kernel_rfl) (by kernel_rfl) (fun _ _ _ h => h) (wanted_free rfl _) (fun W hW => by go_simp) ?_
            try simp only [Act.put, List.getElem_toArray, List.getElem_cons_succ, List.getElem_cons_zero, List.setIfInBounds_toArray, List.set_cons_succ, List.set_cons_zero]
            refine wpAnyC_take 3 (.slice A m C) rfl (by kernel_rfl) (by kernel_rfl) (by kernel_rfl) (fun _ _ _ h => h) (wanted_free rfl _) (fun W hW => by have h := hW.1; go_simp) ?_
            try simp only [Act.put, List.getElem_toArray, List.getElem_cons_succ, List.getElem_cons_zero, List.setIfInBounds_toArray, List.set_cons_succ, List.set_cons_zero]
            refine wpAnyC_take 4 (.int .i64 m) rfl (by kernel_rfl) (by kernel_rfl) (by kernel_rfl) (fun _ _ _ h => h) (wanted_free rfl _) (fun W hW => by go_simp) ?_
            try simp only [Act.put, List.getElem_toArray, List.getElem_cons_succ, List.getElem_cons_zero, List.setIfInBounds_toArray, List.set_cons_succ, List.set_cons_zero]
            refine wpAnyC_take 5 (.bool true) rfl (by kernel_rfl) (by kernel_rfl) (by kernel_rfl) (fun _ _ _ h => h) (wanted_free rfl _) (fun W hW => by go_simp) ?_
            try simp only [Act.put, List.getElem_toArray, List.getElem_cons_succ, List.getElem_cons_zero, List.setIfInBounds_toArray, List.set_cons_succ, List.set_cons_zero]
            refine wpAnyC_take 6 (.bool true) rfl (by kernel_rfl) (by kernel_rfl) (by kernel_rfl) (fun _ _ _ h => h) (wanted_free rfl _) (fun W hW => by go_simp) ?_
            try simp only [Act.put, List.getElem_toArray, List.getElem_cons_succ, List.getElem_cons_zero, List.setIfInBounds_toArray, List.set_cons_succ, List.set_cons_zero]
            refine wpAnyC_skip 7 rfl (by kernel_rfl) (by kernel_rfl) (by kernel_rfl) (fun _ _ _ h => h) (wanted_no false rfl rfl rfl rfl) ?_
            try simp only [Act.put, List.getElem_toArray, List.getElem_cons_succ, List.getElem_cons_zero, List.setIfInBounds_toArray, List.set_cons_succ, List.set_cons_zero]
            refine wpAnyC_skip 8 rfl (by kernel_rfl) (by kernel_rfl) (by kernel_rfl) (fun _ _ _ h => h) (wanted_no false rfl rfl rfl rfl) ?_
            try simp only [Act.put, List.getElem_toArray, List.getElem_cons_succ, List.getElem_cons_zero, List.setIfInBounds_toArray, List.set_cons_succ, List.set_cons_zero]
            refine wpAnyC_skip 9 rfl (by kernel_rfl) (by kernel_rfl) (by kernel_rfl) (fun _ _ _ h => h) (wanted_no false rfl rfl rfl rfl) ?_
            try simp only [Act.put, List.getElem_toArray, List.getElem_cons_succ, List.getElem_cons_zero, List.setIfInBounds_toArray, List.set_cons_succ, List.set_cons_zero]
            refine wpAnyC_skip 10 rfl (by kernel_rfl) (by kernel_rfl) (by kernel_rfl) (fun _ _ _ h => h) (wanted_no false rfl rfl rfl rfl) ?_
            try simp only [Act.put, List.getElem_toArray, List.getElem_cons_succ, List.getElem_cons_zero, List.setIfInBounds_toArray, List.set_cons_succ, List.set_cons_zero]
            refine wpAnyC_skip 11 rfl (by kernel_rfl) (by kernel_rfl) (by kernel_rfl) (fun _ _ _ h => h) (wanted_no false rfl rfl rfl rfl) ?_
            try simp only [Act.put, List.getElem_toArray, List.getElem_cons_succ, List.getElem_cons_zero, List.setIfInBounds_toArray, List.set_cons_succ, List.set_cons_zero]
            refine wpAnyC_skip 12 rfl (by kernel_rfl) (by kernel_rfl) (by kernel_rfl) (fun _ _ _ h => h) (wanted_no false rfl rfl rfl rfl) ?_
            try simp only [Act.put, List.getElem_toArray, List.getElem_cons_succ, List.getElem_cons_zero, List.setIfInBounds_toArray, List.set_cons_succ, List.set_cons_zero]
            refine wpAnyC_skip 13 rfl (by kernel_rfl) (by kernel_rfl) (by kernel_rfl) (fun _ _ _ h => h) (wanted_no false rfl rfl rfl rfl) ?_
            try simp only [Act.put, List.getElem_toArray, List.getElem_cons_succ, List.getElem_cons_zero, List.setIfInBounds_toArray, List.set_cons_succ, List.set_cons_zero]
            refine wpAnyC_skip 14 rfl (by kernel_rfl) (by kernel_rfl) (by kernel_rfl) (fun _ _ _ h => h) (wanted_no false rfl rfl rfl rfl) ?_
            try simp only [Act.put, List.getElem_toArray, List.getElem_cons_succ, List.getElem_cons_zero, List.setIfInBounds_toArray, List.set_cons_succ, List.set_cons_zero]
            refine wpAnyC_skip 15 rfl (by kernel_rfl) (by kernel_rfl) (by kernel_rfl) (fun _ _ _ h => h) (wanted_no false rfl rfl rfl rfl) ?_
            try simp only [Act.put, List.getElem_toArray, List.getElem_cons_succ, List.getElem_cons_zero, List.setIfInBounds_toArray, List.set_cons_succ, List.set_cons_zero]
            refine wpAnyC_skip 16 rfl (by kernel_rfl) (by kernel_rfl) (by kernel_rfl) (fun _ _ _ h => h) (wanted_no false rfl rfl rfl rfl) ?_
            try simp only [Act.put, List.getElem_toArray, List.getElem_cons_succ, List.getElem_cons_zero, List.setIfInBounds_toArray, List.set_cons_succ, List.set_cons_zero]
            refine wpAnyC_skip 17 rfl (by kernel_rfl) (by kernel_rfl) (by kernel_rfl) (fun _ _ _ h => h) (wanted_no false rfl rfl rfl rfl) ?_
            try simp only [Act.put, List.getElem_toArray, List.getElem_cons_succ, List.getElem_cons_zero, List.setIfInBounds_toArray, List.set_cons_succ, List.set_cons_zero]
            refine wpAnyC_skip 18 rfl (by kernel_rfl) (by kernel_rfl) (by kernel_rfl) (fun _ _ _ h => h) (wanted_no false rfl rfl rfl rfl) ?_
            try simp only [Act.put, List.getElem_toArray, List.getElem_cons_succ, List.getElem_cons_zero, List.setIfInBounds_toArray, List.set_cons_succ, List.set_cons_zero]
            refine wpAnyC_take 19 (.bool true) rfl (by kernel_rfl) (by kernel_rfl) (by kernel_rfl) (fun _ _ _ h => h) (wanted_free rfl _) (fun W hW => by go_simp) ?_
            try simp only [Act.put, List.getElem_toArray, List.getElem_cons_succ, List.getElem_cons_zero, List.setIfInBounds_toArray, List.set_cons_succ, List.set_cons_zero]
            refine wpAnyC_done (⟨hcr, hcF⟩) (by kernel_rfl) ?_
            go_wp2_with fail
            go_ret
            exact ⟨rfl, L.out.below.trans ((below_drawn wr _).mono L.out.below.size)⟩
          · have j0 : ¬ (200 : Int) < m := by omega
            have HCh : Kpt (∀ V, Below wr.heap.size wr V → Calls Try.prog 15 #[.slice a1F m1F c1F, .int .u64 ((k : Int) + 1), .slice A m C] V fun e w' => ∃ b, e = .returned (.bool b) ∧ Below V.heap.size V w' ∧ (b = false → ∀ j, j < 20 + m → Fair F ((k : Int) + 1) (P k) j)) := ⟨fun V hV => chance_any _ _ _ F ((k : Int) + 1) A m C (P k) V (hrF.bel hV) hFl hFb (by omega) ((hr0.bel L.out.below).bel hV) hm.symm hby (by omega) (by omega) (by omega)⟩
            have HRc : Kpt (∀ V, Below wr.heap.size wr V → Calls Try.prog 11 #[.int .u64 ((k : Int) + 1), .slice A m C] V fun e w' => ∃ g cap, e = .returned (.slice (some ⟨g, 0, none⟩) (20 + m) cap) ∧ RdAt w' (.slice (some ⟨g, 0, none⟩) (20 + m) cap) (recL ((k : Int) + 1) (P k)) ∧ Below V.heap.size V w') := ⟨fun V hV => (rrec_any ((k : Int) + 1) A m C (P k) V (by omega) (by omega) ((hr0.bel L.out.below).bel hV) hm.symm (by omega) hby).mono (fun e w' ⟨g, cap, x1, x2, x3⟩ => ⟨g, cap, x1, own_rd x2, x3⟩)⟩
            obtain ⟨X, hX⟩ : ∃ X, X = laidL F 0 (recL ((k : Int) + 1) (P k)) := ⟨_, rfl⟩
            obtain ⟨N, hN⟩ : ∃ N, N = X.length := ⟨_, rfl⟩
            have HLa : Kpt (∀ V g cap, Below wr.heap.size wr V → RdAt V (.slice (some ⟨g, 0, none⟩) (20 + m) cap) (recL ((k : Int) + 1) (P k)) → Calls Try.prog 16 #[.slice a1F m1F c1F, .slice (some ⟨g, 0, none⟩) (20 + m) cap] V fun e w' => ∃ a c, e = .returned (.slice a N c) ∧ RdAt w' (.slice a N c) X ∧ (∀ q, (Value.slice a N c).ownBlock = some q → V.heap.size ≤ q) ∧ Below V.heap.size V w') := ⟨fun V g cap hV hr => by
              refine (llaid_any _ _ _ F _ (20 + m) cap _ V (hrF.bel hV) hFl hr (by rw [recL_len, hm]) (by omega) N (by rw [hN, hX])).mono ?_
              rintro e w' ⟨a, c, x1, x2, x3⟩
              rw [← hX] at x2
              exact ⟨a, c, x1, own_rd0 x2 hN.symm, fun q hq => (World.ownsRow.lt x2 q hq).1, x3⟩⟩
            have hLd : Kpt (∀ y, wr.grownBy y (some FB) → True) := ⟨fun _ _ => trivial⟩
            replace hr0 := Kpt.mk hr0
            replace hrF := Kpt.mk hrF
            replace hX := Kpt.mk hX
            replace hN := Kpt.mk hN
            replace hF := Kpt.mk hF
            replace hFl := Kpt.mk hFl
            replace hFb := Kpt.mk hFb
            replace hby := Kpt.mk hby
            replace hm := Kpt.mk hm
            go_wp2_with fail
            refine wp_region_any (by kernel_rfl) ?_
            refine wpAny_of_C (C := fun W => W.cell? ⟨b0, off0 + k, none⟩ = some (.slice A m C) ∧ W.cell? ⟨FB, 1, none⟩ = some (.slice a1F m1F c1F)) _ _ _ _ ?_
            refine wpAnyC_take 0 (.slice (some ⟨b0, off0, none⟩) n0 c0) rfl (by kernel_rfl) (by kernel_rfl) (by kernel_rfl) (fun _ _ _ h => h) (wanted_free rfl _) (fun W hW => by go_simp) ?_
            try simp only [Act.put, List.getElem_toArray, List.getElem_cons_succ, List.getElem_cons_zero, List.setIfInBounds_toArray, List.set_cons_succ, List.set_cons_zero]
            refine wpAnyC_take 1 (.int .i64 k) rfl (by kernel_rfl) (by kernel_rfl) (by kernel_rfl) (fun _ _ _ h => h) (wanted_free rfl _) (fun W hW => by go_simp) ?_
            try simp only [Act.put, List.getElem_toArray, List.getElem_cons_succ, List.getElem_cons_zero, List.setIfInBounds_toArray, List.set_cons_succ, List.set_cons_zero]
            refine wpAnyC_take 2 (.pointer (some ⟨b0, off0 + k, none⟩)) rfl (by kernel_rfl) (by kernel_rfl) (by kernel_rfl) (fun _ _ _ h => h) (wanted_free rfl _) (fun W hW => by go_simp) ?_
            try simp only [Act.put, List.getElem_toArray, List.getElem_cons_succ, List.getElem_cons_zero, List.setIfInBounds_toArray, List.set_cons_succ, List.set_cons_zero]
            refine wpAnyC_take 3 (.slice A m C) rfl (by kernel_rfl) (by kernel_rfl) (by kernel_rfl) (fun _ _ _ h => h) (wanted_free rfl _) (fun W hW => by have h := hW.1; go_simp) ?_
            try simp only [Act.put, List.getElem_toArray, List.getElem_cons_succ, List.getElem_cons_zero, List.setIfInBounds_toArray, List.set_cons_succ, List.set_cons_zero]
            refine wpAnyC_take 4 (.int .i64 m) rfl (by kernel_rfl) (by kernel_rfl) (by kernel_rfl) (fun _ _ _ h => h) (wanted_free rfl _) (fun W hW => by go_simp) ?_
            try simp only [Act.put, List.getElem_toArray, List.getElem_cons_succ, List.getElem_cons_zero, List.setIfInBounds_toArray, List.set_cons_succ, List.set_cons_zero]
            refine wpAnyC_take 5 (.bool false) rfl (by kernel_rfl) (by kernel_rfl) (by kernel_rfl) (fun _ _ _ h => h) (wanted_free rfl _) (fun W hW => by go_simp) ?_
            try simp only [Act.put, List.getElem_toArray, List.getElem_cons_succ, List.getElem_cons_zero, List.setIfInBounds_toArray, List.set_cons_succ, List.set_cons_zero]
            refine wpAnyC_take 6 (.bool false) rfl (by kernel_rfl) (by kernel_rfl) (by kernel_rfl) (fun _ _ _ h => h) (wanted_free rfl _) (fun W hW => by go_simp) ?_
            try simp only [Act.put, List.getElem_toArray, List.getElem_cons_succ, List.getElem_cons_zero, List.setIfInBounds_toArray, List.set_cons_succ, List.set_cons_zero]
            refine wpAnyC_take 7 (.int .i64 k) rfl (by kernel_rfl) (by kernel_rfl) (by kernel_rfl) (fun _ _ _ h => h) (wanted_at false rfl rfl rfl rfl) (fun W hW => by go_simp) ?_
            try simp only [Act.put, List.getElem_toArray, List.getElem_cons_succ, List.getElem_cons_zero, List.setIfInBounds_toArray, List.set_cons_succ, List.set_cons_zero]
            refine wpAnyC_take 8 (.int .i64 1) rfl (by kernel_rfl) (by kernel_rfl) (by kernel_rfl) (fun _ _ _ h => h) (wanted_at false rfl rfl rfl rfl) (fun W hW => by go_simp) ?_
            try simp only [Act.put, List.getElem_toArray, List.getElem_cons_succ, List.getElem_cons_zero, List.setIfInBounds_toArray, List.set_cons_succ, List.set_cons_zero]
            refine wpAnyC_take 9 (.pointer (some ⟨FB, 1, none⟩)) rfl (by kernel_rfl) (by kernel_rfl) (by kernel_rfl) (fun _ _ _ h => h) (wanted_at false rfl rfl rfl rfl) (fun W hW => by go_simp) ?_
            try simp only [Act.put, List.getElem_toArray, List.getElem_cons_succ, List.getElem_cons_zero, List.setIfInBounds_toArray, List.set_cons_succ, List.set_cons_zero]
            refine wpAnyC_take 10 (.slice a1F m1F c1F) rfl (by kernel_rfl) (by kernel_rfl) (by kernel_rfl) (fun _ _ _ h => h) (wanted_at false rfl rfl rfl rfl) (fun W hW => by have h := hW.2; go_simp) ?_
            try simp only [Act.put, List.getElem_toArray, List.getElem_cons_succ, List.getElem_cons_zero, List.setIfInBounds_toArray, List.set_cons_succ, List.set_cons_zero]
            refine wpAnyC_take 11 (.int .i64 k) rfl (by kernel_rfl) (by kernel_rfl) (by kernel_rfl) (fun _ _ _ h => h) (wanted_at false rfl rfl rfl rfl) (fun W hW => by go_simp) ?_
            try simp only [Act.put, List.getElem_toArray, List.getElem_cons_succ, List.getElem_cons_zero, List.setIfInBounds_toArray, List.set_cons_succ, List.set_cons_zero]
            refine wpAnyC_take 12 (.int .i64 ((k : Int) + 1)) rfl (by kernel_rfl) (by kernel_rfl) (by kernel_rfl) (fun _ _ _ h => h) (wanted_at false rfl rfl rfl rfl) (fun W hW => by go_simp) ?_
            try simp only [Act.put, List.getElem_toArray, List.getElem_cons_succ, List.getElem_cons_zero, List.setIfInBounds_toArray, List.set_cons_succ, List.set_cons_zero]
            refine wpAnyC_take 13 (.int .u64 ((k : Int) + 1)) rfl (by kernel_rfl) (by kernel_rfl) (by kernel_rfl) (fun _ _ _ h => h) (wanted_at false rfl rfl rfl rfl) (fun W hW => by go_simp) ?_
            try simp only [Act.put, List.getElem_toArray, List.getElem_cons_succ, List.getElem_cons_zero, List.setIfInBounds_toArray, List.set_cons_succ, List.set_cons_zero]
            refine wpAnyC_take 14 (.slice (some ⟨b0, off0, none⟩) n0 c0) rfl (by kernel_rfl) (by kernel_rfl) (by kernel_rfl) (fun _ _ _ h => h) (wanted_at false rfl rfl rfl rfl) (fun W hW => by go_simp) ?_
            try simp only [Act.put, List.getElem_toArray, List.getElem_cons_succ, List.getElem_cons_zero, List.setIfInBounds_toArray, List.set_cons_succ, List.set_cons_zero]
            refine wpAnyC_take 15 (.int .i64 k) rfl (by kernel_rfl) (by kernel_rfl) (by kernel_rfl) (fun _ _ _ h => h) (wanted_at false rfl rfl rfl rfl) (fun W hW => by go_simp) ?_
            try simp only [Act.put, List.getElem_toArray, List.getElem_cons_succ, List.getElem_cons_zero, List.setIfInBounds_toArray, List.set_cons_succ, List.set_cons_zero]
            refine wpAnyC_take 16 (.pointer (some ⟨b0, off0 + k, none⟩)) rfl (by kernel_rfl) (by kernel_rfl) (by kernel_rfl) (fun _ _ _ h => h) (wanted_at false rfl rfl rfl rfl) (fun W hW => by go_simp) ?_
            try simp only [Act.put, List.getElem_toArray, List.getElem_cons_succ, List.getElem_cons_zero, List.setIfInBounds_toArray, List.set_cons_succ, List.set_cons_zero]
            refine wpAnyC_take 17 (.slice A m C) rfl (by kernel_rfl) (by kernel_rfl) (by kernel_rfl) (fun _ _ _ h => h) (wanted_at false rfl rfl rfl rfl) (fun W hW => by have h := hW.1; go_simp) ?_
            try simp only [Act.put, List.getElem_toArray, List.getElem_cons_succ, List.getElem_cons_zero, List.setIfInBounds_toArray, List.set_cons_succ, List.set_cons_zero]
            refine wpAnyC_one 18 (⟨hcr, hcF⟩) rfl (by kernel_rfl) (wanted_at false rfl rfl rfl rfl) (fun KA hKA => ?_)
            go_simp
            refine (HCh.out _ (below_drawn wr _)).mono ?_
            rintro e z ⟨bb, rfl, hbb, hch⟩
            replace hbb : Below wr.heap.size wr z := (below_drawn wr _).trans (hbb.mono (Nat.le_refl _))
            have hcz : z.cell? ⟨b0, off0 + k, none⟩ = some (.slice A m C) ∧ z.cell? ⟨FB, 1, none⟩ = some (.slice a1F m1F c1F) := ⟨hcW.out _ (L.out.bel hbb).below, (L.out.bel hbb).at1⟩
            refine hKA _ _ ?_
            clear hKA KA
            try simp only [Act.put, List.getElem_toArray, List.getElem_cons_succ, List.getElem_cons_zero, List.setIfInBounds_toArray, List.set_cons_succ, List.set_cons_zero]
            refine wpAnyC_take 19 (.bool bb) rfl (by kernel_rfl) (by kernel_rfl) (by kernel_rfl) (fun _ _ _ h => h) (wanted_free rfl _) (fun W hW => by go_simp) ?_
            try simp only [Act.put, List.getElem_toArray, List.getElem_cons_succ, List.getElem_cons_zero, List.setIfInBounds_toArray, List.set_cons_succ, List.set_cons_zero]
            refine wpAnyC_done (hcz) (by kernel_rfl) ?_
            cases bb with
            | true =>
              go_wp2_with fail
              go_ret
              exact ⟨rfl, (L.out.bel hbb).below⟩
            | false =>
              have hfair := Kpt.mk (hch rfl)
              have hbbK := Kpt.mk hbb
              clear hch hbb
              go_wp2_with fail
              refine wp_region_any (by kernel_rfl) ?_
              refine wpAny_of_C (C := fun W => W.cell? ⟨b0, off0 + k, none⟩ = some (.slice A m C)) _ _ _ _ ?_
              refine wpAnyC_take 0 (.int .i64 k) rfl (by kernel_rfl) (by kernel_rfl) (by kernel_rfl) (fun _ _ _ h => h) (wanted_free rfl _) (fun W hW => by go_simp) ?_
              try simp only [Act.put, List.getElem_toArray, List.getElem_cons_succ, List.getElem_cons_zero, List.setIfInBounds_toArray, List.set_cons_succ, List.set_cons_zero]
              refine wpAnyC_take 1 (.int .i64 1) rfl (by kernel_rfl) (by kernel_rfl) (by kernel_rfl) (fun _ _ _ h => h) (wanted_free rfl _) (fun W hW => by go_simp) ?_
              try simp only [Act.put, List.getElem_toArray, List.getElem_cons_succ, List.getElem_cons_zero, List.setIfInBounds_toArray, List.set_cons_succ, List.set_cons_zero]
              refine wpAnyC_take 2 (.int .i64 k) rfl (by kernel_rfl) (by kernel_rfl) (by kernel_rfl) (fun _ _ _ h => h) (wanted_free rfl _) (fun W hW => by go_simp) ?_
              try simp only [Act.put, List.getElem_toArray, List.getElem_cons_succ, List.getElem_cons_zero, List.setIfInBounds_toArray, List.set_cons_succ, List.set_cons_zero]
              refine wpAnyC_take 3 (.int .i64 1) rfl (by kernel_rfl) (by kernel_rfl) (by kernel_rfl) (fun _ _ _ h => h) (wanted_free rfl _) (fun W hW => by go_simp) ?_
              try simp only [Act.put, List.getElem_toArray, List.getElem_cons_succ, List.getElem_cons_zero, List.setIfInBounds_toArray, List.set_cons_succ, List.set_cons_zero]
              refine wpAnyC_take 4 (.pointer (some ⟨FB, 1, none⟩)) rfl (by kernel_rfl) (by kernel_rfl) (by kernel_rfl) (fun _ _ _ h => h) (wanted_free rfl _) (fun W hW => by go_simp) ?_
              try simp only [Act.put, List.getElem_toArray, List.getElem_cons_succ, List.getElem_cons_zero, List.setIfInBounds_toArray, List.set_cons_succ, List.set_cons_zero]
              refine wpAnyC_take 6 (.int .i64 k) rfl (by kernel_rfl) (by kernel_rfl) (by kernel_rfl) (fun _ _ _ h => h) (wanted_free rfl _) (fun W hW => by go_simp) ?_
              try simp only [Act.put, List.getElem_toArray, List.getElem_cons_succ, List.getElem_cons_zero, List.setIfInBounds_toArray, List.set_cons_succ, List.set_cons_zero]
              refine wpAnyC_take 7 (.int .i64 ((k : Int) + 1)) rfl (by kernel_rfl) (by kernel_rfl) (by kernel_rfl) (fun _ _ _ h => h) (wanted_free rfl _) (fun W hW => by go_simp) ?_
              try simp only [Act.put, List.getElem_toArray, List.getElem_cons_succ, List.getElem_cons_zero, List.setIfInBounds_toArray, List.set_cons_succ, List.set_cons_zero]
              refine wpAnyC_take 8 (.int .u64 ((k : Int) + 1)) rfl (by kernel_rfl) (by kernel_rfl) (by kernel_rfl) (fun _ _ _ h => h) (wanted_free rfl _) (fun W hW => by go_simp) ?_
              try simp only [Act.put, List.getElem_toArray, List.getElem_cons_succ, List.getElem_cons_zero, List.setIfInBounds_toArray, List.set_cons_succ, List.set_cons_zero]
              refine wpAnyC_take 9 (.slice (some ⟨b0, off0, none⟩) n0 c0) rfl (by kernel_rfl) (by kernel_rfl) (by kernel_rfl) (fun _ _ _ h => h) (wanted_free rfl _) (fun W hW => by go_simp) ?_
              try simp only [Act.put, List.getElem_toArray, List.getElem_cons_succ, List.getElem_cons_zero, List.setIfInBounds_toArray, List.set_cons_succ, List.set_cons_zero]
              refine wpAnyC_take 10 (.int .i64 k) rfl (by kernel_rfl) (by kernel_rfl) (by kernel_rfl) (fun _ _ _ h => h) (wanted_free rfl _) (fun W hW => by go_simp) ?_
              try simp only [Act.put, List.getElem_toArray, List.getElem_cons_succ, List.getElem_cons_zero, List.setIfInBounds_toArray, List.set_cons_succ, List.set_cons_zero]
              refine wpAnyC_take 11 (.pointer (some ⟨b0, off0 + k, none⟩)) rfl (by kernel_rfl) (by kernel_rfl) (by kernel_rfl) (fun _ _ _ h => h) (wanted_free rfl _) (fun W hW => by go_simp) ?_
              try simp only [Act.put, List.getElem_toArray, List.getElem_cons_succ, List.getElem_cons_zero, List.setIfInBounds_toArray, List.set_cons_succ, List.set_cons_zero]
              refine wpAnyC_take 12 (.slice A m C) rfl (by kernel_rfl) (by kernel_rfl) (by kernel_rfl) (fun _ _ _ h => h) (wanted_free rfl _) (fun W hW => by have h := hW; go_simp) ?_
              try simp only [Act.put, List.getElem_toArray, List.getElem_cons_succ, List.getElem_cons_zero, List.setIfInBounds_toArray, List.set_cons_succ, List.set_cons_zero]
              refine wpAnyC_two 5 13 hcz.1 rfl rfl (by kernel_rfl) (wanted_free rfl _) (wanted_free rfl _) (fun KA hKA => ?_) (fun KA hKA => ?_)
              · have hcl := hcz.2
                go_simp
                refine hKA _ _ ?_
                clear hKA KA hcl
                try simp only [Act.put, List.getElem_toArray, List.getElem_cons_succ, List.getElem_cons_zero, List.setIfInBounds_toArray, List.set_cons_succ, List.set_cons_zero]
                refine wpAnyC_one 13 (hcz.1) rfl (by kernel_rfl) (wanted_free rfl _) (fun KA hKA => ?_)
                go_simp
                refine (HRc.out _ (hbbK.out.trans ((below_drawn z _).mono hbbK.out.size))).mono ?_
                rintro e z1 ⟨g1, cap1, rfl, hr1, hb1⟩
                have hB1 : Kpt (Below wr.heap.size wr z1) := ⟨(hbbK.out.trans ((below_drawn z _).mono hbbK.out.size)).trans (hb1.mono hbbK.out.size)⟩
                have hcz1 : z1.cell? ⟨b0, off0 + k, none⟩ = some (.slice A m C) := hcW.out _ (L.out.bel hB1.out).below
                have hcf1 : z1.cell? ⟨FB, 1, none⟩ = some (.slice a1F m1F c1F) := (L.out.bel hB1.out).at1
                refine hKA _ _ ?_
                clear hKA KA
                try simp only [Act.put, List.getElem_toArray, List.getElem_cons_succ, List.getElem_cons_zero, List.setIfInBounds_toArray, List.set_cons_succ, List.set_cons_zero]
                refine wpAnyC_one 14 (hcz1) rfl (by kernel_rfl) (wanted_free rfl _) (fun KA hKA => ?_)
                go_simp
                refine (HLa.out _ g1 cap1 hB1.out hr1).mono ?_
                rintro e z2 ⟨a2, c2, rfl, hr2, hq2, hb2⟩
                have hBz : Kpt (Below wr.heap.size wr z2) := ⟨(hB1.out).trans (hb2.mono (hB1.out).size)⟩
                have hRz := Kpt.mk hr2
                have hqz : Kpt (Aside tag S FB (.slice a2 N c2) X) := ⟨fun _ q hq => by
                  have h1 := hq2 q hq
                  have h2 := hB1.out.size
                  have h3 := L.out.bx.lt
                  have h4 := L.out.sl.bx.lt
                  have h5 : z1.heap.size ≤ q := h1
                  exact ⟨wd_none L.out.wd (by omega), by omega, by omega⟩⟩
                have hcz2 : z2.cell? ⟨b0, off0 + k, none⟩ = some (.slice A m C) := hcW.out _ (L.out.bel hBz.out).below
                refine hKA _ _ ?_
                clear hKA KA
                try simp only [Act.put, List.getElem_toArray, List.getElem_cons_succ, List.getElem_cons_zero, List.setIfInBounds_toArray, List.set_cons_succ, List.set_cons_zero]
                refine wpAnyC_take 15 (.pointer (some ⟨FB, 1, none⟩)) rfl (by kernel_rfl) (by kernel_rfl) (by kernel_rfl) (fun _ _ _ h => h) (wanted_free rfl _) (fun W hW => by go_simp) ?_
                try simp only [Act.put, List.getElem_toArray, List.getElem_cons_succ, List.getElem_cons_zero, List.setIfInBounds_toArray, List.set_cons_succ, List.set_cons_zero]
                refine wpAnyC_one 16 (hcz2) rfl (by kernel_rfl) (wanted_free rfl _) (fun KA hKA => ?_)
                refine wp_store_cell rfl (b := FB) (j := 1) (v := .slice a2 N c2) rfl rfl rfl (L.out.bel hBz.out).bx (by simp) info23 (fun y hXy hgy => ?_)
                refine hKA _ _ ?_
                clear hKA KA
                try simp only [Act.put, List.getElem_toArray, List.getElem_cons_succ, List.getElem_cons_zero, List.setIfInBounds_toArray, List.set_cons_succ, List.set_cons_zero]
                have hcy : y.cell? ⟨b0, off0 + k, none⟩ = some (.slice A m C) := hcW.out _ ((L.out.bel hBz.out).below.trans (Below.ofGrown hgy (L.out.bel hBz.out).below.size L.out.loF))
                refine wpAnyC_done (hcy) (by kernel_rfl) ?_
                have L2 := Kpt.mk (L.out.bel hBz.out)
                have HSv := Kpt.mk (sf_save L2.out hgy h12 n0 hlt A m C (P := P) hr0.out hm.out.symm (by omega) hby.out (by rw [← hF.out]; exact hfair.out))
                replace hXy := Kpt.mk hXy
                replace hgy := Kpt.mk hgy
                have hcR : y.cell? ⟨b0, off0 + k, none⟩ = some (.slice A m C) := hcW.out _ ((L2.out.below).trans (Below.ofGrown hgy.out L2.out.below.size L2.out.loF))
                clear HLa HRc
                go_wp2_with fail
                refine HSv.out.mono ?_
                rintro e w7 ⟨tag7, st7, hw7, hs7, hor⟩
                have hby7 : Kpt (Below w.heap.size w w7) := ⟨(L2.out.below.trans (Below.ofGrown hgy.out L2.out.below.size L2.out.loF)).trans (hs7.bel (Nat.le_trans L2.out.below.size hgy.out.size) L2.out.tags L2.out.lo)⟩
                have ht7 : Kpt (∀ i, i < w.heap.size → tag7 i = none) := ⟨fun i hi => hs7.bare i (Nat.lt_of_lt_of_le hi (Nat.le_trans L2.out.below.size hgy.out.size)) (L2.out.tags i hi)⟩
                rcases hor with ⟨v7, rfl, hR7, ha7, hc7, hS7, hse7⟩ | ⟨rfl, hD7⟩
                · have Ln := Kpt.mk (sf_next1 L2.out hpar h12 (by rw [hX.out, hF.out]) hRz.out hqz.out hgy.out hXy.out hw7 hs7 hR7 ha7 hc7 hS7 hse7)
                  clear hR7 hS7 hse7 hw7 hs7 HSv
                  go_wp2_with fail
                  go_roundw
                  case rel => exact ⟨k + 1, (k : Int), by omega, by omega, by go_num, rfl, ⟨by omega⟩, ⟨_, _, _, _, _, _, _, _, _, _, _, Ln.out⟩⟩
                  case measure => simp [intOf]; omega
                · replace hw7 := Kpt.mk hw7
                  replace hD7 := Kpt.mk hD7
                  clear hs7 HSv
                  go_wp2_with fail
                  refine (HCr.out _ _ _ hw7.out hD7.out hby7.out ht7.out).mono ?_
                  rintro e z5 ⟨rfl, tag5, st5, hw5, hF5, hf5, hc5, hb5, ht5⟩
                  replace hw5 := Kpt.mk hw5
                  replace hF5 := Kpt.mk hF5
                  replace hf5 := Kpt.mk hf5
                  replace hb5 := Kpt.mk hb5
                  replace ht5 := Kpt.mk ht5
                  go_wp2_with fail
                  refine (HO.out _ B tag5 st5 hw5.out hb5.out).mono ?_
                  rintro e z6 ⟨S6, rfl, hw6, hS6, hSl6, hb6⟩
                  replace hw6 := Kpt.mk hw6
                  replace hS6 := Kpt.mk hS6
                  replace hb6 := Kpt.mk hb6
                  clear hw5 hb5
                  go_wp2_with fail
                  refine (load_j S6 B _ _ _ tag5 st5 _ hS6.out hw6.out P k n0 hF5.out hf5.out hc5).mono ?_
                  rintro e z7 ⟨hs7, hor⟩
                  have hb7 : Kpt (Below w.heap.size w z7) := ⟨hb6.out.trans (hs7.bel hb6.out.size ht5.out hSl6)⟩
                  clear hs7 hw6 hS6 hb6 hF5 hf5
                  rcases hor with ⟨hk00, a7, c7, rfl⟩ | ⟨J, a7, c7, j1, j2, j3, rfl, hr7⟩
                  · have hl1 : lst = -1 := by have := hlst.out; omega
                    subst hl1
                    go_wp2_with fail
                    go_ret
                    exact ⟨rfl, hb7.out⟩
                  · obtain ⟨bJ, offJ, AJ, CJ, haJ, hcJ0, hrJ0, hbyJ⟩ := hP.out J j3
                    obtain ⟨eb, eo⟩ : bJ = b0 ∧ offJ = off0 := by cases haJ; exact ⟨rfl, rfl⟩
                    rw [eb, eo] at hcJ0
                    clear haJ eb eo
                    have hbJl : b0 < w.heap.size := World.block_lt_of_cell? w ⟨b0, off0 + J, none⟩ hcJ0
                    obtain ⟨mJ, hmJ⟩ : ∃ m, m = (P J).length := ⟨_, rfl⟩
                    rw [← hmJ] at hcJ0 hrJ0 hr7 ⊢
                    have hcJ := (World.cell?_of_block (a := ⟨b0, off0 + J, none⟩) (hb7.out.block b0 hbJl)).trans hcJ0
                    have hrJ := hrJ0.bel hb7.out
                    have k1 : IntKind.i64.wrap ((J : Int) + 1) = (J : Int) + 1 := by rw [IntKind.wrap_i64]; omega
                    have k2 : IntKind.i64.wrap ((k : Int) + 1) = (k : Int) + 1 := by rw [IntKind.wrap_i64]; omega
                    have k3 : IntKind.i64.wrap ((J : Int) + 1 - 1) = (J : Int) := by rw [IntKind.wrap_i64]; omega
                    have k4 : ¬ ((J : Int) + 1 < 1) := by omega
                    have k5 : ¬ ((k : Int) + 1 < (J : Int) + 1) := by omega
                    have k5b : ¬ ((k : Int) < (J : Int)) := by omega
                    have k6 : lst ≤ (J : Int) := by have := hlst.out; omega
                    have k7 : (J : Int) < n0 := by omega
                    have k8 : ¬ ((J : Int) < lst) := by omega
                    replace hmJ := Kpt.mk hmJ
                    replace hcJ0 := Kpt.mk hcJ0
                    clear hrJ0 hbyJ
                    replace hcJ := Kpt.mk hcJ
                    replace hrJ := Kpt.mk hrJ
                    replace hr7 := Kpt.mk hr7
                    go_wp2_with fail
                    refine wp_region_any (by kernel_rfl) ?_
                    refine wpAny_of_C (C := fun W => W.cell? ⟨b0, off0 + J, none⟩ = some (.slice AJ mJ CJ) ∧ RdAt W (.slice AJ mJ CJ) (P J) ∧ RdAt W (.slice a7 mJ c7) (P J)) _ _ _ _ ?_
                    refine wpAnyC_take 0 (.int .i64 J) rfl (by kernel_rfl) (by kernel_rfl) (by kernel_rfl) (fun _ _ _ h => h) (wanted_free rfl _) (fun W hW => by go_simp) ?_
                    try simp only [Act.put, List.getElem_toArray, List.getElem_cons_succ, List.getElem_cons_zero, List.setIfInBounds_toArray, List.set_cons_succ, List.set_cons_zero]
                    refine wpAnyC_take 1 (.int .i64 lst) rfl (by kernel_rfl) (by kernel_rfl) (by kernel_rfl) (fun _ _ _ h => h) (wanted_free rfl _) (fun W hW => by go_simp) ?_
                    try simp only [Act.put, List.getElem_toArray, List.getElem_cons_succ, List.getElem_cons_zero, List.setIfInBounds_toArray, List.set_cons_succ, List.set_cons_zero]
                    refine wpAnyC_take 2 (.bool true) rfl (by kernel_rfl) (by kernel_rfl) (by kernel_rfl) (fun _ _ _ h => h) (wanted_free rfl _) (fun W hW => by go_simp) ?_
                    try simp only [Act.put, List.getElem_toArray, List.getElem_cons_succ, List.getElem_cons_zero, List.setIfInBounds_toArray, List.set_cons_succ, List.set_cons_zero]
                    refine wpAnyC_take 3 (.bool true) rfl (by kernel_rfl) (by kernel_rfl) (by kernel_rfl) (fun _ _ _ h => h) (wanted_free rfl _) (fun W hW => by go_simp) ?_
                    try simp only [Act.put, List.getElem_toArray, List.getElem_cons_succ, List.getElem_cons_zero, List.setIfInBounds_toArray, List.set_cons_succ, List.set_cons_zero]
                    refine wpAnyC_take 4 (.int .i64 J) rfl (by kernel_rfl) (by kernel_rfl) (by kernel_rfl) (fun _ _ _ h => h) (wanted_at true rfl rfl rfl rfl) (fun W hW => by go_simp) ?_
                    try simp only [Act.put, List.getElem_toArray, List.getElem_cons_succ, List.getElem_cons_zero, List.setIfInBounds_toArray, List.set_cons_succ, List.set_cons_zero]
                    refine wpAnyC_take 5 (.slice (some ⟨b0, off0, none⟩) n0 c0) rfl (by kernel_rfl) (by kernel_rfl) (by kernel_rfl) (fun _ _ _ h => h) (wanted_at true rfl rfl rfl rfl) (fun W hW => by go_simp) ?_
                    try simp only [Act.put, List.getElem_toArray, List.getElem_cons_succ, List.getElem_cons_zero, List.setIfInBounds_toArray, List.set_cons_succ, List.set_cons_zero]
                    refine wpAnyC_take 6 (.int .i64 n0) rfl (by kernel_rfl) (by kernel_rfl) (by kernel_rfl) (fun _ _ _ h => h) (wanted_at true rfl rfl rfl rfl) (fun W hW => by go_simp) ?_
                    try simp only [Act.put, List.getElem_toArray, List.getElem_cons_succ, List.getElem_cons_zero, List.setIfInBounds_toArray, List.set_cons_succ, List.set_cons_zero]
                    refine wpAnyC_take 7 (.bool true) rfl (by kernel_rfl) (by kernel_rfl) (by kernel_rfl) (fun _ _ _ h => h) (wanted_at true rfl rfl rfl rfl) (fun W hW => by go_simp) ?_
                    try simp only [Act.put, List.getElem_toArray, List.getElem_cons_succ, List.getElem_cons_zero, List.setIfInBounds_toArray, List.set_cons_succ, List.set_cons_zero]
                    refine wpAnyC_take 8 (.bool true) rfl (by kernel_rfl) (by kernel_rfl) (by kernel_rfl) (fun _ _ _ h => h) (wanted_free rfl _) (fun W hW => by go_simp) ?_
                    try simp only [Act.put, List.getElem_toArray, List.getElem_cons_succ, List.getElem_cons_zero, List.setIfInBounds_toArray, List.set_cons_succ, List.set_cons_zero]
                    refine wpAnyC_take 9 (.bool true) rfl (by kernel_rfl) (by kernel_rfl) (by kernel_rfl) (fun _ _ _ h => h) (wanted_free rfl _) (fun W hW => by go_simp) ?_
                    try simp only [Act.put, List.getElem_toArray, List.getElem_cons_succ, List.getElem_cons_zero, List.setIfInBounds_toArray, List.set_cons_succ, List.set_cons_zero]
                    refine wpAnyC_take 10 (.slice a7 mJ c7) rfl (by kernel_rfl) (by kernel_rfl) (by kernel_rfl) (fun _ _ _ h => h) (wanted_at true rfl rfl rfl rfl) (fun W hW => by go_simp) ?_
                    try simp only [Act.put, List.getElem_toArray, List.getElem_cons_succ, List.getElem_cons_zero, List.setIfInBounds_toArray, List.set_cons_succ, List.set_cons_zero]
                    refine wpAnyC_take 11 (.string (strOfNums (P J))) rfl (by kernel_rfl) (by kernel_rfl) (by kernel_rfl) (fun _ _ _ h => h) (wanted_at true rfl rfl rfl rfl) (fun W hW => by have h := conv_rd W _ (P J) hW.2.2; go_simp) ?_
                    try simp only [Act.put, List.getElem_toArray, List.getElem_cons_succ, List.getElem_cons_zero, List.setIfInBounds_toArray, List.set_cons_succ, List.set_cons_zero]
                    refine wpAnyC_take 12 (.slice (some ⟨b0, off0, none⟩) n0 c0) rfl (by kernel_rfl) (by kernel_rfl) (by kernel_rfl) (fun _ _ _ h => h) (wanted_at true rfl rfl rfl rfl) (fun W hW => by go_simp) ?_
                    try simp only [Act.put, List.getElem_toArray, List.getElem_cons_succ, List.getElem_cons_zero, List.setIfInBounds_toArray, List.set_cons_succ, List.set_cons_zero]
                    refine wpAnyC_take 13 (.int .i64 J) rfl (by kernel_rfl) (by kernel_rfl) (by kernel_rfl) (fun _ _ _ h => h) (wanted_at true rfl rfl rfl rfl) (fun W hW => by go_simp) ?_
                    try simp only [Act.put, List.getElem_toArray, List.getElem_cons_succ, List.getElem_cons_zero, List.setIfInBounds_toArray, List.set_cons_succ, List.set_cons_zero]
                    refine wpAnyC_take 14 (.pointer (some ⟨b0, off0 + J, none⟩)) rfl (by kernel_rfl) (by kernel_rfl) (by kernel_rfl) (fun _ _ _ h => h) (wanted_at true rfl rfl rfl rfl) (fun W hW => by go_simp) ?_
                    try simp only [Act.put, List.getElem_toArray, List.getElem_cons_succ, List.getElem_cons_zero, List.setIfInBounds_toArray, List.set_cons_succ, List.set_cons_zero]
                    refine wpAnyC_take 15 (.slice AJ mJ CJ) rfl (by kernel_rfl) (by kernel_rfl) (by kernel_rfl) (fun _ _ _ h => h) (wanted_at true rfl rfl rfl rfl) (fun W hW => by have h := hW.1; go_simp) ?_
                    try simp only [Act.put, List.getElem_toArray, List.getElem_cons_succ, List.getElem_cons_zero, List.setIfInBounds_toArray, List.set_cons_succ, List.set_cons_zero]
                    refine wpAnyC_take 16 (.string (strOfNums (P J))) rfl (by kernel_rfl) (by kernel_rfl) (by kernel_rfl) (fun _ _ _ h => h) (wanted_at true rfl rfl rfl rfl) (fun W hW => by have h := conv_rd W _ (P J) hW.2.1; go_simp) ?_
                    try simp only [Act.put, List.getElem_toArray, List.getElem_cons_succ, List.getElem_cons_zero, List.setIfInBounds_toArray, List.set_cons_succ, List.set_cons_zero]
                    refine wpAnyC_take 17 (.bool true) rfl (by kernel_rfl) (by kernel_rfl) (by kernel_rfl) (fun _ _ _ h => h) (wanted_at true rfl rfl rfl rfl) (fun W hW => by go_simp) ?_
                    try simp only [Act.put, List.getElem_toArray, List.getElem_cons_succ, List.getElem_cons_zero, List.setIfInBounds_toArray, List.set_cons_succ, List.set_cons_zero]
                    refine wpAnyC_take 18 (.bool true) rfl (by kernel_rfl) (by kernel_rfl) (by kernel_rfl) (fun _ _ _ h => h) (wanted_free rfl _) (fun W hW => by go_simp) ?_
                    try simp only [Act.put, List.getElem_toArray, List.getElem_cons_succ, List.getElem_cons_zero, List.setIfInBounds_toArray, List.set_cons_succ, List.set_cons_zero]
                    refine wpAnyC_take 19 (.bool true) rfl (by kernel_rfl) (by kernel_rfl) (by kernel_rfl) (fun _ _ _ h => h) (wanted_free rfl _) (fun W hW => by go_simp) ?_
                    try simp only [Act.put, List.getElem_toArray, List.getElem_cons_succ, List.getElem_cons_zero, List.setIfInBounds_toArray, List.set_cons_succ, List.set_cons_zero]
                    refine wpAnyC_done (⟨hcJ.out, hrJ.out.bel (below_drawn z7 _), hr7.out.bel (below_drawn z7 _)⟩) (by kernel_rfl) ?_
                    go_wp2_with fail
                    go_ret
                    exact ⟨rfl, hb7.out.trans ((below_drawn z7 _).mono hb7.out.size)⟩
              · go_simp
                refine (HRc.out _ (hbbK.out.trans ((below_drawn z _).mono hbbK.out.size))).mono ?_
                rintro e z1 ⟨g1, cap1, rfl, hr1, hb1⟩
                have hB1 : Kpt (Below wr.heap.size wr z1) := ⟨(hbbK.out.trans ((below_drawn z _).mono hbbK.out.size)).trans (hb1.mono hbbK.out.size)⟩
                have hcz1 : z1.cell? ⟨b0, off0 + k, none⟩ = some (.slice A m C) := hcW.out _ (L.out.bel hB1.out).below
                have hcf1 : z1.cell? ⟨FB, 1, none⟩ = some (.slice a1F m1F c1F) := (L.out.bel hB1.out).at1
                refine hKA _ _ ?_
                clear hKA KA
                try simp only [Act.put, List.getElem_toArray, List.getElem_cons_succ, List.getElem_cons_zero, List.setIfInBounds_toArray, List.set_cons_succ, List.set_cons_zero]
                refine wpAnyC_one 5 (hcz1) rfl (by kernel_rfl) (wanted_free rfl _) (fun KA hKA => ?_)
                have hcl := hcf1
                go_simp
                refine hKA _ _ ?_
                clear hKA KA hcl
                try simp only [Act.put, List.getElem_toArray, List.getElem_cons_succ, List.getElem_cons_zero, List.setIfInBounds_toArray, List.set_cons_succ, List.set_cons_zero]
                refine wpAnyC_one 14 (hcz1) rfl (by kernel_rfl) (wanted_free rfl _) (fun KA hKA => ?_)
                go_simp
                refine (HLa.out _ g1 cap1 (hB1.out.trans ((below_drawn z1 _).mono hB1.out.size)) (hr1.bel (below_drawn z1 _))).mono ?_
                rintro e z2 ⟨a2, c2, rfl, hr2, hq2, hb2⟩
                have hBz : Kpt (Below wr.heap.size wr z2) := ⟨((hB1.out.trans ((below_drawn z1 _).mono hB1.out.size))).trans (hb2.mono ((hB1.out.trans ((below_drawn z1 _).mono hB1.out.size))).size)⟩
                have hRz := Kpt.mk hr2
                have hqz : Kpt (Aside tag S FB (.slice a2 N c2) X) := ⟨fun _ q hq => by
                  have h1 := hq2 q hq
                  have h2 := hB1.out.size
                  have h3 := L.out.bx.lt
                  have h4 := L.out.sl.bx.lt
                  have h5 : z1.heap.size ≤ q := h1
                  exact ⟨wd_none L.out.wd (by omega), by omega, by omega⟩⟩
                have hcz2 : z2.cell? ⟨b0, off0 + k, none⟩ = some (.slice A m C) := hcW.out _ (L.out.bel hBz.out).below
                refine hKA _ _ ?_
                clear hKA KA
                try simp only [Act.put, List.getElem_toArray, List.getElem_cons_succ, List.getElem_cons_zero, List.setIfInBounds_toArray, List.set_cons_succ, List.set_cons_zero]
                refine wpAnyC_take 15 (.pointer (some ⟨FB, 1, none⟩)) rfl (by kernel_rfl) (by kernel_rfl) (by kernel_rfl) (fun _ _ _ h => h) (wanted_free rfl _) (fun W hW => by go_simp) ?_
                try simp only [Act.put, List.getElem_toArray, List.getElem_cons_succ, List.getElem_cons_zero, List.setIfInBounds_toArray, List.set_cons_succ, List.set_cons_zero]
                refine wpAnyC_one 16 (hcz2) rfl (by kernel_rfl) (wanted_free rfl _) (fun KA hKA => ?_)
                refine wp_store_cell rfl (b := FB) (j := 1) (v := .slice a2 N c2) rfl rfl rfl (L.out.bel hBz.out).bx (by simp) info23 (fun y hXy hgy => ?_)
                refine hKA _ _ ?_
                clear hKA KA
                try simp only [Act.put, List.getElem_toArray, List.getElem_cons_succ, List.getElem_cons_zero, List.setIfInBounds_toArray, List.set_cons_succ, List.set_cons_zero]
                have hcy : y.cell? ⟨b0, off0 + k, none⟩ = some (.slice A m C) := hcW.out _ ((L.out.bel hBz.out).below.trans (Below.ofGrown hgy (L.out.bel hBz.out).below.size L.out.loF))
                refine wpAnyC_done (hcy) (by kernel_rfl) ?_
                have L2 := Kpt.mk (L.out.bel hBz.out)
                have HSv := Kpt.mk (sf_save L2.out hgy h12 n0 hlt A m C (P := P) hr0.out hm.out.symm (by omega) hby.out (by rw [← hF.out]; exact hfair.out))
                replace hXy := Kpt.mk hXy
                replace hgy := Kpt.mk hgy
                have hcR : y.cell? ⟨b0, off0 + k, none⟩ = some (.slice A m C) := hcW.out _ ((L2.out.below).trans (Below.ofGrown hgy.out L2.out.below.size L2.out.loF))
                clear HLa HRc
                go_wp2_with fail
                refine HSv.out.mono ?_
                rintro e w7 ⟨tag7, st7, hw7, hs7, hor⟩
                have hby7 : Kpt (Below w.heap.size w w7) := ⟨(L2.out.below.trans (Below.ofGrown hgy.out L2.out.below.size L2.out.loF)).trans (hs7.bel (Nat.le_trans L2.out.below.size hgy.out.size) L2.out.tags L2.out.lo)⟩
                have ht7 : Kpt (∀ i, i < w.heap.size → tag7 i = none) := ⟨fun i hi => hs7.bare i (Nat.lt_of_lt_of_le hi (Nat.le_trans L2.out.below.size hgy.out.size)) (L2.out.tags i hi)⟩
                rcases hor with ⟨v7, rfl, hR7, ha7, hc7, hS7, hse7⟩ | ⟨rfl, hD7⟩
                · have Ln := Kpt.mk (sf_next1 L2.out hpar h12 (by rw [hX.out, hF.out]) hRz.out hqz.out hgy.out hXy.out hw7 hs7 hR7 ha7 hc7 hS7 hse7)
                  clear hR7 hS7 hse7 hw7 hs7 HSv
                  go_wp2_with fail
                  go_roundw
                  case rel => exact ⟨k + 1, (k : Int), by omega, by omega, by go_num, rfl, ⟨by omega⟩, ⟨_, _, _, _, _, _, _, _, _, _, _, Ln.out⟩⟩
                  case measure => simp [intOf]; omega
                · replace hw7 := Kpt.mk hw7
                  replace hD7 := Kpt.mk hD7
                  clear hs7 HSv
                  go_wp2_with fail
                  refine (HCr.out _ _ _ hw7.out hD7.out hby7.out ht7.out).mono ?_
                  rintro e z5 ⟨rfl, tag5, st5, hw5, hF5, hf5, hc5, hb5, ht5⟩
                  replace hw5 := Kpt.mk hw5
                  replace hF5 := Kpt.mk hF5
                  replace hf5 := Kpt.mk hf5
                  replace hb5 := Kpt.mk hb5
                  replace ht5 := Kpt.mk ht5
                  go_wp2_with fail
                  refine (HO.out _ B tag5 st5 hw5.out hb5.out).mono ?_
                  rintro e z6 ⟨S6, rfl, hw6, hS6, hSl6, hb6⟩
                  replace hw6 := Kpt.mk hw6
                  replace hS6 := Kpt.mk hS6
                  replace hb6 := Kpt.mk hb6
                  clear hw5 hb5
                  go_wp2_with fail
                  refine (load_j S6 B _ _ _ tag5 st5 _ hS6.out hw6.out P k n0 hF5.out hf5.out hc5).mono ?_
                  rintro e z7 ⟨hs7, hor⟩
                  have hb7 : Kpt (Below w.heap.size w z7) := ⟨hb6.out.trans (hs7.bel hb6.out.size ht5.out hSl6)⟩
                  clear hs7 hw6 hS6 hb6 hF5 hf5
                  rcases hor with ⟨hk00, a7, c7, rfl⟩ | ⟨J, a7, c7, j1, j2, j3, rfl, hr7⟩
                  · have hl1 : lst = -1 := by have := hlst.out; omega
                    subst hl1
                    go_wp2_with fail
                    go_ret
                    exact ⟨rfl, hb7.out⟩
                  · obtain ⟨bJ, offJ, AJ, CJ, haJ, hcJ0, hrJ0, hbyJ⟩ := hP.out J j3
                    obtain ⟨eb, eo⟩ : bJ = b0 ∧ offJ = off0 := by cases haJ; exact ⟨rfl, rfl⟩
                    rw [eb, eo] at hcJ0
                    clear haJ eb eo
                    have hbJl : b0 < w.heap.size := World.block_lt_of_cell? w ⟨b0, off0 + J, none⟩ hcJ0
                    obtain ⟨mJ, hmJ⟩ : ∃ m, m = (P J).length := ⟨_, rfl⟩
                    rw [← hmJ] at hcJ0 hrJ0 hr7 ⊢
                    have hcJ := (World.cell?_of_block (a := ⟨b0, off0 + J, none⟩) (hb7.out.block b0 hbJl)).trans hcJ0
                    have hrJ := hrJ0.bel hb7.out
                    have k1 : IntKind.i64.wrap ((J : Int) + 1) = (J : Int) + 1 := by rw [IntKind.wrap_i64]; omega
                    have k2 : IntKind.i64.wrap ((k : Int) + 1) = (k : Int) + 1 := by rw [IntKind.wrap_i64]; omega
                    have k3 : IntKind.i64.wrap ((J : Int) + 1 - 1) = (J : Int) := by rw [IntKind.wrap_i64]; omega
                    have k4 : ¬ ((J : Int) + 1 < 1) := by omega
                    have k5 : ¬ ((k : Int) + 1 < (J : Int) + 1) := by omega
                    have k5b : ¬ ((k : Int) < (J : Int)) := by omega
                    have k6 : lst ≤ (J : Int) := by have := hlst.out; omega
                    have k7 : (J : Int) < n0 := by omega
                    have k8 : ¬ ((J : Int) < lst) := by omega
                    replace hmJ := Kpt.mk hmJ
                    replace hcJ0 := Kpt.mk hcJ0
                    clear hrJ0 hbyJ
                    replace hcJ := Kpt.mk hcJ
                    replace hrJ := Kpt.mk hrJ
                    replace hr7 := Kpt.mk hr7
                    go_wp2_with fail
                    refine wp_region_any (by kernel_rfl) ?_
                    refine wpAny_of_C (C := fun W => W.cell? ⟨b0, off0 + J, none⟩ = some (.slice AJ mJ CJ) ∧ RdAt W (.slice AJ mJ CJ) (P J) ∧ RdAt W (.slice a7 mJ c7) (P J)) _ _ _ _ ?_
                    refine wpAnyC_take 0 (.int .i64 J) rfl (by kernel_rfl) (by kernel_rfl) (by kernel_rfl) (fun _ _ _ h => h) (wanted_free rfl _) (fun W hW => by go_simp) ?_
                    try simp only [Act.put, List.getElem_toArray, List.getElem_cons_succ, List.getElem_cons_zero, List.setIfInBounds_toArray, List.set_cons_succ, List.set_cons_zero]
                    refine wpAnyC_take 1 (.int .i64 lst) rfl (by kernel_rfl) (by kernel_rfl) (by kernel_rfl) (fun _ _ _ h => h) (wanted_free rfl _) (fun W hW => by go_simp) ?_
                    try simp only [Act.put, List.getElem_toArray, List.getElem_cons_succ, List.getElem_cons_zero, List.setIfInBounds_toArray, List.set_cons_succ, List.set_cons_zero]
                    refine wpAnyC_take 2 (.bool true) rfl (by kernel_rfl) (by kernel_rfl) (by kernel_rfl) (fun _ _ _ h => h) (wanted_free rfl _) (fun W hW => by go_simp) ?_
                    try simp only [Act.put, List.getElem_toArray, List.getElem_cons_succ, List.getElem_cons_zero, List.setIfInBounds_toArray, List.set_cons_succ, List.set_cons_zero]
                    refine wpAnyC_take 3 (.bool true) rfl (by kernel_rfl) (by kernel_rfl) (by kernel_rfl) (fun _ _ _ h => h) (wanted_free rfl _) (fun W hW => by go_simp) ?_
                    try simp only [Act.put, List.getElem_toArray, List.getElem_cons_succ, List.getElem_cons_zero, List.setIfInBounds_toArray, List.set_cons_succ, List.set_cons_zero]
                    refine wpAnyC_take 4 (.int .i64 J) rfl (by kernel_rfl) (by kernel_rfl) (by kernel_rfl) (fun _ _ _ h => h) (wanted_at true rfl rfl rfl rfl) (fun W hW => by go_simp) ?_
                    try simp only [Act.put, List.getElem_toArray, List.getElem_cons_succ, List.getElem_cons_zero, List.setIfInBounds_toArray, List.set_cons_succ, List.set_cons_zero]
                    refine wpAnyC_take 5 (.slice (some ⟨b0, off0, none⟩) n0 c0) rfl (by kernel_rfl) (by kernel_rfl) (by kernel_rfl) (fun _ _ _ h => h) (wanted_at true rfl rfl rfl rfl) (fun W hW => by go_simp) ?_
                    try simp only [Act.put, List.getElem_toArray, List.getElem_cons_succ, List.getElem_cons_zero, List.setIfInBounds_toArray, List.set_cons_succ, List.set_cons_zero]
                    refine wpAnyC_take 6 (.int .i64 n0) rfl (by kernel_rfl) (by kernel_rfl) (by kernel_rfl) (fun _ _ _ h => h) (wanted_at true rfl rfl rfl rfl) (fun W hW => by go_simp) ?_
                    try simp only [Act.put, List.getElem_toArray, List.getElem_cons_succ, List.getElem_cons_zero, List.setIfInBounds_toArray, List.set_cons_succ, List.set_cons_zero]
                    refine wpAnyC_take 7 (.bool true) rfl (by kernel_rfl) (by kernel_rfl) (by kernel_rfl) (fun _ _ _ h => h) (wanted_at true rfl rfl rfl rfl) (fun W hW => by go_simp) ?_
                    try simp only [Act.put, List.getElem_toArray, List.getElem_cons_succ, List.getElem_cons_zero, List.setIfInBounds_toArray, List.set_cons_succ, List.set_cons_zero]
                    refine wpAnyC_take 8 (.bool true) rfl (by kernel_rfl) (by kernel_rfl) (by kernel_rfl) (fun _ _ _ h => h) (wanted_free rfl _) (fun W hW => by go_simp) ?_
                    try simp only [Act.put, List.getElem_toArray, List.getElem_cons_succ, List.getElem_cons_zero, List.setIfInBounds_toArray, List.set_cons_succ, List.set_cons_zero]
                    refine wpAnyC_take 9 (.bool true) rfl (by kernel_rfl) (by kernel_rfl) (by kernel_rfl) (fun _ _ _ h => h) (wanted_free rfl _) (fun W hW => by go_simp) ?_
                    try simp only [Act.put, List.getElem_toArray, List.getElem_cons_succ, List.getElem_cons_zero, List.setIfInBounds_toArray, List.set_cons_succ, List.set_cons_zero]
                    refine wpAnyC_take 10 (.slice a7 mJ c7) rfl (by kernel_rfl) (by kernel_rfl) (by kernel_rfl) (fun _ _ _ h => h) (wanted_at true rfl rfl rfl rfl) (fun W hW => by go_simp) ?_
                    try simp only [Act.put, List.getElem_toArray, List.getElem_cons_succ, List.getElem_cons_zero, List.setIfInBounds_toArray, List.set_cons_succ, List.set_cons_zero]
                    refine wpAnyC_take 11 (.string (strOfNums (P J))) rfl (by kernel_rfl) (by kernel_rfl) (by kernel_rfl) (fun _ _ _ h => h) (wanted_at true rfl rfl rfl rfl) (fun W hW => by have h := conv_rd W _ (P J) hW.2.2; go_simp) ?_
                    try simp only [Act.put, List.getElem_toArray, List.getElem_cons_succ, List.getElem_cons_zero, List.setIfInBounds_toArray, List.set_cons_succ, List.set_cons_zero]
                    refine wpAnyC_take 12 (.slice (some ⟨b0, off0, none⟩) n0 c0) rfl (by kernel_rfl) (by kernel_rfl) (by kernel_rfl) (fun _ _ _ h => h) (wanted_at true rfl rfl rfl rfl) (fun W hW => by go_simp) ?_
                    try simp only [Act.put, List.getElem_toArray, List.getElem_cons_succ, List.getElem_cons_zero, List.setIfInBounds_toArray, List.set_cons_succ, List.set_cons_zero]
                    refine wpAnyC_take 13 (.int .i64 J) rfl (by kernel_rfl) (by kernel_rfl) (by kernel_rfl) (fun _ _ _ h => h) (wanted_at true rfl rfl rfl rfl) (fun W hW => by go_simp) ?_
                    try simp only [Act.put, List.getElem_toArray, List.getElem_cons_succ, List.getElem_cons_zero, List.setIfInBounds_toArray, List.set_cons_succ, List.set_cons_zero]
                    refine wpAnyC_take 14 (.pointer (some ⟨b0, off0 + J, none⟩)) rfl (by kernel_rfl) (by kernel_rfl) (by kernel_rfl) (fun _ _ _ h => h) (wanted_at true rfl rfl rfl rfl) (fun W hW => by go_simp) ?_
                    try simp only [Act.put, List.getElem_toArray, List.getElem_cons_succ, List.getElem_cons_zero, List.setIfInBounds_toArray, List.set_cons_succ, List.set_cons_zero]
                    refine wpAnyC_take 15 (.slice AJ mJ CJ) rfl (by kernel_rfl) (by kernel_rfl) (by kernel_rfl) (fun _ _ _ h => h) (wanted_at true rfl rfl rfl rfl) (fun W hW => by have h := hW.1; go_simp) ?_
                    try simp only [Act.put, List.getElem_toArray, List.getElem_cons_succ, List.getElem_cons_zero, List.setIfInBounds_toArray, List.set_cons_succ, List.set_cons_zero]
                    refine wpAnyC_take 16 (.string (strOfNums (P J))) rfl (by kernel_rfl) (by kernel_rfl) (by kernel_rfl) (fun _ _ _ h => h) (wanted_at true rfl rfl rfl rfl) (fun W hW => by have h := conv_rd W _ (P J) hW.2.1; go_simp) ?_
                    try simp only [Act.put, List.getElem_toArray, List.getElem_cons_succ, List.getElem_cons_zero, List.setIfInBounds_toArray, List.set_cons_succ, List.set_cons_zero]
                    refine wpAnyC_take 17 (.bool true) rfl (by kernel_rfl) (by kernel_rfl) (by kernel_rfl) (fun _ _ _ h => h) (wanted_at true rfl rfl rfl rfl) (fun W hW => by go_simp) ?_
                    try simp only [Act.put, List.getElem_toArray, List.getElem_cons_succ, List.getElem_cons_zero, List.setIfInBounds_toArray, List.set_cons_succ, List.set_cons_zero]
                    refine wpAnyC_take 18 (.bool true) rfl (by kernel_rfl) (by kernel_rfl) (by kernel_rfl) (fun _ _ _ h => h) (wanted_free rfl _) (fun W hW => by go_simp) ?_
                    try simp only [Act.put, List.getElem_toArray, List.getElem_cons_succ, List.getElem_cons_zero, List.setIfInBounds_toArray, List.set_cons_succ, List.set_cons_zero]
                    refine wpAnyC_take 19 (.bool true) rfl (by kernel_rfl) (by kernel_rfl) (by kernel_rfl) (fun _ _ _ h => h) (wanted_free rfl _) (fun W hW => by go_simp) ?_
                    try simp only [Act.put, List.getElem_toArray, List.getElem_cons_succ, List.getElem_cons_zero, List.setIfInBounds_toArray, List.set_cons_succ, List.set_cons_zero]
                    refine wpAnyC_done (⟨hcJ.out, hrJ.out.bel (below_drawn z7 _), hr7.out.bel (below_drawn z7 _)⟩) (by kernel_rfl) ?_
                    go_wp2_with fail
                    go_ret
                    exact ⟨rfl, hb7.out.trans ((below_drawn z7 _).mono hb7.out.size)⟩
      · have i0 : (k : Int) < n0 := by omega
        have i12 : ¬ (k : Int) < 12 := by omega
        go_wp2_with fail
        refine (HCr.out _ _ _ L.out.wd (sf_calm L.out hk12 n0 hk) L.out.below L.out.tags).mono ?_
        rintro e z5 ⟨rfl, tag5, st5, hw5, hF5, hf5, hc5, hb5, ht5⟩
        replace hw5 := Kpt.mk hw5
        replace hF5 := Kpt.mk hF5
        replace hf5 := Kpt.mk hf5
        replace hb5 := Kpt.mk hb5
        replace ht5 := Kpt.mk ht5
        go_wp2_with fail
        refine (HO.out _ B tag5 st5 hw5.out hb5.out).mono ?_
        rintro e z6 ⟨S6, rfl, hw6, hS6, hSl6, hb6⟩
        replace hw6 := Kpt.mk hw6
        replace hS6 := Kpt.mk hS6
        replace hb6 := Kpt.mk hb6
        clear hw5 hb5
        go_wp2_with fail
        refine (load_j S6 B _ _ _ tag5 st5 _ hS6.out hw6.out P k n0 hF5.out hf5.out hc5).mono ?_
        rintro e z7 ⟨hs7, hor⟩
        have hb7 : Kpt (Below w.heap.size w z7) := ⟨hb6.out.trans (hs7.bel hb6.out.size ht5.out hSl6)⟩
        clear hs7 hw6 hS6 hb6 hF5 hf5
        rcases hor with ⟨hk00, a7, c7, rfl⟩ | ⟨J, a7, c7, j1, j2, j3, rfl, hr7⟩
        · have hl1 : lst = -1 := by have := hlst.out; omega
          subst hl1
          go_wp2_with fail
          go_ret
          exact ⟨rfl, hb7.out⟩
        · obtain ⟨bJ, offJ, AJ, CJ, haJ, hcJ0, hrJ0, hbyJ⟩ := hP.out J j3
          have hbJl : bJ < w.heap.size := World.block_lt_of_cell? w ⟨bJ, offJ + J, none⟩ hcJ0
          obtain ⟨mJ, hmJ⟩ : ∃ m, m = (P J).length := ⟨_, rfl⟩
          rw [← hmJ] at hcJ0 hrJ0 hr7 ⊢
          have hcJ := (World.cell?_of_block (a := ⟨bJ, offJ + J, none⟩) (hb7.out.block bJ hbJl)).trans hcJ0
          have hrJ := hrJ0.bel hb7.out
          have k1 : IntKind.i64.wrap ((J : Int) + 1) = (J : Int) + 1 := by rw [IntKind.wrap_i64]; omega
          have k2 : IntKind.i64.wrap ((k : Int) + 1) = (k : Int) + 1 := by rw [IntKind.wrap_i64]; omega
          have k3 : IntKind.i64.wrap ((J : Int) + 1 - 1) = (J : Int) := by rw [IntKind.wrap_i64]; omega
          have k4 : ¬ ((J : Int) + 1 < 1) := by omega
          have k5 : ¬ ((k : Int) + 1 < (J : Int) + 1) := by omega
          have k5b : ¬ ((k : Int) < (J : Int)) := by omega
          have k6 : lst ≤ (J : Int) := by have := hlst.out; omega
          have k7 : (J : Int) < n0 := by omega
          have k8 : ¬ ((J : Int) < lst) := by omega
          subst haJ
          replace hmJ := Kpt.mk hmJ
          replace hcJ0 := Kpt.mk hcJ0
          clear hrJ0 hbyJ
          replace hcJ := Kpt.mk hcJ
          replace hrJ := Kpt.mk hrJ
          replace hr7 := Kpt.mk hr7
          go_wp2_with fail
          refine wp_region_any (by kernel_rfl) ?_
          refine wpAny_of_C (C := fun W => W.cell? ⟨bJ, offJ + J, none⟩ = some (.slice AJ mJ CJ) ∧ RdAt W (.slice AJ mJ CJ) (P J) ∧ RdAt W (.slice a7 mJ c7) (P J)) _ _ _ _ ?_
          refine wpAnyC_take 0 (.int .i64 J) rfl (by kernel_rfl) (by kernel_rfl) (by kernel_rfl) (fun _ _ _ h => h) (wanted_free rfl _) (fun W hW => by go_simp) ?_
          try simp only [Act.put, List.getElem_toArray, List.getElem_cons_succ, List.getElem_cons_zero, List.setIfInBounds_toArray, List.set_cons_succ, List.set_cons_zero]
          refine wpAnyC_take 1 (.int .i64 lst) rfl (by kernel_rfl) (by kernel_rfl) (by kernel_rfl) (fun _ _ _ h => h) (wanted_free rfl _) (fun W hW => by go_simp) ?_
          try simp only [Act.put, List.getElem_toArray, List.getElem_cons_succ, List.getElem_cons_zero, List.setIfInBounds_toArray, List.set_cons_succ, List.set_cons_zero]
          refine wpAnyC_take 2 (.bool true) rfl (by kernel_rfl) (by kernel_rfl) (by kernel_rfl) (fun _ _ _ h => h) (wanted_free rfl _) (fun W hW => by go_simp) ?_
          try simp only [Act.put, List.getElem_toArray, List.getElem_cons_succ, List.getElem_cons_zero, List.setIfInBounds_toArray, List.set_cons_succ, List.set_cons_zero]
          refine wpAnyC_take 3 (.bool true) rfl (by kernel_rfl) (by kernel_rfl) (by kernel_rfl) (fun _ _ _ h => h) (wanted_free rfl _) (fun W hW => by go_simp) ?_
          try simp only [Act.put, List.getElem_toArray, List.getElem_cons_succ, List.getElem_cons_zero, List.setIfInBounds_toArray, List.set_cons_succ, List.set_cons_zero]
          refine wpAnyC_take 4 (.int .i64 J) rfl (by kernel_rfl) (by kernel_rfl) (by kernel_rfl) (fun _ _ _ h => h) (wanted_at true rfl rfl rfl rfl) (fun W hW => by go_simp) ?_
          try simp only [Act.put, List.getElem_toArray, List.getElem_cons_succ, List.getElem_cons_zero, List.setIfInBounds_toArray, List.set_cons_succ, List.set_cons_zero]
          refine wpAnyC_take 5 (.slice (some ⟨bJ, offJ, none⟩) n0 c0) rfl (by kernel_rfl) (by kernel_rfl) (by kernel_rfl) (fun _ _ _ h => h) (wanted_at true rfl rfl rfl rfl) (fun W hW => by go_simp) ?_
          try simp only [Act.put, List.getElem_toArray, List.getElem_cons_succ, List.getElem_cons_zero, List.setIfInBounds_toArray, List.set_cons_succ, List.set_cons_zero]
          refine wpAnyC_take 6 (.int .i64 n0) rfl (by kernel_rfl) (by kernel_rfl) (by kernel_rfl) (fun _ _ _ h => h) (wanted_at true rfl rfl rfl rfl) (fun W hW => by go_simp) ?_
          try simp only [Act.put, List.getElem_toArray, List.getElem_cons_succ, List.getElem_cons_zero, List.setIfInBounds_toArray, List.set_cons_succ, List.set_cons_zero]
          refine wpAnyC_take 7 (.bool true) rfl (by kernel_rfl) (by kernel_rfl) (by kernel_rfl) (fun _ _ _ h => h) (wanted_at true rfl rfl rfl rfl) (fun W hW => by go_simp) ?_
          try simp only [Act.put, List.getElem_toArray, List.getElem_cons_succ, List.getElem_cons_zero, List.setIfInBounds_toArray, List.set_cons_succ, List.set_cons_zero]
          refine wpAnyC_take 8 (.bool true) rfl (by kernel_rfl) (by kernel_rfl) (by kernel_rfl) (fun _ _ _ h => h) (wanted_free rfl _) (fun W hW => by go_simp) ?_
          try simp only [Act.put, List.getElem_toArray, List.getElem_cons_succ, List.getElem_cons_zero, List.setIfInBounds_toArray, List.set_cons_succ, List.set_cons_zero]
          refine wpAnyC_take 9 (.bool true) rfl (by kernel_rfl) (by kernel_rfl) (by kernel_rfl) (fun _ _ _ h => h) (wanted_free rfl _) (fun W hW => by go_simp) ?_
          try simp only [Act.put, List.getElem_toArray, List.getElem_cons_succ, List.getElem_cons_zero, List.setIfInBounds_toArray, List.set_cons_succ, List.set_cons_zero]
          refine wpAnyC_take 10 (.slice a7 mJ c7) rfl (by kernel_rfl) (by kernel_rfl) (by kernel_rfl) (fun _ _ _ h => h) (wanted_at true rfl rfl rfl rfl) (fun W hW => by go_simp) ?_
          try simp only [Act.put, List.getElem_toArray, List.getElem_cons_succ, List.getElem_cons_zero, List.setIfInBounds_toArray, List.set_cons_succ, List.set_cons_zero]
          refine wpAnyC_take 11 (.string (strOfNums (P J))) rfl (by kernel_rfl) (by kernel_rfl) (by kernel_rfl) (fun _ _ _ h => h) (wanted_at true rfl rfl rfl rfl) (fun W hW => by have h := conv_rd W _ (P J) hW.2.2; go_simp) ?_
          try simp only [Act.put, List.getElem_toArray, List.getElem_cons_succ, List.getElem_cons_zero, List.setIfInBounds_toArray, List.set_cons_succ, List.set_cons_zero]
          refine wpAnyC_take 12 (.slice (some ⟨bJ, offJ, none⟩) n0 c0) rfl (by kernel_rfl) (by kernel_rfl) (by kernel_rfl) (fun _ _ _ h => h) (wanted_at true rfl rfl rfl rfl) (fun W hW => by go_simp) ?_
          try simp only [Act.put, List.getElem_toArray, List.getElem_cons_succ, List.getElem_cons_zero, List.setIfInBounds_toArray, List.set_cons_succ, List.set_cons_zero]
          refine wpAnyC_take 13 (.int .i64 J) rfl (by kernel_rfl) (by kernel_rfl) (by kernel_rfl) (fun _ _ _ h => h) (wanted_at true rfl rfl rfl rfl) (fun W hW => by go_simp) ?_
          try simp only [Act.put, List.getElem_toArray, List.getElem_cons_succ, List.getElem_cons_zero, List.setIfInBounds_toArray, List.set_cons_succ, List.set_cons_zero]
          refine wpAnyC_take 14 (.pointer (some ⟨bJ, offJ + J, none⟩)) rfl (by kernel_rfl) (by kernel_rfl) (by kernel_rfl) (fun _ _ _ h => h) (wanted_at true rfl rfl rfl rfl) (fun W hW => by go_simp) ?_
          try simp only [Act.put, List.getElem_toArray, List.getElem_cons_succ, List.getElem_cons_zero, List.setIfInBounds_toArray, List.set_cons_succ, List.set_cons_zero]
          refine wpAnyC_take 15 (.slice AJ mJ CJ) rfl (by kernel_rfl) (by kernel_rfl) (by kernel_rfl) (fun _ _ _ h => h) (wanted_at true rfl rfl rfl rfl) (fun W hW => by have h := hW.1; go_simp) ?_
          try simp only [Act.put, List.getElem_toArray, List.getElem_cons_succ, List.getElem_cons_zero, List.setIfInBounds_toArray, List.set_cons_succ, List.set_cons_zero]
          refine wpAnyC_take 16 (.string (strOfNums (P J))) rfl (by kernel_rfl) (by kernel_rfl) (by kernel_rfl) (fun _ _ _ h => h) (wanted_at true rfl rfl rfl rfl) (fun W hW => by have h := conv_rd W _ (P J) hW.2.1; go_simp) ?_
          try simp only [Act.put, List.getElem_toArray, List.getElem_cons_succ, List.getElem_cons_zero, List.setIfInBounds_toArray, List.set_cons_succ, List.set_cons_zero]
          refine wpAnyC_take 17 (.bool true) rfl (by kernel_rfl) (by kernel_rfl) (by kernel_rfl) (fun _ _ _ h => h) (wanted_at true rfl rfl rfl rfl) (fun W hW => by go_simp) ?_
          try simp only [Act.put, List.getElem_toArray, List.getElem_cons_succ, List.getElem_cons_zero, List.setIfInBounds_toArray, List.set_cons_succ, List.set_cons_zero]
          refine wpAnyC_take 18 (.bool true) rfl (by kernel_rfl) (by kernel_rfl) (by kernel_rfl) (fun _ _ _ h => h) (wanted_free rfl _) (fun W hW => by go_simp) ?_
          try simp only [Act.put, List.getElem_toArray, List.getElem_cons_succ, List.getElem_cons_zero, List.setIfInBounds_toArray, List.set_cons_succ, List.set_cons_zero]
          refine wpAnyC_take 19 (.bool true) rfl (by kernel_rfl) (by kernel_rfl) (by kernel_rfl) (fun _ _ _ h => h) (wanted_free rfl _) (fun W hW => by go_simp) ?_
          try simp only [Act.put, List.getElem_toArray, List.getElem_cons_succ, List.getElem_cons_zero, List.setIfInBounds_toArray, List.set_cons_succ, List.set_cons_zero]
          refine wpAnyC_done (⟨hcJ.out, hrJ.out.bel (below_drawn z7 _), hr7.out.bel (below_drawn z7 _)⟩) (by kernel_rfl) ?_
          go_wp2_with fail
          go_ret
          exact ⟨rfl, hb7.out.trans ((below_drawn z7 _).mono hb7.out.size)⟩
    · have i0 : ¬ (k : Int) < n0 := by omega
      go_wp2_with fail
      refine (HCr.out _ _ _ L.out.wd (sf_calm L.out hk12 n0 hk) L.out.below L.out.tags).mono ?_
      rintro e z5 ⟨rfl, tag5, st5, hw5, hF5, hf5, hc5, hb5, ht5⟩
      replace hw5 := Kpt.mk hw5
      replace hF5 := Kpt.mk hF5
      replace hf5 := Kpt.mk hf5
      replace hb5 := Kpt.mk hb5
      replace ht5 := Kpt.mk ht5
      go_wp2_with fail
      refine (HO.out _ B tag5 st5 hw5.out hb5.out).mono ?_
      rintro e z6 ⟨S6, rfl, hw6, hS6, hSl6, hb6⟩
      replace hw6 := Kpt.mk hw6
      replace hS6 := Kpt.mk hS6
      replace hb6 := Kpt.mk hb6
      clear hw5 hb5
      go_wp2_with fail
      refine (load_j S6 B _ _ _ tag5 st5 _ hS6.out hw6.out P k n0 hF5.out hf5.out hc5).mono ?_
      rintro e z7 ⟨hs7, hor⟩
      have hb7 : Kpt (Below w.heap.size w z7) := ⟨hb6.out.trans (hs7.bel hb6.out.size ht5.out hSl6)⟩
      clear hs7 hw6 hS6 hb6 hF5 hf5
      rcases hor with ⟨hk00, a7, c7, rfl⟩ | ⟨J, a7, c7, j1, j2, j3, rfl, hr7⟩
      · have hl1 : lst = -1 := by have := hlst.out; omega
        subst hl1
        go_wp2_with fail
        go_ret
        exact ⟨rfl, hb7.out⟩
      · obtain ⟨bJ, offJ, AJ, CJ, haJ, hcJ0, hrJ0, hbyJ⟩ := hP.out J j3
        have hbJl : bJ < w.heap.size := World.block_lt_of_cell? w ⟨bJ, offJ + J, none⟩ hcJ0
        obtain ⟨mJ, hmJ⟩ : ∃ m, m = (P J).length := ⟨_, rfl⟩
        rw [← hmJ] at hcJ0 hrJ0 hr7 ⊢
        have hcJ := (World.cell?_of_block (a := ⟨bJ, offJ + J, none⟩) (hb7.out.block bJ hbJl)).trans hcJ0
        have hrJ := hrJ0.bel hb7.out
        have k1 : IntKind.i64.wrap ((J : Int) + 1) = (J : Int) + 1 := by rw [IntKind.wrap_i64]; omega
        have k2 : IntKind.i64.wrap ((k : Int) + 1) = (k : Int) + 1 := by rw [IntKind.wrap_i64]; omega
        have k3 : IntKind.i64.wrap ((J : Int) + 1 - 1) = (J : Int) := by rw [IntKind.wrap_i64]; omega
        have k4 : ¬ ((J : Int) + 1 < 1) := by omega
        have k5 : ¬ ((k : Int) + 1 < (J : Int) + 1) := by omega
        have k5b : ¬ ((k : Int) < (J : Int)) := by omega
        have k6 : lst ≤ (J : Int) := by have := hlst.out; omega
        have k7 : (J : Int) < n0 := by omega
        have k8 : ¬ ((J : Int) < lst) := by omega
        subst haJ
        replace hmJ := Kpt.mk hmJ
        replace hcJ0 := Kpt.mk hcJ0
        clear hrJ0 hbyJ
        replace hcJ := Kpt.mk hcJ
        replace hrJ := Kpt.mk hrJ
        replace hr7 := Kpt.mk hr7
        go_wp2_with fail
        refine wp_region_any (by kernel_rfl) ?_
        refine wpAny_of_C (C := fun W => W.cell? ⟨bJ, offJ + J, none⟩ = some (.slice AJ mJ CJ) ∧ RdAt W (.slice AJ mJ CJ) (P J) ∧ RdAt W (.slice a7 mJ c7) (P J)) _ _ _ _ ?_
        refine wpAnyC_take 0 (.int .i64 J) rfl (by kernel_rfl) (by kernel_rfl) (by kernel_rfl) (fun _ _ _ h => h) (wanted_free rfl _) (fun W hW => by go_simp) ?_
        try simp only [Act.put, List.getElem_toArray, List.getElem_cons_succ, List.getElem_cons_zero, List.setIfInBounds_toArray, List.set_cons_succ, List.set_cons_zero]
        refine wpAnyC_take 1 (.int .i64 lst) rfl (by kernel_rfl) (by kernel_rfl) (by kernel_rfl) (fun _ _ _ h => h) (wanted_free rfl _) (fun W hW => by go_simp) ?_
        try simp only [Act.put, List.getElem_toArray, List.getElem_cons_succ, List.getElem_cons_zero, List.setIfInBounds_toArray, List.set_cons_succ, List.set_cons_zero]
        refine wpAnyC_take 2 (.bool true) rfl (by kernel_rfl) (by kernel_rfl) (by kernel_rfl) (fun _ _ _ h => h) (wanted_free rfl _) (fun W hW => by go_simp) ?_
        try simp only [Act.put, List.getElem_toArray, List.getElem_cons_succ, List.getElem_cons_zero, List.setIfInBounds_toArray, List.set_cons_succ, List.set_cons_zero]
        refine wpAnyC_take 3 (.bool true) rfl (by kernel_rfl) (by kernel_rfl) (by kernel_rfl) (fun _ _ _ h => h) (wanted_free rfl _) (fun W hW => by go_simp) ?_
        try simp only [Act.put, List.getElem_toArray, List.getElem_cons_succ, List.getElem_cons_zero, List.setIfInBounds_toArray, List.set_cons_succ, List.set_cons_zero]
        refine wpAnyC_take 4 (.int .i64 J) rfl (by kernel_rfl) (by kernel_rfl) (by kernel_rfl) (fun _ _ _ h => h) (wanted_at true rfl rfl rfl rfl) (fun W hW => by go_simp) ?_
        try simp only [Act.put, List.getElem_toArray, List.getElem_cons_succ, List.getElem_cons_zero, List.setIfInBounds_toArray, List.set_cons_succ, List.set_cons_zero]
        refine wpAnyC_take 5 (.slice (some ⟨bJ, offJ, none⟩) n0 c0) rfl (by kernel_rfl) (by kernel_rfl) (by kernel_rfl) (fun _ _ _ h => h) (wanted_at true rfl rfl rfl rfl) (fun W hW => by go_simp) ?_
        try simp only [Act.put, List.getElem_toArray, List.getElem_cons_succ, List.getElem_cons_zero, List.setIfInBounds_toArray, List.set_cons_succ, List.set_cons_zero]
        refine wpAnyC_take 6 (.int .i64 n0) rfl (by kernel_rfl) (by kernel_rfl) (by kernel_rfl) (fun _ _ _ h => h) (wanted_at true rfl rfl rfl rfl) (fun W hW => by go_simp) ?_
        try simp only [Act.put, List.getElem_toArray, List.getElem_cons_succ, List.getElem_cons_zero, List.setIfInBounds_toArray, List.set_cons_succ, List.set_cons_zero]
        refine wpAnyC_take 7 (.bool true) rfl (by kernel_rfl) (by kernel_rfl) (by kernel_rfl) (fun _ _ _ h => h) (wanted_at true rfl rfl rfl rfl) (fun W hW => by go_simp) ?_
        try simp only [Act.put, List.getElem_toArray, List.getElem_cons_succ, List.getElem_cons_zero, List.setIfInBounds_toArray, List.set_cons_succ, List.set_cons_zero]
        refine wpAnyC_take 8 (.bool true) rfl (by kernel_rfl) (by kernel_rfl) (by kernel_rfl) (fun _ _ _ h => h) (wanted_free rfl _) (fun W hW => by go_simp) ?_
        try simp only [Act.put, List.getElem_toArray, List.getElem_cons_succ, List.getElem_cons_zero, List.setIfInBounds_toArray, List.set_cons_succ, List.set_cons_zero]
        refine wpAnyC_take 9 (.bool true) rfl (by kernel_rfl) (by kernel_rfl) (by kernel_rfl) (fun _ _ _ h => h) (wanted_free rfl _) (fun W hW => by go_simp) ?_
        try simp only [Act.put, List.getElem_toArray, List.getElem_cons_succ, List.getElem_cons_zero, List.setIfInBounds_toArray, List.set_cons_succ, List.set_cons_zero]
        refine wpAnyC_take 10 (.slice a7 mJ c7) rfl (by kernel_rfl) (by kernel_rfl) (by kernel_rfl) (fun _ _ _ h => h) (wanted_at true rfl rfl rfl rfl) (fun W hW => by go_simp) ?_
        try simp only [Act.put, List.getElem_toArray, List.getElem_cons_succ, List.getElem_cons_zero, List.setIfInBounds_toArray, List.set_cons_succ, List.set_cons_zero]
        refine wpAnyC_take 11 (.string (strOfNums (P J))) rfl (by kernel_rfl) (by kernel_rfl) (by kernel_rfl) (fun _ _ _ h => h) (wanted_at true rfl rfl rfl rfl) (fun W hW => by have h := conv_rd W _ (P J) hW.2.2; go_simp) ?_
        try simp only [Act.put, List.getElem_toArray, List.getElem_cons_succ, List.getElem_cons_zero, List.setIfInBounds_toArray, List.set_cons_succ, List.set_cons_zero]
        refine wpAnyC_take 12 (.slice (some ⟨bJ, offJ, none⟩) n0 c0) rfl (by kernel_rfl) (by kernel_rfl) (by kernel_rfl) (fun _ _ _ h => h) (wanted_at true rfl rfl rfl rfl) (fun W hW => by go_simp) ?_
        try simp only [Act.put, List.getElem_toArray, List.getElem_cons_succ, List.getElem_cons_zero, List.setIfInBounds_toArray, List.set_cons_succ, List.set_cons_zero]
        refine wpAnyC_take 13 (.int .i64 J) rfl (by kernel_rfl) (by kernel_rfl) (by kernel_rfl) (fun _ _ _ h => h) (wanted_at true rfl rfl rfl rfl) (fun W hW => by go_simp) ?_
        try simp only [Act.put, List.getElem_toArray, List.getElem_cons_succ, List.getElem_cons_zero, List.setIfInBounds_toArray, List.set_cons_succ, List.set_cons_zero]
        refine wpAnyC_take 14 (.pointer (some ⟨bJ, offJ + J, none⟩)) rfl (by kernel_rfl) (by kernel_rfl) (by kernel_rfl) (fun _ _ _ h => h) (wanted_at true rfl rfl rfl rfl) (fun W hW => by go_simp) ?_
        try simp only [Act.put, List.getElem_toArray, List.getElem_cons_succ, List.getElem_cons_zero, List.setIfInBounds_toArray, List.set_cons_succ, List.set_cons_zero]
        refine wpAnyC_take 15 (.slice AJ mJ CJ) rfl (by kernel_rfl) (by kernel_rfl) (by kernel_rfl) (fun _ _ _ h => h) (wanted_at true rfl rfl rfl rfl) (fun W hW => by have h := hW.1; go_simp) ?_
        try simp only [Act.put, List.getElem_toArray, List.getElem_cons_succ, List.getElem_cons_zero, List.setIfInBounds_toArray, List.set_cons_succ, List.set_cons_zero]
        refine wpAnyC_take 16 (.string (strOfNums (P J))) rfl (by kernel_rfl) (by kernel_rfl) (by kernel_rfl) (fun _ _ _ h => h) (wanted_at true rfl rfl rfl rfl) (fun W hW => by have h := conv_rd W _ (P J) hW.2.1; go_simp) ?_
        try simp only [Act.put, List.getElem_toArray, List.getElem_cons_succ, List.getElem_cons_zero, List.setIfInBounds_toArray, List.set_cons_succ, List.set_cons_zero]
        refine wpAnyC_take 17 (.bool true) rfl (by kernel_rfl) (by kernel_rfl) (by kernel_rfl) (fun _ _ _ h => h) (wanted_at true rfl rfl rfl rfl) (fun W hW => by go_simp) ?_
        try simp only [Act.put, List.getElem_toArray, List.getElem_cons_succ, List.getElem_cons_zero, List.setIfInBounds_toArray, List.set_cons_succ, List.set_cons_zero]
        refine wpAnyC_take 18 (.bool true) rfl (by kernel_rfl) (by kernel_rfl) (by kernel_rfl) (fun _ _ _ h => h) (wanted_free rfl _) (fun W hW => by go_simp) ?_
        try simp only [Act.put, List.getElem_toArray, List.getElem_cons_succ, List.getElem_cons_zero, List.setIfInBounds_toArray, List.set_cons_succ, List.set_cons_zero]
        refine wpAnyC_take 19 (.bool true) rfl (by kernel_rfl) (by kernel_rfl) (by kernel_rfl) (fun _ _ _ h => h) (wanted_free rfl _) (fun W hW => by go_simp) ?_
        try simp only [Act.put, List.getElem_toArray, List.getElem_cons_succ, List.getElem_cons_zero, List.setIfInBounds_toArray, List.set_cons_succ, List.set_cons_zero]
        refine wpAnyC_done (⟨hcJ.out, hrJ.out.bel (below_drawn z7 _), hr7.out.bel (below_drawn z7 _)⟩) (by kernel_rfl) ?_
        go_wp2_with fail
        go_ret
        exact ⟨rfl, hb7.out.trans ((below_drawn z7 _).mono hb7.out.size)⟩
end Go.Proofs.Ytndlpmnidpandaa
