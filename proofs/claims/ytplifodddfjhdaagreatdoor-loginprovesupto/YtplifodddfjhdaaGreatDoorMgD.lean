/-
  login: a number's text; enter at a later step of the first stage. login: who it is that proves it. login: the steps of one that proves who it is. login: the step that proves it, or does not.
-/
import Derived.Test.YtplifodddfjhdaaGreatDoorMgF
import Derived.Test.YtplifodddfjhdaaGreatDoorShlI
import Derived.Test.YtplifodddfjhdaaGreatDoorMgG
import Derived.Test.YtplifodddfjhdaaGreatDoorMgB
namespace Go.Proofs.YtplifodddfjhdaaGreatDoor
open Go.RowKit
set_option linter.unusedVariables false
set_option linter.unusedSimpArgs false

theorem itoa_b (id : Int) (h : 0 ≤ id ∧ id ≤ 255) (w : World) (hG : Gl w) : Calls Tryz.prog 55 #[.int .i64 id] w fun e w' => e = .returned (.string (decS id.toNat)) ∧ Below w.heap.size w w' := by
  refine (Tryz.strconv_Itoa id (by omega) (by omega) w hG.tab).mono ?_
  rintro e w' ⟨rfl, k, os, rfl⟩
  refine ⟨?_, Lib.below_grow _ w (Nat.le_refl _) k os⟩
  rw [show Lib.itoa id = Lib.decDigits id.toNat from by unfold Lib.itoa; rw [if_neg (by omega)], decS_eq]
theorem num_dec (n : Nat) (hn : n ≤ 255) (w : World) : Calls Tryz.prog 22 #[.string (decS n)] w fun e w' => e = .returned (.tuple #[.int .u64 (n : Nat), .bool true]) ∧ w' = w := by
  have hl : (decS n).size ≤ maxLen := by
    rw [size_dec]
    have : ∀ m : Nat, (decL m).length ≤ m + 1 := by
      intro m
      induction m using Nat.strongRecOn with
      | _ m ih =>
        by_cases h : m < 10
        · rw [decL_small h]; simp
        · rw [decL_great (by omega)]
          have := ih (m / 10) (by omega)
          simp; omega
    have := this n
    unfold maxLen; omega
  have := rnumber_any (decS n) w hl
  rw [nums_dec, numS_dec n (by omega)] at this
  exact this
theorem leads_01 (w : World) : Calls Tryz.prog 38 #[.int .u8 0, .int .u8 1] w fun e w' => e = .returned (.bool true) ∧ w' = w := by
  go_enter Tryz.func38, Tryz.ntmps38
  go_wp2
  go_ret
  exact ⟨rfl, rfl⟩
theorem leads_03 (w : World) : Calls Tryz.prog 38 #[.int .u8 0, .int .u8 3] w fun e w' => e = .returned (.bool true) ∧ w' = w := by
  go_enter Tryz.func38, Tryz.ntmps38
  go_wp2
  go_ret
  exact ⟨rfl, rfl⟩
set_option maxRecDepth 100000 in
set_option maxHeartbeats 4000000 in
theorem enter_0t (nx : Int) (hnx : nx = 1 ∨ nx = 3) (h : Hd) (L : Nat) (s : Lg) (w : World) (hX : Bx w L s.v) (i1 : s.begun = true) (i2 : s.stage = 0) :
    Calls Tryz.prog 27 #[.pointer (some ⟨L, 0, none⟩), .agg (rqt 0 nx true h)] w fun e w' => e = .returned (.tuple #[.int .u8 0, .bool true]) ∧ Bx w' L s.v ∧ w.grownBy w' (some L) := by
  have fL : Kpt (∀ W : World, Calls Tryz.prog 38 #[.int .u8 0, .int .u8 nx] W fun e w' => e = .returned (.bool true) ∧ w' = W) := ⟨fun W => hnx.elim (fun e => by rw [e]; exact leads_01 W) (fun e => by rw [e]; exact leads_03 W)⟩
  have hlt := Kpt.mk hX.lt
  replace hX := Kpt.mk hX
  clear hnx
  go_enter Tryz.func27, Tryz.ntmps27
  go_wp2_with (first
    | (refine (?_ : wpList _ _ _ (Oper.mk _ (Op.box 39 _) _ _ _ _ :: _) _ _); go_must (refine wpList_box rfl 39 (.tmp 1) rfl (rqt 0 nx true h) rfl ?_; intro R w1 hR hBq hbe _; have hX1 := Kpt.mk (hX.out.below hbe hlt.out); have hbw := Kpt.mk hbe; have c5 := hX1.out.cells 5 (by simp [Lg.v]); simp [Lg.v, i1] at c5; have p1 : ∀ m, (w1.drewN m).cell? ⟨L, 6, none⟩ = some (.int .u8 0) := (fun m => by have := hX1.out.cells 6 (by simp [Lg.v]); simp [Lg.v, i2] at this; exact this); have p3 : ∀ m, (w1.drewN m).cell? ⟨R, 0, none⟩ = some (.int .u8 0) := (fun m => by have := hBq.cells 0 (by simp [rqt]); simp [rqt] at this; exact this); have p5 : ∀ m, (w1.drewN m).cell? ⟨R, 1, none⟩ = some (.int .u8 nx) := (fun m => by have := hBq.cells 1 (by simp [rqt]); simp [rqt] at this; exact this); have p4 : ∀ m, (w1.drewN m).cell? ⟨R, 2, none⟩ = some (.bool true) := (fun m => by have := hBq.cells 2 (by simp [rqt]); simp [rqt] at this; exact this); clear hR hBq hbe)))
  go_quiet ((go_at_call 38; exact Calls.quiet_of_same (fL.out _)))
  go_wp2
  go_ret2
  exact ⟨rfl, bx_drewN hX1.out _, grown_tr (grown_of_below hbw.out _) (grown_drewN _ _ _)⟩
set_option maxRecDepth 100000 in
set_option maxHeartbeats 4000000 in
theorem enter_0f (nx : Int) (hnx : nx = 1 ∨ nx = 3) (h : Hd) (L : Nat) (s : Lg) (w : World) (hX : Bx w L s.v) (i1 : s.begun = true) (i2 : s.stage = 0) :
    Calls Tryz.prog 27 #[.pointer (some ⟨L, 0, none⟩), .agg (rqt 0 nx false h)] w fun e w' => e = .returned (.tuple #[.int .u8 0, .bool true]) ∧ Bx w' L s.v ∧ w.grownBy w' (some L) := by
  have fL : Kpt (∀ W : World, Calls Tryz.prog 38 #[.int .u8 0, .int .u8 nx] W fun e w' => e = .returned (.bool true) ∧ w' = W) := ⟨fun W => hnx.elim (fun e => by rw [e]; exact leads_01 W) (fun e => by rw [e]; exact leads_03 W)⟩
  have hlt := Kpt.mk hX.lt
  replace hX := Kpt.mk hX
  clear hnx
  go_enter Tryz.func27, Tryz.ntmps27
  go_wp2_with (first
    | (refine (?_ : wpList _ _ _ (Oper.mk _ (Op.box 39 _) _ _ _ _ :: _) _ _); go_must (refine wpList_box rfl 39 (.tmp 1) rfl (rqt 0 nx false h) rfl ?_; intro R w1 hR hBq hbe _; have hX1 := Kpt.mk (hX.out.below hbe hlt.out); have hbw := Kpt.mk hbe; have c5 := hX1.out.cells 5 (by simp [Lg.v]); simp [Lg.v, i1] at c5; have p1 : ∀ m, (w1.drewN m).cell? ⟨L, 6, none⟩ = some (.int .u8 0) := (fun m => by have := hX1.out.cells 6 (by simp [Lg.v]); simp [Lg.v, i2] at this; exact this); have p3 : ∀ m, (w1.drewN m).cell? ⟨R, 0, none⟩ = some (.int .u8 0) := (fun m => by have := hBq.cells 0 (by simp [rqt]); simp [rqt] at this; exact this); have p5 : ∀ m, (w1.drewN m).cell? ⟨R, 1, none⟩ = some (.int .u8 nx) := (fun m => by have := hBq.cells 1 (by simp [rqt]); simp [rqt] at this; exact this); have p4 : ∀ m, (w1.drewN m).cell? ⟨R, 2, none⟩ = some (.bool false) := (fun m => by have := hBq.cells 2 (by simp [rqt]); simp [rqt] at this; exact this); clear hR hBq hbe)))
  go_quiet (fail)
  go_wp2
  go_ret2
  exact ⟨rfl, bx_drewN hX1.out _, grown_tr (grown_of_below hbw.out _) (grown_drewN _ _ _)⟩
theorem enter_0 (nx : Int) (hnx : nx = 1 ∨ nx = 3) (tr : Bool) (h : Hd) (L : Nat) (s : Lg) (w : World) (hX : Bx w L s.v) (i1 : s.begun = true) (i2 : s.stage = 0) :
    Calls Tryz.prog 27 #[.pointer (some ⟨L, 0, none⟩), .agg (rqt 0 nx tr h)] w fun e w' => e = .returned (.tuple #[.int .u8 0, .bool true]) ∧ Bx w' L s.v ∧ w.grownBy w' (some L) := by
  cases tr
  · exact enter_0f nx hnx h L s w hX i1 i2
  · exact enter_0t nx hnx h L s w hX i1 i2
end Go.Proofs.YtplifodddfjhdaaGreatDoor

namespace Go.Proofs.YtplifodddfjhdaaGreatDoor
open Go.RowKit
set_option linter.unusedVariables false
set_option linter.unusedSimpArgs false

theorem szUs : (Tryz.prog.info? 44).map (·.size) = some 2 := by kernel_rfl
theorem zUs : (Tryz.prog.info? 44).map (fun i => i.zero) = some (some (.agg #[.string ⟨#[]⟩, .string ⟨#[]⟩])) := by kernel_rfl
set_option maxRecDepth 100000 in
set_option maxHeartbeats 4000000 in
/-- A user of that name, and the secret. -/
theorem knows_one (L : Nat) (s : Lg) (g uc : Nat) (N S rs : ByteArray) (ca : Option Addr) (cn cc : Nat) (zs : List Int) (w : World) (hX : Bx w L s.v) (hus : s.us = .slice (some ⟨g, 0, none⟩) 1 uc) (hU : UsAt w g N S) (hid : 0 ≤ s.id ∧ s.id ≤ 255) (hch : s.ch = .slice ca cn cc) (hr : RdAt w (.slice ca cn cc) zs) (hz : Bytes zs) (hm : cn + S.size ≤ 1048576) (hR : rs.size ≤ 1048576) (hG : Gq w) (q : Bool) (hq : q = decide (unx (nums rs) = some (sumL (ansB s.id S zs)))) :
    Calls Tryz.prog 48 #[.pointer (some ⟨L, 0, none⟩), .string N, .string rs] w fun e w' => e = .returned (.bool q) ∧ Below w.heap.size w w' := by
  have fR : Kpt (∀ W, Below w.heap.size w W → Calls Tryz.prog 57 #[.int .u8 s.id, .string S, .slice ca cn cc, .string rs] W fun e w' => e = .returned (.bool q) ∧ Below W.heap.size W w') := ⟨fun W h => by rw [hq]; exact right_any s.id hid S ca cn cc zs rs W (hr.bel h) hz hm hR (hG.bel h)⟩
  have hX0 : Kpt (∀ W, Below w.heap.size w W → Bx W L s.v) := ⟨fun W h => hX.below h hX.lt⟩
  have hU0 : Kpt (∀ W, Below w.heap.size w W → W.rangeAt g 0 [.string N, .string S]) := ⟨fun W h j u hu => by
    rcases j with _ | _ | j
    · simp at hu; subst hu; exact (hU.bel h).2.1
    · simp at hu; subst hu; exact (hU.bel h).2.2
    · simp at hu⟩
  have c1 : w.cell? ⟨L, 1, none⟩ = some (.slice (some ⟨g, 0, none⟩) 1 uc) := by have := hX.cells 1 (by simp [Lg.v]); simpa [Lg.v, hus] using this
  replace hch := Kpt.mk hch
  clear hX hus hU hid hr hz hm hR hG hq
  go_enter Tryz.func48, Tryz.ntmps48
  go_wp2
  go_loopw [15] (fun t wr => ∃ k : Nat, k ≤ 1 ∧ t = .int .i64 k ∧ Kpt (Below w.heap.size w wr) ∧ Kpt (k = 1 → q = false)) (fun t _ => 1 - (intOf t).toNat)
  case atStart => exact ⟨0, by omega, rfl, ⟨Below.refl _ _⟩, ⟨fun h => by omega⟩⟩
  case round =>
    obtain ⟨k, hk, rfl, hbk, hqk⟩ := hrel
    by_cases hlt : k < 1
    · obtain rfl : k = 0 := by omega
      have hrg := Kpt.mk (hU0.out wr hbk.out)
      go_wp2_with (first
        | (refine (?_ : wpList _ _ _ (Oper.mk none (Op.store _ _ _) _ _ _ _ :: _) _ _); go_must (refine wpList_store_bx rfl 44 (.tmp 8) (.tmp 18) rfl B #[.string ⟨#[]⟩, .string ⟨#[]⟩] #[.string N, .string S] rfl rfl hB1.out rfl szUs (pr_one N S) rfl ?_; intro w2 hB2 hg2; have hb2 : Kpt (Below w.heap.size w w2) := ⟨hb1.out.grown hg2 hb1.out.size (fun k h => by cases h; exact hBl.out)⟩; replace hB2 := Kpt.mk hB2; clear hg2))
        | (refine wpList_var rfl 44 rfl #[.string ⟨#[]⟩, .string ⟨#[]⟩] zUs ?_; intro B w1 hB1l hBx hbe1; have hb1 : Kpt (Below w.heap.size w w1) := ⟨hbk.out.trans (hbe1.mono hbk.out.size)⟩; have hBl : Kpt (w.heap.size ≤ B) := ⟨Nat.le_trans hbk.out.size hB1l⟩; have hB1 := Kpt.mk hBx; clear hbe1 hB1l hBx)
        | (refine (?_ : wpList _ _ _ (Oper.mk _ (Op.load 44 _) _ _ _ _ :: _) _ _); go_must (refine wpList_load_mid rfl 44 (.tmp 17) rfl g 0 rfl [.string N, .string S] _ hrg.out Tryz.underlying44 rfl szUs ?_)))
      have hX2 := Kpt.mk (hX0.out w2 hb2.out)
      refine wp_region_any (by kernel_rfl) ?_
      refine wpAny_of_C (C := fun W => Bx W B #[.string N, .string S] ∧ Bx W L s.v) _ _ _ _ ?_
      refine wpAnyC_take 0 (.pointer (some ⟨B, 0, none⟩)) rfl (by kernel_rfl) (by kernel_rfl) (by kernel_rfl) (fun _ _ _ h => h) (wanted_free rfl _) (fun W hW => by go_simp) ?_
      try simp only [Act.put, List.getElem_toArray, List.getElem_cons_succ, List.getElem_cons_zero, List.setIfInBounds_toArray, List.set_cons_succ, List.set_cons_zero]
      refine wpAnyC_take 1 (.string N) rfl (by kernel_rfl) (by kernel_rfl) (by kernel_rfl) (fun _ _ _ h => h) (wanted_free rfl _) (fun W hW => by have h1 := hW.1.cells 0 (by simp); simp at h1; go_simp) ?_
      try simp only [Act.put, List.getElem_toArray, List.getElem_cons_succ, List.getElem_cons_zero, List.setIfInBounds_toArray, List.set_cons_succ, List.set_cons_zero]
      refine wpAnyC_take 2 (.string N) rfl (by kernel_rfl) (by kernel_rfl) (by kernel_rfl) (fun _ _ _ h => h) (wanted_free rfl _) (fun W hW => by go_simp) ?_
      try simp only [Act.put, List.getElem_toArray, List.getElem_cons_succ, List.getElem_cons_zero, List.setIfInBounds_toArray, List.set_cons_succ, List.set_cons_zero]
      refine wpAnyC_take 3 (.bool true) rfl (by kernel_rfl) (by kernel_rfl) (by kernel_rfl) (fun _ _ _ h => h) (wanted_free rfl _) (fun W hW => by go_simp; try simp) ?_
      try simp only [Act.put, List.getElem_toArray, List.getElem_cons_succ, List.getElem_cons_zero, List.setIfInBounds_toArray, List.set_cons_succ, List.set_cons_zero]
      refine wpAnyC_take 4 (.bool true) rfl (by kernel_rfl) (by kernel_rfl) (by kernel_rfl) (fun _ _ _ h => h) (wanted_free rfl _) (fun W hW => by go_simp) ?_
      try simp only [Act.put, List.getElem_toArray, List.getElem_cons_succ, List.getElem_cons_zero, List.setIfInBounds_toArray, List.set_cons_succ, List.set_cons_zero]
      refine wpAnyC_take 5 (.pointer (some ⟨L, 0, none⟩)) rfl (by kernel_rfl) (by kernel_rfl) (by kernel_rfl) (fun _ _ _ h => h) (wanted_at true rfl rfl rfl rfl) (fun W hW => by go_simp) ?_
      try simp only [Act.put, List.getElem_toArray, List.getElem_cons_succ, List.getElem_cons_zero, List.setIfInBounds_toArray, List.set_cons_succ, List.set_cons_zero]
      refine wpAnyC_take 6 (.pointer (some ⟨L, 0, none⟩)) rfl (by kernel_rfl) (by kernel_rfl) (by kernel_rfl) (fun _ _ _ h => h) (wanted_at true rfl rfl rfl rfl) (fun W hW => by go_simp) ?_
      try simp only [Act.put, List.getElem_toArray, List.getElem_cons_succ, List.getElem_cons_zero, List.setIfInBounds_toArray, List.set_cons_succ, List.set_cons_zero]
      refine wpAnyC_take 7 (.pointer (some ⟨L, 3, none⟩)) rfl (by kernel_rfl) (by kernel_rfl) (by kernel_rfl) (fun _ _ _ h => h) (wanted_at true rfl rfl rfl rfl) (fun W hW => by go_simp) ?_
      try simp only [Act.put, List.getElem_toArray, List.getElem_cons_succ, List.getElem_cons_zero, List.setIfInBounds_toArray, List.set_cons_succ, List.set_cons_zero]
      refine wpAnyC_take 8 (.int .u8 s.id) rfl (by kernel_rfl) (by kernel_rfl) (by kernel_rfl) (fun _ _ _ h => h) (wanted_at true rfl rfl rfl rfl) (fun W hW => by have h1 := hW.2.cells 3 (by simp [Lg.v]); simp only [Lg.v, List.getElem?_toArray, List.getElem?_cons_succ, List.getElem?_cons_zero] at h1; go_simp) ?_
      try simp only [Act.put, List.getElem_toArray, List.getElem_cons_succ, List.getElem_cons_zero, List.setIfInBounds_toArray, List.set_cons_succ, List.set_cons_zero]
      refine wpAnyC_take 9 (.pointer (some ⟨B, 1, none⟩)) rfl (by kernel_rfl) (by kernel_rfl) (by kernel_rfl) (fun _ _ _ h => h) (wanted_at true rfl rfl rfl rfl) (fun W hW => by go_simp) ?_
      try simp only [Act.put, List.getElem_toArray, List.getElem_cons_succ, List.getElem_cons_zero, List.setIfInBounds_toArray, List.set_cons_succ, List.set_cons_zero]
      refine wpAnyC_take 10 (.string S) rfl (by kernel_rfl) (by kernel_rfl) (by kernel_rfl) (fun _ _ _ h => h) (wanted_at true rfl rfl rfl rfl) (fun W hW => by have h1 := hW.1.cells 1 (by simp); simp at h1; go_simp) ?_
      try simp only [Act.put, List.getElem_toArray, List.getElem_cons_succ, List.getElem_cons_zero, List.setIfInBounds_toArray, List.set_cons_succ, List.set_cons_zero]
      refine wpAnyC_take 11 (.pointer (some ⟨L, 0, none⟩)) rfl (by kernel_rfl) (by kernel_rfl) (by kernel_rfl) (fun _ _ _ h => h) (wanted_at true rfl rfl rfl rfl) (fun W hW => by go_simp) ?_
      try simp only [Act.put, List.getElem_toArray, List.getElem_cons_succ, List.getElem_cons_zero, List.setIfInBounds_toArray, List.set_cons_succ, List.set_cons_zero]
      refine wpAnyC_take 12 (.pointer (some ⟨L, 0, none⟩)) rfl (by kernel_rfl) (by kernel_rfl) (by kernel_rfl) (fun _ _ _ h => h) (wanted_at true rfl rfl rfl rfl) (fun W hW => by go_simp) ?_
      try simp only [Act.put, List.getElem_toArray, List.getElem_cons_succ, List.getElem_cons_zero, List.setIfInBounds_toArray, List.set_cons_succ, List.set_cons_zero]
      refine wpAnyC_take 13 (.pointer (some ⟨L, 4, none⟩)) rfl (by kernel_rfl) (by kernel_rfl) (by kernel_rfl) (fun _ _ _ h => h) (wanted_at true rfl rfl rfl rfl) (fun W hW => by go_simp) ?_
      try simp only [Act.put, List.getElem_toArray, List.getElem_cons_succ, List.getElem_cons_zero, List.setIfInBounds_toArray, List.set_cons_succ, List.set_cons_zero]
      refine wpAnyC_take 14 (.slice ca cn cc) rfl (by kernel_rfl) (by kernel_rfl) (by kernel_rfl) (fun _ _ _ h => h) (wanted_at true rfl rfl rfl rfl) (fun W hW => by have h1 := hW.2.cells 4 (by simp [Lg.v]); simp only [Lg.v, List.getElem?_toArray, List.getElem?_cons_succ, List.getElem?_cons_zero] at h1; rw [hch.out] at h1; go_simp) ?_
      try simp only [Act.put, List.getElem_toArray, List.getElem_cons_succ, List.getElem_cons_zero, List.setIfInBounds_toArray, List.set_cons_succ, List.set_cons_zero]
      refine wpAnyC_take 15 (.string rs) rfl (by kernel_rfl) (by kernel_rfl) (by kernel_rfl) (fun _ _ _ h => h) (wanted_at true rfl rfl rfl rfl) (fun W hW => by go_simp) ?_
      try simp only [Act.put, List.getElem_toArray, List.getElem_cons_succ, List.getElem_cons_zero, List.setIfInBounds_toArray, List.set_cons_succ, List.set_cons_zero]
      refine wpAnyC_one 16 (⟨hB2.out.drew, hX2.out.drew⟩) rfl (by kernel_rfl) (wanted_at true rfl rfl rfl rfl) (fun KA hKA => ?_)
      go_simp
      refine (fR.out _ (hb2.out.trans ((below_drew w2).mono hb2.out.size))).mono ?_
      rintro e w3 ⟨rfl, hb3q⟩
      have hb3 := Kpt.mk ((hb2.out.trans ((below_drew w2).mono hb2.out.size)).trans (hb3q.mono (Nat.le_trans hb2.out.size (Nat.le_refl _))))
      have hB3 := Kpt.mk (hB2.out.drew.below hb3q hB2.out.drew.lt)
      have hX3 := Kpt.mk (hX2.out.drew.below hb3q hX2.out.drew.lt)
      clear hb3q
      refine hKA _ _ ?_
      clear hKA KA
      try simp only [Act.put, List.getElem_toArray, List.getElem_cons_succ, List.getElem_cons_zero, List.setIfInBounds_toArray, List.set_cons_succ, List.set_cons_zero]
      refine wpAnyC_take 17 (.bool q) rfl (by kernel_rfl) (by kernel_rfl) (by kernel_rfl) (fun _ _ _ h => h) (wanted_free rfl _) (fun W hW => by go_simp) ?_
      try simp only [Act.put, List.getElem_toArray, List.getElem_cons_succ, List.getElem_cons_zero, List.setIfInBounds_toArray, List.set_cons_succ, List.set_cons_zero]
      refine wpAnyC_done (⟨hB3.out, hX3.out⟩) (by kernel_rfl) ?_
      cases q
      · go_wp2
        go_roundw
        case rel => exact ⟨1, by omega, by go_num, hb3, ⟨fun _ => by first | trivial | rfl⟩⟩
        case measure => simp [intOf]
      · go_wp2
        go_ret
        exact ⟨rfl, hb3.out⟩
    · obtain rfl : k = 1 := by omega
      have hq0 := hqk.out rfl
      subst hq0
      go_wp2
      go_ret
      exact ⟨rfl, hbk.out⟩
set_option maxRecDepth 100000 in
set_option maxHeartbeats 4000000 in
/-- The name that was asked for. -/
theorem akey_cnT (L : Nat) (s : Lg) (V rs : ByteArray) (q : Bool) (w : World) (hX : Bx w L s.v) (ht : s.told = true) (hKn : ∀ W, Below w.heap.size w W → Calls Tryz.prog 48 #[.pointer (some ⟨L, 0, none⟩), .string V, .string rs] W fun e w' => e = .returned (.bool q) ∧ Below W.heap.size W w') :
    Calls Tryz.prog 40 #[.pointer (some ⟨L, 0, none⟩), .agg #[.string ⟨#[67, 72, 65, 80, 95, 78]⟩, .string V], .string rs] w fun e w' => e = .returned (.tuple #[.slice none 0 0, .bool q]) ∧ Bx w' L { s with proved := q, told := false }.v ∧ w.grownBy w' (some L) := by
  have hlt := hX.lt
  replace hKn := Kpt.mk hKn
  have hT : Kpt (∀ W, Below w.heap.size w W → W.cell? ⟨L, 8, none⟩ = some (.bool true)) := ⟨fun W h => by have := (hX.below h hX.lt).cells 8 (by simp [Lg.v]); simpa [Lg.v, ht] using this⟩
  have hK : Kpt (∀ w1, Below w.heap.size w w1 → w1.cell? ⟨L, 9, none⟩ = some (.bool s.proved) ∧ w1.frozen? ⟨L, 9, none⟩ = false ∧ (w1.setCell ⟨L, 9, none⟩ (.bool q)).cell? ⟨L, 8, none⟩ = some (.bool true) ∧ (w1.setCell ⟨L, 9, none⟩ (.bool q)).frozen? ⟨L, 8, none⟩ = false ∧ Kpt (Bx ((w1.setCell ⟨L, 9, none⟩ (.bool q)).setCell ⟨L, 8, none⟩ (.bool false)) L { s with proved := q, told := false }.v) ∧ Kpt (w.grownBy ((w1.setCell ⟨L, 9, none⟩ (.bool q)).setCell ⟨L, 8, none⟩ (.bool false)) (some L))) := ⟨fun w1 h => by
    have h1 := hX.below h hX.lt
    have h2 := bx_setC (.bool q) h1 (j := 9) (by simp [Lg.v])
    have e2 : s.v.setIfInBounds 9 (.bool q) = { s with proved := q }.v := by simp [Lg.v]
    rw [e2] at h2
    have h3 := bx_setC (.bool false) h2 (j := 8) (by simp [Lg.v])
    have e3 : ({ s with proved := q } : Lg).v.setIfInBounds 8 (.bool false) = { s with proved := q, told := false }.v := by simp [Lg.v]
    rw [e3] at h3
    have c2 := h1.cells 9 (by simp [Lg.v])
    have c3 := h2.cells 8 (by simp [Lg.v])
    simp [Lg.v, ht] at c2 c3
    exact ⟨c2, h1.free 9, c3, h2.free 8, ⟨h3⟩, ⟨grown_tr (grown_tr (grown_of_below h _) (grown_setCellK w1 ⟨L, 9, none⟩ (.bool q))) (grown_setCellK _ ⟨L, 8, none⟩ (.bool false))⟩⟩⟩
  clear hX ht
  go_enter Tryz.func40, Tryz.ntmps40
  go_wp2_with (first
    | (go_at_call 48; go_must (refine (hKn.out _ hb1.out).mono ?_; rintro e w2 ⟨rfl, hb2q⟩; have hb2 := Kpt.mk (hb1.out.trans (hb2q.mono hb1.out.size)); obtain ⟨r2, r3, r4, r5, r6, r7⟩ := hK.out w2 hb2.out; clear hb2q k0 k1 r1))
    | (refine (?_ : wpList _ _ _ (Oper.mk _ (Op.box 41 _) _ _ _ _ :: _) _ _); go_must (refine wpList_box rfl 41 (.tmp 1) rfl #[.string ⟨#[67, 72, 65, 80, 95, 78]⟩, .string V] rfl ?_; intro B w1 hBl hBq hbe _; have hb1 := Kpt.mk hbe; have k0 := hBq.cells 0 (by simp); have k1 := hBq.cells 1 (by simp); simp only [List.getElem?_toArray, List.getElem?_cons_succ, List.getElem?_cons_zero] at k0 k1; have r1 := hT.out w1 hb1.out; clear hBl hBq hbe)))
  obtain ⟨w3, hw3⟩ : ∃ W, W = (w2.setCell ⟨L, 9, none⟩ (.bool q)).setCell ⟨L, 8, none⟩ (.bool false) := ⟨_, rfl⟩
  rw [← hw3] at r6 r7 ⊢
  clear hw3 r2 r3 r4 r5
  have r8 : ∀ m, (w3.drewN m).cell? ⟨L, 9, none⟩ = some (.bool q) := fun m => by have := r6.out.cells 9 (by simp [Lg.v]); simp [Lg.v] at this; exact this
  go_quiet (fail)
  go_wp2
  go_ret2
  exact ⟨rfl, bx_drewN r6.out _, grown_tr r7.out (grown_drewN _ _ _)⟩
end Go.Proofs.YtplifodddfjhdaaGreatDoor

namespace Go.Proofs.YtplifodddfjhdaaGreatDoor
open Go.RowKit
set_option linter.unusedVariables false
set_option linter.unusedSimpArgs false

def kCN : ByteArray := ⟨#[67, 72, 65, 80, 95, 78]⟩
def vNC : ByteArray := ⟨#[78, 111, 110, 101, 44, 67, 72, 65, 80]⟩
def v75 : ByteArray := ⟨#[55, 44, 53]⟩
set_option maxRecDepth 100000 in
set_option maxHeartbeats 4000000 in
/-- A name that nobody was asked for. -/
theorem akey_cn (L : Nat) (s : Lg) (V rs : ByteArray) (w : World) (hX : Bx w L s.v) (ht : s.told = false) :
    Calls Tryz.prog 40 #[.pointer (some ⟨L, 0, none⟩), .agg #[.string kCN, .string V], .string rs] w fun e w' => e = .returned (.tuple #[.slice none 0 0, .bool false]) ∧ Bx w' L { s with proved := false, told := false }.v ∧ w.grownBy w' (some L) := by
  have hlt := hX.lt
  have hK : Kpt (∀ w1, Below w.heap.size w w1 → w1.cell? ⟨L, 8, none⟩ = some (.bool false) ∧ w1.cell? ⟨L, 9, none⟩ = some (.bool s.proved) ∧ w1.frozen? ⟨L, 9, none⟩ = false ∧ (w1.setCell ⟨L, 9, none⟩ (.bool false)).cell? ⟨L, 8, none⟩ = some (.bool false) ∧ (w1.setCell ⟨L, 9, none⟩ (.bool false)).frozen? ⟨L, 8, none⟩ = false ∧ Kpt (Bx ((w1.setCell ⟨L, 9, none⟩ (.bool false)).setCell ⟨L, 8, none⟩ (.bool false)) L { s with proved := false, told := false }.v) ∧ Kpt (w.grownBy ((w1.setCell ⟨L, 9, none⟩ (.bool false)).setCell ⟨L, 8, none⟩ (.bool false)) (some L))) := ⟨fun w1 h => by
    have h1 := hX.below h hX.lt
    have h2 := bx_setC (.bool false) h1 (j := 9) (by simp [Lg.v])
    have e2 : s.v.setIfInBounds 9 (.bool false) = { s with proved := false }.v := by simp [Lg.v]
    rw [e2] at h2
    have h3 := bx_setC (.bool false) h2 (j := 8) (by simp [Lg.v])
    have e3 : ({ s with proved := false } : Lg).v.setIfInBounds 8 (.bool false) = { s with proved := false, told := false }.v := by simp [Lg.v]
    rw [e3] at h3
    have c1 := h1.cells 8 (by simp [Lg.v])
    have c2 := h1.cells 9 (by simp [Lg.v])
    have c3 := h2.cells 8 (by simp [Lg.v])
    simp [Lg.v, ht] at c1 c2 c3
    exact ⟨c1, c2, h1.free 9, c3, h2.free 8, ⟨h3⟩, ⟨grown_tr (grown_tr (grown_of_below h _) (grown_setCellK w1 ⟨L, 9, none⟩ (.bool false))) (grown_setCellK _ ⟨L, 8, none⟩ (.bool false))⟩⟩⟩
  clear hX ht
  unfold kCN
  go_enter Tryz.func40, Tryz.ntmps40
  go_wp2_with (first
    | (refine (?_ : wpList _ _ _ (Oper.mk _ (Op.box 41 _) _ _ _ _ :: _) _ _); go_must (refine wpList_box rfl 41 (.tmp 1) rfl #[.string ⟨#[67, 72, 65, 80, 95, 78]⟩, .string V] rfl ?_; intro B w1 hBl hBq hbe _; have hB := Kpt.mk hBq; have hb1 := Kpt.mk hbe; have k0 := hBq.cells 0 (by simp); have k1 := hBq.cells 1 (by simp); simp only [List.getElem?_toArray, List.getElem?_cons_succ, List.getElem?_cons_zero] at k0 k1; obtain ⟨r1, r2, r3, r4, r5, r6, r7⟩ := hK.out w1 hb1.out; clear hBq hbe)))
  obtain ⟨w3, hw3⟩ : ∃ W, W = (w1.setCell ⟨L, 9, none⟩ (.bool false)).setCell ⟨L, 8, none⟩ (.bool false) := ⟨_, rfl⟩
  rw [← hw3] at r6 r7 ⊢
  clear hw3 r1 r2 r3 r4 r5 k0 k1
  have r8 : ∀ m, (w3.drewN m).cell? ⟨L, 9, none⟩ = some (.bool false) := fun m => by have := r6.out.cells 9 (by simp [Lg.v]); simp [Lg.v] at this; exact this
  go_quiet (fail)
  go_wp2
  go_ret2
  exact ⟨rfl, bx_drewN r6.out _, grown_tr r7.out (grown_drewN _ _ _)⟩

set_option maxRecDepth 100000 in
theorem akey_rsp (L : Nat) (V rs : ByteArray) (w : World) :
    Calls Tryz.prog 40 #[.pointer (some ⟨L, 0, none⟩), .agg #[.string kRsp, .string V], .string rs] w fun e w' => e = .returned (.tuple #[.slice none 0 0, .bool true]) ∧ Below w.heap.size w w' := by
  unfold kRsp
  go_enter Tryz.func40, Tryz.ntmps40
  go_wp2
  go_ret2
  exact ⟨rfl, (Below.refl _ _).alloc (Nat.le_refl _) _⟩

/-- A login with a user between calls. -/
structure Np (W : World) (L : Nat) (s : Lg) (ta : Option Addr) (tc g uc : Nat) (ca : Option Addr) (cn cc : Nat) (zs : List Int) (N S : ByteArray) (id : Int) : Prop where
  lg : Bx W L s.v
  st : StAt W (.slice ta 1 tc) [vT]
  us : UsAt W g N S
  rd : RdAt W (.slice ca cn cc) zs
  ot : Off ta L
  tl : ∀ x, ta = some x → x.block < W.heap.size
  ou : g ≠ L
  oc : Off ca L
  cl : ∀ x, ca = some x → x.block < W.heap.size
  ftg : s.tg = .slice ta 1 tc
  fus : s.us = .slice (some ⟨g, 0, none⟩) 1 uc
  fch : s.ch = .slice ca cn cc
  fid : s.id = id
variable {W W' W0 : World} {L : Nat} {s s' : Lg} {ta : Option Addr} {tc g uc : Nat} {ca : Option Addr} {cn cc : Nat} {zs : List Int} {N S : ByteArray} {id : Int}
theorem Np.below (k : Np W L s ta tc g uc ca cn cc zs N S id) (hb : Below W.heap.size W W') : Np W' L s ta tc g uc ca cn cc zs N S id :=
  ⟨k.lg.below hb k.lg.lt, k.st.bel hb, k.us.bel hb, k.rd.bel hb, k.ot, fun x e => Nat.lt_of_lt_of_le (k.tl x e) hb.size, k.ou, k.oc, fun x e => Nat.lt_of_lt_of_le (k.cl x e) hb.size, k.ftg, k.fus, k.fch, k.fid⟩
theorem Np.turn (k : Np W L s ta tc g uc ca cn cc zs N S id) (hX : Bx W' L s'.v) (hg : W.grownBy W' (some L)) (h1 : s'.tg = s.tg) (h2 : s'.us = s.us) (h3 : s'.ch = s.ch) (h4 : s'.id = s.id) : Np W' L s' ta tc g uc ca cn cc zs N S id :=
  ⟨hX, k.st.grown k.ot hg, k.us.grown hg (fun e => k.ou (Option.some.inj e).symm), rd_grown k.rd k.cl k.oc hg, k.ot, fun x e => Nat.lt_of_lt_of_le (k.tl x e) hg.size, k.ou, k.oc, fun x e => Nat.lt_of_lt_of_le (k.cl x e) hg.size, h1.trans k.ftg, h2.trans k.fus, h3.trans k.fch, h4.trans k.fid⟩
theorem Np.older (k0 : Np W0 L s ta tc g uc ca cn cc zs N S id) (k : Np W L s ta tc g uc ca cn cc zs N S id) {B : Nat} (hB : W0.heap.size ≤ B) (hg : W.grownBy W' (some B)) : Np W' L s ta tc g uc ca cn cc zs N S id := by
  have a1 := k0.lg.lt
  have a2 := k0.us.1
  exact ⟨k.lg.grown hg (fun e => by have := Option.some.inj e; omega), k.st.grown (fun x e => by have := k0.tl x e; omega) hg, k.us.grown hg (fun e => by have := Option.some.inj e; omega), rd_grown k.rd k.cl (fun x e => by have := k0.cl x e; omega) hg, k.ot, fun x e => Nat.lt_of_lt_of_le (k.tl x e) hg.size, k.ou, k.oc, fun x e => Nat.lt_of_lt_of_le (k.cl x e) hg.size, k.ftg, k.fus, k.fch, k.fid⟩
theorem np_ok (k : Np W L s ta tc g uc ca cn cc zs N S id) {ha : Option Addr} {hn hc : Nat} {l : Prs} (hp : PsAt W (.slice ha hn hc) l) (ho : Off ha L) (hl : hn ≤ 1000) : (⟨ha, hn, hc, l, ta, 1, tc, [vT]⟩ : Hd).ok W L :=
  ⟨hp, (show hn ≤ maxLen by unfold maxLen; omega), ho, k.st, (show 1 ≤ maxLen by unfold maxLen; omega), k.ot⟩

/-! The first step: how it will be proved. -/
def keysA : Prs := [(kIni, vI), (kTgt, vT), (kAut, vNC)]
def sA (id : Int) (tg us ch : Value) : Lg := { lgU id tg us ch with begun := true, ini := vI, tgt := vT, meth := vCh }
theorem ka_f1 : findP keysA kIni = some vI := by decide +kernel
theorem ka_f2 : findP keysA kSes = none := by decide +kernel
theorem ka_f3 : findP keysA kTgt = some vT := by decide +kernel
theorem ka_v1 : autV true vNC = vCh := by decide +kernel
theorem ka_v3 : isRej vCh = false := by decide +kernel
theorem ka_v4 : (vCh.toList == [67, 72, 65, 80]) = true := by decide +kernel
theorem ka_v5 : sumW v75 = true := by decide +kernel
theorem ka_ent (h : Hd) (hl : h.ps = keysA) (ho : h.os = [vT]) (id : Int) (tg us ch : Value) : entZ h (lgU id tg us ch) = { lgU id tg us ch with begun := true, ini := vI, tgt := vT } ∧ begO h = true := by
  have e1 : h.ini = vI := by unfold Hd.ini; rw [hl, ka_f1]; rfl
  have e2 : h.ses = ⟨#[]⟩ := by unfold Hd.ses; rw [hl, ka_f2]; rfl
  have e3 : h.fnd = false := by unfold Hd.fnd; rw [hl, ka_f2]; rfl
  have e4 : h.tgt = vT := by unfold Hd.tgt; rw [hl, ka_f3]; rfl
  constructor
  · unfold entZ begS
    rw [e1, e2, e3, e4, if_neg (fun k => k.elim (fun k => absurd k (by decide +kernel)) (fun k => k.elim (fun k => by cases k.1) (fun k => absurd k (by decide +kernel))))]
    rw [decide_eq_false (by decide +kernel)]
    rfl
  · unfold begO
    rw [e1, e2, e3, e4, ho, if_neg (by decide +kernel), if_neg (fun k => by cases k.1), if_neg (by decide +kernel)]
    unfold choO
    rw [(Lib.containsS_iff [vT] vT).2 (by simp)]
    decide +kernel
theorem ka_ok : ∀ p ∈ keysA, (ign p.1 ∨ p.1 = kAut ∨ p.1 = kCA) ∧ p.2.size ≤ 281474976710656 := fun p hp => by
  simp only [keysA, List.mem_cons, List.not_mem_nil, or_false] at hp
  rcases hp with rfl | rfl | rfl
  · exact ⟨.inl (.inl rfl), by decide⟩
  · exact ⟨.inl (.inr (.inr rfl)), by decide⟩
  · exact ⟨.inr (.inl rfl), by decide⟩
theorem ka_akF (I : ByteArray) (zs : List Int) (s : Lg) : akF (uF true I zs) s keysA = ([(kAut, vCh)], true, { s with meth := vCh }) := by
  have e1 : ∀ t : Lg, uF true I zs t (kIni, vI) = ([], true, t) := fun t => by unfold uF; rw [if_neg (by decide +kernel), if_neg (by decide +kernel)]
  have e2 : ∀ t : Lg, uF true I zs t (kTgt, vT) = ([], true, t) := fun t => by unfold uF; rw [if_neg (by decide +kernel), if_neg (by decide +kernel)]
  have e3 : ∀ t : Lg, uF true I zs t (kAut, vNC) = ([(kAut, vCh)], true, { t with meth := vCh }) := fun t => by unfold uF; rw [if_pos rfl, ka_v1, ka_v3]; rfl
  simp only [keysA, akF, e1, e2, e3, if_true, List.nil_append]
  rfl
theorem pv1 (hid : 0 ≤ id ∧ id ≤ 255) (k : Np W L (lgU id (.slice ta 1 tc) (.slice (some ⟨g, 0, none⟩) 1 uc) (.slice ca cn cc)) ta tc g uc ca cn cc zs N S id) (ha : Option Addr) (hc : Nat) (hp : PsAt W (.slice ha 3 hc) keysA) (ho : Off ha L) (hz : Bytes zs) (hcn : cn ≤ 50000000000000) (hG : ∀ W', W.grownBy W' (some L) → Gl W') :
    Calls Tryz.prog 11 #[.pointer (some ⟨L, 0, none⟩), .agg #[.int .u8 0, .int .u8 0, .bool false, .slice ha 3 hc]] W fun e w' => (∃ va vn vc, e = .returned (.tuple #[.agg (ansT 0 (.slice va vn vc)), .int .i64 0])) ∧ Np w' L (sA id (.slice ta 1 tc) (.slice (some ⟨g, 0, none⟩) 1 uc) (.slice ca cn cc)) ta tc g uc ca cn cc zs N S id ∧ W.grownBy w' (some L) := by
  obtain ⟨s, hs⟩ : ∃ s, s = lgU id (.slice ta 1 tc) (.slice (some ⟨g, 0, none⟩) 1 uc) (.slice ca cn cc) := ⟨_, rfl⟩
  obtain ⟨he, hB⟩ := ka_ent ⟨ha, 3, hc, keysA, ta, 1, tc, [vT]⟩ rfl rfl id (.slice ta 1 tc) (.slice (some ⟨g, 0, none⟩) 1 uc) (.slice ca cn cc)
  have hA := uF_okG (some ⟨g, 0, none⟩) 1 uc (decS id.toNat) zs id (.slice ta 1 tc) ca cn cc L (findV (findP keysA kRsp)) W keysA k.lg.lt ka_ok hid (fun W' h => itoa_b id hid W' (hG W' h)) k.rd k.cl k.oc hz hcn
  rw [show decide (0 < 1) = true from rfl] at hA
  rw [← hs] at k he
  refine (step_ok 0 ⟨ha, 3, hc, keysA, ta, 1, tc, [vT]⟩ L s (entZ ⟨ha, 3, hc, keysA, ta, 1, tc, [vT]⟩ s) (sA id (.slice ta 1 tc) (.slice (some ⟨g, 0, none⟩) 1 uc) (.slice ca cn cc)) [(kAut, vCh)] W k.lg (np_ok k hp ho (by omega)) k.ftg (by rw [hs]; rfl) (by rw [he, hs]) (by rw [he, hs]; rfl)
    (fun W' h1 h2 h3 => (enter_z _ L s W' h1 h2 k.ftg (by rw [hs]; rfl)).mono fun e w' ⟨h4, h5, h6⟩ => ⟨by rw [h4, hB]; rfl, h5, h6⟩)
    (fun W' h1 h2 h3 => ?_)).mono ?_
  · have := akeys_any (uF true (decS id.toNat) zs) (fun t => t.us = .slice (some ⟨g, 0, none⟩) 1 uc ∧ t.id = id ∧ t.ch = .slice ca cn cc ∧ t.tg = .slice ta 1 tc) L (entZ ⟨ha, 3, hc, keysA, ta, 1, tc, [vT]⟩ s) ha 3 hc keysA W' h1 h2.ps h2.off (by omega) ⟨by rw [he, hs]; rfl, by rw [he, hs]; rfl, by rw [he, hs]; rfl, by rw [he, hs]; rfl⟩
      (fun W2 t p hp hJ hgr hX2 => hA W2 t p hp hJ (grown_tr h3 hgr) hX2)
    rw [ka_akF] at this
    refine this.mono ?_
    rintro e w' ⟨va, vn, vc, rfl, h5, h6, _, h7⟩
    exact ⟨va, vn, vc, rfl, h5 rfl, by rw [he, hs] at h6; exact h6, h7⟩
  · rintro e w' ⟨va, vn, vc, rfl, h5, h6, h7, h8⟩
    exact ⟨⟨va, vn, vc, rfl⟩, k.turn h7 h8 (by rw [hs]; rfl) (by rw [hs]; rfl) (by rw [hs]; rfl) (by rw [hs]; rfl), h8⟩

/-! The second step: the challenge. -/
def sB (id : Int) (tg us ch : Value) : Lg := { sA id tg us ch with told := true }
def ansC (I : ByteArray) (zs : List Int) : Prs := [(kCA, v5), (kCI, I), (kCC, hexS zs)]
theorem kb_akF (I : ByteArray) (zs : List Int) (s : Lg) (hm : s.meth = vCh) : akF (uF true I zs) s [(kCA, v75)] = (ansC I zs, true, { s with told := true }) := by
  have e1 : uF true I zs s (kCA, v75) = (ansC I zs, true, { s with told := true }) := by
    unfold uF
    rw [if_neg (by decide +kernel), if_pos rfl]
    simp only [hm, ka_v4, ka_v5, Bool.true_and]
    rfl
  simp [akF, e1]
theorem ansC_i (I : ByteArray) (zs : List Int) : findP (ansC I zs) kCI = some I := by
  unfold ansC
  rw [findP, if_neg (by decide +kernel), findP, if_pos rfl]
theorem ansC_c (I : ByteArray) (zs : List Int) : findP (ansC I zs) kCC = some (hexS zs) := by
  unfold ansC
  rw [findP, if_neg (by decide +kernel), findP, if_neg (show ¬ kCI = kCC by decide +kernel), findP, if_pos rfl]
theorem pv2 (ask : Bool) (hid : 0 ≤ id ∧ id ≤ 255) (k : Np W L (sA id (.slice ta 1 tc) (.slice (some ⟨g, 0, none⟩) 1 uc) (.slice ca cn cc)) ta tc g uc ca cn cc zs N S id) (ha : Option Addr) (hc : Nat) (hp : PsAt W (.slice ha 1 hc) [(kCA, v75)]) (ho : Off ha L) (hz : Bytes zs) (hcn : cn ≤ 50000000000000) (hG : ∀ W', W.grownBy W' (some L) → Gl W') :
    Calls Tryz.prog 11 #[.pointer (some ⟨L, 0, none⟩), .agg #[.int .u8 0, .int .u8 1, .bool ask, .slice ha 1 hc]] W fun e w' => (∃ va vn vc, e = .returned (.tuple #[.agg (ansV 0 0 false (.slice va vn vc)), .int .i64 0]) ∧ PsAt w' (.slice va vn vc) (ansC (decS id.toNat) zs) ∧ vc ≤ maxLen ∧ Newer va W.heap.size) ∧ Np w' L (sB id (.slice ta 1 tc) (.slice (some ⟨g, 0, none⟩) 1 uc) (.slice ca cn cc)) ta tc g uc ca cn cc zs N S id ∧ W.grownBy w' (some L) := by
  obtain ⟨s, hs⟩ : ∃ s, s = sA id (.slice ta 1 tc) (.slice (some ⟨g, 0, none⟩) 1 uc) (.slice ca cn cc) := ⟨_, rfl⟩
  have hA := uF_okG (some ⟨g, 0, none⟩) 1 uc (decS id.toNat) zs id (.slice ta 1 tc) ca cn cc L (findV (findP [(kCA, v75)] kRsp)) W [(kCA, v75)] k.lg.lt (fun p hp => by simp at hp; rw [hp]; exact ⟨.inr (.inr rfl), by decide⟩) hid (fun W' h => itoa_b id hid W' (hG W' h)) k.rd k.cl k.oc hz hcn
  rw [show decide (0 < 1) = true from rfl] at hA
  rw [← hs] at k
  refine (step_okG 0 1 ask 0 0 false ⟨ha, 1, hc, [(kCA, v75)], ta, 1, tc, [vT]⟩ L s s (sB id (.slice ta 1 tc) (.slice (some ⟨g, 0, none⟩) 1 uc) (.slice ca cn cc)) (sB id (.slice ta 1 tc) (.slice (some ⟨g, 0, none⟩) 1 uc) (.slice ca cn cc)) (ansC (decS id.toNat) zs) W k.lg (np_ok k hp ho (by omega)) k.ftg (by rw [hs]; rfl) rfl (by rw [hs]; rfl) rfl
    (fun W' h1 h2 h3 => enter_0 1 (.inl rfl) ask _ L s W' h1 (by rw [hs]; rfl) (by rw [hs]; rfl))
    (fun W' h1 h2 h3 => ?_)
    (fun W' va vn vc h1 h3 => (leave_u 1 ask _ L _ va vn vc W' h1 rfl).mono fun e w' ⟨h4, h5⟩ => ⟨h4, h1.below h5 h1.lt, grown_of_below h5 _⟩)).mono ?_
  · have := akeys_any (uF true (decS id.toNat) zs) (fun t => t.us = .slice (some ⟨g, 0, none⟩) 1 uc ∧ t.id = id ∧ t.ch = .slice ca cn cc ∧ t.tg = .slice ta 1 tc) L s ha 1 hc [(kCA, v75)] W' h1 h2.ps h2.off (by omega) ⟨by rw [hs]; rfl, by rw [hs]; rfl, by rw [hs]; rfl, by rw [hs]; rfl⟩
      (fun W2 t p hp hJ hgr hX2 => hA W2 t p hp hJ (grown_tr h3 hgr) hX2)
    rw [kb_akF _ _ _ (by rw [hs]; rfl)] at this
    refine this.mono ?_
    rintro e w' ⟨va, vn, vc, rfl, h5, h6, _, h7⟩
    exact ⟨va, vn, vc, rfl, h5 rfl, by rw [hs] at h6; exact h6, h7⟩
  · rintro e w' ⟨va, vn, vc, rfl, h5, h6, h7, h8, h9⟩
    exact ⟨⟨va, vn, vc, rfl, h5, h6, h9⟩, k.turn h7 h8 (by rw [hs]; rfl) (by rw [hs]; rfl) (by rw [hs]; rfl) (by rw [hs]; rfl), h8⟩
end Go.Proofs.YtplifodddfjhdaaGreatDoor

namespace Go.Proofs.YtplifodddfjhdaaGreatDoor
open Go.RowKit
set_option linter.unusedVariables false
set_option linter.unusedSimpArgs false

/-- A name and its answer. -/
def pF (q : Bool) (t : Lg) (p : ByteArray × ByteArray) : Prs × Bool × Lg :=
  if p.1 = kCN then ([], t.told && q, { t with proved := t.told && q, told := false }) else ([], true, t)
theorem pF_ok (g uc : Nat) (N S R : ByteArray) (zs : List Int) (id : Int) (tg : Value) (ca : Option Addr) (cn cc L : Nat) (w : World) (q : Bool) (hL : L < w.heap.size) (hg : g ≠ L) (hU : UsAt w g N S) (hid : 0 ≤ id ∧ id ≤ 255)
    (hr : RdAt w (.slice ca cn cc) zs) (hcl : ∀ x, ca = some x → x.block < w.heap.size) (hof : Off ca L) (hz : Bytes zs) (hm : cn + S.size ≤ 1048576) (hR : R.size ≤ 1048576) (hG : ∀ W', w.grownBy W' (some L) → Gq W') (hq : q = decide (unx (nums R) = some (sumL (ansB id S zs)))) :
    AkOk (pF q) (fun t => t.us = .slice (some ⟨g, 0, none⟩) 1 uc ∧ t.id = id ∧ t.ch = .slice ca cn cc ∧ t.tg = tg) L R w [(kCN, N), (kRsp, R)] := by
  intro W t p hp hJ hgr hX
  obtain ⟨hus, hti, htc, htt⟩ := hJ
  simp only [List.mem_cons, List.not_mem_nil, or_false] at hp
  rcases hp with rfl | rfl
  · cases ht : t.told
    · have e : pF q t (kCN, N) = ([], false, { t with proved := false, told := false }) := by unfold pF; rw [if_pos rfl, ht]; rfl
      rw [e]
      refine (akey_cn L t N R W hX ht).mono ?_
      rintro e w' ⟨rfl, h2, h3⟩
      exact ⟨none, 0, 0, rfl, ps_nil w', by omega, h2, ⟨hus, hti, htc, htt⟩, h3⟩
    · have e : pF q t (kCN, N) = ([], q, { t with proved := q, told := false }) := by unfold pF; rw [if_pos rfl, ht]; rfl
      rw [e]
      refine (akey_cnT L t N R q W hX ht (fun W2 h => knows_one L t g uc N S R ca cn cc zs W2 (hX.below h hX.lt) hus ((hU.grown hgr (fun e => hg (Option.some.inj e).symm)).bel h) (by rw [hti]; exact hid) htc ((rd_grown hr hcl hof hgr).bel h) hz hm hR (hG W2 (grown_tr hgr (grown_of_below h _))) q (by rw [hti]; exact hq))).mono ?_
      rintro e w' ⟨rfl, h2, h3⟩
      exact ⟨none, 0, 0, rfl, ps_nil w', by omega, h2, ⟨hus, hti, htc, htt⟩, h3⟩
  · have e : pF q t (kRsp, R) = ([], true, t) := by unfold pF; rw [if_neg (show ¬ kRsp = kCN by decide +kernel)]
    rw [e]
    refine (akey_rsp L R R W).mono ?_
    rintro e w' ⟨rfl, hb⟩
    exact ⟨none, 0, 0, rfl, ps_nil w', by omega, hX.below hb hX.lt, ⟨hus, hti, htc, htt⟩, grown_of_below hb _⟩
theorem pF_t (s : Lg) (N R : ByteArray) (ht : s.told = true) : akF (pF true) s [(kCN, N), (kRsp, R)] = ([], true, { s with proved := true, told := false }) := by
  have e1 : pF true s (kCN, N) = ([], true, { s with proved := true, told := false }) := by unfold pF; rw [if_pos rfl, ht]; rfl
  have e2 : ∀ t, pF true t (kRsp, R) = ([], true, t) := fun t => by unfold pF; rw [if_neg (show ¬ kRsp = kCN by decide +kernel)]
  simp only [akF, e1, e2, if_true, List.append_nil]
theorem pF_f (s : Lg) (N R : ByteArray) : akF (pF false) s [(kCN, N), (kRsp, R)] = ([], false, { s with proved := false, told := false }) := by
  have e1 : pF false s (kCN, N) = ([], false, { s with proved := false, told := false }) := by unfold pF; rw [if_pos rfl, Bool.and_false]
  simp only [akF, e1, Bool.false_eq_true, if_false]
theorem kc_rsp (N R : ByteArray) : findV (findP [(kCN, N), (kRsp, R)] kRsp) = R := by
  rw [findP, if_neg (show ¬ kCN = kRsp by decide +kernel), findP, if_pos rfl]
  rfl
def sC (id : Int) (tg us ch : Value) : Lg := { sB id tg us ch with proved := true, told := false }
def sCt (id : Int) (tg us ch : Value) : Lg := { sC id tg us ch with stage := 3, done := true, over := true }
def sN (id : Int) (tg us ch : Value) : Lg := { sB id tg us ch with proved := false, told := false }
def sNt (id : Int) (tg us ch : Value) : Lg := { sN id tg us ch with over := true }
variable {W : World} {L : Nat} {ta : Option Addr} {tc g uc : Nat} {ca : Option Addr} {cn cc : Nat} {zs : List Int} {N S : ByteArray} {id : Int}
theorem pv3t (hid : 0 ≤ id ∧ id ≤ 255) (k : Np W L (sB id (.slice ta 1 tc) (.slice (some ⟨g, 0, none⟩) 1 uc) (.slice ca cn cc)) ta tc g uc ca cn cc zs N S id) (R : ByteArray) (ha : Option Addr) (hc : Nat) (hp : PsAt W (.slice ha 2 hc) [(kCN, N), (kRsp, R)]) (ho : Off ha L) (hz : Bytes zs) (hm : cn + S.size ≤ 1048576) (hR : R.size ≤ 1048576) (hG : ∀ W', W.grownBy W' (some L) → Gq W') (hq : unx (nums R) = some (sumL (ansB id S zs))) :
    Calls Tryz.prog 11 #[.pointer (some ⟨L, 0, none⟩), .agg #[.int .u8 0, .int .u8 3, .bool true, .slice ha 2 hc]] W fun e w' => (∃ va vn vc, e = .returned (.tuple #[.agg (ansV 0 3 true (.slice va vn vc)), .int .i64 0])) ∧ Bx w' L (sCt id (.slice ta 1 tc) (.slice (some ⟨g, 0, none⟩) 1 uc) (.slice ca cn cc)).v ∧ W.grownBy w' (some L) := by
  obtain ⟨s, hs⟩ : ∃ s, s = sB id (.slice ta 1 tc) (.slice (some ⟨g, 0, none⟩) 1 uc) (.slice ca cn cc) := ⟨_, rfl⟩
  have hA := pF_ok g uc N S R zs id (.slice ta 1 tc) ca cn cc L W true k.lg.lt k.ou k.us hid k.rd k.cl k.oc hz hm hR hG (decide_eq_true hq).symm
  rw [← hs] at k
  refine (step_okG 0 3 true 0 3 true ⟨ha, 2, hc, [(kCN, N), (kRsp, R)], ta, 1, tc, [vT]⟩ L s s (sC id (.slice ta 1 tc) (.slice (some ⟨g, 0, none⟩) 1 uc) (.slice ca cn cc)) (sCt id (.slice ta 1 tc) (.slice (some ⟨g, 0, none⟩) 1 uc) (.slice ca cn cc)) [] W k.lg (np_ok k hp ho (by omega)) k.ftg (by rw [hs]; rfl) rfl (by rw [hs]; rfl) rfl
    (fun W' h1 h2 h3 => enter_0 3 (.inr rfl) true _ L s W' h1 (by rw [hs]; rfl) (by rw [hs]; rfl))
    (fun W' h1 h2 h3 => ?_)
    (fun W' va vn vc h1 h3 => leave_p va vn vc _ L _ W' h1 rfl)).mono ?_
  · have := akeys_any (pF true) (fun t => t.us = .slice (some ⟨g, 0, none⟩) 1 uc ∧ t.id = id ∧ t.ch = .slice ca cn cc ∧ t.tg = .slice ta 1 tc) L s ha 2 hc [(kCN, N), (kRsp, R)] W' h1 h2.ps h2.off (by omega) ⟨by rw [hs]; rfl, by rw [hs]; rfl, by rw [hs]; rfl, by rw [hs]; rfl⟩
      (by rw [kc_rsp]; exact fun W2 t p hp hJ hgr hX2 => hA W2 t p hp hJ (grown_tr h3 hgr) hX2)
    rw [pF_t _ _ _ (by rw [hs]; rfl)] at this
    refine this.mono ?_
    rintro e w' ⟨va, vn, vc, rfl, h5, h6, _, h7⟩
    exact ⟨va, vn, vc, rfl, h5 rfl, by rw [hs] at h6; exact h6, h7⟩
  · rintro e w' ⟨va, vn, vc, rfl, h5, h6, h7, h8, h9⟩
    exact ⟨⟨va, vn, vc, rfl⟩, h7, h8⟩
theorem pv3f (hid : 0 ≤ id ∧ id ≤ 255) (k : Np W L (sB id (.slice ta 1 tc) (.slice (some ⟨g, 0, none⟩) 1 uc) (.slice ca cn cc)) ta tc g uc ca cn cc zs N S id) (R : ByteArray) (ha : Option Addr) (hc : Nat) (hp : PsAt W (.slice ha 2 hc) [(kCN, N), (kRsp, R)]) (ho : Off ha L) (hz : Bytes zs) (hm : cn + S.size ≤ 1048576) (hR : R.size ≤ 1048576) (hG : ∀ W', W.grownBy W' (some L) → Gq W') (hq : ¬ unx (nums R) = some (sumL (ansB id S zs))) :
    Calls Tryz.prog 11 #[.pointer (some ⟨L, 0, none⟩), .agg #[.int .u8 0, .int .u8 3, .bool true, .slice ha 2 hc]] W fun e w' => e = .returned (.tuple #[.agg (ansF 1), .int .i64 0]) ∧ Bx w' L (sNt id (.slice ta 1 tc) (.slice (some ⟨g, 0, none⟩) 1 uc) (.slice ca cn cc)).v ∧ W.grownBy w' (some L) := by
  obtain ⟨s, hs⟩ : ∃ s, s = sB id (.slice ta 1 tc) (.slice (some ⟨g, 0, none⟩) 1 uc) (.slice ca cn cc) := ⟨_, rfl⟩
  have hA := pF_ok g uc N S R zs id (.slice ta 1 tc) ca cn cc L W false k.lg.lt k.ou k.us hid k.rd k.cl k.oc hz hm hR hG (decide_eq_false hq).symm
  rw [← hs] at k
  refine (step_noG 0 3 true ⟨ha, 2, hc, [(kCN, N), (kRsp, R)], ta, 1, tc, [vT]⟩ L s s (sN id (.slice ta 1 tc) (.slice (some ⟨g, 0, none⟩) 1 uc) (.slice ca cn cc)) W k.lg (np_ok k hp ho (by omega)) k.ftg (by rw [hs]; rfl) rfl (by rw [hs]; rfl)
    (fun W' h1 h2 h3 => enter_0 3 (.inr rfl) true _ L s W' h1 (by rw [hs]; rfl) (by rw [hs]; rfl))
    (fun W' h1 h2 h3 => ?_)).mono (fun e w' h => h)
  have := akeys_any (pF false) (fun t => t.us = .slice (some ⟨g, 0, none⟩) 1 uc ∧ t.id = id ∧ t.ch = .slice ca cn cc ∧ t.tg = .slice ta 1 tc) L s ha 2 hc [(kCN, N), (kRsp, R)] W' h1 h2.ps h2.off (by omega) ⟨by rw [hs]; rfl, by rw [hs]; rfl, by rw [hs]; rfl, by rw [hs]; rfl⟩
    (by rw [kc_rsp]; exact fun W2 t p hp hJ hgr hX2 => hA W2 t p hp hJ (grown_tr h3 hgr) hX2)
  rw [pF_f _ _ _] at this
  refine this.mono ?_
  rintro e w' ⟨va, vn, vc, rfl, h5, h6, _, h7⟩
  exact ⟨va, vn, vc, rfl, by rw [hs] at h6; exact h6, h7⟩
end Go.Proofs.YtplifodddfjhdaaGreatDoor
