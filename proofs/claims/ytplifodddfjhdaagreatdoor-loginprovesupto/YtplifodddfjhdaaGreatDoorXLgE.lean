/-
  login: enter.
-/
import Derived.Test.YtplifodddfjhdaaGreatDoorXLgB
namespace Go.Proofs.YtplifodddfjhdaaGreatDoor
open Go.RowKit
set_option linter.unusedVariables false
set_option linter.unusedSimpArgs false

theorem szReq : (Tryz.prog.info? 39).map (·.size) = some 4 := by kernel_rfl
theorem leads_13 (w : World) : Calls Tryz.prog 38 #[.int .u8 1, .int .u8 3] w fun e w' => e = .returned (.bool true) ∧ w' = w := by
  go_enter Tryz.func38, Tryz.ntmps38
  go_wp2
  go_ret
  exact ⟨rfl, rfl⟩
def entS (h : Hd) (s : Lg) : Lg := begS h { s with begun := true, stage := 1 }
theorem begS_keep (h : Hd) (s : Lg) : (begS h s).begun = s.begun ∧ (begS h s).stage = s.stage ∧ (begS h s).proved = s.proved ∧ (begS h s).over = s.over ∧ (begS h s).done = s.done := by unfold begS; split <;> exact ⟨rfl, rfl, rfl, rfl, rfl⟩

set_option maxRecDepth 100000 in
set_option maxHeartbeats 4000000 in
theorem enter_any (h : Hd) (L : Nat) (s : Lg) (w : World) (hX : Bx w L s.v) (hh : h.ok w L) (htg : s.tg = .slice h.at' h.nt h.ct) (hbg : s.begun = false) (hpr : s.proved = true) :
    Calls Tryz.prog 27 #[.pointer (some ⟨L, 0, none⟩), .agg (rqv h)] w fun e w' => e = .returned (.tuple #[.int .u8 (if begO h = true then 0 else begD h), .bool (begO h)]) ∧ Bx w' L (entS h s).v ∧ w.grownBy w' (some L) := by
  have h0 : Kpt (∀ (R : Nat) (W : World), w.heap.size ≤ R → Bx W R (rqv h) → Below w.heap.size w W → En h w W L R s (rqv h)) := ⟨fun R W hR hB hb => ⟨hX.below hb hX.lt, hB, hh.grown (grown_of_below hb _), grown_of_below hb _, htg, fun e => by have := hX.lt; omega⟩⟩
  have fB : Kpt (∀ (W : World) (R : Nat) (s' : Lg), En h w W L R s' (rqv h) → Calls Tryz.prog 37 #[.pointer (some ⟨L, 0, none⟩), .agg (rqv h)] W fun e w' => e = .returned (.tuple #[.int .u8 (begD h), .bool (begO h)]) ∧ Bx w' L (begS h s').v ∧ W.grownBy w' (some L)) := ⟨fun W R s' k => begin_any h L s' W k.lg k.hd k.tg⟩
  have fL : Kpt (∀ W : World, Calls Tryz.prog 38 #[.int .u8 1, .int .u8 3] W fun e w' => e = .returned (.bool true) ∧ w' = W) := ⟨leads_13⟩
  obtain ⟨D, hD⟩ : ∃ D, D = begD h := ⟨_, rfl⟩
  obtain ⟨O, hO⟩ : ∃ O, O = begO h := ⟨_, rfl⟩
  rw [← hD, ← hO] at fB ⊢
  have hS : Kpt (entS h s = begS h { s with begun := true, stage := 1 }) := ⟨rfl⟩
  have hk := begS_keep h { s with begun := true, stage := 1 }
  have htg2 := begS_tg h { s with begun := true, stage := 1 }
  obtain ⟨s9, hs9⟩ : ∃ x, x = begS h { s with begun := true, stage := 1 } := ⟨_, rfl⟩
  have fB2 : Kpt (∀ (W : World) (R : Nat), En h w W L R { s with begun := true, stage := 1 } (rqv h) → Calls Tryz.prog 37 #[.pointer (some ⟨L, 0, none⟩), .agg (rqv h)] W fun e w' => e = .returned (.tuple #[.int .u8 D, .bool O]) ∧ En h w w' L R s9 (rqv h)) := ⟨fun W R k => (fB.out W R _ k).mono fun e w' ⟨he, hx, hg⟩ => ⟨he, k.turn (by rw [hs9]; exact hx) hg (by rw [hs9, htg2])⟩⟩
  rw [← hs9] at hS hk
  have kc : Kpt (∀ (W : World) (R : Nat), En h w W L R s9 (rqv h) → W.cell? ⟨L, 6, none⟩ = some (.int .u8 1) ∧ W.cell? ⟨L, 9, none⟩ = some (.bool true) ∧ W.cell? ⟨R, 0, none⟩ = some (.int .u8 1) ∧ W.cell? ⟨R, 1, none⟩ = some (.int .u8 3) ∧ W.cell? ⟨R, 2, none⟩ = some (.bool true)) := ⟨fun W R k => by
    refine ⟨?_, ?_, k.rq.cells 0 (by simp [rqv]), k.rq.cells 1 (by simp [rqv]), k.rq.cells 2 (by simp [rqv])⟩
    · rw [(k.cell 6 (by omega)).1]; simp [Lg.v, hk.2.1]
    · rw [(k.cell 9 (by omega)).1]; simp [Lg.v, hk.2.2.1, hpr]⟩
  clear hX hh htg hD hO fB hk htg2 hs9 hpr
  cases O
  · go_enter Tryz.func27, Tryz.ntmps27
    go_wp2_with (first
      | (go_at_call 37; go_must (refine (fB2.out _ _ k3.out).mono ?_; rintro e w4 ⟨rfl, k4⟩; obtain ⟨p1, p2, p3, p4, p5⟩ := kc.out _ _ k4; replace k4 := Kpt.mk k4))
      | (refine (?_ : wpList _ _ _ (Oper.mk _ (Op.load 39 _) _ _ _ _ :: _) _ _); go_must (refine wpList_load_bx rfl 39 (.tmp 3) rfl R (rqv h) rfl k3.out.rq _ Tryz.underlying39 rfl szReq ?_))
      | (refine (?_ : wpList _ _ _ (Oper.mk _ (Op.box 39 _) _ _ _ _ :: _) _ _); go_must (refine wpList_box rfl 39 (.tmp 1) rfl (rqv h) rfl ?_; intro R w1 hR hBq hbe _; have k1 := Kpt.mk (h0.out R w1 hR hBq hbe); have r0 := hBq.cells 0 (by simp [rqv]); simp [rqv] at r0; obtain ⟨c5, f5⟩ := k1.out.cell 5 (by omega); obtain ⟨c6, f6⟩ := k1.out.cell 6 (by omega); simp [Lg.v, hbg] at c5 c6; have k2 := Kpt.mk (k1.out.set (s' := { s with begun := true }) 5 (.bool true) (by omega) (by simp [Lg.v]) rfl); have k3 := Kpt.mk (k2.out.set (s' := { s with begun := true, stage := 1 }) 6 (.int .u8 1) (by omega) (by simp [Lg.v]) rfl); obtain ⟨d6, g6⟩ := k2.out.cell 6 (by omega); simp [Lg.v] at d6; have r1 := k2.out.rq.cells 0 (by simp [rqv]); simp [rqv] at r1; clear hR hBq hbe)))
    go_ret2
    exact ⟨rfl, by rw [hS.out]; exact k4.out.lg, k4.out.gr⟩
  · go_enter Tryz.func27, Tryz.ntmps27
    go_wp2_with (first
      | (go_at_call 37; go_must (refine (fB2.out _ _ k3.out).mono ?_; rintro e w4 ⟨rfl, k4⟩; obtain ⟨p1, p2, p3, p4, p5⟩ := kc.out _ _ k4; replace k4 := Kpt.mk k4))
      | (refine (?_ : wpList _ _ _ (Oper.mk _ (Op.load 39 _) _ _ _ _ :: _) _ _); go_must (refine wpList_load_bx rfl 39 (.tmp 3) rfl R (rqv h) rfl k3.out.rq _ Tryz.underlying39 rfl szReq ?_))
      | (refine (?_ : wpList _ _ _ (Oper.mk _ (Op.box 39 _) _ _ _ _ :: _) _ _); go_must (refine wpList_box rfl 39 (.tmp 1) rfl (rqv h) rfl ?_; intro R w1 hR hBq hbe _; have k1 := Kpt.mk (h0.out R w1 hR hBq hbe); have r0 := hBq.cells 0 (by simp [rqv]); simp [rqv] at r0; obtain ⟨c5, f5⟩ := k1.out.cell 5 (by omega); obtain ⟨c6, f6⟩ := k1.out.cell 6 (by omega); simp [Lg.v, hbg] at c5 c6; have k2 := Kpt.mk (k1.out.set (s' := { s with begun := true }) 5 (.bool true) (by omega) (by simp [Lg.v]) rfl); have k3 := Kpt.mk (k2.out.set (s' := { s with begun := true, stage := 1 }) 6 (.int .u8 1) (by omega) (by simp [Lg.v]) rfl); obtain ⟨d6, g6⟩ := k2.out.cell 6 (by omega); simp [Lg.v] at d6; have r1 := k2.out.rq.cells 0 (by simp [rqv]); simp [rqv] at r1; clear hR hBq hbe)))
    go_quiet ((go_at_call 38; exact Calls.quiet_of_same (fL.out _)))
    go_wp2
    go_ret2
    exact ⟨rfl, by rw [hS.out]; exact bx_drewN k4.out.lg _, grown_tr k4.out.gr (grown_drewN _ _ _)⟩
end Go.Proofs.YtplifodddfjhdaaGreatDoor
