/-
  login: a first step in the first stage that stays there.
-/
import Derived.Test.YtplifodddfjhdaaGreatDoorXLgS
namespace Go.Proofs.YtplifodddfjhdaaGreatDoor
open Go.RowKit
set_option linter.unusedVariables false
set_option linter.unusedSimpArgs false

def rqz (h : Hd) : Array Value := #[.int .u8 0, .int .u8 0, .bool false, .slice h.a h.n h.c]
set_option maxRecDepth 100000 in
set_option maxHeartbeats 4000000 in
theorem begin_z (h : Hd) (L : Nat) (s : Lg) (w : World) (hX : Bx w L s.v) (hh : h.ok w L) (htg : s.tg = .slice h.at' h.nt h.ct) :
    Calls Tryz.prog 37 #[.pointer (some ⟨L, 0, none⟩), .agg (rqz h)] w fun e w' => e = .returned (.tuple #[.int .u8 (begD h), .bool (begO h)]) ∧ Bx w' L (begS h s).v ∧ w.grownBy w' (some L) := by
  have fI : Kpt (∀ (W : World) (R : Nat) (s' : Lg), En h w W L R s' (rqz h) → Calls Tryz.prog 39 #[.slice h.a h.n h.c, .string kIni] W fun e w' => e = .returned (.tuple #[.string h.ini, .bool (findP h.ps kIni).isSome]) ∧ Below W.heap.size W w') := ⟨fun W R s' k => find_any _ _ _ _ _ W k.hd.ps k.hd.n⟩
  have fS : Kpt (∀ (W : World) (R : Nat) (s' : Lg), En h w W L R s' (rqz h) → Calls Tryz.prog 39 #[.slice h.a h.n h.c, .string kSes] W fun e w' => e = .returned (.tuple #[.string h.ses, .bool h.fnd]) ∧ Below W.heap.size W w') := ⟨fun W R s' k => find_any _ _ _ _ _ W k.hd.ps k.hd.n⟩
  have fC : Kpt (∀ (W : World) (R : Nat) (s' : Lg), En h w W L R s' (rqz h) → Calls Tryz.prog 44 #[.pointer (some ⟨L, 0, none⟩), .slice h.a h.n h.c] W fun e w' => e = .returned (.tuple #[.int .u8 (choD h.os h.tgt), .bool (choO h.os h.tgt)]) ∧ Bx w' L { s' with tgt := h.tgt }.v ∧ W.grownBy w' (some L)) := ⟨fun W R s' k => choose_any L s' _ _ _ _ _ _ _ _ W k.lg k.hd.ps k.hd.n k.hd.off k.tg k.hd.os k.hd.nt k.hd.offt _ rfl⟩
  have h0 : Kpt (∀ (R : Nat) (W : World), w.heap.size ≤ R → Bx W R (rqz h) → Below w.heap.size w W → En h w W L R s (rqz h)) := ⟨fun R W hR hB hb => ⟨hX.below hb hX.lt, hB, hh.grown (grown_of_below hb _), grown_of_below hb _, htg, fun e => by have := hX.lt; omega⟩⟩
  have eD : Kpt (begD h = if h.ini = ⟨#[]⟩ then 7 else if kBad h.fnd h.ses then 9 else if h.ses = vDis then 0 else choD h.os h.tgt) := ⟨rfl⟩
  have eO : Kpt (begO h = if h.ini = ⟨#[]⟩ then false else if kBad h.fnd h.ses then false else if h.ses = vDis then true else choO h.os h.tgt) := ⟨rfl⟩
  have eS : Kpt (begS h s = if h.ini = ⟨#[]⟩ ∨ kBad h.fnd h.ses ∨ h.ses = vDis then { s with ini := h.ini, dis := decide (h.ses = vDis) } else { s with ini := h.ini, dis := decide (h.ses = vDis), tgt := h.tgt }) := ⟨rfl⟩
  obtain ⟨I, hI⟩ : ∃ I, I = h.ini := ⟨_, rfl⟩
  obtain ⟨S, hS⟩ : ∃ S, S = h.ses := ⟨_, rfl⟩
  obtain ⟨F, hF⟩ : ∃ F, F = h.fnd := ⟨_, rfl⟩
  obtain ⟨T, hT⟩ : ∃ T, T = h.tgt := ⟨_, rfl⟩
  rw [← hI] at fI eD eO eS
  rw [← hS] at fS eD eO eS
  rw [← hF] at fS eD eO eS
  rw [← hT] at fC eD eO eS
  obtain ⟨D, hD⟩ : ∃ D, D = choD h.os T := ⟨_, rfl⟩
  obtain ⟨O, hO⟩ : ∃ O, O = choO h.os T := ⟨_, rfl⟩
  rw [← hD] at fC eD
  rw [← hO] at fC eO
  clear hI hS hF hT hD hO hX hh htg
  obtain ⟨b1, hb1⟩ : ∃ b, b = (S.toList == [68, 105, 115, 99, 111, 118, 101, 114, 121]) := ⟨_, rfl⟩
  obtain ⟨b2, hb2⟩ : ∃ b, b = (S.toList == [78, 111, 114, 109, 97, 108]) := ⟨_, rfl⟩
  obtain ⟨b3, hb3⟩ : ∃ b, b = (I.toList == []) := ⟨_, rfl⟩
  have d1 : (S = vDis) ↔ b1 = true := by rw [hb1]; exact lit_iff S _ _ (by rw [vDis, ByteArray.toList_eq])
  have d2 : (S = vNor) ↔ b2 = true := by rw [hb2]; exact lit_iff S _ _ (by rw [vNor, ByteArray.toList_eq])
  have d3 : (I = ⟨#[]⟩) ↔ b3 = true := by rw [hb3]; exact lit_iff I _ _ (by rw [ByteArray.toList_eq])
  have q1 : decide (S = vDis) = b1 := by cases b1 <;> simp [d1]
  have eD2 : Kpt (begD h = bif b3 then 7 else bif F && !b2 && !b1 then 9 else bif b1 then 0 else D) := ⟨by rw [eD.out]; unfold kBad; simp only [d1, d2, d3]; cases b1 <;> cases b2 <;> cases b3 <;> cases F <;> rfl⟩
  have eO2 : Kpt (begO h = bif b3 then false else bif F && !b2 && !b1 then false else bif b1 then true else O) := ⟨by rw [eO.out]; unfold kBad; simp only [d1, d2, d3]; cases b1 <;> cases b2 <;> cases b3 <;> cases F <;> rfl⟩
  have eS2 : Kpt (begS h s = bif b3 || (F && !b2 && !b1) || b1 then { s with ini := I, dis := b1 } else { s with ini := I, dis := b1, tgt := T }) := ⟨by rw [eS.out, q1]; unfold kBad; simp only [d1, d2, d3]; cases b1 <;> cases b2 <;> cases b3 <;> cases F <;> rfl⟩
  replace hb1 := hb1.symm
  replace hb2 := hb2.symm
  replace hb3 := hb3.symm
  clear eD eO eS d1 d2 d3 q1
  cases b1
  · cases b2 <;> cases b3 <;> cases F
    all_goals
      go_enter Tryz.func37, Tryz.ntmps37
      go_wp2_with (first
        | (go_at_call 44; have k := k5; go_must (refine (fC.out _ _ _ k5.out).mono ?_; rintro e w6 ⟨rfl, hX6, hg6⟩; have k6 := Kpt.mk (k5.out.turn hX6 hg6 rfl); clear hX6 hg6))
        | (go_at_call 39; have k := k3; go_must (refine (fS.out _ _ _ k3.out).mono ?_; rintro e w4 ⟨rfl, hb4⟩; have k4 := Kpt.mk (k3.out.below hb4); clear hb4 k; obtain ⟨p1, p2⟩ := k4.out.cell 14 (by omega); simp [Lg.v] at p1; have k5 := Kpt.mk (k4.out.set (s' := { s with ini := I, dis := false }) 14 (.bool false) (by omega) (by simp [Lg.v]) rfl); have p3 := (k5.out.cell 12 (by omega)).1; have p4 := (k5.out.cell 14 (by omega)).1; simp [Lg.v] at p3 p4; have p5 := k5.out.rq.cells 3 (by simp [rqz]); simp [rqz] at p5))
        | (go_at_call 39; go_must (refine (fI.out _ _ _ k1.out).mono ?_; rintro e w2 ⟨rfl, hb2'⟩; have k2 := Kpt.mk (k1.out.below hb2'); clear hb2'; obtain ⟨m1, m2⟩ := k2.out.cell 12 (by omega); simp [Lg.v] at m1; have k3 := Kpt.mk (k2.out.set (s' := { s with ini := I }) 12 (.string I) (by omega) (by simp [Lg.v]) rfl); have m3 := k3.out.rq.cells 3 (by simp [rqz]); simp [rqz] at m3))
        | (refine (?_ : wpList _ _ _ (Oper.mk _ (Op.box 39 _) _ _ _ _ :: _) _ _); go_must (refine wpList_box rfl 39 (.tmp 1) rfl (rqz h) rfl ?_; intro R w1 hR hBq hbe _; have k1 := Kpt.mk (h0.out R w1 hR hBq hbe); have r0 := hBq.cells 0 (by simp [rqz]); have r3 := hBq.cells 3 (by simp [rqz]); simp [rqz] at r0 r3; clear hR hBq hbe)))
      go_ret2
      first
        | exact ⟨by rw [eD2.out, eO2.out]; rfl, by rw [eS2.out]; exact k6.out.lg, k6.out.gr⟩
        | exact ⟨by rw [eD2.out, eO2.out]; rfl, by rw [eS2.out]; exact k5.out.lg, k5.out.gr⟩
  · cases b2 <;> cases b3 <;> cases F
    all_goals
      go_enter Tryz.func37, Tryz.ntmps37
      go_wp2_with (first
        | (go_at_call 44; have k := k5; go_must (refine (fC.out _ _ _ k5.out).mono ?_; rintro e w6 ⟨rfl, hX6, hg6⟩; have k6 := Kpt.mk (k5.out.turn hX6 hg6 rfl); clear hX6 hg6))
        | (go_at_call 39; have k := k3; go_must (refine (fS.out _ _ _ k3.out).mono ?_; rintro e w4 ⟨rfl, hb4⟩; have k4 := Kpt.mk (k3.out.below hb4); clear hb4 k; obtain ⟨p1, p2⟩ := k4.out.cell 14 (by omega); simp [Lg.v] at p1; have k5 := Kpt.mk (k4.out.set (s' := { s with ini := I, dis := true }) 14 (.bool true) (by omega) (by simp [Lg.v]) rfl); have p3 := (k5.out.cell 12 (by omega)).1; have p4 := (k5.out.cell 14 (by omega)).1; simp [Lg.v] at p3 p4; have p5 := k5.out.rq.cells 3 (by simp [rqz]); simp [rqz] at p5))
        | (go_at_call 39; go_must (refine (fI.out _ _ _ k1.out).mono ?_; rintro e w2 ⟨rfl, hb2'⟩; have k2 := Kpt.mk (k1.out.below hb2'); clear hb2'; obtain ⟨m1, m2⟩ := k2.out.cell 12 (by omega); simp [Lg.v] at m1; have k3 := Kpt.mk (k2.out.set (s' := { s with ini := I }) 12 (.string I) (by omega) (by simp [Lg.v]) rfl); have m3 := k3.out.rq.cells 3 (by simp [rqz]); simp [rqz] at m3))
        | (refine (?_ : wpList _ _ _ (Oper.mk _ (Op.box 39 _) _ _ _ _ :: _) _ _); go_must (refine wpList_box rfl 39 (.tmp 1) rfl (rqz h) rfl ?_; intro R w1 hR hBq hbe _; have k1 := Kpt.mk (h0.out R w1 hR hBq hbe); have r0 := hBq.cells 0 (by simp [rqz]); have r3 := hBq.cells 3 (by simp [rqz]); simp [rqz] at r0 r3; clear hR hBq hbe)))
      go_ret2
      first
        | exact ⟨by rw [eD2.out, eO2.out]; rfl, by rw [eS2.out]; exact k6.out.lg, k6.out.gr⟩
        | exact ⟨by rw [eD2.out, eO2.out]; rfl, by rw [eS2.out]; exact k5.out.lg, k5.out.gr⟩
def entZ (h : Hd) (s : Lg) : Lg := begS h { s with begun := true, stage := 0 }
set_option maxRecDepth 100000 in
set_option maxHeartbeats 4000000 in
theorem enter_z (h : Hd) (L : Nat) (s : Lg) (w : World) (hX : Bx w L s.v) (hh : h.ok w L) (htg : s.tg = .slice h.at' h.nt h.ct) (hbg : s.begun = false) :
    Calls Tryz.prog 27 #[.pointer (some ⟨L, 0, none⟩), .agg (rqz h)] w fun e w' => e = .returned (.tuple #[.int .u8 (if begO h = true then 0 else begD h), .bool (begO h)]) ∧ Bx w' L (entZ h s).v ∧ w.grownBy w' (some L) := by
  have h0 : Kpt (∀ (R : Nat) (W : World), w.heap.size ≤ R → Bx W R (rqz h) → Below w.heap.size w W → En h w W L R s (rqz h)) := ⟨fun R W hR hB hb => ⟨hX.below hb hX.lt, hB, hh.grown (grown_of_below hb _), grown_of_below hb _, htg, fun e => by have := hX.lt; omega⟩⟩
  have fB : Kpt (∀ (W : World) (R : Nat) (s' : Lg), En h w W L R s' (rqz h) → Calls Tryz.prog 37 #[.pointer (some ⟨L, 0, none⟩), .agg (rqz h)] W fun e w' => e = .returned (.tuple #[.int .u8 (begD h), .bool (begO h)]) ∧ Bx w' L (begS h s').v ∧ W.grownBy w' (some L)) := ⟨fun W R s' k => begin_z h L s' W k.lg k.hd k.tg⟩
  obtain ⟨D, hD⟩ : ∃ D, D = begD h := ⟨_, rfl⟩
  obtain ⟨O, hO⟩ : ∃ O, O = begO h := ⟨_, rfl⟩
  rw [← hD, ← hO] at fB ⊢
  have hS : Kpt (entZ h s = begS h { s with begun := true, stage := 0 }) := ⟨rfl⟩
  have hk := begS_keep h { s with begun := true, stage := 0 }
  have htg2 := begS_tg h { s with begun := true, stage := 0 }
  obtain ⟨s9, hs9⟩ : ∃ x, x = begS h { s with begun := true, stage := 0 } := ⟨_, rfl⟩
  have fB2 : Kpt (∀ (W : World) (R : Nat), En h w W L R { s with begun := true, stage := 0 } (rqz h) → Calls Tryz.prog 37 #[.pointer (some ⟨L, 0, none⟩), .agg (rqz h)] W fun e w' => e = .returned (.tuple #[.int .u8 D, .bool O]) ∧ En h w w' L R s9 (rqz h)) := ⟨fun W R k => (fB.out W R _ k).mono fun e w' ⟨he, hx, hg⟩ => ⟨he, k.turn (by rw [hs9]; exact hx) hg (by rw [hs9, htg2])⟩⟩
  rw [← hs9] at hS hk
  have kc : Kpt (∀ (W : World) (R : Nat), En h w W L R s9 (rqz h) → W.cell? ⟨L, 6, none⟩ = some (.int .u8 0) ∧ W.cell? ⟨L, 9, none⟩ = some (.bool s9.proved) ∧ W.cell? ⟨R, 0, none⟩ = some (.int .u8 0) ∧ W.cell? ⟨R, 1, none⟩ = some (.int .u8 0) ∧ W.cell? ⟨R, 2, none⟩ = some (.bool false)) := ⟨fun W R k => by
    refine ⟨?_, ?_, k.rq.cells 0 (by simp [rqz]), k.rq.cells 1 (by simp [rqz]), k.rq.cells 2 (by simp [rqz])⟩
    · rw [(k.cell 6 (by omega)).1]; simp [Lg.v, hk.2.1]
    · rw [(k.cell 9 (by omega)).1]; simp [Lg.v]⟩
  clear hX hh htg hD hO fB hk htg2 hs9
  cases O
  · go_enter Tryz.func27, Tryz.ntmps27
    go_wp2_with (first
      | (go_at_call 37; go_must (refine (fB2.out _ _ k3.out).mono ?_; rintro e w4 ⟨rfl, k4⟩; obtain ⟨p1, p2, p3, p4, p5⟩ := kc.out _ _ k4; replace k4 := Kpt.mk k4))
      | (refine (?_ : wpList _ _ _ (Oper.mk _ (Op.load 39 _) _ _ _ _ :: _) _ _); go_must (refine wpList_load_bx rfl 39 (.tmp 3) rfl R (rqz h) rfl k3.out.rq _ Tryz.underlying39 rfl szReq ?_))
      | (refine (?_ : wpList _ _ _ (Oper.mk _ (Op.box 39 _) _ _ _ _ :: _) _ _); go_must (refine wpList_box rfl 39 (.tmp 1) rfl (rqz h) rfl ?_; intro R w1 hR hBq hbe _; have k1 := Kpt.mk (h0.out R w1 hR hBq hbe); have r0 := hBq.cells 0 (by simp [rqz]); simp [rqz] at r0; obtain ⟨c5, f5⟩ := k1.out.cell 5 (by omega); obtain ⟨c6, f6⟩ := k1.out.cell 6 (by omega); simp [Lg.v, hbg] at c5 c6; have k2 := Kpt.mk (k1.out.set (s' := { s with begun := true }) 5 (.bool true) (by omega) (by simp [Lg.v]) rfl); have k3 := Kpt.mk (k2.out.set (s' := { s with begun := true, stage := 0 }) 6 (.int .u8 0) (by omega) (by simp [Lg.v]) rfl); obtain ⟨d6, g6⟩ := k2.out.cell 6 (by omega); simp [Lg.v] at d6; have r1 := k2.out.rq.cells 0 (by simp [rqz]); simp [rqz] at r1; clear hR hBq hbe)))
    go_ret2
    exact ⟨rfl, by rw [hS.out]; exact k4.out.lg, k4.out.gr⟩
  · go_enter Tryz.func27, Tryz.ntmps27
    go_wp2_with (first
      | (go_at_call 37; go_must (refine (fB2.out _ _ k3.out).mono ?_; rintro e w4 ⟨rfl, k4⟩; obtain ⟨p1, p2, p3, p4, p5⟩ := kc.out _ _ k4; replace k4 := Kpt.mk k4))
      | (refine (?_ : wpList _ _ _ (Oper.mk _ (Op.load 39 _) _ _ _ _ :: _) _ _); go_must (refine wpList_load_bx rfl 39 (.tmp 3) rfl R (rqz h) rfl k3.out.rq _ Tryz.underlying39 rfl szReq ?_))
      | (refine (?_ : wpList _ _ _ (Oper.mk _ (Op.box 39 _) _ _ _ _ :: _) _ _); go_must (refine wpList_box rfl 39 (.tmp 1) rfl (rqz h) rfl ?_; intro R w1 hR hBq hbe _; have k1 := Kpt.mk (h0.out R w1 hR hBq hbe); have r0 := hBq.cells 0 (by simp [rqz]); simp [rqz] at r0; obtain ⟨c5, f5⟩ := k1.out.cell 5 (by omega); obtain ⟨c6, f6⟩ := k1.out.cell 6 (by omega); simp [Lg.v, hbg] at c5 c6; have k2 := Kpt.mk (k1.out.set (s' := { s with begun := true }) 5 (.bool true) (by omega) (by simp [Lg.v]) rfl); have k3 := Kpt.mk (k2.out.set (s' := { s with begun := true, stage := 0 }) 6 (.int .u8 0) (by omega) (by simp [Lg.v]) rfl); obtain ⟨d6, g6⟩ := k2.out.cell 6 (by omega); simp [Lg.v] at d6; have r1 := k2.out.rq.cells 0 (by simp [rqz]); simp [rqz] at r1; clear hR hBq hbe)))
    go_quiet (fail)
    go_wp2
    go_ret2
    exact ⟨rfl, by rw [hS.out]; exact bx_drewN k4.out.lg _, grown_tr k4.out.gr (grown_drewN _ _ _)⟩
def ansY (kv : Value) : Array Value := #[.int .u8 0, .int .u8 0, .int .u8 0, .int .u8 0, .bool false, kv]
set_option maxRecDepth 100000 in
set_option maxHeartbeats 4000000 in
theorem leave_z (h : Hd) (L : Nat) (ka : Option Addr) (kn kc : Nat) (w : World) :
    Calls Tryz.prog 30 #[.pointer (some ⟨L, 0, none⟩), .agg (rqz h), .slice ka kn kc] w fun e w' => e = .returned (.agg (ansY (.slice ka kn kc))) ∧ Below w.heap.size w w' := by
  go_enter Tryz.func30, Tryz.ntmps30
  go_wp2_with (first
    | (refine (?_ : wpList _ _ _ (Oper.mk _ (Op.load 46 _) _ _ _ _ :: _) _ _); go_must (refine wpList_load_bx rfl 46 (.tmp 7) rfl B (ansY (.slice ka kn kc)) rfl hB4.out _ Tryz.underlying46 rfl szAns ?_))
    | (refine (?_ : wpList _ _ _ (Oper.mk none (Op.store 46 (Operand.tmp 7) _) _ _ _ _ :: _) _ _); go_must (refine wpList_store_bx rfl 46 (.tmp 7) (.tmp 11) rfl B ansZ (ansY (.slice ka kn kc)) rfl rfl hB3.out rfl szAns (by simp [ansY, Value.oneCell']) rfl ?_; intro w4 hB4q hg4; have hR4 := hR2.out.grown (hg4) (fun e => by injection e with e; have := hRB.out; omega); have hR3 := hR4; have hA4 := Kpt.mk (hA3.out.grown hg4 (fun e => by injection e with e; have := hAB.out; omega)); have hb4 := Kpt.mk (hb3.out.grown hg4 hb3.out.size (fun q e => by injection e with e; subst e; exact hBw.out)); have r2 := hR4.cells 2 (by simp [rqz]); simp [rqz] at r2; have hB4 := Kpt.mk hB4q; clear hR3 hR4 hB4q hg4))
    | (refine (?_ : wpList _ _ _ (Oper.mk none (Op.store 46 (Operand.tmp 6) _) _ _ _ _ :: _) _ _); go_must (refine wpList_store_bx rfl 46 (.tmp 6) (.tmp 22) rfl A ansZ (ansY (.slice ka kn kc)) rfl rfl hA4.out rfl szAns (by simp [ansY, Value.oneCell']) rfl ?_; intro w5 hA5q hg5; have hA5 := Kpt.mk hA5q; have hb5 := Kpt.mk (hb4.out.grown hg5 hb4.out.size (fun q e => by injection e with e; subst e; exact hAw.out)); clear hA5q hg5))
    | (refine (?_ : wpList _ _ _ (Oper.mk (some 7) _ _ _ _ _ :: _) _ _); refine wpList_var rfl 46 rfl ansZ zAns ?_; intro B w3 hB2 hBx hb3q; have hB3 := Kpt.mk hBx; have hb3 := Kpt.mk (hb2.out.trans (hb3q.mono hb2.out.size)); have hBw := Kpt.mk (Nat.le_trans hb2.out.size hB2); have hA3 := Kpt.mk (hA2.out.below hb3q hA2.out.lt); have hAB : Kpt (A < B) := ⟨Nat.lt_of_lt_of_le hA2.out.lt hB2⟩; have hR2 := Kpt.mk (hR1.out.below hb3q hR1.out.lt); have hRB : Kpt (R < B) := ⟨Nat.lt_of_lt_of_le hR1.out.lt hB2⟩; clear hB2 hBx hb3q)
    | (refine (?_ : wpList _ _ _ (Oper.mk (some 6) _ _ _ _ _ :: _) _ _); refine wpList_var rfl 46 rfl ansZ zAns ?_; intro A w2 hA hAx hb2q; have hR1 := Kpt.mk (hR0.out.below hb2q hR0.out.lt); have r0 := hR1.out.cells 0 (by simp [rqz]); simp [rqz] at r0; have hb2 := Kpt.mk (hb1.out.trans (hb2q.mono hb1.out.size)); have hAw := Kpt.mk (Nat.le_trans hb1.out.size hA); have hA2 := Kpt.mk hAx; clear hA hAx hb2q)
    | (refine (?_ : wpList _ _ _ (Oper.mk _ (Op.box 39 _) _ _ _ _ :: _) _ _); go_must (refine wpList_box rfl 39 (.tmp 1) rfl (rqz h) rfl ?_; intro R w1 hR hBq hbe _; have hR0 := Kpt.mk hBq; have hb1 := Kpt.mk hbe; clear hR hBq hbe)))
  refine bodyPost_ret (v := .agg (ansY (.slice ka kn kc))) (by simp [results, Tryz.results30, asAddr, Act.put, run_res hA5.out 46 _ Tryz.underlying46 rfl szAns]) rfl ⟨rfl, hb5.out⟩

/-- A login, a request in a box, an answer's block. -/
structure Sz (h : Hd) (w W : World) (L R A : Nat) (s : Lg) (va : Array Value) : Prop where
  en : En h w W L R s (rqz h)
  a : Bx W A va
  lt : L < w.heap.size
  r : w.heap.size ≤ R
  ra : R < A
theorem Sz.turn {h : Hd} {w W W' : World} {L R A : Nat} {s s' : Lg} {va : Array Value} (k : Sz h w W L R A s va) (hX : Bx W' L s'.v) (hg : W.grownBy W' (some L)) (ht : s'.tg = s.tg) : Sz h w W' L R A s' va := by
  have h1 := k.lt; have h2 := k.r; have h3 := k.ra
  exact ⟨k.en.turn hX hg ht, k.a.grown hg (fun e => by injection e with e; omega), h1, h2, h3⟩
end Go.Proofs.YtplifodddfjhdaaGreatDoor
