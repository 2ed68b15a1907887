/-
  login: steps where there are no users: New, enter, the document's Same.
-/
import Derived.Test.YtplifodddfjhdaaDoorXAgC
import Derived.Test.YtplifodddfjhdaaDoorXLgA
namespace Go.Proofs.YtplifodddfjhdaaDoor
open Go.RowKit
set_option linter.unusedVariables false
set_option linter.unusedSimpArgs false

def rqn (h : Hd) : Array Value := #[.int .u8 1, .int .u8 0, .bool false, .slice h.a h.n h.c]
set_option maxRecDepth 100000 in
set_option maxHeartbeats 4000000 in
theorem begin_n (h : Hd) (L : Nat) (s : Lg) (w : World) (hX : Bx w L s.v) (hh : h.ok w L) (htg : s.tg = .slice h.at' h.nt h.ct) :
    Calls Tryd.prog 23 #[.pointer (some ⟨L, 0, none⟩), .agg (rqn h)] w fun e w' => e = .returned (.tuple #[.int .u8 (begD h), .bool (begO h)]) ∧ Bx w' L (begS h s).v ∧ w.grownBy w' (some L) := by
  have fI : Kpt (∀ (W : World) (R : Nat) (s' : Lg), En h w W L R s' (rqn h) → Calls Tryd.prog 25 #[.slice h.a h.n h.c, .string kIni] W fun e w' => e = .returned (.tuple #[.string h.ini, .bool (findP h.ps kIni).isSome]) ∧ Below W.heap.size W w') := ⟨fun W R s' k => find_any _ _ _ _ _ W k.hd.ps k.hd.n⟩
  have fS : Kpt (∀ (W : World) (R : Nat) (s' : Lg), En h w W L R s' (rqn h) → Calls Tryd.prog 25 #[.slice h.a h.n h.c, .string kSes] W fun e w' => e = .returned (.tuple #[.string h.ses, .bool h.fnd]) ∧ Below W.heap.size W w') := ⟨fun W R s' k => find_any _ _ _ _ _ W k.hd.ps k.hd.n⟩
  have fC : Kpt (∀ (W : World) (R : Nat) (s' : Lg), En h w W L R s' (rqn h) → Calls Tryd.prog 27 #[.pointer (some ⟨L, 0, none⟩), .slice h.a h.n h.c] W fun e w' => e = .returned (.tuple #[.int .u8 (choD h.os h.tgt), .bool (choO h.os h.tgt)]) ∧ Bx w' L { s' with tgt := h.tgt }.v ∧ W.grownBy w' (some L)) := ⟨fun W R s' k => choose_any L s' _ _ _ _ _ _ _ _ W k.lg k.hd.ps k.hd.n k.hd.off k.tg k.hd.os k.hd.nt k.hd.offt _ rfl⟩
  have h0 : Kpt (∀ (R : Nat) (W : World), w.heap.size ≤ R → Bx W R (rqn h) → Below w.heap.size w W → En h w W L R s (rqn h)) := ⟨fun R W hR hB hb => ⟨hX.below hb hX.lt, hB, hh.grown (grown_of_below hb _), grown_of_below hb _, htg, fun e => by have := hX.lt; omega⟩⟩
  have eD : Kpt (begD h = if h.ini = ⟨#[]⟩ then 7 else if kBad h.fnd h.ses then 9 else if h.ses = vDis then 0 else choD h.os h.tgt) := ⟨rfl⟩
  have eO : Kpt (begO h = if h.ini = ⟨#[]⟩ then false else if kBad h.fnd h.ses then false else if h.ses = vDis then true else choO h.os h.tgt) := ⟨rfl⟩
  have eS : Kpt (begS h s = if h.ini = ⟨#[]⟩ ∨ kBad h.fnd h.ses ∨ h.ses = vDis then { s with ini := h.ini, dis := decide (h.ses = vDis) } else { s with ini := h.ini, dis := decide (h.ses = vDis), tgt := h.tgt }) := ⟨rfl⟩
  obtain ⟨I, hI⟩ : ∃ I, I = h.ini := ⟨_, rfl⟩
  obtain ⟨S, hS⟩ : ∃ S, S = h.ses := ⟨_, rfl⟩
  obtain ⟨F, hF⟩ : ∃ F, F = h.fnd := ⟨_, rfl⟩
  obtain ⟨T, hT⟩ : ∃ T, T = h.tgt := ⟨_, rfl⟩
  rw [← hI] at fI eD eO eS
  rw [← hS] at fS eD eO eS
  rw [← hF] at fS eD eO eS
  rw [← hT] at fC eD eO eS
  obtain ⟨D, hD⟩ : ∃ D, D = choD h.os T := ⟨_, rfl⟩
  obtain ⟨O, hO⟩ : ∃ O, O = choO h.os T := ⟨_, rfl⟩
  rw [← hD] at fC eD
  rw [← hO] at fC eO
  clear hI hS hF hT hD hO hX hh htg
  obtain ⟨b1, hb1⟩ : ∃ b, b = (S.toList == [68, 105, 115, 99, 111, 118, 101, 114, 121]) := ⟨_, rfl⟩
  obtain ⟨b2, hb2⟩ : ∃ b, b = (S.toList == [78, 111, 114, 109, 97, 108]) := ⟨_, rfl⟩
  obtain ⟨b3, hb3⟩ : ∃ b, b = (I.toList == []) := ⟨_, rfl⟩
  have d1 : (S = vDis) ↔ b1 = true := by rw [hb1]; exact lit_iff S _ _ (by rw [vDis, ByteArray.toList_eq])
  have d2 : (S = vNor) ↔ b2 = true := by rw [hb2]; exact lit_iff S _ _ (by rw [vNor, ByteArray.toList_eq])
  have d3 : (I = ⟨#[]⟩) ↔ b3 = true := by rw [hb3]; exact lit_iff I _ _ (by rw [ByteArray.toList_eq])
  have q1 : decide (S = vDis) = b1 := by cases b1 <;> simp [d1]
  have eD2 : Kpt (begD h = bif b3 then 7 else bif F && !b2 && !b1 then 9 else bif b1 then 0 else D) := ⟨by rw [eD.out]; unfold kBad; simp only [d1, d2, d3]; cases b1 <;> cases b2 <;> cases b3 <;> cases F <;> rfl⟩
  have eO2 : Kpt (begO h = bif b3 then false else bif F && !b2 && !b1 then false else bif b1 then true else O) := ⟨by rw [eO.out]; unfold kBad; simp only [d1, d2, d3]; cases b1 <;> cases b2 <;> cases b3 <;> cases F <;> rfl⟩
  have eS2 : Kpt (begS h s = bif b3 || (F && !b2 && !b1) || b1 then { s with ini := I, dis := b1 } else { s with ini := I, dis := b1, tgt := T }) := ⟨by rw [eS.out, q1]; unfold kBad; simp only [d1, d2, d3]; cases b1 <;> cases b2 <;> cases b3 <;> cases F <;> rfl⟩
  replace hb1 := hb1.symm
  replace hb2 := hb2.symm
  replace hb3 := hb3.symm
  clear eD eO eS d1 d2 d3 q1
  cases b1
  · cases b2 <;> cases b3 <;> cases F
    all_goals
      go_enter Tryd.func23, Tryd.ntmps23
      go_wp2_with (first
        | (go_at_call 27; have k := k5; go_must (refine (fC.out _ _ _ k5.out).mono ?_; rintro e w6 ⟨rfl, hX6, hg6⟩; have k6 := Kpt.mk (k5.out.turn hX6 hg6 rfl); clear hX6 hg6))
        | (go_at_call 25; have k := k3; go_must (refine (fS.out _ _ _ k3.out).mono ?_; rintro e w4 ⟨rfl, hb4⟩; have k4 := Kpt.mk (k3.out.below hb4); clear hb4 k; obtain ⟨p1, p2⟩ := k4.out.cell 14 (by omega); simp [Lg.v] at p1; have k5 := Kpt.mk (k4.out.set (s' := { s with ini := I, dis := false }) 14 (.bool false) (by omega) (by simp [Lg.v]) rfl); have p3 := (k5.out.cell 12 (by omega)).1; have p4 := (k5.out.cell 14 (by omega)).1; simp [Lg.v] at p3 p4; have p5 := k5.out.rq.cells 3 (by simp [rqn]); simp [rqn] at p5))
        | (go_at_call 25; go_must (refine (fI.out _ _ _ k1.out).mono ?_; rintro e w2 ⟨rfl, hb2'⟩; have k2 := Kpt.mk (k1.out.below hb2'); clear hb2'; obtain ⟨m1, m2⟩ := k2.out.cell 12 (by omega); simp [Lg.v] at m1; have k3 := Kpt.mk (k2.out.set (s' := { s with ini := I }) 12 (.string I) (by omega) (by simp [Lg.v]) rfl); have m3 := k3.out.rq.cells 3 (by simp [rqn]); simp [rqn] at m3))
        | (refine (?_ : wpList _ _ _ (Oper.mk _ (Op.box 39 _) _ _ _ _ :: _) _ _); go_must (refine wpList_box rfl 39 (.tmp 1) rfl (rqn h) rfl ?_; intro R w1 hR hBq hbe _; have k1 := Kpt.mk (h0.out R w1 hR hBq hbe); have r0 := hBq.cells 0 (by simp [rqn]); have r3 := hBq.cells 3 (by simp [rqn]); simp [rqn] at r0 r3; clear hR hBq hbe)))
      go_ret2
      first
        | exact ⟨by rw [eD2.out, eO2.out]; rfl, by rw [eS2.out]; exact k6.out.lg, k6.out.gr⟩
        | exact ⟨by rw [eD2.out, eO2.out]; rfl, by rw [eS2.out]; exact k5.out.lg, k5.out.gr⟩
  · cases b2 <;> cases b3 <;> cases F
    all_goals
      go_enter Tryd.func23, Tryd.ntmps23
      go_wp2_with (first
        | (go_at_call 27; have k := k5; go_must (refine (fC.out _ _ _ k5.out).mono ?_; rintro e w6 ⟨rfl, hX6, hg6⟩; have k6 := Kpt.mk (k5.out.turn hX6 hg6 rfl); clear hX6 hg6))
        | (go_at_call 25; have k := k3; go_must (refine (fS.out _ _ _ k3.out).mono ?_; rintro e w4 ⟨rfl, hb4⟩; have k4 := Kpt.mk (k3.out.below hb4); clear hb4 k; obtain ⟨p1, p2⟩ := k4.out.cell 14 (by omega); simp [Lg.v] at p1; have k5 := Kpt.mk (k4.out.set (s' := { s with ini := I, dis := true }) 14 (.bool true) (by omega) (by simp [Lg.v]) rfl); have p3 := (k5.out.cell 12 (by omega)).1; have p4 := (k5.out.cell 14 (by omega)).1; simp [Lg.v] at p3 p4; have p5 := k5.out.rq.cells 3 (by simp [rqn]); simp [rqn] at p5))
        | (go_at_call 25; go_must (refine (fI.out _ _ _ k1.out).mono ?_; rintro e w2 ⟨rfl, hb2'⟩; have k2 := Kpt.mk (k1.out.below hb2'); clear hb2'; obtain ⟨m1, m2⟩ := k2.out.cell 12 (by omega); simp [Lg.v] at m1; have k3 := Kpt.mk (k2.out.set (s' := { s with ini := I }) 12 (.string I) (by omega) (by simp [Lg.v]) rfl); have m3 := k3.out.rq.cells 3 (by simp [rqn]); simp [rqn] at m3))
        | (refine (?_ : wpList _ _ _ (Oper.mk _ (Op.box 39 _) _ _ _ _ :: _) _ _); go_must (refine wpList_box rfl 39 (.tmp 1) rfl (rqn h) rfl ?_; intro R w1 hR hBq hbe _; have k1 := Kpt.mk (h0.out R w1 hR hBq hbe); have r0 := hBq.cells 0 (by simp [rqn]); have r3 := hBq.cells 3 (by simp [rqn]); simp [rqn] at r0 r3; clear hR hBq hbe)))
      go_ret2
      first
        | exact ⟨by rw [eD2.out, eO2.out]; rfl, by rw [eS2.out]; exact k6.out.lg, k6.out.gr⟩
        | exact ⟨by rw [eD2.out, eO2.out]; rfl, by rw [eS2.out]; exact k5.out.lg, k5.out.gr⟩
set_option maxRecDepth 100000 in
set_option maxHeartbeats 4000000 in
theorem enter_n (h : Hd) (L : Nat) (s : Lg) (w : World) (hX : Bx w L s.v) (hh : h.ok w L) (htg : s.tg = .slice h.at' h.nt h.ct) (hbg : s.begun = false) (hpr : s.proved = true) :
    Calls Tryd.prog 19 #[.pointer (some ⟨L, 0, none⟩), .agg (rqn h)] w fun e w' => e = .returned (.tuple #[.int .u8 (if begO h = true then 0 else begD h), .bool (begO h)]) ∧ Bx w' L (entS h s).v ∧ w.grownBy w' (some L) := by
  have h0 : Kpt (∀ (R : Nat) (W : World), w.heap.size ≤ R → Bx W R (rqn h) → Below w.heap.size w W → En h w W L R s (rqn h)) := ⟨fun R W hR hB hb => ⟨hX.below hb hX.lt, hB, hh.grown (grown_of_below hb _), grown_of_below hb _, htg, fun e => by have := hX.lt; omega⟩⟩
  have fB : Kpt (∀ (W : World) (R : Nat) (s' : Lg), En h w W L R s' (rqn h) → Calls Tryd.prog 23 #[.pointer (some ⟨L, 0, none⟩), .agg (rqn h)] W fun e w' => e = .returned (.tuple #[.int .u8 (begD h), .bool (begO h)]) ∧ Bx w' L (begS h s').v ∧ W.grownBy w' (some L)) := ⟨fun W R s' k => begin_n h L s' W k.lg k.hd k.tg⟩
  have fL : Kpt (∀ W : World, Calls Tryd.prog 24 #[.int .u8 1, .int .u8 3] W fun e w' => e = .returned (.bool true) ∧ w' = W) := ⟨leads_13⟩
  obtain ⟨D, hD⟩ : ∃ D, D = begD h := ⟨_, rfl⟩
  obtain ⟨O, hO⟩ : ∃ O, O = begO h := ⟨_, rfl⟩
  rw [← hD, ← hO] at fB ⊢
  have hS : Kpt (entS h s = begS h { s with begun := true, stage := 1 }) := ⟨rfl⟩
  have hk := begS_keep h { s with begun := true, stage := 1 }
  have htg2 := begS_tg h { s with begun := true, stage := 1 }
  obtain ⟨s9, hs9⟩ : ∃ x, x = begS h { s with begun := true, stage := 1 } := ⟨_, rfl⟩
  have fB2 : Kpt (∀ (W : World) (R : Nat), En h w W L R { s with begun := true, stage := 1 } (rqn h) → Calls Tryd.prog 23 #[.pointer (some ⟨L, 0, none⟩), .agg (rqn h)] W fun e w' => e = .returned (.tuple #[.int .u8 D, .bool O]) ∧ En h w w' L R s9 (rqn h)) := ⟨fun W R k => (fB.out W R _ k).mono fun e w' ⟨he, hx, hg⟩ => ⟨he, k.turn (by rw [hs9]; exact hx) hg (by rw [hs9, htg2])⟩⟩
  rw [← hs9] at hS hk
  have kc : Kpt (∀ (W : World) (R : Nat), En h w W L R s9 (rqn h) → W.cell? ⟨L, 6, none⟩ = some (.int .u8 1) ∧ W.cell? ⟨L, 9, none⟩ = some (.bool true) ∧ W.cell? ⟨R, 0, none⟩ = some (.int .u8 1) ∧ W.cell? ⟨R, 1, none⟩ = some (.int .u8 0) ∧ W.cell? ⟨R, 2, none⟩ = some (.bool false)) := ⟨fun W R k => by
    refine ⟨?_, ?_, k.rq.cells 0 (by simp [rqn]), k.rq.cells 1 (by simp [rqn]), k.rq.cells 2 (by simp [rqn])⟩
    · rw [(k.cell 6 (by omega)).1]; simp [Lg.v, hk.2.1]
    · rw [(k.cell 9 (by omega)).1]; simp [Lg.v, hk.2.2.1, hpr]⟩
  clear hX hh htg hD hO fB hk htg2 hs9 hpr
  cases O
  · go_enter Tryd.func19, Tryd.ntmps19
    go_wp2_with (first
      | (go_at_call 23; go_must (refine (fB2.out _ _ k3.out).mono ?_; rintro e w4 ⟨rfl, k4⟩; obtain ⟨p1, p2, p3, p4, p5⟩ := kc.out _ _ k4; replace k4 := Kpt.mk k4))
      | (refine (?_ : wpList _ _ _ (Oper.mk _ (Op.load 39 _) _ _ _ _ :: _) _ _); go_must (refine wpList_load_bx rfl 39 (.tmp 3) rfl R (rqn h) rfl k3.out.rq _ Tryd.underlying39 rfl szReq ?_))
      | (refine (?_ : wpList _ _ _ (Oper.mk _ (Op.box 39 _) _ _ _ _ :: _) _ _); go_must (refine wpList_box rfl 39 (.tmp 1) rfl (rqn h) rfl ?_; intro R w1 hR hBq hbe _; have k1 := Kpt.mk (h0.out R w1 hR hBq hbe); have r0 := hBq.cells 0 (by simp [rqn]); simp [rqn] at r0; obtain ⟨c5, f5⟩ := k1.out.cell 5 (by omega); obtain ⟨c6, f6⟩ := k1.out.cell 6 (by omega); simp [Lg.v, hbg] at c5 c6; have k2 := Kpt.mk (k1.out.set (s' := { s with begun := true }) 5 (.bool true) (by omega) (by simp [Lg.v]) rfl); have k3 := Kpt.mk (k2.out.set (s' := { s with begun := true, stage := 1 }) 6 (.int .u8 1) (by omega) (by simp [Lg.v]) rfl); obtain ⟨d6, g6⟩ := k2.out.cell 6 (by omega); simp [Lg.v] at d6; have r1 := k2.out.rq.cells 0 (by simp [rqn]); simp [rqn] at r1; clear hR hBq hbe)))
    go_ret2
    exact ⟨rfl, by rw [hS.out]; exact k4.out.lg, k4.out.gr⟩
  · go_enter Tryd.func19, Tryd.ntmps19
    go_wp2_with (first
      | (go_at_call 23; go_must (refine (fB2.out _ _ k3.out).mono ?_; rintro e w4 ⟨rfl, k4⟩; obtain ⟨p1, p2, p3, p4, p5⟩ := kc.out _ _ k4; replace k4 := Kpt.mk k4))
      | (refine (?_ : wpList _ _ _ (Oper.mk _ (Op.load 39 _) _ _ _ _ :: _) _ _); go_must (refine wpList_load_bx rfl 39 (.tmp 3) rfl R (rqn h) rfl k3.out.rq _ Tryd.underlying39 rfl szReq ?_))
      | (refine (?_ : wpList _ _ _ (Oper.mk _ (Op.box 39 _) _ _ _ _ :: _) _ _); go_must (refine wpList_box rfl 39 (.tmp 1) rfl (rqn h) rfl ?_; intro R w1 hR hBq hbe _; have k1 := Kpt.mk (h0.out R w1 hR hBq hbe); have r0 := hBq.cells 0 (by simp [rqn]); simp [rqn] at r0; obtain ⟨c5, f5⟩ := k1.out.cell 5 (by omega); obtain ⟨c6, f6⟩ := k1.out.cell 6 (by omega); simp [Lg.v, hbg] at c5 c6; have k2 := Kpt.mk (k1.out.set (s' := { s with begun := true }) 5 (.bool true) (by omega) (by simp [Lg.v]) rfl); have k3 := Kpt.mk (k2.out.set (s' := { s with begun := true, stage := 1 }) 6 (.int .u8 1) (by omega) (by simp [Lg.v]) rfl); obtain ⟨d6, g6⟩ := k2.out.cell 6 (by omega); simp [Lg.v] at d6; have r1 := k2.out.rq.cells 0 (by simp [rqn]); simp [rqn] at r1; clear hR hBq hbe)))
    go_quiet (fail)
    go_wp2
    go_ret2
    exact ⟨rfl, by rw [hS.out]; exact bx_drewN k4.out.lg _, grown_tr k4.out.gr (grown_drewN _ _ _)⟩
def lgS (b : Bool) (tg : Value) : Lg := { lg0 tg with sums := b }
set_option maxRecDepth 100000 in
set_option maxHeartbeats 4000000 in
theorem new_s (b : Bool) (a : Option Addr) (n c : Nat) (os : List ByteArray) (w : World) (h : StAt w (.slice a n c) os) (hn : n * 16 ≤ 140737488355328) :
    Calls Tryd.prog 7 #[.agg #[.slice a n c, .slice none 0 0, .bool b], .int .u8 1, .slice none 0 0] w fun e w' => (∃ L a' c', e = .returned (.pointer (some ⟨L, 0, none⟩)) ∧ w.heap.size ≤ L ∧ Bx w' L (lgS b (.slice a' n c')).v ∧ StAt w' (.slice a' n c') os ∧ Off a' L ∧ Newer a' w.heap.size) ∧ Below w.heap.size w w' := by
  have fC : Kpt (∀ W, Below w.heap.size w W → Calls Tryd.prog 16 #[.slice a n c] W fun e w' => (∃ a' c', e = .returned (.slice a' n c') ∧ StAt w' (.slice a' n c') os ∧ Newer a' W.heap.size ∧ ∀ x, a' = some x → x.block < w'.heap.size) ∧ Below W.heap.size W w') := ⟨fun W hb => clone_any a n c os W (h.bel hb) hn⟩
  have fU : Kpt (∀ W : World, Calls Tryd.prog 17 #[.slice none 0 0] W fun e w' => e = .returned (.slice none 0 0) ∧ w' = W) := ⟨cloneU_nil⟩
  have fB : Kpt (∀ W : World, Calls Tryd.prog 18 #[.slice none 0 0] W fun e w' => e = .returned (.slice none 0 0) ∧ w' = W) := ⟨cloneB_nil⟩
  clear h hn
  go_enter Tryd.func7, Tryd.ntmps7
  go_wp2_with (first
    | (go_at_call 17; go_must (refine (fU.out _).mono ?_; rintro e wx ⟨rfl, rfl⟩))
    | (go_at_call 16; go_must (refine (fC.out _ hb1.out).mono ?_; rintro e w2 ⟨⟨a', c', rfl, hst, hnw, hol⟩, hb2⟩; have hRlt := hX1.out.lt; replace hol := Kpt.mk hol; have hX2 := hX1.out.below hb2 hX1.out.lt; have hb3 : Kpt (Below w.heap.size w w2) := ⟨hb1.out.trans (hb2.mono hb1.out.size)⟩; have n0 := hX2.cells 0 (by simp); have g0 := hX2.free 0; have hX3 := bx_setC (.slice a' n c') hX2 (j := 0) (by simp); simp at n0 hX3; have n1 := hX3.cells 1 (by simp); have g1 := hX3.free 1; have hX4 := bx_setC (.slice none 0 0) hX3 (j := 1) (by simp); simp at n1 hX4; replace hX2 := Kpt.mk hX2; replace hX3 := Kpt.mk hX3; replace hX4 := Kpt.mk hX4; replace hst := Kpt.mk hst; replace hnw := Kpt.mk hnw; clear hb2))
    | (refine (?_ : wpList _ _ _ (Oper.mk _ (Op.box 29 _) _ _ _ _ :: _) _ _); go_must (refine wpList_box rfl 29 (.tmp 0) rfl #[.slice a n c, .slice none 0 0, .bool b] rfl ?_; intro R w1 hR hBq hbe _; have m0 := hBq.cells 0 (by simp); simp at m0; have hb1 := Kpt.mk hbe; have hX1 := Kpt.mk hBq; replace hR := Kpt.mk hR; clear hBq hbe)))
  have hoR : Off a' R := fun x e => by have := hnw.out x e; omega
  have hg4 := grown_tr (grown_setCellK w2 ⟨R, 0, none⟩ (.slice a' n c')) (grown_setCellK (w2.setCell ⟨R, 0, none⟩ (.slice a' n c')) ⟨R, 1, none⟩ (.slice none 0 0))
  obtain ⟨W4, hW4⟩ : ∃ W, W = (w2.setCell ⟨R, 0, none⟩ (.slice a' n c')).setCell ⟨R, 1, none⟩ (.slice none 0 0) := ⟨_, rfl⟩
  rw [← hW4] at hX4 hg4 ⊢
  have hst4 := Kpt.mk (hst.out.grown hoR hg4)
  have hb4 : Kpt (Below w.heap.size w W4) := ⟨hb3.out.grown hg4 hb3.out.size (fun q e => by injection e with e; subst e; exact hR.out)⟩
  have hol4 : Kpt (∀ x, a' = some x → x.block < W4.heap.size) := ⟨fun x e => Nat.lt_of_lt_of_le (hol.out x e) hg4.size⟩
  clear hW4 hg4 hX3 hX2 n0 n1 g0 g1 m0 hst hol
  refine wp_region_any (by kernel_rfl) ?_
  refine wpAny_of_C (C := fun W => Bx W R #[.slice a' n c', .slice none 0 0, .bool b]) _ _ _ _ ?_
  refine wpAnyC_take 0 (.agg #[.slice a' n c', .slice none 0 0, .bool b]) rfl (by kernel_rfl) (by kernel_rfl) (by kernel_rfl) (fun _ _ _ h => h) (wanted_free rfl _) (fun W hW => exec_load_bx 29 (.tmp 3) rfl R #[.slice a' n c', .slice none 0 0, .bool b] rfl hW _ Tryd.underlying29 rfl szCfg) ?_
  try simp only [Act.put, List.getElem_toArray, List.getElem_cons_succ, List.getElem_cons_zero, List.setIfInBounds_toArray, List.set_cons_succ, List.set_cons_zero]
  refine wpAnyC_take 1 (.int .u8 1) rfl (by kernel_rfl) (by kernel_rfl) (by kernel_rfl) (fun _ _ _ h => h) (wanted_free rfl _) (fun W hW => by go_simp) ?_
  try simp only [Act.put, List.getElem_toArray, List.getElem_cons_succ, List.getElem_cons_zero, List.setIfInBounds_toArray, List.set_cons_succ, List.set_cons_zero]
  refine wpAnyC_take 2 (.slice none 0 0) rfl (by kernel_rfl) (by kernel_rfl) (by kernel_rfl) (fun _ _ _ h => h) (wanted_free rfl _) (fun W hW => by go_simp) ?_
  try simp only [Act.put, List.getElem_toArray, List.getElem_cons_succ, List.getElem_cons_zero, List.setIfInBounds_toArray, List.set_cons_succ, List.set_cons_zero]
  refine wpAnyC_take 4 (.pointer (some ⟨R, 1, none⟩)) rfl (by kernel_rfl) (by kernel_rfl) (by kernel_rfl) (fun _ _ _ h => h) (wanted_free rfl _) (fun W hW => by go_simp) ?_
  try simp only [Act.put, List.getElem_toArray, List.getElem_cons_succ, List.getElem_cons_zero, List.setIfInBounds_toArray, List.set_cons_succ, List.set_cons_zero]
  refine wpAnyC_take 5 (.slice none 0 0) rfl (by kernel_rfl) (by kernel_rfl) (by kernel_rfl) (fun _ _ _ h => h) (wanted_free rfl _) (fun W hW => by have h1 := hW.cells 1 (by simp); simp at h1; go_simp) ?_
  try simp only [Act.put, List.getElem_toArray, List.getElem_cons_succ, List.getElem_cons_zero, List.setIfInBounds_toArray, List.set_cons_succ, List.set_cons_zero]
  refine wpAnyC_take 6 (.int .i64 0) rfl (by kernel_rfl) (by kernel_rfl) (by kernel_rfl) (fun _ _ _ h => h) (wanted_free rfl _) (fun W hW => by go_simp) ?_
  try simp only [Act.put, List.getElem_toArray, List.getElem_cons_succ, List.getElem_cons_zero, List.setIfInBounds_toArray, List.set_cons_succ, List.set_cons_zero]
  refine wpAnyC_take 7 (.bool true) rfl (by kernel_rfl) (by kernel_rfl) (by kernel_rfl) (fun _ _ _ h => h) (wanted_free rfl _) (fun W hW => by go_simp) ?_
  try simp only [Act.put, List.getElem_toArray, List.getElem_cons_succ, List.getElem_cons_zero, List.setIfInBounds_toArray, List.set_cons_succ, List.set_cons_zero]
  refine wpAnyC_take 8 (.agg #[.string ⟨#[]⟩, .string ⟨#[]⟩, .bool false, .bool false, .bool false, .int .i64 8192, .int .i64 65536, .int .i64 65536, .bool true, .bool true]) rfl (by kernel_rfl) (by kernel_rfl) (by kernel_rfl) (fun _ _ _ h => h) (wanted_free rfl _) (fun W hW => by go_simp) ?_
  try simp only [Act.put, List.getElem_toArray, List.getElem_cons_succ, List.getElem_cons_zero, List.setIfInBounds_toArray, List.set_cons_succ, List.set_cons_zero]
  refine wpAnyC_one 3 (hX4.out.drew) rfl (by kernel_rfl) (wanted_free rfl _) (fun KA hKA => ?_)
  go_simp
  refine (fB.out _).mono ?_
  rintro e wx ⟨rfl, rfl⟩
  refine hKA _ _ ?_
  clear hKA KA
  try simp only [Act.put, List.getElem_toArray, List.getElem_cons_succ, List.getElem_cons_zero, List.setIfInBounds_toArray, List.set_cons_succ, List.set_cons_zero]
  refine wpAnyC_take 9 (.agg (lgS b (.slice a' n c')).v) rfl (by kernel_rfl) (by kernel_rfl) (by kernel_rfl) (fun _ _ _ h => h) (wanted_free rfl _) (fun W hW => by unfold lgS lg0 Lg.v; go_simp) ?_
  try simp only [Act.put, List.getElem_toArray, List.getElem_cons_succ, List.getElem_cons_zero, List.setIfInBounds_toArray, List.set_cons_succ, List.set_cons_zero]
  refine wpAnyC_one 10 (hX4.out.drew) rfl (by kernel_rfl) (wanted_free rfl _) (fun KA hKA => ?_)
  go_simp
  refine hKA _ _ ?_
  clear hKA KA
  try simp only [Act.put, List.getElem_toArray, List.getElem_cons_succ, List.getElem_cons_zero, List.setIfInBounds_toArray, List.set_cons_succ, List.set_cons_zero]
  refine wpAnyC_one 11 (hX4.out.drew.alloc _) rfl (by kernel_rfl) (wanted_free rfl _) (fun KA hKA => ?_)
  go_simp
  refine hKA _ _ ?_
  clear hKA KA
  try simp only [Act.put, List.getElem_toArray, List.getElem_cons_succ, List.getElem_cons_zero, List.setIfInBounds_toArray, List.set_cons_succ, List.set_cons_zero]
  refine wpAnyC_done (hX4.out.drew.alloc _) (by kernel_rfl) ?_
  go_wp2
  go_ret
  have hbd : Below w.heap.size w W4.drew := hb4.out.trans ((below_drew W4).mono hb4.out.size)
  refine ⟨⟨W4.heap.size, a', c', rfl, hb4.out.size, bx_new W4.drew _ 57, ?_, fun x e h => ?_, fun x e => Nat.le_trans hb1.out.size (hnw.out x e)⟩, hbd.alloc hbd.size _⟩
  · exact (hst4.out.bel (below_drew W4)).bel ((Below.refl _ _).alloc (Nat.le_refl _) _)
  · have := hol4.out x e; omega

set_option maxRecDepth 100000 in
set_option maxHeartbeats 1000000 in
theorem rsame_any (a1 a2 : Option Addr) (n c1 c2 : Nat) (ps : List (ByteArray × ByteArray)) (w : World) (h1 : PsAt w (.slice a1 n c1) ps) (h2 : PsAt w (.slice a2 n c2) ps) (hn : n ≤ maxLen) :
    Calls Tryd.prog 11 #[.slice a1 n c1, .slice a2 n c2] w fun e w' => e = .returned (.bool true) ∧ Sm w w' := by
  have hl : ps.length = n := by obtain ⟨a', c', hv, _⟩ := h1; simp only [Value.slice.injEq] at hv; exact hv.2.1.symm
  have hc1 : Kpt (∀ k, k < n → ∀ p, ps[k]? = some p → ∃ b off, a1 = some ⟨b, off, none⟩ ∧ w.cell? ⟨b, off + k * 2, none⟩ = some (.string p.1) ∧ w.cell? ⟨b, off + k * 2 + 1, none⟩ = some (.string p.2)) := ⟨fun k hk p hp => ps_cells h1 k hk p hp⟩
  have hc2 : Kpt (∀ k, k < n → ∀ p, ps[k]? = some p → ∃ b off, a2 = some ⟨b, off, none⟩ ∧ w.cell? ⟨b, off + k * 2, none⟩ = some (.string p.1) ∧ w.cell? ⟨b, off + k * 2 + 1, none⟩ = some (.string p.2)) := ⟨fun k hk p hp => ps_cells h2 k hk p hp⟩
  have hl' := Kpt.mk hl
  unfold maxLen at hn
  clear h1 h2 hl
  go_enter Tryd.func11, Tryd.ntmps11
  go_wp2
  go_loopw [5] (fun t wr => ∃ k : Nat, k ≤ n ∧ t = .int .i64 k ∧ Kpt (Sm w wr)) (fun t _ => n - (intOf t).toNat)
  case atStart => exact ⟨0, by omega, rfl, ⟨Sm.refl _⟩⟩
  case round =>
    obtain ⟨k, hk, rfl, hsm⟩ := hrel
    by_cases hlt : k < n
    · have hltI : (k : Int) < n := by omega
      obtain ⟨p, hp⟩ : ∃ p, ps[k]? = some p := ⟨_, List.getElem?_eq_getElem (by rw [hl'.out]; exact hlt)⟩
      obtain ⟨b1, o1, rfl, k1, k2⟩ := hc1.out k hlt p hp
      obtain ⟨b2, o2, rfl, k3, k4⟩ := hc2.out k hlt p hp
      have hcell : ∀ ad v, w.cell? ad = some v → wr.cell? ad = some v := fun ad v h => by
        rw [← h]
        exact World.cell?_of_block (by rw [hsm.out.heap])
      replace k1 := hcell _ _ k1
      replace k2 := hcell _ _ k2
      replace k3 := hcell _ _ k3
      replace k4 := hcell _ _ k4
      clear hcell hp
      obtain ⟨K, V⟩ := p
      simp only at k1 k2 k3 k4
      go_wp2_with fail
      go_region
      go_wp2
      go_roundw
      case rel => exact ⟨k + 1, by omega, by go_num, ⟨hsm.out.trans ⟨rfl, ⟨rfl, rfl, rfl, Nat.le_refl _, fun _ _ => rfl⟩⟩⟩⟩
      case measure => simp [intOf]; omega
    · have hltI : ¬ (k : Int) < n := by omega
      go_wp2
      go_ret
      exact ⟨rfl, hsm.out⟩

set_option maxRecDepth 100000 in
theorem small_1 (w : World) : Calls Tryd.prog 63 #[.int .i64 1] w fun e w' => e = .returned (.string ⟨#[49]⟩) ∧ w' = w := by
  go_enter Tryd.func63, Tryd.ntmps63
  go_wp2
  go_ret
  exact ⟨by rfl, rfl⟩
set_option maxRecDepth 100000 in
theorem fint_1 (w : World) : Calls Tryd.prog 55 #[.int .i64 1, .int .i64 10] w fun e w' => e = .returned (.string ⟨#[49]⟩) ∧ w' = w := by
  go_enter Tryd.func55, Tryd.ntmps55
  go_wp2_with (go_at_call 63; go_must (refine (small_1 _).mono ?_; rintro e wx ⟨rfl, rfl⟩))
  go_ret
  exact ⟨rfl, rfl⟩
set_option maxRecDepth 100000 in
theorem iitoa_1 (w : World) : Calls Tryd.prog 47 #[.int .i64 1] w fun e w' => e = .returned (.string ⟨#[49]⟩) ∧ w' = w := by
  go_enter Tryd.func47, Tryd.ntmps47
  go_wp2_with (go_at_call 55; go_must (refine (fint_1 _).mono ?_; rintro e wx ⟨rfl, rfl⟩))
  go_ret
  exact ⟨rfl, rfl⟩
set_option maxRecDepth 100000 in
theorem itoa_1 (w : World) : Calls Tryd.prog 35 #[.int .i64 1] w fun e w' => e = .returned (.string ⟨#[49]⟩) ∧ w' = w := by
  go_enter Tryd.func35, Tryd.ntmps35
  go_wp2_with (go_at_call 47; go_must (refine (iitoa_1 _).mono ?_; rintro e wx ⟨rfl, rfl⟩))
  go_ret
  exact ⟨rfl, rfl⟩
/-- A later step in the second stage. -/
def sI (t : Lg) : Prop := t.begun = true ∧ t.stage = 1 ∧ t.over = false ∧ t.proved = true
set_option maxRecDepth 100000 in
set_option maxHeartbeats 4000000 in
theorem enter_l (h : Hd) (L : Nat) (s : Lg) (w : World) (hX : Bx w L s.v) (hI : sI s) :
    Calls Tryd.prog 19 #[.pointer (some ⟨L, 0, none⟩), .agg (rqn h)] w fun e w' => e = .returned (.tuple #[.int .u8 0, .bool true]) ∧ Bx w' L s.v ∧ w.grownBy w' (some L) := by
  obtain ⟨i1, i2, i3, i4⟩ := hI
  have hlt := Kpt.mk hX.lt
  replace hX := Kpt.mk hX
  go_enter Tryd.func19, Tryd.ntmps19
  go_wp2_with (first
    | (refine (?_ : wpList _ _ _ (Oper.mk _ (Op.box 39 _) _ _ _ _ :: _) _ _); go_must (refine wpList_box rfl 39 (.tmp 1) rfl (rqn h) rfl ?_; intro R w1 hR hBq hbe _; have hX1 := Kpt.mk (hX.out.below hbe hlt.out); have hbw := Kpt.mk hbe; have c5 := hX1.out.cells 5 (by simp [Lg.v]); simp [Lg.v, i1] at c5; have p1 : ∀ m, (w1.drewN m).cell? ⟨L, 6, none⟩ = some (.int .u8 1) := (fun m => by have := hX1.out.cells 6 (by simp [Lg.v]); simp [Lg.v, i2] at this; exact this); have p2 : ∀ m, (w1.drewN m).cell? ⟨L, 9, none⟩ = some (.bool true) := (fun m => by have := hX1.out.cells 9 (by simp [Lg.v]); simp [Lg.v, i4] at this; exact this); have p3 : ∀ m, (w1.drewN m).cell? ⟨R, 0, none⟩ = some (.int .u8 1) := (fun m => by have := hBq.cells 0 (by simp [rqn]); simp [rqn] at this; exact this); have p4 : ∀ m, (w1.drewN m).cell? ⟨R, 2, none⟩ = some (.bool false) := (fun m => by have := hBq.cells 2 (by simp [rqn]); simp [rqn] at this; exact this); clear hR hBq hbe)))
  go_quiet (fail)
  go_wp2
  go_ret2
  exact ⟨rfl, bx_drewN hX1.out _, grown_tr (grown_of_below hbw.out _) (grown_drewN _ _ _)⟩
end Go.Proofs.YtplifodddfjhdaaDoor
