/-
  login: begin.
-/
import Derived.Test.YtplifodddfjhdaaGreatDoorXLg
namespace Go.Proofs.YtplifodddfjhdaaGreatDoor
open Go.RowKit
set_option linter.unusedVariables false
set_option linter.unusedSimpArgs false

/-- What is handed in: keys, and the targets that a login has. -/
structure Hd where
  (a : Option Addr) (n c : Nat) (ps : List (ByteArray × ByteArray)) (at' : Option Addr) (nt ct : Nat) (os : List ByteArray)
structure Hd.ok (h : Hd) (w : World) (L : Nat) : Prop where
  ps : PsAt w (.slice h.a h.n h.c) h.ps
  n : h.n ≤ maxLen
  off : Off h.a L
  os : StAt w (.slice h.at' h.nt h.ct) h.os
  nt : h.nt ≤ maxLen
  offt : Off h.at' L
theorem Hd.ok.grown {h : Hd} {w w' : World} {L : Nat} (k : h.ok w L) (hg : w.grownBy w' (some L)) : h.ok w' L := ⟨k.ps.grown k.off hg, k.n, k.off, k.os.grown k.offt hg, k.nt, k.offt⟩
/-- A login, a request in a box, what is handed in. -/
structure En (h : Hd) (w W : World) (L R : Nat) (s : Lg) (rq : Array Value) : Prop where
  lg : Bx W L s.v
  rq : Bx W R rq
  hd : h.ok W L
  gr : w.grownBy W (some L)
  tg : s.tg = .slice h.at' h.nt h.ct
  ne : R ≠ L
theorem En.below {h : Hd} {w W W' : World} {L R : Nat} {s : Lg} {rq : Array Value} (k : En h w W L R s rq) (hb : Below W.heap.size W W') : En h w W' L R s rq :=
  ⟨k.lg.below hb k.lg.lt, k.rq.below hb k.rq.lt, k.hd.grown (grown_of_below hb _), grown_tr k.gr (grown_of_below hb _), k.tg, k.ne⟩
theorem En.turn {h : Hd} {w W W' : World} {L R : Nat} {s s' : Lg} {rq : Array Value} (k : En h w W L R s rq) (hX : Bx W' L s'.v) (hg : W.grownBy W' (some L)) (ht : s'.tg = s.tg) : En h w W' L R s' rq :=
  ⟨hX, k.rq.grown hg (fun e => k.ne (by injection e with e; exact e.symm)), k.hd.grown hg, grown_tr k.gr hg, ht.trans k.tg, k.ne⟩
theorem En.set {h : Hd} {w W : World} {L R : Nat} {s s' : Lg} {rq : Array Value} (k : En h w W L R s rq) (j : Nat) (v : Value) (hj : j < 22) (he : s.v.setIfInBounds j v = s'.v) (ht : s'.tg = s.tg) : En h w (W.setCell ⟨L, j, none⟩ v) L R s' rq :=
  k.turn (by rw [← he]; exact bx_setC v k.lg (by simp [Lg.v]; omega)) (grown_setCellK W ⟨L, j, none⟩ v) ht
theorem En.cell {h : Hd} {w W : World} {L R : Nat} {s : Lg} {rq : Array Value} (k : En h w W L R s rq) (j : Nat) (hj : j < 22) : W.cell? ⟨L, j, none⟩ = s.v[j]? ∧ W.frozen? ⟨L, j, none⟩ = false := ⟨k.lg.cells j (by simp [Lg.v]; omega), k.lg.free j⟩
theorem lit_iff (S T : ByteArray) (l : List UInt8) (h : T.toList = l) : (S = T) ↔ (S.toList == l) = true := by
  constructor
  · rintro rfl; rw [h]; exact beq_self_eq_true _
  · intro e
    have e := eq_of_beq e
    rw [← h, ByteArray.toList_eq, ByteArray.toList_eq] at e
    obtain ⟨d1⟩ := S
    obtain ⟨d2⟩ := T
    congr
    exact Array.toList_inj.1 e
def rqv (h : Hd) : Array Value := #[.int .u8 1, .int .u8 3, .bool true, .slice h.a h.n h.c]

abbrev kBad (f : Bool) (ses : ByteArray) : Prop := f = true ∧ ¬ ses = vNor ∧ ¬ ses = vDis
def Hd.ini (h : Hd) : ByteArray := findV (findP h.ps kIni)
def Hd.ses (h : Hd) : ByteArray := findV (findP h.ps kSes)
def Hd.fnd (h : Hd) : Bool := (findP h.ps kSes).isSome
def Hd.tgt (h : Hd) : ByteArray := findV (findP h.ps kTgt)
def begD (h : Hd) : Int := if h.ini = ⟨#[]⟩ then 7 else if kBad h.fnd h.ses then 9 else if h.ses = vDis then 0 else choD h.os h.tgt
def begO (h : Hd) : Bool := if h.ini = ⟨#[]⟩ then false else if kBad h.fnd h.ses then false else if h.ses = vDis then true else choO h.os h.tgt
def begS (h : Hd) (s : Lg) : Lg := if h.ini = ⟨#[]⟩ ∨ kBad h.fnd h.ses ∨ h.ses = vDis then { s with ini := h.ini, dis := decide (h.ses = vDis) } else { s with ini := h.ini, dis := decide (h.ses = vDis), tgt := h.tgt }
theorem begS_tg (h : Hd) (s : Lg) : (begS h s).tg = s.tg := by unfold begS; split <;> rfl

set_option maxRecDepth 100000 in
set_option maxHeartbeats 4000000 in
theorem begin_any (h : Hd) (L : Nat) (s : Lg) (w : World) (hX : Bx w L s.v) (hh : h.ok w L) (htg : s.tg = .slice h.at' h.nt h.ct) :
    Calls Tryz.prog 37 #[.pointer (some ⟨L, 0, none⟩), .agg (rqv h)] w fun e w' => e = .returned (.tuple #[.int .u8 (begD h), .bool (begO h)]) ∧ Bx w' L (begS h s).v ∧ w.grownBy w' (some L) := by
  have fI : Kpt (∀ (W : World) (R : Nat) (s' : Lg), En h w W L R s' (rqv h) → Calls Tryz.prog 39 #[.slice h.a h.n h.c, .string kIni] W fun e w' => e = .returned (.tuple #[.string h.ini, .bool (findP h.ps kIni).isSome]) ∧ Below W.heap.size W w') := ⟨fun W R s' k => find_any _ _ _ _ _ W k.hd.ps k.hd.n⟩
  have fS : Kpt (∀ (W : World) (R : Nat) (s' : Lg), En h w W L R s' (rqv h) → Calls Tryz.prog 39 #[.slice h.a h.n h.c, .string kSes] W fun e w' => e = .returned (.tuple #[.string h.ses, .bool h.fnd]) ∧ Below W.heap.size W w') := ⟨fun W R s' k => find_any _ _ _ _ _ W k.hd.ps k.hd.n⟩
  have fC : Kpt (∀ (W : World) (R : Nat) (s' : Lg), En h w W L R s' (rqv h) → Calls Tryz.prog 44 #[.pointer (some ⟨L, 0, none⟩), .slice h.a h.n h.c] W fun e w' => e = .returned (.tuple #[.int .u8 (choD h.os h.tgt), .bool (choO h.os h.tgt)]) ∧ Bx w' L { s' with tgt := h.tgt }.v ∧ W.grownBy w' (some L)) := ⟨fun W R s' k => choose_any L s' _ _ _ _ _ _ _ _ W k.lg k.hd.ps k.hd.n k.hd.off k.tg k.hd.os k.hd.nt k.hd.offt _ rfl⟩
  have h0 : Kpt (∀ (R : Nat) (W : World), w.heap.size ≤ R → Bx W R (rqv h) → Below w.heap.size w W → En h w W L R s (rqv h)) := ⟨fun R W hR hB hb => ⟨hX.below hb hX.lt, hB, hh.grown (grown_of_below hb _), grown_of_below hb _, htg, fun e => by have := hX.lt; omega⟩⟩
  have eD : Kpt (begD h = if h.ini = ⟨#[]⟩ then 7 else if kBad h.fnd h.ses then 9 else if h.ses = vDis then 0 else choD h.os h.tgt) := ⟨rfl⟩
  have eO : Kpt (begO h = if h.ini = ⟨#[]⟩ then false else if kBad h.fnd h.ses then false else if h.ses = vDis then true else choO h.os h.tgt) := ⟨rfl⟩
  have eS : Kpt (begS h s = if h.ini = ⟨#[]⟩ ∨ kBad h.fnd h.ses ∨ h.ses = vDis then { s with ini := h.ini, dis := decide (h.ses = vDis) } else { s with ini := h.ini, dis := decide (h.ses = vDis), tgt := h.tgt }) := ⟨rfl⟩
  obtain ⟨I, hI⟩ : ∃ I, I = h.ini := ⟨_, rfl⟩
  obtain ⟨S, hS⟩ : ∃ S, S = h.ses := ⟨_, rfl⟩
  obtain ⟨F, hF⟩ : ∃ F, F = h.fnd := ⟨_, rfl⟩
  obtain ⟨T, hT⟩ : ∃ T, T = h.tgt := ⟨_, rfl⟩
  rw [← hI] at fI eD eO eS
  rw [← hS] at fS eD eO eS
  rw [← hF] at fS eD eO eS
  rw [← hT] at fC eD eO eS
  obtain ⟨D, hD⟩ : ∃ D, D = choD h.os T := ⟨_, rfl⟩
  obtain ⟨O, hO⟩ : ∃ O, O = choO h.os T := ⟨_, rfl⟩
  rw [← hD] at fC eD
  rw [← hO] at fC eO
  clear hI hS hF hT hD hO hX hh htg
  obtain ⟨b1, hb1⟩ : ∃ b, b = (S.toList == [68, 105, 115, 99, 111, 118, 101, 114, 121]) := ⟨_, rfl⟩
  obtain ⟨b2, hb2⟩ : ∃ b, b = (S.toList == [78, 111, 114, 109, 97, 108]) := ⟨_, rfl⟩
  obtain ⟨b3, hb3⟩ : ∃ b, b = (I.toList == []) := ⟨_, rfl⟩
  have d1 : (S = vDis) ↔ b1 = true := by rw [hb1]; exact lit_iff S _ _ (by rw [vDis, ByteArray.toList_eq])
  have d2 : (S = vNor) ↔ b2 = true := by rw [hb2]; exact lit_iff S _ _ (by rw [vNor, ByteArray.toList_eq])
  have d3 : (I = ⟨#[]⟩) ↔ b3 = true := by rw [hb3]; exact lit_iff I _ _ (by rw [ByteArray.toList_eq])
  have q1 : decide (S = vDis) = b1 := by cases b1 <;> simp [d1]
  have eD2 : Kpt (begD h = bif b3 then 7 else bif F && !b2 && !b1 then 9 else bif b1 then 0 else D) := ⟨by rw [eD.out]; unfold kBad; simp only [d1, d2, d3]; cases b1 <;> cases b2 <;> cases b3 <;> cases F <;> rfl⟩
  have eO2 : Kpt (begO h = bif b3 then false else bif F && !b2 && !b1 then false else bif b1 then true else O) := ⟨by rw [eO.out]; unfold kBad; simp only [d1, d2, d3]; cases b1 <;> cases b2 <;> cases b3 <;> cases F <;> rfl⟩
  have eS2 : Kpt (begS h s = bif b3 || (F && !b2 && !b1) || b1 then { s with ini := I, dis := b1 } else { s with ini := I, dis := b1, tgt := T }) := ⟨by rw [eS.out, q1]; unfold kBad; simp only [d1, d2, d3]; cases b1 <;> cases b2 <;> cases b3 <;> cases F <;> rfl⟩
  replace hb1 := hb1.symm
  replace hb2 := hb2.symm
  replace hb3 := hb3.symm
  clear eD eO eS d1 d2 d3 q1
  cases b1
  · cases b2 <;> cases b3 <;> cases F
    all_goals
      go_enter Tryz.func37, Tryz.ntmps37
      go_wp2_with (first
        | (go_at_call 44; have k := k5; go_must (refine (fC.out _ _ _ k5.out).mono ?_; rintro e w6 ⟨rfl, hX6, hg6⟩; have k6 := Kpt.mk (k5.out.turn hX6 hg6 rfl); clear hX6 hg6))
        | (go_at_call 39; have k := k3; go_must (refine (fS.out _ _ _ k3.out).mono ?_; rintro e w4 ⟨rfl, hb4⟩; have k4 := Kpt.mk (k3.out.below hb4); clear hb4 k; obtain ⟨p1, p2⟩ := k4.out.cell 14 (by omega); simp [Lg.v] at p1; have k5 := Kpt.mk (k4.out.set (s' := { s with ini := I, dis := false }) 14 (.bool false) (by omega) (by simp [Lg.v]) rfl); have p3 := (k5.out.cell 12 (by omega)).1; have p4 := (k5.out.cell 14 (by omega)).1; simp [Lg.v] at p3 p4; have p5 := k5.out.rq.cells 3 (by simp [rqv]); simp [rqv] at p5))
        | (go_at_call 39; go_must (refine (fI.out _ _ _ k1.out).mono ?_; rintro e w2 ⟨rfl, hb2'⟩; have k2 := Kpt.mk (k1.out.below hb2'); clear hb2'; obtain ⟨m1, m2⟩ := k2.out.cell 12 (by omega); simp [Lg.v] at m1; have k3 := Kpt.mk (k2.out.set (s' := { s with ini := I }) 12 (.string I) (by omega) (by simp [Lg.v]) rfl); have m3 := k3.out.rq.cells 3 (by simp [rqv]); simp [rqv] at m3))
        | (refine (?_ : wpList _ _ _ (Oper.mk _ (Op.box 39 _) _ _ _ _ :: _) _ _); go_must (refine wpList_box rfl 39 (.tmp 1) rfl (rqv h) rfl ?_; intro R w1 hR hBq hbe _; have k1 := Kpt.mk (h0.out R w1 hR hBq hbe); have r0 := hBq.cells 0 (by simp [rqv]); have r3 := hBq.cells 3 (by simp [rqv]); simp [rqv] at r0 r3; clear hR hBq hbe)))
      go_ret2
      first
        | exact ⟨by rw [eD2.out, eO2.out]; rfl, by rw [eS2.out]; exact k6.out.lg, k6.out.gr⟩
        | exact ⟨by rw [eD2.out, eO2.out]; rfl, by rw [eS2.out]; exact k5.out.lg, k5.out.gr⟩
  · cases b2 <;> cases b3 <;> cases F
    all_goals
      go_enter Tryz.func37, Tryz.ntmps37
      go_wp2_with (first
        | (go_at_call 44; have k := k5; go_must (refine (fC.out _ _ _ k5.out).mono ?_; rintro e w6 ⟨rfl, hX6, hg6⟩; have k6 := Kpt.mk (k5.out.turn hX6 hg6 rfl); clear hX6 hg6))
        | (go_at_call 39; have k := k3; go_must (refine (fS.out _ _ _ k3.out).mono ?_; rintro e w4 ⟨rfl, hb4⟩; have k4 := Kpt.mk (k3.out.below hb4); clear hb4 k; obtain ⟨p1, p2⟩ := k4.out.cell 14 (by omega); simp [Lg.v] at p1; have k5 := Kpt.mk (k4.out.set (s' := { s with ini := I, dis := true }) 14 (.bool true) (by omega) (by simp [Lg.v]) rfl); have p3 := (k5.out.cell 12 (by omega)).1; have p4 := (k5.out.cell 14 (by omega)).1; simp [Lg.v] at p3 p4; have p5 := k5.out.rq.cells 3 (by simp [rqv]); simp [rqv] at p5))
        | (go_at_call 39; go_must (refine (fI.out _ _ _ k1.out).mono ?_; rintro e w2 ⟨rfl, hb2'⟩; have k2 := Kpt.mk (k1.out.below hb2'); clear hb2'; obtain ⟨m1, m2⟩ := k2.out.cell 12 (by omega); simp [Lg.v] at m1; have k3 := Kpt.mk (k2.out.set (s' := { s with ini := I }) 12 (.string I) (by omega) (by simp [Lg.v]) rfl); have m3 := k3.out.rq.cells 3 (by simp [rqv]); simp [rqv] at m3))
        | (refine (?_ : wpList _ _ _ (Oper.mk _ (Op.box 39 _) _ _ _ _ :: _) _ _); go_must (refine wpList_box rfl 39 (.tmp 1) rfl (rqv h) rfl ?_; intro R w1 hR hBq hbe _; have k1 := Kpt.mk (h0.out R w1 hR hBq hbe); have r0 := hBq.cells 0 (by simp [rqv]); have r3 := hBq.cells 3 (by simp [rqv]); simp [rqv] at r0 r3; clear hR hBq hbe)))
      go_ret2
      first
        | exact ⟨by rw [eD2.out, eO2.out]; rfl, by rw [eS2.out]; exact k6.out.lg, k6.out.gr⟩
        | exact ⟨by rw [eD2.out, eO2.out]; rfl, by rw [eS2.out]; exact k5.out.lg, k5.out.gr⟩
end Go.Proofs.YtplifodddfjhdaaGreatDoor
