/-
  login: a first step whose keys have no answer.
-/
import Derived.Test.YtplifodddfjhdaaGreatDoorXLgL
namespace Go.Proofs.YtplifodddfjhdaaGreatDoor
open Go.RowKit
set_option linter.unusedVariables false
set_option linter.unusedSimpArgs false

def stpA (h : Hd) : Array Value := if begO h = true then ansG (.slice none 0 0) else ansF (begD h)
def stpS (h : Hd) (s : Lg) : Lg := if begO h = true then { entS h s with stage := 3, done := true, over := true } else { entS h s with over := true }
/-- A login, a request in a box, an answer's block. -/
structure Sv (h : Hd) (w W : World) (L R A : Nat) (s : Lg) (va : Array Value) : Prop where
  en : En h w W L R s (rqv h)
  a : Bx W A va
  lt : L < w.heap.size
  r : w.heap.size ≤ R
  ra : R < A
theorem Sv.turn {h : Hd} {w W W' : World} {L R A : Nat} {s s' : Lg} {va : Array Value} (k : Sv h w W L R A s va) (hX : Bx W' L s'.v) (hg : W.grownBy W' (some L)) (ht : s'.tg = s.tg) : Sv h w W' L R A s' va := by
  have h1 := k.lt; have h2 := k.r; have h3 := k.ra
  exact ⟨k.en.turn hX hg ht, k.a.grown hg (fun e => by injection e with e; omega), h1, h2, h3⟩
theorem entS_tg (h : Hd) (s : Lg) : (entS h s).tg = s.tg := begS_tg h _
theorem entS_keep (h : Hd) (s : Lg) : (entS h s).proved = s.proved := (begS_keep h _).2.2.1

set_option maxRecDepth 100000 in
set_option maxHeartbeats 4000000 in
theorem step_any (h : Hd) (L : Nat) (s : Lg) (w : World) (hX : Bx w L s.v) (hh : h.ok w L) (htg : s.tg = .slice h.at' h.nt h.ct) (hbg : s.begun = false) (hpr : s.proved = true) (hov : s.over = false) (hig : ∀ p ∈ h.ps, ign p.1) :
    Calls Tryz.prog 11 #[.pointer (some ⟨L, 0, none⟩), .agg (rqv h)] w fun e w' => e = .returned (.tuple #[.agg (stpA h), .int .i64 0]) ∧ Bx w' L (stpS h s).v ∧ w.grownBy w' (some L) := by
  have h0 : Kpt (∀ (R A : Nat) (w1 w2 : World), w.heap.size ≤ R → Bx w1 R (rqv h) → Below w.heap.size w w1 → w1.heap.size ≤ A → Bx w2 A ansZ → Below w1.heap.size w1 w2 → Sv h w w2 L R A s ansZ) := ⟨fun R A w1 w2 a1 a2 a3 a4 a5 a6 => by
    have b2 := a3.trans (a6.mono a3.size)
    have := a2.lt
    exact ⟨⟨hX.below b2 hX.lt, a2.below a6 a2.lt, hh.grown (grown_of_below b2 _), grown_of_below b2 _, htg, fun e => by have := hX.lt; omega⟩, a5, hX.lt, a1, by omega⟩⟩
  have fE : Kpt (∀ (W : World) (R A : Nat), Sv h w W L R A s ansZ → Calls Tryz.prog 27 #[.pointer (some ⟨L, 0, none⟩), .agg (rqv h)] W fun e w' => e = .returned (.tuple #[.int .u8 (if begO h = true then 0 else begD h), .bool (begO h)]) ∧ Sv h w w' L R A (entS h s) ansZ) := ⟨fun W R A k => (enter_any h L s W k.en.lg k.en.hd k.en.tg hbg hpr).mono fun e w' ⟨he, hx, hg⟩ => ⟨he, k.turn hx hg (entS_tg h s)⟩⟩
  have fK : Kpt (∀ (W : World) (R A : Nat), Sv h w W L R A (entS h s) ansZ → Calls Tryz.prog 29 #[.pointer (some ⟨L, 0, none⟩), .slice h.a h.n h.c] W fun e w' => e = .returned (.tuple #[.slice none 0 0, .bool true]) ∧ Sv h w w' L R A (entS h s) ansZ) := ⟨fun W R A k => (akeys_ign L _ _ _ _ W k.en.hd.ps k.en.hd.n hig).mono fun e w' ⟨he, hb⟩ => ⟨he, k.turn (k.en.lg.below hb k.en.lg.lt) (grown_of_below hb _) rfl⟩⟩
  have fF : Kpt (∀ (W : World) (R A : Nat) (d : Int), Sv h w W L R A (entS h s) ansZ → Calls Tryz.prog 28 #[.pointer (some ⟨L, 0, none⟩), .int .u8 d] W fun e w' => e = .returned (.agg (ansF d)) ∧ Sv h w w' L R A { entS h s with over := true } ansZ) := ⟨fun W R A d k => (fail_any L _ d W k.en.lg).mono fun e w' ⟨he, hx, hg⟩ => ⟨he, k.turn hx hg rfl⟩⟩
  have fV : Kpt (∀ (W : World) (R A : Nat), Sv h w W L R A (entS h s) ansZ → Calls Tryz.prog 30 #[.pointer (some ⟨L, 0, none⟩), .agg (rqv h), .slice none 0 0] W fun e w' => e = .returned (.agg (ansG (.slice none 0 0))) ∧ Sv h w w' L R A { entS h s with stage := 3, done := true, over := true } ansZ) := ⟨fun W R A k => (leave_any h L _ W k.en.lg (by rw [entS_keep]; exact hpr)).mono fun e w' ⟨he, hx, hg⟩ => ⟨he, k.turn hx hg rfl⟩⟩
  have eA : Kpt (stpA h = if begO h = true then ansG (.slice none 0 0) else ansF (begD h)) := ⟨rfl⟩
  have eS : Kpt (stpS h s = if begO h = true then { entS h s with stage := 3, done := true, over := true } else { entS h s with over := true }) := ⟨rfl⟩
  obtain ⟨D, hD⟩ : ∃ D, D = begD h := ⟨_, rfl⟩
  obtain ⟨O, hO⟩ : ∃ O, O = begO h := ⟨_, rfl⟩
  rw [← hO, ← hD] at fE eA
  rw [← hO] at eS
  clear hX hh htg hbg hpr hD hO hig
  have fin : Kpt (∀ (W W' : World) (R A : Nat) (s' : Lg) (va : Array Value), Sv h w W L R A s' ansZ → Bx W' A va → W.grownBy W' (some A) → Bx W' L s'.v ∧ w.grownBy W' (some L)) := ⟨fun W W' R A s' va k hA hg => by
    have h1 := k.lt; have h2 := k.r; have h3 := k.ra
    exact ⟨k.en.lg.grown hg (fun e => by injection e with e; omega), grown_new k.en.gr hg (by omega)⟩⟩
  cases O
  · go_enter Tryz.func11, Tryz.ntmps11
    go_wp2_with (first
      | (refine (?_ : wpList _ _ _ (Oper.mk none (Op.store 46 _ _) _ _ _ _ :: _) _ _); go_must (refine wpList_store_bx rfl 46 (.tmp 4) (.tmp 28) rfl A ansZ (ansF D) rfl rfl k4.out.a rfl szAns (by simp [ansF, Value.oneCell']) rfl ?_; intro w9 hA9 hg9; obtain ⟨q1, q2⟩ := fin.out _ _ _ _ _ _ k4.out hA9 hg9; replace q1 := Kpt.mk q1; replace q2 := Kpt.mk q2; replace hA9 := Kpt.mk hA9; clear hg9))
      | (go_at_call 28; go_must (refine (fF.out _ _ _ _ k3.out).mono ?_; rintro e w4 ⟨rfl, k4⟩; replace k4 := Kpt.mk k4))
      | (go_at_call 27; go_must (refine (fE.out _ _ _ k2.out).mono ?_; rintro e w3 ⟨rfl, k3⟩; replace k3 := Kpt.mk k3))
      | (refine (?_ : wpList _ _ _ (Oper.mk _ (Op.load 39 _) _ _ _ _ :: _) _ _); go_must (refine wpList_load_bx rfl 39 (.tmp 3) rfl R (rqv h) rfl k2.out.en.rq _ Tryz.underlying39 rfl szReq ?_))
      | (refine wpList_var rfl 46 rfl ansZ zAns ?_; intro A w2 hA hAx hb2; have k2 := Kpt.mk (h0.out R A w1 w2 hR.out hBq.out hbe.out hA hAx hb2); have c11 := k2.out.en.lg.cells 11 (by simp [Lg.v]); simp [Lg.v, hov] at c11; clear hA hAx hb2)
      | (refine (?_ : wpList _ _ _ (Oper.mk _ (Op.box 39 _) _ _ _ _ :: _) _ _); go_must (refine wpList_box rfl 39 (.tmp 1) rfl (rqv h) rfl ?_; intro R w1 hR hBq hbe _; replace hR := Kpt.mk hR; replace hBq := Kpt.mk hBq; replace hbe := Kpt.mk hbe)))
    refine bodyPost_ret (v := .tuple #[.agg (ansF D), .int .i64 0]) (by simp [results, Tryz.results11, asAddr, Act.put, run_res hA9.out 46 _ Tryz.underlying46 rfl szAns]) rfl ⟨by rw [eA.out]; rfl, by rw [eS.out]; exact q1.out, q2.out⟩
  · go_enter Tryz.func11, Tryz.ntmps11
    go_wp2_with (first
      | (refine (?_ : wpList _ _ _ (Oper.mk none (Op.store 46 _ _) _ _ _ _ :: _) _ _); go_must (refine wpList_store_bx rfl 46 (.tmp 4) (.tmp 43) rfl A ansZ (ansG (.slice none 0 0)) rfl rfl k5.out.a rfl szAns (by simp [ansG, Value.oneCell']) rfl ?_; intro w9 hA9 hg9; obtain ⟨q1, q2⟩ := fin.out _ _ _ _ _ _ k5.out hA9 hg9; replace q1 := Kpt.mk q1; replace q2 := Kpt.mk q2; replace hA9 := Kpt.mk hA9; clear hg9))
      | (go_at_call 30; go_must (refine (fV.out _ _ _ k4.out).mono ?_; rintro e w5 ⟨rfl, k5⟩; replace k5 := Kpt.mk k5))
      | (refine (?_ : wpList _ _ _ (Oper.mk (some 41) (Op.load 39 _) _ _ _ _ :: _) _ _); go_must (refine wpList_load_bx rfl 39 (.tmp 3) rfl R (rqv h) rfl k4.out.en.rq _ Tryz.underlying39 rfl szReq ?_))
      | (go_at_call 29; go_must (refine (fK.out _ _ _ k3.out).mono ?_; rintro e w4 ⟨rfl, k4⟩; replace k4 := Kpt.mk k4))
      | (go_at_call 27; go_must (refine (fE.out _ _ _ k2.out).mono ?_; rintro e w3 ⟨rfl, k3⟩; have r3 := k3.en.rq.cells 3 (by simp [rqv]); simp [rqv] at r3; replace k3 := Kpt.mk k3))
      | (refine (?_ : wpList _ _ _ (Oper.mk _ (Op.load 39 _) _ _ _ _ :: _) _ _); go_must (refine wpList_load_bx rfl 39 (.tmp 3) rfl R (rqv h) rfl k2.out.en.rq _ Tryz.underlying39 rfl szReq ?_))
      | (refine wpList_var rfl 46 rfl ansZ zAns ?_; intro A w2 hA hAx hb2; have k2 := Kpt.mk (h0.out R A w1 w2 hR.out hBq.out hbe.out hA hAx hb2); have c11 := k2.out.en.lg.cells 11 (by simp [Lg.v]); simp [Lg.v, hov] at c11; clear hA hAx hb2)
      | (refine (?_ : wpList _ _ _ (Oper.mk _ (Op.box 39 _) _ _ _ _ :: _) _ _); go_must (refine wpList_box rfl 39 (.tmp 1) rfl (rqv h) rfl ?_; intro R w1 hR hBq hbe _; replace hR := Kpt.mk hR; replace hBq := Kpt.mk hBq; replace hbe := Kpt.mk hbe)))
    refine bodyPost_ret (v := .tuple #[.agg (ansG (.slice none 0 0)), .int .i64 0]) (by simp [results, Tryz.results11, asAddr, Act.put, run_res hA9.out 46 _ Tryz.underlying46 rfl szAns]) rfl ⟨by rw [eA.out]; rfl, by rw [eS.out]; exact q1.out, q2.out⟩
end Go.Proofs.YtplifodddfjhdaaGreatDoor
