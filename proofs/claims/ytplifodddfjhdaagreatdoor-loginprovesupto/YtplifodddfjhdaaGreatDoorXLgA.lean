/-
  login: awake.
-/
import Derived.Test.YtplifodddfjhdaaGreatDoorXLgH
namespace Go.Proofs.YtplifodddfjhdaaGreatDoor
open Go.RowKit
set_option linter.unusedVariables false
set_option linter.unusedSimpArgs false

theorem aw_ig : ∀ p ∈ [(kIni, vI), (kTgt, vT)], ign p.1 := fun p hp => by
  simp only [List.mem_cons, List.not_mem_nil, or_false] at hp
  rcases hp with rfl | rfl
  · exact .inl rfl
  · exact .inr (.inr rfl)
theorem aw_f1 : findP [(kIni, vI), (kTgt, vT)] kIni = some vI := by decide +kernel
theorem aw_f2 : findP [(kIni, vI), (kTgt, vT)] kSes = none := by decide +kernel
theorem aw_f3 : findP [(kIni, vI), (kTgt, vT)] kTgt = some vT := by decide +kernel
theorem aw_beg (h : Hd) (hp : h.ps = [(kIni, vI), (kTgt, vT)]) (ho : h.os = [vT]) : begO h = true := by
  have e1 : h.ini = vI := by unfold Hd.ini; rw [hp, aw_f1]; rfl
  have e2 : h.ses = ⟨#[]⟩ := by unfold Hd.ses; rw [hp, aw_f2]; rfl
  have e3 : h.fnd = false := by unfold Hd.fnd; rw [hp, aw_f2]; rfl
  have e4 : h.tgt = vT := by unfold Hd.tgt; rw [hp, aw_f3]; rfl
  unfold begO
  rw [e1, e2, e3, e4, ho, if_neg (by decide +kernel), if_neg (fun k => by cases k.1), if_neg (by decide +kernel)]
  unfold choO
  rw [(Lib.containsS_iff [vT] vT).2 (by simp)]
  decide +kernel

set_option maxRecDepth 100000 in
set_option maxHeartbeats 4000000 in
theorem awake_any (w : World) : Calls Tryz.prog 6 #[] w fun e w' => e = .returned (.bool true) ∧ Below w.heap.size w w' := by
  have hst : StAt (w.alloc (.cells #[.string ⟨#[116]⟩] 9)) (.slice (some ⟨w.heap.size, 0, none⟩) 1 1) [vT] := ⟨some ⟨w.heap.size, 0, none⟩, 1, rfl, Nat.le_refl _, .inr ⟨w.heap.size, 0, rfl, by simp, fun j hj => by
    obtain rfl : j = 0 := by simpa using hj
    simp [vT]⟩⟩
  have fN := Kpt.mk (new_any (some ⟨w.heap.size, 0, none⟩) 1 1 [vT] (w.alloc (.cells #[.string ⟨#[116]⟩] 9)) hst (by omega))
  have fH : Kpt (∀ W : World, Calls Tryz.prog 20 #[.slice none 0 0] W fun e w' => e = .returned (.slice (some ⟨W.heap.size, 0, none⟩) 2 2) ∧ w'.ownsRow W.heap.size 41 2 (.slice (some ⟨W.heap.size, 0, none⟩) 2 2) 2 (cellsB [(kIni, vI), (kTgt, vT)]) ∧ Below W.heap.size W w') := ⟨hello_nil⟩
  have hb0 := Kpt.mk ((Below.refl w.heap.size w).alloc (Nat.le_refl _) (.cells #[.string ⟨#[116]⟩] 9))
  have fS : Kpt (∀ (W1 W2 : World) (L : Nat) (a' : Option Addr) (c' : Nat), Below w.heap.size w W1 → w.heap.size ≤ L → Bx W1 L (lg0 (.slice a' 1 c')).v → StAt W1 (.slice a' 1 c') [vT] → Off a' L → Below W1.heap.size W1 W2 → W2.ownsRow W1.heap.size 41 2 (.slice (some ⟨W1.heap.size, 0, none⟩) 2 2) 2 (cellsB [(kIni, vI), (kTgt, vT)]) →
      Calls Tryz.prog 11 #[.pointer (some ⟨L, 0, none⟩), .agg #[.int .u8 1, .int .u8 3, .bool true, .slice (some ⟨W1.heap.size, 0, none⟩) 2 2]] W2 fun e w' => e = .returned (.tuple #[.agg (ansG (.slice none 0 0)), .int .i64 0]) ∧ (∃ s : Lg, Bx w' L s.v ∧ s.done = true) ∧ Below w.heap.size w w') := ⟨fun W1 W2 L a' c' h1 h2 h3 h4 h5 h6 h7 => by
    obtain ⟨k1, -⟩ := psB_of h7
    have hlt := h3.lt
    have h := step_any ⟨some ⟨W1.heap.size, 0, none⟩, 2, 2, [(kIni, vI), (kTgt, vT)], a', 1, c', [vT]⟩ L (lg0 (.slice a' 1 c')) W2 (h3.below h6 h3.lt) ⟨k1, (show 2 ≤ maxLen by unfold maxLen; omega), fun x e => by cases e; simp; omega, h4.bel h6, (show 1 ≤ maxLen by unfold maxLen; omega), h5⟩ rfl rfl rfl rfl aw_ig
    have hO := aw_beg ⟨some ⟨W1.heap.size, 0, none⟩, 2, 2, [(kIni, vI), (kTgt, vT)], a', 1, c', [vT]⟩ rfl rfl
    refine h.mono ?_
    rintro e w' ⟨rfl, hx, hg⟩
    have hb2 := h1.trans (h6.mono h1.size)
    refine ⟨?_, ⟨_, hx, ?_⟩, hb2.grown hg hb2.size (fun q e => by cases e; exact h2)⟩
    · unfold stpA; rw [if_pos hO]
    · unfold stpS; rw [if_pos hO]⟩
  have fD : Kpt (∀ (W : World) (L : Nat) (s : Lg), Bx W L s.v → Calls Tryz.prog 14 #[.pointer (some ⟨L, 0, none⟩)] W fun e w' => e = .returned (.bool s.done) ∧ w' = W) := ⟨fun W L s h => done_any L s W h⟩
  clear hst
  go_enter Tryz.func6, Tryz.ntmps6
  go_wp2_with (first
    | (go_at_call 14; go_must (have hd := fD.out _ _ _ k9.out; rw [hsd] at hd; refine hd.mono ?_; rintro e wx ⟨rfl, rfl⟩))
    | (refine (?_ : wpList _ _ _ (Oper.mk none (Op.store 46 _ _) _ _ _ _ :: _) _ _); go_must (refine wpList_store_bx rfl 46 (.tmp 2) (.tmp 12) rfl A ansZ (ansG (.slice none 0 0)) rfl rfl hAx.out rfl szAns (by simp [ansG, Value.oneCell']) rfl ?_; intro w9 hA9 hg9; have k9 : Kpt (Bx w9 L s4.v) := ⟨k8.out.grown hg9 (fun e => by injection e with e; have := hA.out; have := hs4.out.lt; omega)⟩; have hb9 : Kpt (Below w.heap.size w w9) := ⟨hb8.out.grown hg9 hb8.out.size (fun q e => by injection e with e; subst e; have := hA.out; have := hb4.out.size; omega)⟩; have q0 := hA9.cells 0 (by simp [ansG]); have q3 := hA9.cells 3 (by simp [ansG]); have q4 := hA9.cells 4 (by simp [ansG]); simp [ansG] at q0 q3 q4; clear hg9 hA9))
    | (refine wpList_var rfl 46 rfl ansZ zAns ?_; intro A w8 hA hAx hb; have k8 : Kpt (Bx w8 L s4.v) := ⟨hs4.out.below hb hs4.out.lt⟩; have hb8 : Kpt (Below w.heap.size w w8) := ⟨hb4.out.trans (hb.mono hb4.out.size)⟩; replace hA := Kpt.mk hA; replace hAx := Kpt.mk hAx; clear hb)
    | (go_at_call 11; go_must (refine (fS.out w2 w3 L a' c' hb2.out hL.out hX.out hst2.out hof.out hb3.out how.out).mono ?_; rintro e w4 ⟨rfl, ⟨s4, hs4, hsd⟩, hb4⟩; replace hs4 := Kpt.mk hs4; replace hb4 := Kpt.mk hb4))
    | (go_at_call 20; go_must (refine (fH.out _).mono ?_; rintro e w3 ⟨rfl, how, hb3⟩; replace how := Kpt.mk how; replace hb3 := Kpt.mk hb3))
    | (go_at_call 7; go_must (refine fN.out.mono ?_; rintro e w2 ⟨⟨L, a', c', rfl, hL0, hX, hst2, hof⟩, hq⟩; have hb2 : Kpt (Below w.heap.size w w2) := ⟨hb0.out.trans (hq.mono (by simp))⟩; have hL : Kpt (w.heap.size ≤ L) := ⟨by simp at hL0; omega⟩; replace hX := Kpt.mk hX; replace hst2 := Kpt.mk hst2; replace hof := Kpt.mk hof; clear hL0 hq)))
  go_ret
  exact ⟨rfl, hb9.out⟩
end Go.Proofs.YtplifodddfjhdaaGreatDoor
