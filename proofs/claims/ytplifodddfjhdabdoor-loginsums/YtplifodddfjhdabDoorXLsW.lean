/-
  login: LoginSums' walk.
-/
import Derived.Test.YtplifodddfjhdabDoorXLsN
namespace Go.Proofs.YtplifodddfjhdabDoor
open Go.RowKit
set_option linter.unusedVariables false
set_option linter.unusedSimpArgs false

theorem rfirst_S (b : Bool) (S : ByteArray) (hl : S.size ≤ 281474976710656) (a : Option Addr) (n c : Nat) (w : World) (hst : StAt w (.slice a n c) (ownS b)) (hn : n ≤ 2) :
    Calls Tryd.prog 8 #[.string S, .slice a n c] w fun e w' => e = .returned (.string (fstV b S)) ∧ Below w.heap.size w w' :=
  (rfirst_any S hl a n c (ownS b) w hst (by unfold maxLen; omega)).mono fun e w' h => ⟨h.1, h.2.bel⟩
theorem ps_two {w : World} {va : Option Addr} {vc : Nat} {K1 V1 K2 V2 : ByteArray} (h : PsAt w (.slice va 2 vc) [(K1, V1), (K2, V2)]) : 2 ≤ vc ∧ ∃ b off, va = some ⟨b, off, none⟩ ∧ b < w.heap.size ∧ w.cell? ⟨b, off + 1, none⟩ = some (.string V1) ∧ w.cell? ⟨b, off + 3, none⟩ = some (.string V2) := by
  obtain ⟨a', c', hv, h1, h2, h3⟩ := h
  simp only [Value.slice.injEq] at hv
  obtain ⟨rfl, -, rfl⟩ := hv
  refine ⟨by simpa using h2, ?_⟩
  rcases h3 with h3 | ⟨b, off, rfl, hlt, hc⟩
  · simp at h3
  · exact ⟨b, off, rfl, hlt, by simpa [pcs] using hc 0 _ rfl 1 _ rfl, by simpa [pcs, Nat.add_assoc] using hc 1 _ rfl 1 _ rfl⟩
theorem own2 (w : World) : Bx ((w.alloc (.cells #[.string nonB] 9)).alloc (.cells #[.string crcB, .string nonB] 9)) (w.heap.size + 1) #[.string crcB, .string nonB] := by
  have h := bx_new (w.alloc (.cells #[.string nonB] 9)) #[.string crcB, .string nonB] 9
  rw [show (w.alloc (.cells #[.string nonB] 9)).heap.size = w.heap.size + 1 from by simp] at h
  exact h
theorem p_one (s : Lg) : s.p.size = 10 ∧ s.p.all (·.oneCell') = true := ⟨rfl, by simp [Lg.p, Value.oneCell']⟩

set_option maxRecDepth 100000 in
set_option maxHeartbeats 8000000 in
theorem sums_any (o1 o2 : ByteArray) (b : Bool) (w : World) (h1 : o1.size ≤ 281474976710656) (h2 : o2.size ≤ 281474976710656) :
    Calls Tryd.prog 3 #[.string o1, .string o2, .bool b] w fun e w' => e = .returned (.bool true) ∧ Below w.heap.size w w' := by
  have fA : Kpt (∀ W : World, Calls Tryd.prog 4 #[] W fun e w' => e = .returned (.bool true) ∧ Below W.heap.size W w') := ⟨awake_any⟩
  have hst : Kpt (∀ W : World, StAt (W.alloc (.cells #[.string ⟨#[116]⟩] 9)) (.slice (some ⟨W.heap.size, 0, none⟩) 1 1) [vT]) := ⟨fun W => st_one _ _ vT (bx_new W _ 9)⟩
  have fN : Kpt (∀ (W : World) (a : Option Addr) (c : Nat), StAt W (.slice a 1 c) [vT] → Calls Tryd.prog 5 #[.agg #[.slice a 1 c, .slice none 0 0, .bool b], .int .u8 1, .slice none 0 0] W fun e w' => (∃ L a' c', e = .returned (.pointer (some ⟨L, 0, none⟩)) ∧ W.heap.size ≤ L ∧ Bx w' L (lgS b (.slice a' 1 c')).v ∧ StAt w' (.slice a' 1 c') [vT] ∧ Off a' L) ∧ Below W.heap.size W w') := ⟨fun W a c h => new_s b a 1 c [vT] W h (by omega)⟩
  have fH : Kpt (∀ (W : World) (g : Nat), Bx W g #[.string hdB, .string o1, .string ddB, .string o2] → Calls Tryd.prog 7 #[.slice (some ⟨g, 0, none⟩) 2 2] W fun e w' => ∃ a c, e = .returned (.slice a 4 c) ∧ w'.ownsRow W.heap.size 37 2 (.slice a 4 c) 4 (cellsB (keys4 o1 o2)) ∧ Below W.heap.size W w') := ⟨fun W g h => hello4 g o1 o2 W h⟩
  have fS : Kpt (∀ (W0 W : World) (L : Nat) (a a' : Option Addr) (c c' : Nat), Bx W L (lgS b (.slice a' 1 c')).v → StAt W (.slice a' 1 c') [vT] → Off a' L → L < W0.heap.size → W.ownsRow W0.heap.size 37 2 (.slice a 4 c) 4 (cellsB (keys4 o1 o2)) →
      Calls Tryd.prog 6 #[.pointer (some ⟨L, 0, none⟩), .agg #[.int .u8 1, .int .u8 0, .bool false, .slice a 4 c]] W fun e w' => ∃ va vc, e = .returned (.tuple #[.agg (ansN (.slice va 2 vc)), .int .i64 0]) ∧ PsAt w' (.slice va 2 vc) [(hdB, fstV b o1), (ddB, fstV b o2)] ∧ vc ≤ maxLen ∧ (∃ s : Lg, Bx w' L s.v ∧ s.hd = isCrc (fstV b o1) ∧ s.dt = isCrc (fstV b o2)) ∧ W.grownBy w' (some L)) := ⟨fun W0 W L a a' c c' q1 q2 q3 q4 q5 => by
    obtain ⟨k1, xa, xc, hv, _, _, knew, _⟩ := psB_of q5
    simp only [Value.slice.injEq] at hv
    obtain ⟨rfl, _, rfl⟩ := hv
    have hO := k4_beg ⟨a, 4, c, keys4 o1 o2, a', 1, c', [vT]⟩ o1 o2 rfl rfl
    refine (step_sum ⟨a, 4, c, keys4 o1 o2, a', 1, c', [vT]⟩ L (lgS b (.slice a' 1 c')) o1 o2 W q1 ⟨k1, (show 4 ≤ maxLen by unfold maxLen; omega), fun x e => by have := knew x e; omega, q2, (show 1 ≤ maxLen by unfold maxLen; omega), q3⟩ rfl rfl h1 h2 hO rfl rfl rfl rfl).mono ?_
    rintro e w' ⟨va, vc, rfl, z1, z2, z3, z4⟩
    exact ⟨va, vc, rfl, z1, z2, ⟨_, z3, rfl, rfl⟩, z4⟩⟩
  have fR1 : Kpt (∀ (W : World) (a : Option Addr) (n c : Nat), n ≤ 2 → StAt W (.slice a n c) (ownS b) → Calls Tryd.prog 8 #[.string o1, .slice a n c] W fun e w' => e = .returned (.string (fstV b o1)) ∧ Below W.heap.size W w') := ⟨fun W a n c hn h => rfirst_S b o1 h1 a n c W h hn⟩
  have fR2 : Kpt (∀ (W : World) (a : Option Addr) (n c : Nat), n ≤ 2 → StAt W (.slice a n c) (ownS b) → Calls Tryd.prog 8 #[.string o2, .slice a n c] W fun e w' => e = .returned (.string (fstV b o2)) ∧ Below W.heap.size W w') := ⟨fun W a n c hn h => rfirst_S b o2 h2 a n c W h hn⟩
  have fP : Kpt (∀ (W : World) (L : Nat) (s : Lg), Bx W L s.v → Calls Tryd.prog 9 #[.pointer (some ⟨L, 0, none⟩)] W fun e w' => e = .returned (.agg s.p) ∧ Below W.heap.size W w') := ⟨fun W L s h => params_any L s W h⟩
  have hno : b = false → isCrc (fstV b o1) = false ∧ isCrc (fstV b o2) = false := fun e => by rw [e]; exact ⟨fstV_no o1, fstV_no o2⟩
  obtain ⟨x, hx⟩ : ∃ x, x = fstV b o1 := ⟨_, rfl⟩
  obtain ⟨y, hy⟩ : ∃ y, y = fstV b o2 := ⟨_, rfl⟩
  rw [← hx] at fS fR1 hno
  rw [← hy] at fS fR2 hno
  obtain ⟨qx, hqx⟩ : ∃ q, q = isCrc x := ⟨_, rfl⟩
  obtain ⟨qy, hqy⟩ : ∃ q, q = isCrc y := ⟨_, rfl⟩
  rw [← hqx, ← hqy] at fS hno
  have ex : (x.toList == [67, 82, 67, 51, 50, 67]) = qx := hqx.symm
  have ey : (y.toList == [67, 82, 67, 51, 50, 67]) = qy := hqy.symm
  clear h1 h2 hx hy hqx hqy
  have key : (b = true) ∨ (b = false ∧ qx = false ∧ qy = false) := by
    cases b
    · exact .inr ⟨rfl, hno rfl⟩
    · exact .inl rfl
  clear hno
  have fin : ∀ qx qy b, ((b = true) ∨ (b = false ∧ qx = false ∧ qy = false)) → True := fun _ _ _ _ => trivial
  rcases key with rfl | ⟨rfl, rfl, rfl⟩
  all_goals
    try cases qx
    all_goals
      try cases qy
      all_goals
        clear fin
        go_enter Tryd.func3, Tryd.ntmps3
        go_upto_region 11 with (first
    | (refine (?_ : wpList _ _ _ (Oper.mk none (Op.store 42 _ _) _ _ _ _ :: _) _ _); go_must (refine wpList_store_bx rfl 42 (.tmp 13) (.tmp 42) rfl P prmZ s6.p rfl rfl hP13.out rfl szPrm (p_one s6).2 rfl ?_; intro w14 hP14 hg14; have hb14 : Kpt (Below w.heap.size w w14) := ⟨hb13.out.grown hg14 hb13.out.size (fun q e => by injection e with e; subst e; exact hPw.out)⟩; have p3 := hP14.cells 3 (by simp [Lg.p]); have p4 := hP14.cells 4 (by simp [Lg.p]); simp only [Lg.p, List.getElem?_toArray, List.getElem?_cons_succ, List.getElem?_cons_zero] at p3 p4; rw [hs1.out] at p3; rw [hs2.out] at p4; have a5 := (hA13.out.grown hg14 (fun e => by injection e with e; have := hAP.out; omega)).cells 5 (by simp [ansN]); simp only [ansN, List.getElem?_toArray, List.getElem?_cons_succ, List.getElem?_cons_zero] at a5; obtain ⟨h2c, B, off, rfl, hBl, q1, q3⟩ := ps_two (hp13.out.grown (L := P) (fun xx e => by have := hpP.out xx e; omega) hg14); have h2i : (2 : Int) ≤ vc := (by omega); have hvi : (vc : Int) ≤ 9223372036854775807 := (by have := hvc.out; unfold maxLen at this; omega); clear hP14 hg14))
    | (refine wpList_var rfl 42 rfl prmZ zPrm ?_; intro P w13 hPl hPx hb; have hb13 : Kpt (Below w.heap.size w w13) := ⟨hb12.out.trans (hb.mono hb12.out.size)⟩; have hPw := Kpt.mk (Nat.le_trans hb12.out.size hPl); have hP13 := Kpt.mk hPx; have hA13 := Kpt.mk (hA12.out.below hb hA12.out.lt); have hAP : Kpt (A < P) := ⟨Nat.lt_of_lt_of_le hA12.out.lt hPl⟩; have hp13 := Kpt.mk (hp12.out.bel hb); have hpP : Kpt (∀ xx, va = some xx → xx.block < P) := ⟨fun xx e => Nat.lt_of_lt_of_le (hpl.out xx e) (Nat.le_trans (Nat.le_trans hs11.out hs12.out) hPl)⟩; clear hPl hPx hb)
    | (go_at_call 9; go_must (refine (fP.out _ _ _ hX11.out).mono ?_; rintro e w12 ⟨rfl, hb⟩; have hb12 : Kpt (Below w.heap.size w w12) := ⟨hb11.out.trans (hb.mono hb11.out.size)⟩; have hA12 := Kpt.mk (hA11.out.below hb hA11.out.lt); have hp12 := Kpt.mk (hp11.out.bel hb); have hs12 := Kpt.mk hb.size; clear hb))
    | (go_at_call 8; have m := hb10; go_must (refine (fR2.out _ _ _ _ (by omega) (hO10.out)).mono ?_; rintro e w11 ⟨rfl, hb⟩; have hb11 : Kpt (Below w.heap.size w w11) := ⟨hb10.out.trans (hb.mono hb10.out.size)⟩; have hA11 := Kpt.mk (hA10.out.below hb hA10.out.lt); have hp11 := Kpt.mk (hp10.out.bel hb); have hX11 := Kpt.mk (hX10.out.below hb hX10.out.lt); have hs11 : Kpt (w8.heap.size ≤ w11.heap.size) := ⟨Nat.le_trans hs10.out hb.size⟩; clear hb m))
    | (go_at_call 8; go_must (refine (fR1.out _ _ _ _ (by omega) (by first | exact st_one _ _ _ (bx_new w8 _ 9) | exact st_two _ _ _ _ (own2 w8))).mono ?_; rintro e w10 ⟨rfl, hb⟩; obtain ⟨w9, hw9, hb9⟩ : ∃ W, Below w8.heap.size w8 W ∧ Below W.heap.size W w10 := (⟨_, by first | exact (Below.refl _ _).alloc (Nat.le_refl _) _ | exact ((Below.refl _ _).alloc (Nat.le_refl _) _).alloc (by simp) _, hb⟩); have hbz : Below w8.heap.size w8 w10 := hw9.trans (hb9.mono hw9.size); have hb10 : Kpt (Below w.heap.size w w10) := ⟨hb8.out.trans (hbz.mono hb8.out.size)⟩; have hA10 := Kpt.mk (hA8.out.below hbz hA8.out.lt); have hp10 := Kpt.mk (hp8.out.bel hbz); have hX10 := Kpt.mk (hX8.out.below hbz hX8.out.lt); have hs10 := Kpt.mk hbz.size; (first | (have hO10 : Kpt (StAt w10 (.slice (some ⟨w8.heap.size + 1, 0, none⟩) 2 2) (ownS true)) := ⟨(st_two _ _ crcB nonB (own2 w8)).bel hb⟩) | (have hO10 : Kpt (StAt w10 (.slice (some ⟨w8.heap.size, 0, none⟩) 1 1) (ownS false)) := ⟨(st_one _ _ nonB (bx_new w8 _ 9)).bel hb⟩)); clear hb hw9 hb9 hbz))
    | (refine (?_ : wpList _ _ _ (Oper.mk none (Op.store 31 _ _) _ _ _ _ :: _) _ _); go_must (refine wpList_store_bx rfl 31 (.tmp 8) (.tmp 30) rfl A ansZ (ansN (.slice va 2 vc)) rfl rfl hA7.out rfl szAns (by simp [ansN, Value.oneCell']) rfl ?_; intro w8 hA8q hg8; have hA8 := Kpt.mk hA8q; have hb8 : Kpt (Below w.heap.size w w8) := ⟨hb7.out.grown hg8 hb7.out.size (fun q e => by injection e with e; subst e; exact hAw.out)⟩; have hX8 := Kpt.mk (hX7.out.grown hg8 (fun e => by injection e with e; have := hAL.out; omega)); have hp8 := Kpt.mk (hp7.out.grown (L := A) (fun xx e => by have := hpA.out xx e; omega) hg8); have hpl : Kpt (∀ xx, va = some xx → xx.block < w8.heap.size) := ⟨fun xx e => by have h1 := hpA.out xx e; have h2 := hA8q.lt; omega⟩; clear hA8q hg8))
    | (refine wpList_var rfl 31 rfl ansZ zAns ?_; intro A w7 hAl hAx hb; have hb7 : Kpt (Below w.heap.size w w7) := ⟨hb6.out.trans (hb.mono hb6.out.size)⟩; have hAw := Kpt.mk (Nat.le_trans hb6.out.size hAl); have hA7 := Kpt.mk hAx; have hX7 := Kpt.mk (hX6.out.below hb hX6.out.lt); have hAL : Kpt (L < A) := ⟨Nat.lt_of_lt_of_le hX6.out.lt hAl⟩; have hp7 := Kpt.mk (hp6.out.bel hb); have hpA : Kpt (∀ xx, va = some xx → xx.block < A) := ⟨fun xx e => by obtain ⟨_, B, off, e2, h9, _⟩ := ps_two hp6.out; rw [e] at e2; injection e2 with e2; subst e2; exact Nat.lt_of_lt_of_le h9 hAl⟩; clear hAl hAx hb)
    | (go_at_call 6; go_must (refine (fS.out w4 w5 L a4 ta c4 tc hX5.out ht5.out hof.out hL4.out how.out).mono ?_; rintro e w6 ⟨va, vc, rfl, hp6, hvc, ⟨s6, hX6, hs1, hs2⟩, hg6⟩; have hb6 : Kpt (Below w.heap.size w w6) := ⟨hb5.out.grown hg6 hb5.out.size (fun q e => by injection e with e; subst e; exact hLw.out)⟩; replace hp6 := Kpt.mk hp6; replace hvc := Kpt.mk hvc; replace hX6 := Kpt.mk hX6; replace hs1 := Kpt.mk hs1; replace hs2 := Kpt.mk hs2; clear hg6))
    | (go_at_call 7; go_must (refine (fH.out _ _ (bx_new w3 #[.string hdB, .string o1, .string ddB, .string o2] 37)).mono ?_; rintro e w5 ⟨a4, c4, rfl, how, hb5q⟩; obtain ⟨w4, hw4⟩ : ∃ W, W = w3.alloc (.cells #[.string hdB, .string o1, .string ddB, .string o2] 37) := (⟨_, rfl⟩); rw [← hw4] at how hb5q; have hbA : Below w3.heap.size w3 w4 := (by rw [hw4]; exact (Below.refl _ _).alloc (Nat.le_refl _) _); have hb5 : Kpt (Below w.heap.size w w5) := ⟨(hb3.out.trans (hbA.mono hb3.out.size)).trans (hb5q.mono (Nat.le_trans hb3.out.size hbA.size))⟩; have hX4 := hX3.out.below hbA hX3.out.lt; have hL4 := Kpt.mk hX4.lt; have hX5 := Kpt.mk (hX4.below hb5q hX4.lt); have ht5 := Kpt.mk ((ht3.out.bel hbA).bel hb5q); replace how := Kpt.mk how; clear hw4 hb5q hbA hX4))
    | (go_at_call 5; go_must (refine (fN.out _ _ _ (hst.out w1)).mono ?_; rintro e w3 ⟨⟨L, ta, tc, rfl, hL0, hX, hst2, hof⟩, hq⟩; have hb3 : Kpt (Below w.heap.size w w3) := ⟨(hb1.out.alloc hb1.out.size _).trans (hq.mono (by have := hb1.out.size; simp; omega))⟩; have hLw : Kpt (w.heap.size ≤ L) := ⟨by have := hb1.out.size; simp at hL0; omega⟩; have hX3 := Kpt.mk hX; have ht3 := Kpt.mk hst2; replace hof := Kpt.mk hof; clear hL0 hq hX hst2))
    | (go_at_call 4; go_must (refine (fA.out _).mono ?_; rintro e w1 ⟨rfl, hb1⟩; replace hb1 := Kpt.mk hb1)))
        clear hb1 hb3 hLw hX3 ht3 hof hb5 hL4 hX5 ht5 how hb6 hvc hX6 hs1 hs2 hb7 hAw hA7 hX7 hAL hb8 hX8 hb10 hX10 hs10 hO10 hb11 hX11 hs11 hb12 hs12 hb13 hPw hP13 hAP hp6 hp7 hpA hA8 hp8 hpl hA10 hp10 hA11 hp11 hA12 hp12 hA13 hp13 hpP fA hst fN fH fS fR1 fR2 fP
        go_wp2
        go_ret
        exact ⟨rfl, hb14.out⟩
end Go.Proofs.YtplifodddfjhdabDoor
