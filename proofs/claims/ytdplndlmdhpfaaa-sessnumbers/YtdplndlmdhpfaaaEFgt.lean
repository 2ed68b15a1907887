/-
  sess: Forget, End of no command, data that nobody waits for, a command that writes.
-/
import Derived.Test.YtdplndlmdhpfaaaESet
import Derived.Test.YtdplndlmdhpfaaaEBgw
import Derived.Test.YtdplndlmdhpfaaaEWin
namespace Go.Proofs.Ytdplndlmdhpfaaa
open Go.RowKit
set_option linter.unusedVariables false
set_option linter.unusedSimpArgs false

set_option maxRecDepth 100000 in
theorem forget_one (S : Nat) (s : Se) (H : List (Array Value)) (c : Cm) (T : List Wr) (w : World) (h : Ss w S s H [c.v] (T.map Wr.v)) (hT : T = [] ∨ ∃ r : Wr, T = [r] ∧ r.t.tg = c.tg) :
    Calls Try.prog 16 #[.pointer (some ⟨S, 0, none⟩), .int .u32 c.tg] w fun e w' => e = .returned (.bool true) ∧ ∃ v1 v2, Ss w' S { s with opn := v1, wts := v2 } H [] [] ∧ St S w w' s { s with opn := v1, wts := v2 } := by
  have hS := Kpt.mk (settle_one S s H c T w h hT)
  clear h hT
  go_enter Try.func16, Try.ntmps16
  go_wp2_with (first
    | (go_at_call 28; go_must (refine hS.out.mono ?_; rintro e w1 ⟨v1, v2, rfl, hs1, ht1⟩; replace hs1 := Kpt.mk hs1; replace ht1 := Kpt.mk ht1))
    | (refine (?_ : wpList _ _ _ (Oper.mk _ (Op.alloc 71) _ _ _ _ :: _) _ _); go_must (refine wpList_var rfl 71 rfl _ zCmd ?_; intro V w2 hV hB hb; have hk2 := Kpt.mk ((Lo.start hs1.out).add hb hV hB); clear hb hV hB))
    | (refine (?_ : wpList _ _ _ (Oper.mk _ (Op.store 71 _ _) _ _ _ _ :: _) _ _); go_must (refine wpList_store_bx rfl 71 _ _ rfl V (Cm.v ⟨0, 0, false, 0⟩) c.v rfl rfl hk2.out.b0 rfl szCmd c.one.2 rfl ?_; intro w3 hB hg; have hk3 := Kpt.mk (hk2.out.put0 hB hg); clear hB hg)))
  go_ret
  exact ⟨rfl, v1, v2, hk3.out.ss, ht1.out.trans hk3.out.st⟩

set_option maxRecDepth 100000 in
theorem forget_none (S : Nat) (s : Se) (H : List (Array Value)) (O : List Cm) (T : List (Array Value)) (n : Int) (w : World) (h : Ss w S s H (O.map Cm.v) T) (hl : O.length ≤ 5000) (hno : fidx (isC n) (O.map Cm.v) 0 = -1) :
    Calls Try.prog 16 #[.pointer (some ⟨S, 0, none⟩), .int .u32 n] w fun e w' => e = .returned (.bool false) ∧ Below w.heap.size w w' := by
  have hS := Kpt.mk (settle_none S s H O T n w h hl hno)
  clear h hno
  go_enter Try.func16, Try.ntmps16
  go_wp2_with (first
    | (go_at_call 28; go_must (refine hS.out.mono ?_; rintro e w1 ⟨rfl, hb1⟩; replace hb1 := Kpt.mk hb1))
    | (refine (?_ : wpList _ _ _ (Oper.mk _ (Op.alloc 71) _ _ _ _ :: _) _ _); go_must (refine wpList_var rfl 71 rfl _ zCmd ?_; intro V w2 hV hB hb; have hb2 := Kpt.mk (hb1.out.trans (hb.mono hb1.out.size)); have hVw := Kpt.mk (Nat.le_trans hb1.out.size hV); replace hB := Kpt.mk hB; clear hb hV))
    | (refine (?_ : wpList _ _ _ (Oper.mk _ (Op.store 71 _ _) _ _ _ _ :: _) _ _); go_must (refine wpList_store_bx rfl 71 _ _ rfl V (Cm.v ⟨0, 0, false, 0⟩) (Cm.v ⟨0, 0, false, 0⟩) rfl rfl hB.out rfl szCmd (Cm.one _).2 rfl ?_; intro w3 hB3 hg; have hb3 := Kpt.mk (hb2.out.grown hg hb2.out.size (fun q e => by injection e with e; subst e; exact hVw.out)); clear hB3 hg)))
  go_ret
  exact ⟨rfl, hb3.out⟩

set_option maxRecDepth 100000 in
theorem end_none (S : Nat) (s : Se) (H : List (Array Value)) (O : List Cm) (T : List (Array Value)) (n : Int) (rv : Array Value) (d : Bool) (w : World) (h : Ss w S s H (O.map Cm.v) T) (hov : s.over = false) (hl : O.length ≤ 5000) (hno : fidx (isC n) (O.map Cm.v) 0 = -1) :
    Calls Try.prog 15 #[.pointer (some ⟨S, 0, none⟩), .int .u32 n, .agg rv, .bool d] w fun e w' => e = .returned (.slice none 0 0) ∧ Below w.heap.size w w' := by
  have hS : Kpt (∀ W, Ss W S s H (O.map Cm.v) T → Calls Try.prog 28 #[.pointer (some ⟨S, 0, none⟩), .int .u32 n] W fun e w' => e = .returned (.tuple #[.agg (Cm.v ⟨0, 0, false, 0⟩), .bool false]) ∧ Below W.heap.size W w') := ⟨fun W h => settle_none S s H O T n W h hl hno⟩
  have hK := Kpt.mk h
  replace hov := Kpt.mk hov
  clear h hno
  go_enter Try.func15, Try.ntmps15
  go_wp2_with (first
    | (go_at_call 28; go_must (refine (hS.out _ (hK.out.below hb0.out)).mono ?_; rintro e w1 ⟨rfl, hb1'⟩; have hb1 := Kpt.mk (hb0.out.trans (hb1'.mono hb0.out.size)); clear hb1'))
    | (refine (?_ : wpList _ _ _ (Oper.mk _ (Op.box 53 _) _ _ _ _ :: _) _ _); go_must (refine wpList_box rfl 53 _ rfl rv rfl ?_; intro P w0 hP hB hb0 _; have c17 := ((hK.out.below hb0).cell 17 (by omega)).1; simp only [Se.v, List.getElem?_toArray, List.getElem?_cons_succ, List.getElem?_cons_zero] at c17; rw [hov.out] at c17; replace hb0 := Kpt.mk hb0; clear hP hB))
    | (refine (?_ : wpList _ _ _ (Oper.mk _ (Op.alloc 71) _ _ _ _ :: _) _ _); go_must (refine wpList_var rfl 71 rfl _ zCmd ?_; intro V w2 hV hB hb; have hb2 := Kpt.mk (hb1.out.trans (hb.mono hb1.out.size)); have hVw := Kpt.mk (Nat.le_trans hb1.out.size hV); replace hB := Kpt.mk hB; clear hb hV))
    | (refine (?_ : wpList _ _ _ (Oper.mk _ (Op.store 71 _ _) _ _ _ _ :: _) _ _); go_must (refine wpList_store_bx rfl 71 _ _ rfl V (Cm.v ⟨0, 0, false, 0⟩) (Cm.v ⟨0, 0, false, 0⟩) rfl rfl hB.out rfl szCmd (Cm.one _).2 rfl ?_; intro w3 hB3 hg; have hb3 := Kpt.mk (hb2.out.grown hg hb2.out.size (fun q e => by injection e with e; subst e; exact hVw.out)); clear hB3 hg)))
  go_ret
  exact ⟨rfl, hb3.out⟩

theorem hcfT : ∀ (args : Array Value) (W : World), (callFunc 35 args).run Try.prog W = .ok (Next.enter 35 args) W := fun args W => Go.MuLone.run_callFunc_enter (P := Try.prog) Try.func35 (by kernel_rfl) rfl args W
set_option maxRecDepth 100000 in
set_option maxHeartbeats 4000000 in
theorem data_none (S : Nat) (s : Se) (H O : List (Array Value)) (p : Pd) (a : Option Addr) (n c : Nat) (w : World) (h : Ss w S s H O []) (hda : p.da = .slice a n c) (hnn : n ≤ 100000) (hu : p.all32) (hn : 0 ≤ s.next ∧ s.next < 4294967296) (s' : Se) (hs' : s' = { s with stat := (s.stat + 1) % 4294967296 }) :
    Calls Try.prog 21 #[.pointer (some ⟨S, 0, none⟩), .agg p.v] w fun e w' => ∃ v d, e = .returned (.tuple #[v, .slice none 0 0]) ∧ Ss w' S s' H O [] ∧ St S w w' s s' ∧ Ou w w' S s' v 37 ((rej 9 d).num s).v ∧ ∃ zs, RdAt w' d zs := by
  have hR : Kpt (∀ W, Ss W S s H O [] → Calls Try.prog 23 #[.pointer (some ⟨S, 0, none⟩), .agg p.v, .int .u8 9] W fun e w' => ∃ v d zs, e = .returned v ∧ Ss w' S s' H O [] ∧ St S W w' s s' ∧ Ou W w' S s' v 37 ((rej 9 d).num s).v ∧ Dt (s'.X S) w' d zs ∧ zs.length = 48 ∧ zs.getD 0 0 = p.op ∧ zs.getD 1 0 = p.fl) := ⟨fun W h => refuse_any S s H O [] p 9 a n c W h hda hnn hu hn s' hs'⟩
  have hX : Kpt (∀ W q, Ss W S s H O [] → Calls Try.prog 34 #[s.wts, .func (.func 35) #[] #[.pointer (some ⟨q, 0, none⟩)]] W fun e w' => e = .returned (.int .i64 (-1)) ∧ Below W.heap.size W w') := ⟨fun W q h => idxW_any 35 #[.pointer (some ⟨q, 0, none⟩)] (fun _ => true) s.wts [] W h.wts.rd (by simp) hcfT (fun W2 hW t ht => by simp at ht)⟩
  have k0 := Kpt.mk (Lo.start h)
  have hmm := hmf
  clear h hda hu hs'
  go_enter Try.func21, Try.ntmps21
  go_upto_region 2 with (first
    | (go_at_call 34; go_must (refine (hX.out _ _ k1.out.ss).mono ?_; rintro e w2 ⟨rfl, hb2⟩; have k2 := Kpt.mk (k1.out.below hb2); clear hb2))
    | (refine (?_ : wpList _ _ _ (Oper.mk _ (Op.box 37 _) _ _ _ _ :: _) _ _); go_must (refine wpList_box rfl 37 _ rfl p.v rfl ?_; intro P w1 hP hB hb _; have k1 := Kpt.mk (k0.out.add hb hP hB); have c16 := (k1.out.ss.cell 16 (by omega)).1; simp only [Se.v, List.getElem?_toArray, List.getElem?_cons_succ, List.getElem?_cons_zero] at c16; clear hb hP hB)))
  go_quiet (fail)
  have k3 : Kpt (Lo w (w2.drewN nq) S s s H O [] [(P, p.v)]) := ⟨k2.out.below (below_drewN (Below.refl _ _) nq)⟩
  obtain ⟨w3, hw3⟩ : ∃ x, x = w2.drewN nq := ⟨_, rfl⟩
  rw [← hw3] at k3 ⊢
  clear hw3 k2
  go_wp2_with (first
    | (go_at_call 23; go_must (refine (hR.out _ k3.out.ss).mono ?_; rintro e w4 ⟨v, d, zs, rfl, hs4, ht4, ho4, hd4, _⟩; have st4 := Kpt.mk (k3.out.st.trans ht4); have hsz := k3.out.st.fr.size; replace hs4 := Kpt.mk hs4; replace ho4 := Kpt.mk ho4; replace hd4 := Kpt.mk hd4.rd; clear ht4))
    | (refine (?_ : wpList _ _ _ (Oper.mk _ (Op.load 37 _) _ _ _ _ :: _) _ _); go_must (refine wpList_load_bx rfl 37 _ rfl P p.v rfl k3.out.b0 _ Try.underlying37 rfl szPdu ?_; have hm := hnn)))
  go_ret2
  obtain ⟨b, hv, hb, hh, hx⟩ := ho4.out.at_
  exact ⟨v, d, rfl, hs4.out, st4.out, ⟨b, hv, Nat.le_trans hsz hb, hh, hx⟩, zs, hd4.out⟩

set_option maxRecDepth 100000 in
set_option maxHeartbeats 4000000 in
theorem in_data (S : Nat) (s : Se) (H O : List (Array Value)) (p : Pd) (a : Option Addr) (n c : Nat) (w : World) (h : Ss w S s H O []) (hop : p.op = 5) (hov : s.over = false) (hda : p.da = .slice a n c) (hnn : n ≤ 100000) (hu : p.all32) (hn : 0 ≤ s.next ∧ s.next < 4294967296) (s' : Se) (hs' : s' = { s with stat := (s.stat + 1) % 4294967296 }) :
    Calls Try.prog 11 #[.pointer (some ⟨S, 0, none⟩), .agg p.v] w fun e w' => ∃ v d, e = .returned (.tuple #[v, .slice none 0 0]) ∧ Ss w' S s' H O [] ∧ St S w w' s s' ∧ Ou w w' S s' v 37 ((rej 9 d).num s).v ∧ ∃ zs, RdAt w' d zs := by
  have hO : Kpt (∀ W : World, Calls Try.prog 20 #[.agg p.v] W fun e w' => e = .returned (.int .u8 5) ∧ Below W.heap.size W w') := ⟨fun W => by
    have := operation_any p W (by simp [Pd.opk, hop])
    rwa [show p.op % 64 = 5 from by rw [hop]; rfl] at this⟩
  have hD : Kpt (∀ W, Ss W S s H O [] → Calls Try.prog 21 #[.pointer (some ⟨S, 0, none⟩), .agg p.v] W fun e w' => ∃ v d, e = .returned (.tuple #[v, .slice none 0 0]) ∧ Ss w' S s' H O [] ∧ St S W w' s s' ∧ Ou W w' S s' v 37 ((rej 9 d).num s).v ∧ ∃ zs, RdAt w' d zs) := ⟨fun W h => data_none S s H O p a n c W h hda hnn hu hn s' hs'⟩
  have k0 := Kpt.mk (Lo.start h)
  replace hov := Kpt.mk hov
  clear h hda hu hs' hop
  go_enter Try.func11, Try.ntmps11
  go_wp2_with (first
    | (go_at_call 20; go_must (refine (hO.out _).mono ?_; rintro e w2 ⟨rfl, hb2⟩; have k2 := Kpt.mk (k1.out.below hb2); clear hb2))
    | (go_at_call 21; go_must (refine (hD.out _ k2.out.ss).mono ?_; rintro e w3 ⟨v, d, rfl, hs3, ht3, ho3, hzs⟩; have st3 := Kpt.mk (k2.out.st.trans ht3); have hsz := k2.out.st.fr.size; replace hs3 := Kpt.mk hs3; replace ho3 := Kpt.mk ho3; replace hzs := Kpt.mk hzs; clear ht3))
    | (refine (?_ : wpList _ _ _ (Oper.mk _ (Op.load 37 _) _ _ _ _ :: _) _ _); have m := k2; go_must (refine wpList_load_bx rfl 37 _ rfl P p.v rfl k2.out.b0 _ Try.underlying37 rfl szPdu ?_; clear m))
    | (refine (?_ : wpList _ _ _ (Oper.mk _ (Op.load 37 _) _ _ _ _ :: _) _ _); go_must (refine wpList_load_bx rfl 37 _ rfl P p.v rfl k1.out.b0 _ Try.underlying37 rfl szPdu ?_; have hm := hov))
    | (refine (?_ : wpList _ _ _ (Oper.mk _ (Op.box 37 _) _ _ _ _ :: _) _ _); go_must (refine wpList_box rfl 37 _ rfl p.v rfl ?_; intro P w1 hP hB hb _; have k1 := Kpt.mk (k0.out.add hb hP hB); have c17 := (k1.out.ss.cell 17 (by omega)).1; simp only [Se.v, List.getElem?_toArray, List.getElem?_cons_succ, List.getElem?_cons_zero] at c17; rw [hov.out] at c17; clear hb hP hB)))
  go_ret2
  obtain ⟨b, hv, hb, hh, hx⟩ := ho3.out.at_
  exact ⟨v, d, rfl, hs3.out, st3.out, ⟨b, hv, Nat.le_trans hsz hb, hh, hx⟩, hzs.out⟩
end Go.Proofs.Ytdplndlmdhpfaaa
