/-
  sess: a session that is over, and none.
-/
import Derived.Test.YtdplndlmdhpfaaaEPng
import Derived.Test.YtdplndlmdhpfaaaEEnn
import Derived.Test.YtdplndlmdhpfaaaEFgt
namespace Go.Proofs.Ytdplndlmdhpfaaa
open Go.RowKit
set_option linter.unusedVariables false
set_option linter.unusedSimpArgs false

def Se.out (s : Se) : Se := { s with over := true, held := .slice none 0 0, wts := .slice none 0 0 }
set_option maxRecDepth 100000 in
theorem logOut_any (S : Nat) (s : Se) (H O T : List (Array Value)) (w : World) (h : Ss w S s H O T) :
    Calls Try.prog 42 #[.pointer (some ⟨S, 0, none⟩)] w fun e w' => e = .returned (.tuple #[]) ∧ Ss w' S s.out [] O [] ∧ St S w w' s s.out := by
  obtain ⟨h1, t1⟩ := h.set (s' := { s with over := true }) 17 (.bool true) (by omega) rfl rfl rfl rfl
  obtain ⟨h2, t2, x2, f2⟩ := h1.setHeld (v' := .slice none 0 0) (w1 := w.setCell ⟨S, 17, none⟩ (.bool true)) (grown_refl _ _) (OwnR.nil _ _ _) (fun b e => by simp [Value.ownBlock] at e)
  obtain ⟨h3, t3, x3, f3⟩ := h2.setWts (v' := .slice none 0 0) (w1 := (w.setCell ⟨S, 17, none⟩ (.bool true)).setCell ⟨S, 14, none⟩ (.slice none 0 0)) (grown_refl _ _) (OwnR.nil _ _ _) (fun b e => by simp [Value.ownBlock] at e)
  have x1 := (h.cell 17 (by omega)).1
  have f1 := (h.cell 17 (by omega)).2
  simp [Se.v] at x1
  have k3 := Kpt.mk h3
  have t4 := Kpt.mk ((t1.trans t2).trans t3)
  clear h h1 h2 h3 t1 t2 t3
  go_enter Try.func42, Try.ntmps42
  go_wp2
  refine bodyPost_end (v := .tuple #[]) (by simp [results, Try.results42, asAddr, Act.put]) rfl ?_
  exact ⟨rfl, k3.out, t4.out⟩

set_option maxRecDepth 100000 in
theorem in_over (S : Nat) (s : Se) (H O T : List (Array Value)) (p : Pd) (w : World) (h : Ss w S s H O T) (hov : s.over = true) :
    Calls Try.prog 11 #[.pointer (some ⟨S, 0, none⟩), .agg p.v] w fun e w' => e = .returned (.tuple #[.slice none 0 0, .slice none 0 0]) ∧ Below w.heap.size w w' := by
  have hK := Kpt.mk h
  replace hov := Kpt.mk hov
  clear h
  go_enter Try.func11, Try.ntmps11
  go_wp2_with (refine (?_ : wpList _ _ _ (Oper.mk _ (Op.box 37 _) _ _ _ _ :: _) _ _); go_must (refine wpList_box rfl 37 _ rfl p.v rfl ?_; intro P w1 hP hB' hb _; have hb1 := Kpt.mk hb; have c17 := ((hK.out.below hb).cell 17 (by omega)).1; simp only [Se.v, List.getElem?_toArray, List.getElem?_cons_succ, List.getElem?_cons_zero] at c17; rw [hov.out] at c17; clear hb hP hB'))
  go_ret2
  exact ⟨rfl, hb1.out⟩
set_option maxRecDepth 100000 in
theorem told_over (S : Nat) (s : Se) (H O T : List (Array Value)) (tag code : Int) (w : World) (h : Ss w S s H O T) (hov : s.over = true) :
    Calls Try.prog 18 #[.pointer (some ⟨S, 0, none⟩), .int .u32 tag, .int .u8 code] w fun e w' => e = .returned (.slice none 0 0) ∧ w' = w := by
  have c17 := (h.cell 17 (by omega)).1
  simp only [Se.v, List.getElem?_toArray, List.getElem?_cons_succ, List.getElem?_cons_zero] at c17
  rw [hov] at c17
  clear h hov
  go_enter Try.func18, Try.ntmps18
  go_wp2
  go_ret
  exact ⟨rfl, rfl⟩
set_option maxRecDepth 100000 in
theorem over_any (S : Nat) (s : Se) (H O T : List (Array Value)) (w : World) (h : Ss w S s H O T) :
    Calls Try.prog 17 #[.pointer (some ⟨S, 0, none⟩)] w fun e w' => e = .returned (.bool s.over) ∧ w' = w := by
  have c17 := (h.cell 17 (by omega)).1
  simp only [Se.v, List.getElem?_toArray, List.getElem?_cons_succ, List.getElem?_cons_zero] at c17
  clear h
  go_enter Try.func17, Try.ntmps17
  go_wp2
  go_ret
  exact ⟨rfl, rfl⟩
set_option maxRecDepth 100000 in
theorem in_nil (p : Pd) (w : World) : Calls Try.prog 11 #[.pointer none, .agg p.v] w fun e w' => e = .returned (.tuple #[.slice none 0 0, .slice none 0 0]) ∧ Below w.heap.size w w' := by
  go_enter Try.func11, Try.ntmps11
  go_wp2_with (refine (?_ : wpList _ _ _ (Oper.mk _ (Op.box 37 _) _ _ _ _ :: _) _ _); go_must (refine wpList_box rfl 37 _ rfl p.v rfl ?_; intro P w1 hP hB' hb _; have hb1 := Kpt.mk hb; clear hb hP hB'))
  go_ret2
  exact ⟨rfl, hb1.out⟩
set_option maxRecDepth 100000 in
theorem end_nilS (tag : Int) (d : Bool) (dv : Value) (w : World) : Calls Try.prog 15 #[.pointer none, .int .u32 tag, .agg (rsv dv), .bool d] w fun e w' => e = .returned (.slice none 0 0) ∧ Below w.heap.size w w' := by
  go_enter Try.func15, Try.ntmps15
  go_wp2_with (refine (?_ : wpList _ _ _ (Oper.mk _ (Op.box 53 _) _ _ _ _ :: _) _ _); go_must (refine wpList_box rfl 53 _ rfl (rsv dv) rfl ?_; intro P w1 hP hB' hb _; have hb1 := Kpt.mk hb; clear hb hP hB'))
  go_ret
  exact ⟨rfl, hb1.out⟩
set_option maxRecDepth 100000 in
theorem told_nil (tag code : Int) (w : World) : Calls Try.prog 18 #[.pointer none, .int .u32 tag, .int .u8 code] w fun e w' => e = .returned (.slice none 0 0) ∧ w' = w := by
  go_enter Try.func18, Try.ntmps18
  go_wp2
  go_ret
  exact ⟨rfl, rfl⟩
set_option maxRecDepth 100000 in
theorem forget_nil (tag : Int) (w : World) : Calls Try.prog 16 #[.pointer none, .int .u32 tag] w fun e w' => e = .returned (.bool false) ∧ w' = w := by
  go_enter Try.func16, Try.ntmps16
  go_wp2
  go_ret
  exact ⟨rfl, rfl⟩
set_option maxRecDepth 100000 in
theorem over_nil (w : World) : Calls Try.prog 17 #[.pointer none] w fun e w' => e = .returned (.bool false) ∧ w' = w := by
  go_enter Try.func17, Try.ntmps17
  go_wp2
  go_ret
  exact ⟨rfl, rfl⟩
set_option maxRecDepth 100000 in
theorem waits_nil (w : World) : Calls Try.prog 14 #[.pointer none] w fun e w' => e = .returned (.int .i64 0) ∧ w' = w := by
  go_enter Try.func14, Try.ntmps14
  go_wp2
  go_ret
  exact ⟨rfl, rfl⟩
set_option maxRecDepth 100000 in
theorem next_nil (w : World) : Calls Try.prog 13 #[.pointer none] w fun e w' => e = .returned (.int .u32 0) ∧ w' = w := by
  go_enter Try.func13, Try.ntmps13
  go_wp2
  go_ret
  exact ⟨rfl, rfl⟩

/-- What a logout is answered. -/
def outP (p : Pd) : Pd := { zP with op := 38, fl := 128, tg := p.tg }
set_option maxRecDepth 100000 in
set_option maxHeartbeats 4000000 in
theorem do_out (S : Nat) (s : Se) (H O T : List (Array Value)) (p : Pd) (w : World) (h : Ss w S s H O T) (hop : p.op = 70) (hn : 0 ≤ s.next ∧ s.next < 4294967296) (s' : Se) (hs' : s' = { s.out with stat := (s.stat + 1) % 4294967296 }) :
    Calls Try.prog 24 #[.pointer (some ⟨S, 0, none⟩), .agg p.v] w fun e w' => ∃ v, e = .returned (.tuple #[v, .slice none 0 0]) ∧ Ss w' S s' [] O [] ∧ St S w w' s s' ∧ Ou w w' S s' v 37 ((outP p).num s).v := by
  have hO : Kpt (∀ W : World, Calls Try.prog 20 #[.agg p.v] W fun e w' => e = .returned (.int .u8 6) ∧ Below W.heap.size W w') := ⟨fun W => by
    have := operation_any p W (by simp [Pd.opk, hop])
    rwa [show p.op % 64 = 6 from by rw [hop]; rfl] at this⟩
  have hL : Kpt (∀ W, Ss W S s H O T → Calls Try.prog 42 #[.pointer (some ⟨S, 0, none⟩)] W fun e w' => e = .returned (.tuple #[]) ∧ Ss w' S s.out [] O [] ∧ St S W w' s s.out) := ⟨fun W h => logOut_any S s H O T W h⟩
  have hA : Kpt (∀ W, Ss W S s.out [] O [] → Calls Try.prog 33 #[.pointer (some ⟨S, 0, none⟩), .agg (outP p).v] W fun e w' => ∃ v, e = .returned v ∧ Ss w' S s' [] O [] ∧ St S W w' s.out s' ∧ Ou W w' S s' v 37 ((outP p).num s.out).v) := ⟨fun W h => answer_any S s.out [] O [] (outP p) _ _ _ W h rfl hn s' hs'⟩
  have k0 := Kpt.mk (Lo.start h)
  clear h hop hs'
  go_enter Try.func24, Try.ntmps24
  go_wp2_with (first
    | (go_at_call 20; go_must (refine (hO.out _).mono ?_; rintro e w2 ⟨rfl, hb2⟩; have k2 := Kpt.mk (k1.out.below hb2); clear hb2))
    | (go_at_call 42; go_must (refine (hL.out _ k2.out.ss).mono ?_; rintro e w3 ⟨rfl, hs3, ht3⟩; have k3 := Kpt.mk (k2.out.turn hs3 ht3); have c5 := k3.out.b0.cells 5 (by simp [Pd.v]); simp [Pd.v] at c5; clear hs3 ht3))
    | (go_at_call 33; go_must (refine (hA.out _ k3.out.ss).mono ?_; rintro e w4 ⟨v, rfl, hs4, ht4, ho4⟩; have k4 := Kpt.mk (k3.out.turn hs4 ht4); have hsz := k3.out.st.fr.size; replace ho4 := Kpt.mk ho4; clear hs4 ht4))
    | (refine (?_ : wpList _ _ _ (Oper.mk _ (Op.load 37 _) _ _ _ _ :: _) _ _); go_must (refine wpList_load_bx rfl 37 _ rfl P p.v rfl k1.out.b0 _ Try.underlying37 rfl szPdu ?_; have hm := hn))
    | (refine (?_ : wpList _ _ _ (Oper.mk _ (Op.box 37 _) _ _ _ _ :: _) _ _); go_must (refine wpList_box rfl 37 _ rfl p.v rfl ?_; intro P w1 hP hB hb _; have k1 := Kpt.mk (k0.out.add hb hP hB); clear hb hP hB)))
  try rw [Exit.noGoto_ret]
  refine bodyPost_ret (v := .tuple #[v, .slice none 0 0]) (by simp [results, Try.results24, asAddr, Act.put]) rfl ?_
  obtain ⟨b, hv, hb, hh, hx⟩ := ho4.out.at_
  exact ⟨v, rfl, k4.out.ss, k4.out.st, ⟨b, hv, Nat.le_trans hsz hb, hh, hx⟩⟩
end Go.Proofs.Ytdplndlmdhpfaaa
