/-
  sess: In of what lies outside the window, and of what is refused.
-/
import Derived.Test.YtdplndlmdhpfaabEEnc
namespace Go.Proofs.Ytdplndlmdhpfaab
open Go.RowKit
set_option linter.unusedVariables false
set_option linter.unusedSimpArgs false

set_option maxRecDepth 100000 in
set_option maxHeartbeats 4000000 in
theorem in_far (S : Nat) (s : Se) (H O T : List (Array Value)) (p : Pd) (w : World) (h : Ss w S s H O T) (hop : p.op = 1) (hov : s.over = false) (hfar : 16 ≤ (p.w1 - s.next) % 4294967296) :
    Calls Try.prog 10 #[.pointer (some ⟨S, 0, none⟩), .agg p.v] w fun e w' => e = .returned (.tuple #[.slice none 0 0, .slice none 0 0]) ∧ Below w.heap.size w w' := by
  have k0 := Kpt.mk (Lo.start h)
  have hO : Kpt (∀ W : World, Calls Try.prog 20 #[.agg p.v] W fun e w' => e = .returned (.int .u8 1) ∧ Below W.heap.size W w') := ⟨fun W => by
    have := operation_any p W (by simp [Pd.opk, hop])
    rwa [show p.op % 64 = 1 from by rw [hop]; rfl] at this⟩
  have hI : Kpt (∀ W : World, Calls Try.prog 22 #[.int .u8 1] W fun e w' => e = .returned (.bool true) ∧ w' = W) := ⟨fun W => isKnown_any 1 W (by simp)⟩
  have hwr : IntKind.u32.wrap (p.w1 - s.next) = (p.w1 - s.next) % 4294967296 := IntKind.wrap_u32 _
  have hdec : decide (16 ≤ (p.w1 - s.next) % 4294967296) = true := by simp [hfar]
  replace hov := Kpt.mk hov
  replace hop := Kpt.mk hop
  clear h
  go_enter Try.func10, Try.ntmps10
  go_wp2_with (first
    | (go_at_call 20; go_must (refine (hO.out _).mono ?_; rintro e w2 ⟨rfl, hb2⟩; have k2 := Kpt.mk (k1.out.below hb2); have c0 := k2.out.b0.cells 0 (by simp [Pd.v]); have c7 := k2.out.b0.cells 7 (by simp [Pd.v]); simp [Pd.v] at c0 c7; rw [hop.out] at c0; have c11 := (k2.out.ss.cell 11 (by omega)).1; simp only [Se.v, List.getElem?_toArray, List.getElem?_cons_succ, List.getElem?_cons_zero] at c11; have hbw2 := Kpt.mk (hbw1.out.trans (hb2.mono hbw1.out.size)); clear hb2))
    | (go_at_call 22; go_must (refine (hI.out _).mono ?_; rintro e wx ⟨rfl, hwx⟩; rw [hwx]; clear hwx))
    | (refine (?_ : wpList _ _ _ (Oper.mk _ (Op.load 42 _) _ _ _ _ :: _) _ _); go_must (refine wpList_load_bx rfl 42 _ rfl P p.v rfl k1.out.b0 _ Try.underlying42 rfl szPdu ?_; have hm := hov))
    | (refine (?_ : wpList _ _ _ (Oper.mk _ (Op.box 42 _) _ _ _ _ :: _) _ _); go_must (refine wpList_box rfl 42 _ rfl p.v rfl ?_; intro P w1 hP hB hb _; have k1 := Kpt.mk (k0.out.add hb hP hB); have hbw1 := Kpt.mk hb; have c17 := (k1.out.ss.cell 17 (by omega)).1; simp only [Se.v, List.getElem?_toArray, List.getElem?_cons_succ, List.getElem?_cons_zero] at c17; rw [hov.out] at c17; clear hb hP hB)))
  go_ret2
  exact ⟨rfl, hbw2.out⟩

set_option maxRecDepth 100000 in
set_option maxHeartbeats 4000000 in
theorem in_ref (S : Nat) (s : Se) (H O T : List (Array Value)) (p : Pd) (a : Option Addr) (n c : Nat) (w : World) (h : Ss w S s H O T) (hop : p.op = 33 ∨ p.op = 62) (hov : s.over = false) (hda : p.da = .slice a n c) (hnn : n ≤ 100000) (hu : p.all32) (hn : 0 ≤ s.next ∧ s.next < 4294967296) (s' : Se) (hs' : s' = { s with stat := (s.stat + 1) % 4294967296 }) :
    Calls Try.prog 10 #[.pointer (some ⟨S, 0, none⟩), .agg p.v] w fun e w' => ∃ v d zs, e = .returned (.tuple #[v, .slice none 0 0]) ∧ Ss w' S s' H O T ∧ St S w w' s s' ∧ Ou w w' S s' v 42 ((rej 5 d).num s).v ∧ Dt (s'.X S) w' d zs ∧ zs.length = 48 ∧ zs.getD 0 0 = p.op ∧ zs.getD 1 0 = p.fl := by
  have k0 := Kpt.mk (Lo.start h)
  have hO : Kpt (∀ W : World, Calls Try.prog 20 #[.agg p.v] W fun e w' => e = .returned (.int .u8 p.op) ∧ Below W.heap.size W w') := ⟨fun W => by
    have := operation_any p W (by rcases hop with h | h <;> simp [Pd.opk, h])
    rwa [show p.op % 64 = p.op from by rcases hop with h | h <;> rw [h] <;> rfl] at this⟩
  have hI : Kpt (∀ W : World, Calls Try.prog 22 #[.int .u8 p.op] W fun e w' => e = .returned (.bool false) ∧ w' = W) := ⟨fun W => by
    have := isKnown_any p.op W (by rcases hop with h | h <;> simp [h])
    rwa [show decide (p.op ≤ 6) = false from by rcases hop with h | h <;> rw [h] <;> rfl] at this⟩
  have hR : Kpt (∀ W, Ss W S s H O T → Calls Try.prog 23 #[.pointer (some ⟨S, 0, none⟩), .agg p.v, .int .u8 5] W fun e w' => ∃ v d zs, e = .returned v ∧ Ss w' S s' H O T ∧ St S W w' s s' ∧ Ou W w' S s' v 42 ((rej 5 d).num s).v ∧ Dt (s'.X S) w' d zs ∧ zs.length = 48 ∧ zs.getD 0 0 = p.op ∧ zs.getD 1 0 = p.fl) := ⟨fun W h => refuse_any S s H O T p 5 a n c W h hda hnn hu hn s' hs'⟩
  replace hov := Kpt.mk hov
  clear h hs' hu hda
  rcases hop with hop | hop
  all_goals
    have hopK := Kpt.mk hop
    rw [hop] at hO hI
    clear hop
    go_enter Try.func10, Try.ntmps10
    go_wp2_with (first
      | (go_at_call 20; go_must (refine (hO.out _).mono ?_; rintro e w2 ⟨rfl, hb2⟩; have k2 := Kpt.mk (k1.out.below hb2); have c0 := k2.out.b0.cells 0 (by simp [Pd.v]); simp [Pd.v] at c0; rw [hopK.out] at c0; clear hb2))
      | (go_at_call 22; go_must (refine (hI.out _).mono ?_; rintro e wx ⟨rfl, hwx⟩; rw [hwx]; clear hwx))
      | (go_at_call 23; go_must (refine (hR.out _ k2.out.ss).mono ?_; rintro e w3 ⟨v, d, zs, rfl, hs3, ht3, ho3, hd3, hl3, z0, z1⟩; have st3 := Kpt.mk (k2.out.st.trans ht3); have hsz := k2.out.st.fr.size; replace hs3 := Kpt.mk hs3; replace ho3 := Kpt.mk ho3; replace hd3 := Kpt.mk hd3; replace z0 := Kpt.mk z0; replace z1 := Kpt.mk z1; clear ht3))
      | (refine (?_ : wpList _ _ _ (Oper.mk _ (Op.load 42 _) _ _ _ _ :: _) _ _); have m := k2; go_must (refine wpList_load_bx rfl 42 _ rfl P p.v rfl k2.out.b0 _ Try.underlying42 rfl szPdu ?_; clear m))
      | (refine (?_ : wpList _ _ _ (Oper.mk _ (Op.load 42 _) _ _ _ _ :: _) _ _); go_must (refine wpList_load_bx rfl 42 _ rfl P p.v rfl k1.out.b0 _ Try.underlying42 rfl szPdu ?_; have hm := hov))
      | (refine (?_ : wpList _ _ _ (Oper.mk _ (Op.box 42 _) _ _ _ _ :: _) _ _); go_must (refine wpList_box rfl 42 _ rfl p.v rfl ?_; intro P w1 hP hB hb _; have k1 := Kpt.mk (k0.out.add hb hP hB); have c17 := (k1.out.ss.cell 17 (by omega)).1; simp only [Se.v, List.getElem?_toArray, List.getElem?_cons_succ, List.getElem?_cons_zero] at c17; rw [hov.out] at c17; clear hb hP hB)))
    go_ret2
    obtain ⟨b, hv, hb, hh, hx⟩ := ho3.out.at_
    exact ⟨v, d, zs, rfl, hs3.out, st3.out, ⟨b, hv, Nat.le_trans hsz hb, hh, hx⟩, hd3.out, hl3, z0.out, z1.out⟩
end Go.Proofs.Ytdplndlmdhpfaab
