/-
  sess: In of data.
-/
import Derived.Test.YtdplndlmdhpfaaaEWdt
import Derived.Test.YtdplndlmdhpfaaaEWdi
import Derived.Test.YtdplndlmdhpfaaaERdi
namespace Go.Proofs.Ytdplndlmdhpfaaa
open Go.RowKit
set_option linter.unusedVariables false
set_option linter.unusedSimpArgs false

theorem Wst.below {base : Nat} {W W' : World} {S : Nat} {s : Se} {O : List (Array Value)} {r : Wr} {xs : List Int} (h : Wst base W S s O r xs) (hb : Below W.heap.size W W') : Wst base W' S s O r xs := ⟨h.ss.below hb, h.od.below hb, h.cdb, h.bs⟩

set_option maxRecDepth 100000 in
set_option maxHeartbeats 4000000 in
theorem in_dat (base S : Nat) (s : Se) (H O T : List (Array Value)) (p : Pd) (Q : World → Value → Value → Prop) (w : World) (h : Ss w S s H O T) (hbw : base ≤ w.heap.size) (hop : p.op = 5) (hov : s.over = false)
    (HT : ∀ W, Below w.heap.size w W → Calls Try.prog 21 #[.pointer (some ⟨S, 0, none⟩), .agg p.v] W fun e w' => ∃ v u, e = .returned (.tuple #[v, u]) ∧ Below base W w' ∧ Q w' v u) :
    Calls Try.prog 11 #[.pointer (some ⟨S, 0, none⟩), .agg p.v] w fun e w' => ∃ v u, e = .returned (.tuple #[v, u]) ∧ Below base w w' ∧ Q w' v u := by
  have hO : Kpt (∀ W : World, Calls Try.prog 20 #[.agg p.v] W fun e w' => e = .returned (.int .u8 5) ∧ Below W.heap.size W w') := ⟨fun W => by
    have := operation_any p W (by simp [Pd.opk, hop])
    rwa [show p.op % 64 = 5 from by rw [hop]; rfl] at this⟩
  have hD := Kpt.mk HT
  have hK := Kpt.mk h
  replace hov := Kpt.mk hov
  clear h hop HT
  go_enter Try.func11, Try.ntmps11
  go_wp2_with (first
    | (go_at_call 20; go_must (refine (hO.out _).mono ?_; rintro e w2 ⟨rfl, hb2⟩; have q2 := Kpt.mk (hb1.out.trans (hb2.mono hb1.out.size)); have b2 := Kpt.mk (hB.out.below hb2 hB.out.lt); clear hb2))
    | (go_at_call 21; go_must (refine (hD.out _ q2.out).mono ?_; rintro e w3 ⟨v, u, rfl, hb3, hq⟩; have q3 := Kpt.mk ((q2.out.mono hbw).trans hb3); replace hq := Kpt.mk hq; clear hb3))
    | (refine (?_ : wpList _ _ _ (Oper.mk _ (Op.load 37 _) _ _ _ _ :: _) _ _); have m := b2; go_must (refine wpList_load_bx rfl 37 _ rfl P p.v rfl b2.out _ Try.underlying37 rfl szPdu ?_; clear m))
    | (refine (?_ : wpList _ _ _ (Oper.mk _ (Op.load 37 _) _ _ _ _ :: _) _ _); go_must (refine wpList_load_bx rfl 37 _ rfl P p.v rfl hB.out _ Try.underlying37 rfl szPdu ?_; have hm := hov))
    | (refine (?_ : wpList _ _ _ (Oper.mk _ (Op.box 37 _) _ _ _ _ :: _) _ _); go_must (refine wpList_box rfl 37 _ rfl p.v rfl ?_; intro P w1 hP hB' hb _; have hb1 := Kpt.mk hb; have hB := Kpt.mk hB'; have c17 := ((hK.out.below hb).cell 17 (by omega)).1; simp only [Se.v, List.getElem?_toArray, List.getElem?_cons_succ, List.getElem?_cons_zero] at c17; rw [hov.out] at c17; clear hb hP hB')))
  try rw [Exit.noGoto_ret]
  refine bodyPost_ret (v := .tuple #[v, u]) (by simp [results, Try.results11, asAddr, Act.put]) rfl ?_
  exact ⟨v, u, rfl, q3.out, hq.out⟩
end Go.Proofs.Ytdplndlmdhpfaaa
