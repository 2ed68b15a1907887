/-
  sess: do, of a ping and of a command.
-/
import Derived.Test.YtdplndlmdhpfaabETak
namespace Go.Proofs.Ytdplndlmdhpfaab
open Go.RowKit
set_option linter.unusedVariables false
set_option linter.unusedSimpArgs false

set_option maxRecDepth 100000 in
set_option maxHeartbeats 4000000 in
theorem do_nop (S : Nat) (s : Se) (H O T : List (Array Value)) (p : Pd) (R : Value → World → World → Prop) (w : World) (h : Ss w S s H O T) (hop : p.op = 0 ∨ p.op = 64)
    (HN : ∀ W, Below w.heap.size w W → Calls Try.prog 40 #[.pointer (some ⟨S, 0, none⟩), .agg p.v] W fun e w' => ∃ v, e = .returned v ∧ R v W w') :
    Calls Try.prog 24 #[.pointer (some ⟨S, 0, none⟩), .agg p.v] w fun e w' => ∃ v W, e = .returned (.tuple #[v, .slice none 0 0]) ∧ Below w.heap.size w W ∧ R v W w' := by
  have hO : Kpt (∀ W : World, Calls Try.prog 20 #[.agg p.v] W fun e w' => e = .returned (.int .u8 0) ∧ Below W.heap.size W w') := ⟨fun W => by
    have := operation_any p W (by rcases hop with h | h <;> simp [Pd.opk, h])
    rwa [show p.op % 64 = 0 from by rcases hop with h | h <;> rw [h] <;> rfl] at this⟩
  replace HN := Kpt.mk HN
  clear hop
  go_enter Try.func24, Try.ntmps24
  go_wp2_with (first
    | (go_at_call 20; go_must (refine (hO.out _).mono ?_; rintro e w2 ⟨rfl, hb2⟩; have hB2 := Kpt.mk (hB.out.below hb2 hB.out.lt); have hbw2 := Kpt.mk (hb.out.trans (hb2.mono hb.out.size)); clear hb2))
    | (go_at_call 40; go_must (refine (HN.out _ hbw2.out).mono ?_; rintro e w3 ⟨v, rfl, hR⟩; replace hR := Kpt.mk hR))
    | (refine (?_ : wpList _ _ _ (Oper.mk _ (Op.load 42 _) _ _ _ _ :: _) _ _); have m := hB2; go_must (refine wpList_load_bx rfl 42 _ rfl P p.v rfl hB2.out _ Try.underlying42 rfl szPdu ?_; clear m))
    | (refine (?_ : wpList _ _ _ (Oper.mk _ (Op.load 42 _) _ _ _ _ :: _) _ _); go_must (refine wpList_load_bx rfl 42 _ rfl P p.v rfl hB.out _ Try.underlying42 rfl szPdu ?_; have hm := hb))
    | (refine (?_ : wpList _ _ _ (Oper.mk _ (Op.box 42 _) _ _ _ _ :: _) _ _); go_must (refine wpList_box rfl 42 _ rfl p.v rfl ?_; intro P w1 hP hB hb _; replace hB := Kpt.mk hB; replace hb := Kpt.mk hb; clear hP)))
  go_ret2
  exact ⟨v, w2, rfl, hbw2.out, hR.out⟩

set_option maxRecDepth 100000 in
set_option maxHeartbeats 4000000 in
theorem do_beg (S : Nat) (s : Se) (H O T : List (Array Value)) (p : Pd) (R : Value → Value → World → World → Prop) (w : World) (h : Ss w S s H O T) (hop : p.op = 1)
    (HN : ∀ W, Below w.heap.size w W → Calls Try.prog 43 #[.pointer (some ⟨S, 0, none⟩), .agg p.v] W fun e w' => ∃ v u, e = .returned (.tuple #[v, u]) ∧ R v u W w') :
    Calls Try.prog 24 #[.pointer (some ⟨S, 0, none⟩), .agg p.v] w fun e w' => ∃ v u W, e = .returned (.tuple #[v, u]) ∧ Below w.heap.size w W ∧ R v u W w' := by
  have hO : Kpt (∀ W : World, Calls Try.prog 20 #[.agg p.v] W fun e w' => e = .returned (.int .u8 1) ∧ Below W.heap.size W w') := ⟨fun W => by
    have := operation_any p W (by simp [Pd.opk, hop])
    rwa [show p.op % 64 = 1 from by rw [hop]; rfl] at this⟩
  replace HN := Kpt.mk HN
  clear hop
  go_enter Try.func24, Try.ntmps24
  go_wp2_with (first
    | (go_at_call 20; go_must (refine (hO.out _).mono ?_; rintro e w2 ⟨rfl, hb2⟩; have hB2 := Kpt.mk (hB.out.below hb2 hB.out.lt); have hbw2 := Kpt.mk (hb.out.trans (hb2.mono hb.out.size)); clear hb2))
    | (go_at_call 43; go_must (refine (HN.out _ hbw2.out).mono ?_; rintro e w3 ⟨v, u, rfl, hR⟩; replace hR := Kpt.mk hR))
    | (refine (?_ : wpList _ _ _ (Oper.mk _ (Op.load 42 _) _ _ _ _ :: _) _ _); have m := hB2; go_must (refine wpList_load_bx rfl 42 _ rfl P p.v rfl hB2.out _ Try.underlying42 rfl szPdu ?_; clear m))
    | (refine (?_ : wpList _ _ _ (Oper.mk _ (Op.load 42 _) _ _ _ _ :: _) _ _); go_must (refine wpList_load_bx rfl 42 _ rfl P p.v rfl hB.out _ Try.underlying42 rfl szPdu ?_; have hm := hb))
    | (refine (?_ : wpList _ _ _ (Oper.mk _ (Op.box 42 _) _ _ _ _ :: _) _ _); go_must (refine wpList_box rfl 42 _ rfl p.v rfl ?_; intro P w1 hP hB hb _; replace hB := Kpt.mk hB; replace hb := Kpt.mk hb; clear hP)))
  go_ret2
  exact ⟨v, u, w2, rfl, hbw2.out, hR.out⟩
end Go.Proofs.Ytdplndlmdhpfaab
