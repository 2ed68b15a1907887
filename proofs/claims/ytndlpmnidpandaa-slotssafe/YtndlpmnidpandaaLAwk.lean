/-
  Slots: awake.
-/
import Derived.Test.YtndlpmnidpandaaLTop
namespace Go.Proofs.Ytndlpmnidpandaa
open Go.RowKit
set_option linter.unusedVariables false
set_option linter.unusedSimpArgs false

theorem Sp.bel {w w' : World} {S n : Nat} {tag tag' : Tags} (s : Sp w w' S tag tag') (hn : n ≤ w.heap.size) (ht : ∀ i, i < n → tag i = none) (hS : n ≤ S) : Below n w w' :=
  ⟨s.os, s.tape, s.output, s.size, fun i hi => s.block i (by omega) (ht i hi) (by omega)⟩
theorem rd_one (w : World) (x : Int) : RdAt (w.alloc (.cells #[.int .u8 x] 5 (1, 2))) (.slice (some ⟨w.heap.size, 0, none⟩) 1 1) [x] := by
  refine ⟨_, _, rfl, by simp, by simp, .inr ⟨_, _, rfl, fun j u hu => ?_⟩⟩
  have hh := heap_alloc_new w (.cells #[.int .u8 x] 5 (1, 2))
  simp only [World.cell?, hh]
  simpa [cels] using hu
theorem str97 : strOfNums [97] = ⟨#[97]⟩ := rfl
theorem size_k : (⟨#[107]⟩ : ByteArray).size = 1 := rfl

set_option maxRecDepth 100000 in
set_option maxHeartbeats 1000000 in
theorem awake_any (w : World) : Calls Try.prog 7 #[] w fun e w' => e = .returned (.bool true) ∧ Below w.heap.size w w' := by
  have HN := Kpt.mk (new_any w)
  have HO : Kpt (∀ W B tag st, Wd W B tag st → Calls Try.prog 13 #[.pointer (some ⟨B, 0, none⟩), .string ⟨#[107]⟩] W fun e w' => ∃ S, e = .returned (.tuple #[.pointer (some ⟨S, 0, none⟩), .int .i64 0]) ∧ Wd w' B tag st ∧ Sl w' S B tag ⟨#[107]⟩ false 0 0 ∧ W.heap.size ≤ S ∧ Below W.heap.size W w') := ⟨fun W B tag st h => open_h B ⟨#[107]⟩ tag st W h (by rw [size_k]; omega) (by rw [size_k]; omega)⟩
  have HS : Kpt (∀ W S B tag st x, Wd W B tag st → Sl W S B tag ⟨#[107]⟩ false 0 0 → st = st0 → RdAt W (.slice (some ⟨x, 0, none⟩) 1 1) [97] → tag x = none → x ≠ S → Calls Try.prog 17 #[.pointer (some ⟨S, 0, none⟩), .slice (some ⟨x, 0, none⟩) 1 1] W fun e w' => e = .returned (.tuple #[.int .u64 1, .int .i64 0]) ∧
      ∃ tag' st', Wd w' B tag' st' ∧ Ok st' ⟨#[107]⟩ 1 [97] ∧ st'.cnt ≤ 6 ∧ Sp W w' S tag tag' ∧ Sl w' S B tag' ⟨#[107]⟩ true 1 1) := ⟨fun W S B tag st x hW hS hst hrd ht hx => by
    subst hst
    have := save_h S B ⟨#[107]⟩ false 0 0 tag st0 W hS hW (by simp [st0]) (by rw [size_k]; omega) (by rw [size_k]; omega) 0 [] (ok_st0 _) (by omega) ⟨by simp⟩ (some ⟨x, 0, none⟩) 1 1 [97] hrd rfl (by omega) (bytes_mem (by simp)) (fun _ q hq => by simp [Value.ownBlock] at hq; subst hq; exact ⟨ht, hx⟩)
    simpa [st0] using this⟩
  have HL : Kpt (∀ W S B tag st, Wd W B tag st → Sl W S B tag ⟨#[107]⟩ true 1 1 → Ok st ⟨#[107]⟩ 1 [97] → st.cnt ≤ 6 → Calls Try.prog 19 #[.pointer (some ⟨S, 0, none⟩)] W fun e w' => ∃ a c, e = .returned (.tuple #[.slice a 1 c, .int .u64 1, .int .i64 0]) ∧ Row w' (.slice a 1 c) [97] ∧ Sp W w' S tag tag) := ⟨fun W S B tag st hW hS hO hc => by
    refine (load_h S B ⟨#[107]⟩ true 1 1 tag st W hS hW (by omega) (by rw [size_k]; omega) (by rw [size_k]; omega) 1 [97] hO (Nat.le_refl _)).mono ?_
    rintro e w' ⟨a, c, rfl, hr, _, _, hs, _⟩
    exact ⟨a, c, rfl, hr, hs⟩⟩
  have kc := fun (w : World) (C : Array Value) (n c : Nat) => Lib.run_convert_bytes_const (P := Try.prog) w 23 5 C n c Try.underlying23 Try.underlying5
  go_enter Try.func7, Try.ntmps7
  go_wp2_with (first
    | (go_at_call 19; go_must (refine (HL.out _ S B tag3 st3 hw3.out hS3.out hO3.out hc3).mono ?_; rintro e w4 ⟨a4, c4, rfl, hr4, hs4⟩; have hcv := conv_rd w4 _ [97] hr4.rd; rw [str97] at hcv; have hb4 := Kpt.mk (hb3.out.trans (hs4.bel hb3.out.size ht3 hSw)); clear hs4 hr4 HL))
    | (go_at_call 17; go_must (refine (HS.out _ S B tag1 st0 _ (hw2.out.below hBx) (hS2.out.below hBx) rfl (rd_one _ _) (wd_none hw2.out (Nat.le_refl _)) (by have := hS2.out.bx.lt; omega)).mono ?_; rintro e w3 ⟨rfl, tag3, st3, hw3, hO3, hc3, hs3, hS3⟩; have hb3 := Kpt.mk ((hb2.out.trans (hBx.mono hb2.out.size)).trans (hs3.bel (Nat.le_trans hb2.out.size hBx.size) ht1 hSw)); have ht3 : ∀ i, i < w.heap.size → tag3 i = none := (fun i hi => hs3.bare i (Nat.lt_of_lt_of_le hi (Nat.le_trans hb2.out.size hBx.size)) (ht1 i hi)); replace hw3 := Kpt.mk hw3; replace hO3 := Kpt.mk hO3; replace hS3 := Kpt.mk hS3; clear HS))
    | (go_at_call 13; go_must (refine (HO.out _ B tag1 st0 hw1.out).mono ?_; rintro e w2 ⟨S, rfl, hw2, hS2, hSl, hb2⟩; replace hw2 := Kpt.mk hw2; replace hS2 := Kpt.mk hS2; have hSw : w.heap.size ≤ S := Nat.le_trans hb1.out.size hSl; replace hb2 := Kpt.mk (hb1.out.trans (hb2.mono hb1.out.size)); have hBx : Below w2.heap.size w2 (w2.alloc (.cells #[.int .u8 97] 5 (1, 2))) := (Below.refl _ _).alloc (Nat.le_refl _) _; clear HO))
    | (go_at_call 12; go_must (refine HN.out.mono ?_; rintro e w1 ⟨B, tag1, rfl, hw1, hg1, ht1⟩; replace hw1 := Kpt.mk hw1; have hb1 : Kpt (Below w.heap.size w w1) := ⟨(Below.refl _ _).grown hg1 (Nat.le_refl _) (fun k h => by cases h)⟩; clear hg1 HN)))
  go_ret
  exact ⟨rfl, hb4.out⟩
end Go.Proofs.Ytndlpmnidpandaa
