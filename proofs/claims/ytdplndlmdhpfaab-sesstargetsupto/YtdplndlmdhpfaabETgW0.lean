/-
  sess: SessTargets' walk.
-/
import Derived.Test.YtdplndlmdhpfaabETgQ
namespace Go.Proofs.Ytdplndlmdhpfaab
open Go.RowKit
set_option linter.unusedVariables false
set_option linter.unusedSimpArgs false

/-- What stands while the answer is looked at. -/
structure TgL (w W : World) (g : Nat) (v : Value) (L : List Int) (a : Option Addr) (n c : Nat) (os : List ByteArray) (S : Nat) (s3 : Se) : Prop where
  ss : Ss W S s3 [] [] []
  bel : Below w.heap.size w W
  c13 : W.cell? ⟨g, 13, none⟩ = some v
  rd : RdAt W v L
  st : StAt W (.slice a n c) os
theorem TgL.drewN {w W : World} {g : Nat} {v : Value} {L : List Int} {a : Option Addr} {n c : Nat} {os : List ByteArray} {S : Nat} {s3 : Se} (h : TgL w W g v L a n c os S s3) (m : Nat) : TgL w (W.drewN m) g v L a n c os S s3 :=
  ⟨h.ss.drewN m, below_drewN h.bel m, h.c13, h.rd.of_block (fun _ _ => rfl), h.st.of_block (Nat.le_refl _) (fun _ _ _ => rfl)⟩
theorem rej_str : strOfNums (rowL (stB, rjB)) = ⟨#[83, 101, 110, 100, 84, 97, 114, 103, 101, 116, 115, 61, 82, 101, 106, 101, 99, 116, 0]⟩ := by
  rw [← row_str, str_nums]
  decide +kernel
theorem nums_want (X o : ByteArray) (d : Bool) (os : List ByteArray) (h : nums X = tellL d os) : nums (X ++ (⟨#[84, 97, 114, 103, 101, 116, 78, 97, 109, 101, 61]⟩ ++ o ++ ⟨#[0]⟩)) = tellL d os ++ rowL (tnB, o) := by
  rw [nums_app, nums_app, nums_app, h]
  have e1 : nums ⟨#[84, 97, 114, 103, 101, 116, 78, 97, 109, 101, 61]⟩ = nums tnB ++ [61] := by decide +kernel
  have e2 : nums ⟨#[0]⟩ = [0] := by decide +kernel
  rw [e1, e2]
  rfl

set_option maxRecDepth 100000 in
set_option maxHeartbeats 4000000 in
theorem tg_bad (d : Bool) (ask : ByteArray) (a : Option Addr) (n c : Nat) (os : List ByteArray) (w : World) (hst : StAt w (.slice a n c) os) (hca : a = none → c = 0) (hsum : (os.map ByteArray.size).sum + n + ask.size ≤ 1048576) (hE : ¬ wrE [(stB, ask)] = 0) :
    Calls Try.prog 3 #[.slice a n c, .bool d, .string ask] w fun e w' => e = .returned (.bool true) ∧ Below w.heap.size w w' := by
  have hA : Kpt (∀ W : World, Calls Try.prog 6 #[] W fun e w' => e = .returned (.bool true) ∧ Below W.heap.size W w') := ⟨awake_any⟩
  have hP : Kpt (∀ W : World, Calls Try.prog 7 #[] W fun e w' => e = .returned (.agg plainS.prm) ∧ Below W.heap.size W w') := ⟨plain_any⟩
  have hN : Kpt (∀ W : World, Below w.heap.size w W → Calls Try.prog 8 #[.agg (plD d).prm, .slice a n c, .int .u32 1] W fun e w' => (∃ S a' c', e = .returned (.pointer (some ⟨S, 0, none⟩)) ∧ W.heap.size ≤ S ∧ Ss w' S ((plD d).newT 1 (.slice a' n c')) [] [] [] ∧ StAt w' (.slice a' n c') os ∧ c' ≤ maxLen ∧ ∀ x, a' = some x → x.block ≠ S ∧ x.block < w'.heap.size) ∧ Below W.heap.size W w') := ⟨fun W hb => new_str (plD d) 1 a n c os W (hst.bel hb) hca (by omega)⟩
  have hW : Kpt (∀ W b, Bx W b #[.string stB, .string ask] → Calls Try.prog 9 #[.slice (some ⟨b, 0, none⟩) 1 1] W fun e w' => ∃ va n vc, e = .returned (.tuple #[.slice va n vc, .int .i64 (wrE [(stB, ask)])]) ∧ Below W.heap.size W w') := ⟨fun W b h => write_bad ask (by unfold maxLen; omega) b W h⟩
  obtain ⟨E, hEE⟩ : ∃ E, E = wrE [(stB, ask)] := ⟨_, rfl⟩
  rw [← hEE] at hW hE
  have hn1 := hsum
  clear hst hca hsum hEE
  go_enter Try.func3, Try.ntmps3
  go_wp2_with (first
    | (go_at_call 9; go_must (refine (hW.out _ _ hB6.out).mono ?_; rintro e w7 ⟨va, vn, vc, rfl, hb7'⟩; have hb7 := Kpt.mk (hb6.out.trans (hb7'.mono hb6.out.size)); clear hb7'))
    | (refine (?_ : wpList _ _ _ (Oper.mk _ (Op.buildSlice 35 _ _) _ _ _ _ :: _) _ _); go_must (refine wpList_build1 rfl 35 34 2 32 _ Try.underlying35 infoPr (by decide) (by decide) _ rfl #[.string stB, .string ask] rfl rfl ?_; intro B w6 hB6l hB6 hb6' _; have hb6 := Kpt.mk (hb5.out.trans (hb6'.mono hb5.out.size)); have kS6 := Kpt.mk (hS.out.below hb6'); have kt6 := Kpt.mk (hts.out.bel hb6'); replace hB6 := Kpt.mk hB6; clear hb6' hB6l))
    | (go_at_call 8; go_must (refine (hN.out _ hb4.out).mono ?_; rintro e w5 ⟨⟨S, ta, tc, rfl, hSl, hS, hts, htcm, hoff⟩, hb5'⟩; have hb5 := Kpt.mk (hb4.out.trans (hb5'.mono hb4.out.size)); have hSw := Kpt.mk (Nat.le_trans hb4.out.size hSl); replace hS := Kpt.mk hS; replace hts := Kpt.mk hts; replace htcm := Kpt.mk htcm; replace hoff := Kpt.mk hoff; clear hb5' hSl))
    | (go_at_call 6; go_must (refine (hA.out _).mono ?_; rintro e w1 ⟨rfl, hb1⟩; replace hb1 := Kpt.mk hb1))
    | (go_at_call 7; go_must (refine (hP.out _).mono ?_; rintro e w2 ⟨rfl, hb2'⟩; have hb2 := Kpt.mk (hb1.out.trans (hb2'.mono hb1.out.size)); clear hb2'))
    | (refine (?_ : wpList _ _ _ (Oper.mk _ (Op.load 25 _) _ _ _ _ :: _) _ _); go_must (refine wpList_load_bx rfl 25 _ rfl R (plD d).prm rfl hB4.out _ Try.underlying25 rfl szPrm ?_; have hm := hn1))
    | (refine (?_ : wpList _ _ _ (Oper.mk _ (Op.store 25 _ _) _ _ _ _ :: _) _ _); go_must (refine wpList_store_bx rfl 25 _ _ rfl R _ plainS.prm rfl rfl hB3.out rfl szPrm (by simp [Se.prm, plainS, Value.oneCell']) rfl ?_; intro w4 hBx hgx; have hb3x := Kpt.mk (hb3.out.grown hgx hb3.out.size (fun q e => by injection e with e; subst e; exact hRw.out)); have c2 := hBx.cells 2 (by simp [Se.prm]); have f2 := hBx.free 2; simp [Se.prm, plainS] at c2; have hB4 : Kpt (Bx (w4.setCell ⟨R, 2, none⟩ (.bool d)) R (plD d).prm) := ⟨by have := bx_setC (.bool d) hBx (j := 2) (by simp [Se.prm]); simpa [Se.prm, plainS, plD] using this⟩; have hb4 : Kpt (Below w.heap.size w (w4.setCell ⟨R, 2, none⟩ (.bool d))) := ⟨hb3x.out.setCell (p := ⟨R, 2, none⟩) hRw.out _⟩; clear hBx hgx))
    | (refine (?_ : wpList _ _ _ (Oper.mk _ (Op.alloc 25) _ _ _ _ :: _) _ _); go_must (refine wpList_var rfl 25 rfl _ zPrm ?_; intro R w3 hR hBq hbq; have hb3 := Kpt.mk (hb2.out.trans (hbq.mono hb2.out.size)); have hB3 := Kpt.mk hBq; have hRw := Kpt.mk (Nat.le_trans hb2.out.size hR); clear hR hBq hbq)))
  go_ret
  exact ⟨rfl, hb7.out⟩
end Go.Proofs.Ytdplndlmdhpfaab
