/-
  sess: the answer to SendTargets.
-/
import Derived.Test.YtdplndlmdhpfaabEKya
namespace Go.Proofs.Ytdplndlmdhpfaab
open Go.RowKit
set_option linter.unusedVariables false
set_option linter.unusedSimpArgs false

theorem zPair : (Try.prog.info? 34).map (fun i => i.zero) = some (some (.agg #[.string ⟨#[]⟩, .string ⟨#[]⟩])) := by kernel_rfl
theorem szPr : (Try.prog.info? 34).map (·.size) = some 2 := by kernel_rfl
/-- A name is told. -/
def tellB (d : Bool) (o : ByteArray) : Bool := d || (o.toList == [116])
def tellL (d : Bool) (os : List ByteArray) : List Int := rowsL ((os.filter (tellB d)).map (fun o => (tnB, o)))
theorem tellL_snoc (d : Bool) (os : List ByteArray) (o : ByteArray) : tellL d (os ++ [o]) = if tellB d o then tellL d os ++ rowL (tnB, o) else tellL d os := by
  unfold tellL
  rw [List.filter_append]
  cases h : tellB d o with
  | true => simp [List.filter, h, rows_snoc]
  | false => simp [List.filter, h]
theorem rowsL_le (f : ByteArray → Bool) : ∀ os : List ByteArray, (rowsL ((os.filter f).map (fun o => (tnB, o)))).length ≤ os.length * 12 + (os.map ByteArray.size).sum
  | [] => by simp [rowsL]
  | o :: l => by
    have ih := rowsL_le f l
    have hr : (rowL (tnB, o)).length = 12 + o.size := by rw [rowL_len, tnB_size]; omega
    rw [List.length_cons, List.map_cons, List.sum_cons]
    cases h : f o with
    | true =>
      rw [List.filter_cons_of_pos h, List.map_cons]
      simp only [rowsL, List.map_cons, List.flatten_cons, List.length_append] at ih ⊢
      omega
    | false =>
      rw [List.filter_cons_of_neg (by simp [h])]
      omega
theorem sum_take (os : List ByteArray) (k : Nat) : ((os.take k).map ByteArray.size).sum ≤ (os.map ByteArray.size).sum := by
  have : os.map ByteArray.size = (os.take k).map ByteArray.size ++ (os.drop k).map ByteArray.size := by rw [← List.map_append, List.take_append_drop]
  rw [this, List.sum_append]
  omega
theorem sum_mem (os : List ByteArray) (k : Nat) (o : ByteArray) (h : os[k]? = some o) : o.size ≤ (os.map ByteArray.size).sum := by
  have h1 : os.map ByteArray.size = (os.take k).map ByteArray.size ++ (os.drop k).map ByteArray.size := by rw [← List.map_append, List.take_append_drop]
  obtain ⟨h2, rfl⟩ := List.getElem?_eq_some_iff.1 h
  rw [h1, List.sum_append, List.drop_eq_getElem_cons h2, List.map_cons, List.sum_cons]
  omega
theorem toList_eq {x y : ByteArray} (h : x.toList = y.toList) : x = y := by
  have h1 := ByteArray.toList_eq x
  have h2 := ByteArray.toList_eq y
  rw [h1, h2] at h
  exact ByteArray.ext (Array.ext' h)

set_option maxRecDepth 100000 in
set_option maxHeartbeats 4000000 in
theorem keys_rej_d (S : Nat) (s : Se) (H O T : List (Array Value)) (ask : ByteArray) (a : Option Addr) (n c : Nat) (w : World) (h : Ss w S s H O T) (hE : wrE [(stB, ask)] = 0) (hr : RdAt w (.slice a n c) (rowL (stB, ask))) (hc : c ≤ maxLen) (hd : s.dis = true) (hne : ask ≠ ⟨#[65, 108, 108]⟩) :
    Calls Try.prog 41 #[.pointer (some ⟨S, 0, none⟩), .slice a n c] w fun e w' => ∃ v, e = .returned v ∧ w'.ownsRow w.heap.size 5 1 v 19 (cels (rowL (stB, rjB))) ∧ Below w.heap.size w w' := by
  have hP : Kpt (Calls Try.prog 55 #[.slice a n c] w fun e w' => ∃ g cap, e = .returned (.tuple #[.slice (some ⟨g, 0, none⟩) 1 cap, .int .i64 0]) ∧ 1 ≤ cap ∧ cap ≤ 9223372036854775807 ∧ w'.rangeAt g 0 [.string stB, .string ask] ∧ g < w'.heap.size ∧ Below w.heap.size w w') := ⟨parse_st stB ask hE a n c w hr hc⟩
  have kS := Kpt.mk h
  have hA : Kpt (∀ W : World, w.heap.size ≤ W.heap.size → Calls Try.prog 58 #[.slice none 0 0, .string ⟨#[83, 101, 110, 100, 84, 97, 114, 103, 101, 116, 115]⟩, .string ⟨#[82, 101, 106, 101, 99, 116]⟩] W fun e w' => ∃ v', e = .returned v' ∧ w'.ownsRow w.heap.size 5 1 v' 19 (cels (rowL (stB, rjB))) ∧ W.grownBy w' none) := ⟨fun W hW => by
    refine (appendPair_gen w.heap.size (.slice none 0 0) [] 0 stB rjB W (World.ownsRow_nil _ _ _ _) (by decide) hW).mono ?_
    rintro e w' ⟨v', h1, h2, h3⟩
    exact ⟨v', h1, h2, h3⟩⟩
  have hT : Kpt (∀ W : World, Ss W S s H O T → Calls Try.prog 56 #[.pointer (some ⟨S, 0, none⟩)] W fun e w' => e = .returned (.string ⟨#[65, 108, 108]⟩) ∧ w' = W) := ⟨fun W k => allT_dis S s H O T W k hd⟩
  have ne0 : (ask.toList == [65, 108, 108]) = false := by
    rw [beq_eq_false_iff_ne]
    intro e
    exact hne (toList_eq (e.trans (by rw [ByteArray.toList_eq])))
  have ne2 : decide (ask = ⟨#[65, 108, 108]⟩) = false := decide_eq_false hne
  have lw := Kpt.mk (Nat.le_refl w.heap.size)
  clear h hr hc hE hd hne
  go_enter Try.func41, Try.ntmps41
  go_wp2_with (go_at_call 55; go_must (refine hP.out.mono ?_; rintro e w1 ⟨g, cap, rfl, hcap, hcap2, hrg, hgl, hb1⟩; replace hrg := Kpt.mk hrg; replace hb1 := Kpt.mk hb1))
  go_loopg [7, 21] 1 (fun i r7 r21 wr => Kpt (Below w1.heap.size w1 wr) ∧ ((i = 1 ∧ r7 = .slice none 0 0 ∧ r21 = .int .i64 0) ∨ (i = 0 ∧ r21 = .int .i64 1 ∧ ∃ a c, r7 = .slice a 19 c ∧ Kpt (wr.ownsRow w.heap.size 5 1 (.slice a 19 c) 19 (cels (rowL (stB, rjB)))))))
  case atStart => exact ⟨⟨Below.refl _ _⟩, .inl ⟨rfl, rfl, rfl⟩⟩
  case round =>
    obtain ⟨hbr, ⟨hi, rfl, rfl⟩ | ⟨hi, rfl, a', c', rfl, ho'⟩⟩ := hrel
    · have hrr : Kpt (wr.rangeAt g 0 [.string stB, .string ask]) := ⟨rangeAt_block hrg.out (hbr.out.block g hgl)⟩
      have hc1 : (1 : Int) ≤ cap := by omega
      go_upto_region 9 with (first
        | (refine (?_ : wpList _ _ _ (Oper.mk _ (Op.load 34 _) _ _ _ _ :: _) _ _); go_must (refine wpList_load_mid rfl 34 _ rfl g 0 rfl [.string stB, .string ask] _ hrr.out Try.underlying34 rfl szPr ?_; have hm := hc1))
        | (refine (?_ : wpList _ _ _ (Oper.mk _ (Op.alloc 34) _ _ _ _ :: _) _ _); go_must (refine wpList_var rfl 34 rfl _ zPair ?_; intro Q w3 hQ hB3 hb3; have q3 := Kpt.mk (hbr.out.trans (hb3.mono hbr.out.size)); have x3 := Kpt.mk hB3; have hQn := Kpt.mk (Nat.le_trans hbr.out.size hQ); clear hQ hB3 hb3))
        | (refine (?_ : wpList _ _ _ (Oper.mk _ (Op.store 34 _ _) _ _ _ _ :: _) _ _); go_must (refine wpList_store_bx rfl 34 _ _ rfl Q _ #[.string stB, .string ask] rfl rfl x3.out rfl szPr (by simp [Value.oneCell']) rfl ?_; intro w4 hB4 hg4; have q4 := Kpt.mk (q3.out.grown hg4 q3.out.size (fun q e => by injection e with e; subst e; exact hQn.out)); have x4 := Kpt.mk hB4; clear hB4 hg4)))
      have c0 : w4.cell? ⟨Q, 0, none⟩ = some (.string ⟨#[83, 101, 110, 100, 84, 97, 114, 103, 101, 116, 115]⟩) := x4.out.cells 0 (by simp)
      have c1 : w4.cell? ⟨Q, 1, none⟩ = some (.string ask) := x4.out.cells 1 (by simp)
      have kW : Kpt (∀ m, Ss (w4.drewN m) S s H O T) := ⟨fun m => ((kS.out.below hb1.out).below (q4.out)).drewN m⟩
      go_quiet ((go_at_call 56; exact Calls.quiet_of_same (hT.out _ (kW.out _))))
      have q5 : Kpt (Below w1.heap.size w1 (w4.drewN nq)) := ⟨below_drewN q4.out nq⟩
      have c0' : (w4.drewN nq).cell? ⟨Q, 0, none⟩ = some (.string ⟨#[83, 101, 110, 100, 84, 97, 114, 103, 101, 116, 115]⟩) := c0
      obtain ⟨w5, hw5⟩ : ∃ x, x = w4.drewN nq := ⟨_, rfl⟩
      rw [← hw5] at q5 c0' ⊢
      clear hw5 x3 q3 q4 c0 c1
      go_wp2_with (go_at_call 58; go_must (refine (hA.out _ (Nat.le_trans hb1.out.size q5.out.size)).mono ?_; rintro e w6 ⟨v6, rfl, ho6, hg6⟩; obtain ⟨⟨a6, c6, rfl⟩⟩ := own_slice ho6; have q6 : Kpt (Below w1.heap.size w1 w6) := ⟨q5.out.trans ((below_none hg6).mono q5.out.size)⟩; replace ho6 := Kpt.mk ho6; clear hg6))
      go_roundg 0
      case measure => omega
      case rel => exact ⟨q6, .inr ⟨rfl, by first | rfl | go_num, _, _, rfl, ho6⟩⟩
    · go_wp2
      go_ret
      exact ⟨_, rfl, ho'.out, hb1.out.trans (hbr.out.mono hb1.out.size)⟩

set_option maxRecDepth 100000 in
set_option maxHeartbeats 4000000 in
theorem keys_rej_n (S : Nat) (s : Se) (H O T : List (Array Value)) (ask : ByteArray) (a : Option Addr) (n c : Nat) (w : World) (h : Ss w S s H O T) (hE : wrE [(stB, ask)] = 0) (hr : RdAt w (.slice a n c) (rowL (stB, ask))) (hc : c ≤ maxLen) (hd : s.dis = false) (hne : ask ≠ ⟨#[]⟩) :
    Calls Try.prog 41 #[.pointer (some ⟨S, 0, none⟩), .slice a n c] w fun e w' => ∃ v, e = .returned v ∧ w'.ownsRow w.heap.size 5 1 v 19 (cels (rowL (stB, rjB))) ∧ Below w.heap.size w w' := by
  have hP : Kpt (Calls Try.prog 55 #[.slice a n c] w fun e w' => ∃ g cap, e = .returned (.tuple #[.slice (some ⟨g, 0, none⟩) 1 cap, .int .i64 0]) ∧ 1 ≤ cap ∧ cap ≤ 9223372036854775807 ∧ w'.rangeAt g 0 [.string stB, .string ask] ∧ g < w'.heap.size ∧ Below w.heap.size w w') := ⟨parse_st stB ask hE a n c w hr hc⟩
  have kS := Kpt.mk h
  have hA : Kpt (∀ W : World, w.heap.size ≤ W.heap.size → Calls Try.prog 58 #[.slice none 0 0, .string ⟨#[83, 101, 110, 100, 84, 97, 114, 103, 101, 116, 115]⟩, .string ⟨#[82, 101, 106, 101, 99, 116]⟩] W fun e w' => ∃ v', e = .returned v' ∧ w'.ownsRow w.heap.size 5 1 v' 19 (cels (rowL (stB, rjB))) ∧ W.grownBy w' none) := ⟨fun W hW => by
    refine (appendPair_gen w.heap.size (.slice none 0 0) [] 0 stB rjB W (World.ownsRow_nil _ _ _ _) (by decide) hW).mono ?_
    rintro e w' ⟨v', h1, h2, h3⟩
    exact ⟨v', h1, h2, h3⟩⟩
  have hT : Kpt (∀ W : World, Ss W S s H O T → Calls Try.prog 56 #[.pointer (some ⟨S, 0, none⟩)] W fun e w' => e = .returned (.string ⟨#[]⟩) ∧ w' = W) := ⟨fun W k => allT_one S s H O T W k hd⟩
  have ne0 : (ask.toList == []) = false := by
    rw [beq_eq_false_iff_ne]
    intro e
    exact hne (toList_eq (e.trans (by rw [ByteArray.toList_eq])))
  have ne2 : decide (ask = ⟨#[]⟩) = false := decide_eq_false hne
  have ne3 : ask.toList.isEmpty = false := by simpa using ne0
  have lw := Kpt.mk (Nat.le_refl w.heap.size)
  clear h hr hc hE hd hne
  go_enter Try.func41, Try.ntmps41
  go_wp2_with (go_at_call 55; go_must (refine hP.out.mono ?_; rintro e w1 ⟨g, cap, rfl, hcap, hcap2, hrg, hgl, hb1⟩; replace hrg := Kpt.mk hrg; replace hb1 := Kpt.mk hb1))
  go_loopg [7, 21] 1 (fun i r7 r21 wr => Kpt (Below w1.heap.size w1 wr) ∧ ((i = 1 ∧ r7 = .slice none 0 0 ∧ r21 = .int .i64 0) ∨ (i = 0 ∧ r21 = .int .i64 1 ∧ ∃ a c, r7 = .slice a 19 c ∧ Kpt (wr.ownsRow w.heap.size 5 1 (.slice a 19 c) 19 (cels (rowL (stB, rjB)))))))
  case atStart => exact ⟨⟨Below.refl _ _⟩, .inl ⟨rfl, rfl, rfl⟩⟩
  case round =>
    obtain ⟨hbr, ⟨hi, rfl, rfl⟩ | ⟨hi, rfl, a', c', rfl, ho'⟩⟩ := hrel
    · have hrr : Kpt (wr.rangeAt g 0 [.string stB, .string ask]) := ⟨rangeAt_block hrg.out (hbr.out.block g hgl)⟩
      have hc1 : (1 : Int) ≤ cap := by omega
      go_upto_region 9 with (first
        | (refine (?_ : wpList _ _ _ (Oper.mk _ (Op.load 34 _) _ _ _ _ :: _) _ _); go_must (refine wpList_load_mid rfl 34 _ rfl g 0 rfl [.string stB, .string ask] _ hrr.out Try.underlying34 rfl szPr ?_; have hm := hc1))
        | (refine (?_ : wpList _ _ _ (Oper.mk _ (Op.alloc 34) _ _ _ _ :: _) _ _); go_must (refine wpList_var rfl 34 rfl _ zPair ?_; intro Q w3 hQ hB3 hb3; have q3 := Kpt.mk (hbr.out.trans (hb3.mono hbr.out.size)); have x3 := Kpt.mk hB3; have hQn := Kpt.mk (Nat.le_trans hbr.out.size hQ); clear hQ hB3 hb3))
        | (refine (?_ : wpList _ _ _ (Oper.mk _ (Op.store 34 _ _) _ _ _ _ :: _) _ _); go_must (refine wpList_store_bx rfl 34 _ _ rfl Q _ #[.string stB, .string ask] rfl rfl x3.out rfl szPr (by simp [Value.oneCell']) rfl ?_; intro w4 hB4 hg4; have q4 := Kpt.mk (q3.out.grown hg4 q3.out.size (fun q e => by injection e with e; subst e; exact hQn.out)); have x4 := Kpt.mk hB4; clear hB4 hg4)))
      have c0 : w4.cell? ⟨Q, 0, none⟩ = some (.string ⟨#[83, 101, 110, 100, 84, 97, 114, 103, 101, 116, 115]⟩) := x4.out.cells 0 (by simp)
      have c1 : w4.cell? ⟨Q, 1, none⟩ = some (.string ask) := x4.out.cells 1 (by simp)
      have kW : Kpt (∀ m, Ss (w4.drewN m) S s H O T) := ⟨fun m => ((kS.out.below hb1.out).below (q4.out)).drewN m⟩
      go_quiet ((go_at_call 56; exact Calls.quiet_of_same (hT.out _ (kW.out _))))
      have q5 : Kpt (Below w1.heap.size w1 (w4.drewN nq)) := ⟨below_drewN q4.out nq⟩
      have c0' : (w4.drewN nq).cell? ⟨Q, 0, none⟩ = some (.string ⟨#[83, 101, 110, 100, 84, 97, 114, 103, 101, 116, 115]⟩) := c0
      obtain ⟨w5, hw5⟩ : ∃ x, x = w4.drewN nq := ⟨_, rfl⟩
      rw [← hw5] at q5 c0' ⊢
      clear hw5 x3 q3 q4 c0 c1
      go_wp2_with (go_at_call 58; go_must (refine (hA.out _ (Nat.le_trans hb1.out.size q5.out.size)).mono ?_; rintro e w6 ⟨v6, rfl, ho6, hg6⟩; obtain ⟨⟨a6, c6, rfl⟩⟩ := own_slice ho6; have q6 : Kpt (Below w1.heap.size w1 w6) := ⟨q5.out.trans ((below_none hg6).mono q5.out.size)⟩; replace ho6 := Kpt.mk ho6; clear hg6))
      go_roundg 0
      case measure => omega
      case rel => exact ⟨q6, .inr ⟨rfl, by first | rfl | go_num, _, _, rfl, ho6⟩⟩
    · go_wp2
      go_ret
      exact ⟨_, rfl, ho'.out, hb1.out.trans (hbr.out.mono hb1.out.size)⟩
end Go.Proofs.Ytdplndlmdhpfaab
