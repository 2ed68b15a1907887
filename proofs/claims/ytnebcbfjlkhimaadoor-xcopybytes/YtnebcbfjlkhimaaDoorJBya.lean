/-
  Bytes.
-/
import Derived.Test.YtnebcbfjlkhimaaDoorJFor
namespace Go.Proofs.YtnebcbfjlkhimaaDoor
open Go.RowKit
set_option linter.unusedVariables false
set_option linter.unusedSimpArgs false
theorem wp_made {w : World} {o : Oper} {a : Act} {K : Act → World → Prop} {Q : Exit → Act → World → Prop} (l c : Operand) (ho : o.op = .makeSlice 22 l c) (n : Nat) (hl : a.eval l = .int .i64 n) (hc : a.eval c = .int .i64 n) (hn : n ≤ 100000)
    (h : ∀ g w', w.heap.size ≤ g → w'.ownsRow w.heap.size 5 1 (.slice (some ⟨g, 0, none⟩) n n) n (cels (List.replicate n 0)) → Below w.heap.size w w' → K (a.put o.dst (.slice (some ⟨g, 0, none⟩) n n)) w') : o.wp Tryd.prog a w K Q := by
  obtain ⟨i0, hi0, hz0, hz1, hz2⟩ := info_parts Tryd.info5
  obtain ⟨w', hrun, r1, r2⟩ := run_make_full (P := Tryd.prog) w w.heap.size 22 5 i0 (.int .u8 0) 1 Tryd.underlying22 hi0 hz0 hz1 .i64 .i64 n (by rw [hz2]; omega) (by unfold maxLen; omega) (Nat.le_refl _)
  unfold Oper.wp
  simp [execOp, ho, hl, hc, hrun, Result.andThen]
  rw [made_u8] at r1
  exact h _ _ (Nat.le_refl _) r1 ((Below.refl _ _).grown r2 (Nat.le_refl _) (fun k h => by cases h))
theorem own_bel {w w' : World} {b n : Nat} {v : Value} {zs : List Value} (h : w.ownsRow b 5 1 v n zs) (hb : Below w.heap.size w w') : w'.ownsRow b 5 1 v n zs := own_of_block h (fun g hg => hb.block g (World.ownsRow.lt h g hg).2)
theorem head_is (u s : Nat) : over (over (List.replicate 16 0) 2 (bigB ((32 * u : Nat) : Int) 2)) 8 (bigB ((28 * s : Nat) : Int) 4) = headB u s := by
  obtain ⟨a, b, ha⟩ : ∃ a b, bigB ((32 * u : Nat) : Int) 2 = [a, b] := ⟨_, _, rfl⟩
  obtain ⟨c, d, e, f, hc⟩ : ∃ c d e f, bigB ((28 * s : Nat) : Int) 4 = [c, d, e, f] := ⟨_, _, _, _, rfl⟩
  rw [headB, ha, hc]
  rfl
set_option maxRecDepth 100000 in
set_option maxHeartbeats 1000000 in
theorem by_long (ua sa : Option Addr) (un uc sn sc : Nat) (w : World) (h : 8 < un ∨ 8 < sn) :
    Calls Tryd.prog 10 #[.agg (lsV (.slice ua un uc) (.slice sa sn sc))] w fun e w' => e = .returned (.tuple #[.slice none 0 0, .int .i64 2]) ∧ Below w.heap.size w w' := by
  have hb := Kpt.mk (Below.refl w.heap.size w)
  by_cases hu : 8 < un
  · have huI : (8 : Int) < un := by omega
    clear h
    go_enter Tryd.func10, Tryd.ntmps10
    go_wp2_with (first
        | (refine wpList_box rfl 27 _ rfl (lsV (.slice ua un uc) (.slice sa sn sc)) rfl ?_; intro ba w_a hl_ hX_ h_ _; have la := Kpt.mk (Nat.le_trans hb.out.size hl_); replace hb := Kpt.mk (hb.out.trans (h_.mono hb.out.size)); have Oa := Kpt.mk hX_; have ca0 := ls_c0 Oa.out; have ca1 := ls_c1 Oa.out; clear hl_ hX_ h_; have m1 : Kpt True := ⟨trivial⟩)
        | fail)
    go_ret2
    exact ⟨rfl, hb.out⟩
  · have huI : ¬ (8 : Int) < un := by omega
    have hsI : (8 : Int) < sn := by omega
    clear h
    go_enter Tryd.func10, Tryd.ntmps10
    go_wp2_with (first
        | (refine wpList_box rfl 27 _ rfl (lsV (.slice ua un uc) (.slice sa sn sc)) rfl ?_; intro ba w_a hl_ hX_ h_ _; have la := Kpt.mk (Nat.le_trans hb.out.size hl_); replace hb := Kpt.mk (hb.out.trans (h_.mono hb.out.size)); have Oa := Kpt.mk hX_; have ca0 := ls_c0 Oa.out; have ca1 := ls_c1 Oa.out; clear hl_ hX_ h_; have m1 : Kpt True := ⟨trivial⟩)
        | fail)
    go_ret2
    exact ⟨rfl, hb.out⟩
set_option maxRecDepth 100000 in
set_option maxHeartbeats 1000000 in
theorem by_form (ua sa : Option Addr) (un uc sn sc : Nat) (us : List ByteArray) (ss : List Sg) (w : World) (h1 : Ro 1 w (.slice ua un uc) (us.map sZ)) (h2 : Ro 5 w (.slice sa sn sc) (ss.map Sg.vals)) (hu8 : un ≤ 8) (hs8 : sn ≤ 8) (hf : ¬ ((∀ S ∈ us, Ser (nums S)) ∧ ∀ g ∈ ss, Seg un g)) :
    Calls Tryd.prog 10 #[.agg (lsV (.slice ua un uc) (.slice sa sn sc))] w fun e w' => e = .returned (.tuple #[.slice none 0 0, .int .i64 3]) ∧ Below w.heap.size w w' := by
  have hF : Kpt (∀ W, Below w.heap.size w W → Calls Tryd.prog 21 #[.agg (lsV (.slice ua un uc) (.slice sa sn sc))] W fun e w' => e = .returned (.bool false) ∧ Below W.heap.size W w') := ⟨fun W hb => formed_any ua sa un uc sn sc us ss W (h1.bel hb) (h2.bel hb) hu8 hs8 false (by simpa using hf)⟩
  have huI : ¬ (8 : Int) < un := by omega
  have hsI : ¬ (8 : Int) < sn := by omega
  clear h1 h2 hf
  have hb := Kpt.mk (Below.refl w.heap.size w)
  go_enter Tryd.func10, Tryd.ntmps10
  go_wp2_with (first
      | (go_at_call 21; have hm := m1; go_must (refine (hF.out _ hb.out).mono ?_; rintro e w_ ⟨rfl, h_⟩; replace Oa := Kpt.mk (Oa.out.below h_ Oa.out.lt); replace hb := Kpt.mk (hb.out.trans (h_.mono hb.out.size)); replace ca0 := ls_c0 Oa.out; replace ca1 := ls_c1 Oa.out; clear h_; clear hm m1; have m2 : Kpt True := ⟨trivial⟩))
      | (refine wpList_box rfl 27 _ rfl (lsV (.slice ua un uc) (.slice sa sn sc)) rfl ?_; intro ba w_a hl_ hX_ h_ _; have la := Kpt.mk (Nat.le_trans hb.out.size hl_); replace hb := Kpt.mk (hb.out.trans (h_.mono hb.out.size)); have Oa := Kpt.mk hX_; have ca0 := ls_c0 Oa.out; have ca1 := ls_c1 Oa.out; clear hl_ hX_ h_; have m1 : Kpt True := ⟨trivial⟩)
      | (refine wpList_load_bx rfl 27 _ rfl ba (lsV (.slice ua un uc) (.slice sa sn sc)) rfl Oa.out _ Tryd.underlying27 rfl infoL ?_)
      | fail)
  go_ret2
  exact ⟨rfl, hb.out⟩
end Go.Proofs.YtnebcbfjlkhimaaDoor
