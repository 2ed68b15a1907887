/-
  The bytes of any sense in both formats, or the error, are the ones of the document: SenseBytes returns true for every sense; no condition.
-/
import Derived.Test.YtglfkpdbgddpdaaRows
import Derived.Test.YtglfkpdbgddpdaaSName
import Derived.Test.YtglfkpdbgddpdaaSOpen
import Derived.Test.YtglfkpdbgddpdaaSRDesc
import Derived.Test.YtglfkpdbgddpdaaSRFix
import Derived.Test.YtglfkpdbgddpdaaSFixd2
import Derived.Test.YtglfkpdbgddpdaaSDescd
import Derived.Test.YtglfkpdbgddpdaaBSame
import Derived.Test.YtglfkpdbgddpdaaSSpA
import Derived.WalkKit
import Derived.ProofKit
import Derived.OpenShut
import Derived.ShutString
import Derived.ChangeOld
import Derived.Below
import Derived.Lib.SmallJoins
namespace Go.Proofs.Ytglfkpdbgddpdaa.senseBytes
open Go.ChangeShapes Go.WideShapes Go.ChangeAt Go.RowKit Go.Joins
open Go.ChangeMaps (open_string shut_string)
set_option linter.unusedVariables false
set_option linter.unusedSimpArgs false

theorem own : ownKnob Try.prog.godebug = none := by kernel_rfl
theorem laidOut : laidOutB Try.prog = true := by kernel_rfl

/-! ### The walk: the Go text returns true. -/
theorem wanted_free {o : Oper} (h : o.guard = none) (y : Nat → Option Bool) : Region.wanted o y = true := by unfold Region.wanted; rw [h]
theorem wanted_on {o oj : Oper} {ops : Array Oper} {tmps : Array Value} {j d : Nat} (hg : o.guard = some (j, true)) (hj : ops[j]? = some oj) (hd : oj.dst = some d) (ht : tmps[d]? = some (.bool true)) : Region.wanted o (yielded ops tmps) = true := by
  unfold Region.wanted yielded
  rw [hg]
  simp [hj, hd, ht]

theorem nil_any {f : Nat} {x : Int} {args : Array Value} {W : World} (h : Calls Try.prog f args W fun e w' => e = .returned (.tuple #[.slice none 0 0, .int .i64 x]) ∧ Below W.heap.size W w') :
    Calls Try.prog f args W fun e w' => ∃ v, e = .returned (.tuple #[v, .int .i64 x]) ∧ (RdAt w' v [] ∧ ∀ g, v.ownBlock = some g → g < w'.heap.size) ∧ Below W.heap.size W w' :=
  h.mono (fun e w' ⟨h1, h2⟩ => ⟨_, h1, ⟨rd_nil w', fun g hg => by simp [Value.ownBlock] at hg⟩, h2⟩)

set_option maxRecDepth 100000 in
set_option maxHeartbeats 4000000 in
theorem walk1 (s : Sn) (w : World) (A D : List Int) (x y : Int) (H9 : Kpt (∀ W, Calls Try.prog 9 #[.agg s.vals] W fun e w' => ∃ v, e = .returned (.tuple #[v, .int .i64 x]) ∧ (RdAt w' v A ∧ ∀ g, v.ownBlock = some g → g < w'.heap.size) ∧ Below W.heap.size W w')) (H11 : Kpt (∀ W, Calls Try.prog 11 #[.agg s.vals] W fun e w' => ∃ v, e = .returned (.tuple #[v, .int .i64 x]) ∧ (RdAt w' v A ∧ ∀ g, v.ownBlock = some g → g < w'.heap.size) ∧ Below W.heap.size W w')) (H10 : Kpt (∀ W, Calls Try.prog 10 #[.agg s.vals] W fun e w' => ∃ v, e = .returned (.tuple #[v, .int .i64 y]) ∧ (RdAt w' v D ∧ ∀ g, v.ownBlock = some g → g < w'.heap.size) ∧ Below W.heap.size W w')) (H12 : Kpt (∀ W, Calls Try.prog 12 #[.agg s.vals] W fun e w' => ∃ v, e = .returned (.tuple #[v, .int .i64 y]) ∧ (RdAt w' v D ∧ ∀ g, v.ownBlock = some g → g < w'.heap.size) ∧ Below W.heap.size W w')) :
    Calls Try.prog 3 #[.agg s.vals] w fun e w' => e = .returned (.bool true) ∧ Below w.heap.size w w' := by
  have HA := fun w => Kpt.mk (awake_any w)
  have HF : Kpt (∀ W, Calls Try.prog 13 #[.agg s.vals] W fun e w' => e = .returned (.bool s.form) ∧ Below W.heap.size W w' ∧ Grown W w') := ⟨fun W => form_any s W⟩
  have HG : Kpt (∀ W, Calls Try.prog 14 #[.agg s.vals] W fun e w' => e = .returned (.bool s.form) ∧ Below W.heap.size W w' ∧ Grown W w') := ⟨fun W => rform_any s W⟩
  obtain ⟨F, hF⟩ : ∃ F, F = s.form := ⟨_, rfl⟩
  rw [← hF] at HF HG
  clear hF
  obtain ⟨V, hV⟩ : ∃ V, V = s.vals := ⟨_, rfl⟩
  have hbox0 : Kpt (Blk (w.alloc (.cells V 25)) w.heap.size s) := ⟨by rw [hV]; exact blk_alloc w s⟩
  obtain ⟨s', hs'⟩ : ∃ s', s' = s := ⟨_, rfl⟩
  rw [← hV] at HF HG H9 H10 H11 H12 ⊢
  rw [← hs'] at hbox0
  obtain ⟨key, code, info, hi, field, bit, hf, ic⟩ := s
  have hvs : Kpt (s'.vals = #[.int .u8 key, .int .u16 code, .int .u64 info, .bool hi, .int .i64 field, .int .i64 bit, .bool hf, .bool ic]) := ⟨by rw [hs']; rfl⟩
  simp only [Sn.vals] at hV
  subst hV
  replace hs' := Kpt.mk hs'
  go_enter Try.func3, Try.ntmps3
  go_wp2_with (first
    | (go_at_call 12; refine (H12.out _).mono ?_; rintro e w5 ⟨v5, rfl, hr5_5, hN5⟩; replace hr5_5 := Kpt.mk hr5_5; replace hN5 := Kpt.mk hN5; have hB5 : Kpt (Blk w5 w.heap.size s') := ⟨hB4.out.below hN5.out hB4.out.lt⟩; have hb5 : Kpt (Below w.heap.size w w5) := ⟨hb4.out.trans (hN5.out.mono (Nat.le_of_lt hB4.out.lt))⟩; have hr2_5 : Kpt (RdAt w5 v2 A ∧ ∀ g, v2.ownBlock = some g → g < w5.heap.size) := ⟨hr2_4.out.1.of_block (fun g hg => hN5.out.block _ (hr2_4.out.2 g hg)), fun g hg => Nat.lt_of_lt_of_le (hr2_4.out.2 g hg) hN5.out.size⟩; have hr3_5 : Kpt (RdAt w5 v3 D ∧ ∀ g, v3.ownBlock = some g → g < w5.heap.size) := ⟨hr3_4.out.1.of_block (fun g hg => hN5.out.block _ (hr3_4.out.2 g hg)), fun g hg => Nat.lt_of_lt_of_le (hr3_4.out.2 g hg) hN5.out.size⟩; have hr4_5 : Kpt (RdAt w5 v4 A ∧ ∀ g, v4.ownBlock = some g → g < w5.heap.size) := ⟨hr4_4.out.1.of_block (fun g hg => hN5.out.block _ (hr4_4.out.2 g hg)), fun g hg => Nat.lt_of_lt_of_le (hr4_4.out.2 g hg) hN5.out.size⟩; clear c0 c1 c2 c3 c4 c5 c6 c7; have c0 := hB5.out.box 0; rw [hvs.out] at c0; simp at c0; have c1 := hB5.out.box 1; rw [hvs.out] at c1; simp at c1; have c2 := hB5.out.box 2; rw [hvs.out] at c2; simp at c2; have c3 := hB5.out.box 3; rw [hvs.out] at c3; simp at c3; have c4 := hB5.out.box 4; rw [hvs.out] at c4; simp at c4; have c5 := hB5.out.box 5; rw [hvs.out] at c5; simp at c5; have c6 := hB5.out.box 6; rw [hvs.out] at c6; simp at c6; have c7 := hB5.out.box 7; rw [hvs.out] at c7; simp at c7)
    | (go_at_call 11; refine (H11.out _).mono ?_; rintro e w4 ⟨v4, rfl, hr4_4, hN4⟩; replace hr4_4 := Kpt.mk hr4_4; replace hN4 := Kpt.mk hN4; have hB4 : Kpt (Blk w4 w.heap.size s') := ⟨hB3.out.below hN4.out hB3.out.lt⟩; have hb4 : Kpt (Below w.heap.size w w4) := ⟨hb3.out.trans (hN4.out.mono (Nat.le_of_lt hB3.out.lt))⟩; have hr2_4 : Kpt (RdAt w4 v2 A ∧ ∀ g, v2.ownBlock = some g → g < w4.heap.size) := ⟨hr2_3.out.1.of_block (fun g hg => hN4.out.block _ (hr2_3.out.2 g hg)), fun g hg => Nat.lt_of_lt_of_le (hr2_3.out.2 g hg) hN4.out.size⟩; have hr3_4 : Kpt (RdAt w4 v3 D ∧ ∀ g, v3.ownBlock = some g → g < w4.heap.size) := ⟨hr3_3.out.1.of_block (fun g hg => hN4.out.block _ (hr3_3.out.2 g hg)), fun g hg => Nat.lt_of_lt_of_le (hr3_3.out.2 g hg) hN4.out.size⟩; clear c0 c1 c2 c3 c4 c5 c6 c7; have c0 := hB4.out.box 0; rw [hvs.out] at c0; simp at c0; have c1 := hB4.out.box 1; rw [hvs.out] at c1; simp at c1; have c2 := hB4.out.box 2; rw [hvs.out] at c2; simp at c2; have c3 := hB4.out.box 3; rw [hvs.out] at c3; simp at c3; have c4 := hB4.out.box 4; rw [hvs.out] at c4; simp at c4; have c5 := hB4.out.box 5; rw [hvs.out] at c5; simp at c5; have c6 := hB4.out.box 6; rw [hvs.out] at c6; simp at c6; have c7 := hB4.out.box 7; rw [hvs.out] at c7; simp at c7)
    | (go_at_call 10; refine (H10.out _).mono ?_; rintro e w3 ⟨v3, rfl, hr3_3, hN3⟩; replace hr3_3 := Kpt.mk hr3_3; replace hN3 := Kpt.mk hN3; have hB3 : Kpt (Blk w3 w.heap.size s') := ⟨hB2.out.below hN3.out hB2.out.lt⟩; have hb3 : Kpt (Below w.heap.size w w3) := ⟨hb2.out.trans (hN3.out.mono (Nat.le_of_lt hB2.out.lt))⟩; have hr2_3 : Kpt (RdAt w3 v2 A ∧ ∀ g, v2.ownBlock = some g → g < w3.heap.size) := ⟨hr2_2.out.1.of_block (fun g hg => hN3.out.block _ (hr2_2.out.2 g hg)), fun g hg => Nat.lt_of_lt_of_le (hr2_2.out.2 g hg) hN3.out.size⟩; clear c0 c1 c2 c3 c4 c5 c6 c7; have c0 := hB3.out.box 0; rw [hvs.out] at c0; simp at c0; have c1 := hB3.out.box 1; rw [hvs.out] at c1; simp at c1; have c2 := hB3.out.box 2; rw [hvs.out] at c2; simp at c2; have c3 := hB3.out.box 3; rw [hvs.out] at c3; simp at c3; have c4 := hB3.out.box 4; rw [hvs.out] at c4; simp at c4; have c5 := hB3.out.box 5; rw [hvs.out] at c5; simp at c5; have c6 := hB3.out.box 6; rw [hvs.out] at c6; simp at c6; have c7 := hB3.out.box 7; rw [hvs.out] at c7; simp at c7)
    | (go_at_call 9; refine (H9.out _).mono ?_; rintro e w2 ⟨v2, rfl, hr2_2, hN2⟩; replace hr2_2 := Kpt.mk hr2_2; replace hN2 := Kpt.mk hN2; have hB2 : Kpt (Blk w2 w.heap.size s') := ⟨hB1.out.below hN2.out hB1.out.lt⟩; have hb2 : Kpt (Below w.heap.size w w2) := ⟨hb1.out.trans (hN2.out.mono (Nat.le_of_lt hB1.out.lt))⟩; clear c0 c1 c2 c3 c4 c5 c6 c7; have c0 := hB2.out.box 0; rw [hvs.out] at c0; simp at c0; have c1 := hB2.out.box 1; rw [hvs.out] at c1; simp at c1; have c2 := hB2.out.box 2; rw [hvs.out] at c2; simp at c2; have c3 := hB2.out.box 3; rw [hvs.out] at c3; simp at c3; have c4 := hB2.out.box 4; rw [hvs.out] at c4; simp at c4; have c5 := hB2.out.box 5; rw [hvs.out] at c5; simp at c5; have c6 := hB2.out.box 6; rw [hvs.out] at c6; simp at c6; have c7 := hB2.out.box 7; rw [hvs.out] at c7; simp at c7)
    | (go_at_call 8; refine (HA _).out.mono ?_; rintro e w1 ⟨rfl, hN1⟩; have hB1 : Kpt (Blk w1 w.heap.size s') := ⟨hbox0.out.below hN1 hbox0.out.lt⟩; have hb1 : Kpt (Below w.heap.size w w1) := ⟨((Below.refl _ _).alloc (Nat.le_refl _) _).trans (hN1.mono (by simp))⟩; clear hN1; have c0 := hB1.out.box 0; rw [hvs.out] at c0; simp at c0; have c1 := hB1.out.box 1; rw [hvs.out] at c1; simp at c1; have c2 := hB1.out.box 2; rw [hvs.out] at c2; simp at c2; have c3 := hB1.out.box 3; rw [hvs.out] at c3; simp at c3; have c4 := hB1.out.box 4; rw [hvs.out] at c4; simp at c4; have c5 := hB1.out.box 5; rw [hvs.out] at c5; simp at c5; have c6 := hB1.out.box 6; rw [hvs.out] at c6; simp at c6; have c7 := hB1.out.box 7; rw [hvs.out] at c7; simp at c7))
  clear c0 c1 c2 c3 c4 c5 c6 c7
  refine wp_region_any (by kernel_rfl) ?_
  refine wpAny_of_C (C := fun W => Blk W w.heap.size s' ∧ Below w.heap.size w W ∧ (RdAt W v2 A ∧ ∀ g, v2.ownBlock = some g → g < W.heap.size) ∧ (RdAt W v3 D ∧ ∀ g, v3.ownBlock = some g → g < W.heap.size) ∧ (RdAt W v4 A ∧ ∀ g, v4.ownBlock = some g → g < W.heap.size) ∧ (RdAt W v5 D ∧ ∀ g, v5.ownBlock = some g → g < W.heap.size)) _ _ _ _ ?_
  have keep : Kpt (∀ W W', (Blk W w.heap.size s' ∧ Below w.heap.size w W ∧ (RdAt W v2 A ∧ ∀ g, v2.ownBlock = some g → g < W.heap.size) ∧ (RdAt W v3 D ∧ ∀ g, v3.ownBlock = some g → g < W.heap.size) ∧ (RdAt W v4 A ∧ ∀ g, v4.ownBlock = some g → g < W.heap.size) ∧ (RdAt W v5 D ∧ ∀ g, v5.ownBlock = some g → g < W.heap.size)) → Below W.heap.size W W' → (Blk W' w.heap.size s' ∧ Below w.heap.size w W' ∧ (RdAt W' v2 A ∧ ∀ g, v2.ownBlock = some g → g < W'.heap.size) ∧ (RdAt W' v3 D ∧ ∀ g, v3.ownBlock = some g → g < W'.heap.size) ∧ (RdAt W' v4 A ∧ ∀ g, v4.ownBlock = some g → g < W'.heap.size) ∧ (RdAt W' v5 D ∧ ∀ g, v5.ownBlock = some g → g < W'.heap.size))) := ⟨fun W W' ⟨h1, h2, h3, h4, h5, h6⟩ hN =>
    ⟨h1.below hN h1.lt, h2.trans (hN.mono (Nat.le_of_lt h1.lt)), ⟨h3.1.of_block (fun g hg => hN.block _ (h3.2 g hg)), fun g hg => Nat.lt_of_lt_of_le (h3.2 g hg) hN.size⟩, ⟨h4.1.of_block (fun g hg => hN.block _ (h4.2 g hg)), fun g hg => Nat.lt_of_lt_of_le (h4.2 g hg) hN.size⟩, ⟨h5.1.of_block (fun g hg => hN.block _ (h5.2 g hg)), fun g hg => Nat.lt_of_lt_of_le (h5.2 g hg) hN.size⟩, ⟨h6.1.of_block (fun g hg => hN.block _ (h6.2 g hg)), fun g hg => Nat.lt_of_lt_of_le (h6.2 g hg) hN.size⟩⟩⟩
  have hC0 := Kpt.mk (keep.out w5 w5.drew ⟨hB5.out, hb5.out, hr2_5.out, hr3_5.out, hr4_5.out, hr5_5.out⟩ (Below.drew (Below.refl _ _)))
  obtain ⟨SA, hSA⟩ : ∃ SA, SA = strOfNums A := ⟨_, rfl⟩
  obtain ⟨SD, hSD⟩ : ∃ SD, SD = strOfNums D := ⟨_, rfl⟩
  have cv2 : Kpt (∀ W, RdAt W v2 A → (convert 27 9 v2).run Try.prog W = .ok (.string SA) W) := ⟨fun W h => by rw [hSA]; exact conv_rd W v2 A h⟩
  have cv4 : Kpt (∀ W, RdAt W v4 A → (convert 27 9 v4).run Try.prog W = .ok (.string SA) W) := ⟨fun W h => by rw [hSA]; exact conv_rd W v4 A h⟩
  have cv3 : Kpt (∀ W, RdAt W v3 D → (convert 27 9 v3).run Try.prog W = .ok (.string SD) W) := ⟨fun W h => by rw [hSD]; exact conv_rd W v3 D h⟩
  have cv5 : Kpt (∀ W, RdAt W v5 D → (convert 27 9 v5).run Try.prog W = .ok (.string SD) W) := ⟨fun W h => by rw [hSD]; exact conv_rd W v5 D h⟩
  clear hSA hSD hB1 hb1 hB2 hb2 hB3 hb3 hB4 hb4 hB5 hb5 hr2_2 hr2_3 hr2_4 hr2_5 hr3_3 hr3_4 hr3_5 hr4_4 hr4_5 hr5_5 hN2 hN3 hN4 hN5
  refine wpAnyC_take 0 (.agg #[.int .u8 key, .int .u16 code, .int .u64 info, .bool hi, .int .i64 field, .int .i64 bit, .bool hf, .bool ic]) rfl (by kernel_rfl) (by kernel_rfl) (by kernel_rfl) (fun _ _ _ h => h) (wanted_free rfl _) (fun W hW => by have q := hW.1.box; have q0 := q 0; have q1 := q 1; have q2 := q 2; have q3 := q 3; have q4 := q 4; have q5 := q 5; have q6 := q 6; have q7 := q 7; rw [hvs.out] at q0 q1 q2 q3 q4 q5 q6 q7; simp at q0 q1 q2 q3 q4 q5 q6 q7; go_simp) ?_
  try simp only [Act.put, List.getElem_toArray, List.getElem_cons_succ, List.getElem_cons_zero, List.setIfInBounds_toArray, List.set_cons_succ, List.set_cons_zero]
  refine wpAnyC_take 2 (.agg #[.int .u8 key, .int .u16 code, .int .u64 info, .bool hi, .int .i64 field, .int .i64 bit, .bool hf, .bool ic]) rfl (by kernel_rfl) (by kernel_rfl) (by kernel_rfl) (fun _ _ _ h => h) (wanted_free rfl _) (fun W hW => by have q := hW.1.box; have q0 := q 0; have q1 := q 1; have q2 := q 2; have q3 := q 3; have q4 := q 4; have q5 := q 5; have q6 := q 6; have q7 := q 7; rw [hvs.out] at q0 q1 q2 q3 q4 q5 q6 q7; simp at q0 q1 q2 q3 q4 q5 q6 q7; go_simp) ?_
  try simp only [Act.put, List.getElem_toArray, List.getElem_cons_succ, List.getElem_cons_zero, List.setIfInBounds_toArray, List.set_cons_succ, List.set_cons_zero]
  refine wpAnyC_one 1 hC0.out rfl (by kernel_rfl) (wanted_free rfl _) (fun K hK => ?_)
  · go_simp
    refine (HF.out _).mono ?_
    rintro e w6 ⟨rfl, hN6, _⟩
    dsimp only
    refine hK _ _ ?_
    try simp only [Act.put, List.getElem_toArray, List.getElem_cons_succ, List.getElem_cons_zero, List.setIfInBounds_toArray, List.set_cons_succ, List.set_cons_zero]
    clear hK K
    have hC1 := Kpt.mk (keep.out _ w6 hC0.out hN6)
    refine wpAnyC_one 3 hC1.out rfl (by kernel_rfl) (wanted_free rfl _) (fun K hK => ?_)
    go_simp
    refine (HG.out _).mono ?_
    rintro e w7 ⟨rfl, hN7, _⟩
    dsimp only
    refine hK _ _ ?_
    try simp only [Act.put, List.getElem_toArray, List.getElem_cons_succ, List.getElem_cons_zero, List.setIfInBounds_toArray, List.set_cons_succ, List.set_cons_zero]
    clear hK K
    have hC2 := Kpt.mk (keep.out _ w7 hC1.out hN7)
    clear hC1 hN6 hN7
    refine wpAnyC_take 4 (.bool true) rfl (by kernel_rfl) (by kernel_rfl) (by kernel_rfl) (fun _ _ _ h => h) (wanted_free rfl _) (fun W hW => by go_simp) ?_
    try simp only [Act.put, List.getElem_toArray, List.getElem_cons_succ, List.getElem_cons_zero, List.setIfInBounds_toArray, List.set_cons_succ, List.set_cons_zero]
    refine wpAnyC_take 5 (.bool true) rfl (by kernel_rfl) (by kernel_rfl) (by kernel_rfl) (fun _ _ _ h => h) (wanted_free rfl _) (fun W hW => by go_simp) ?_
    try simp only [Act.put, List.getElem_toArray, List.getElem_cons_succ, List.getElem_cons_zero, List.setIfInBounds_toArray, List.set_cons_succ, List.set_cons_zero]
    refine wpAnyC_take 6 (v2) rfl (by kernel_rfl) (by kernel_rfl) (by kernel_rfl) (fun _ _ _ h => h) (wanted_on rfl rfl rfl rfl) (fun W hW => by go_simp) ?_
    try simp only [Act.put, List.getElem_toArray, List.getElem_cons_succ, List.getElem_cons_zero, List.setIfInBounds_toArray, List.set_cons_succ, List.set_cons_zero]
    refine wpAnyC_take 7 (.string SA) rfl (by kernel_rfl) (by kernel_rfl) (by kernel_rfl) (fun _ _ _ h => h) (wanted_on rfl rfl rfl rfl) (fun W hW => by have h := cv2.out W hW.2.2.1.1; go_simp) ?_
    try simp only [Act.put, List.getElem_toArray, List.getElem_cons_succ, List.getElem_cons_zero, List.setIfInBounds_toArray, List.set_cons_succ, List.set_cons_zero]
    refine wpAnyC_take 8 (v4) rfl (by kernel_rfl) (by kernel_rfl) (by kernel_rfl) (fun _ _ _ h => h) (wanted_on rfl rfl rfl rfl) (fun W hW => by go_simp) ?_
    try simp only [Act.put, List.getElem_toArray, List.getElem_cons_succ, List.getElem_cons_zero, List.setIfInBounds_toArray, List.set_cons_succ, List.set_cons_zero]
    refine wpAnyC_take 9 (.string SA) rfl (by kernel_rfl) (by kernel_rfl) (by kernel_rfl) (fun _ _ _ h => h) (wanted_on rfl rfl rfl rfl) (fun W hW => by have h := cv4.out W hW.2.2.2.2.1.1; go_simp) ?_
    try simp only [Act.put, List.getElem_toArray, List.getElem_cons_succ, List.getElem_cons_zero, List.setIfInBounds_toArray, List.set_cons_succ, List.set_cons_zero]
    refine wpAnyC_take 10 (.bool true) rfl (by kernel_rfl) (by kernel_rfl) (by kernel_rfl) (fun _ _ _ h => h) (wanted_on rfl rfl rfl rfl) (fun W hW => by go_simp) ?_
    try simp only [Act.put, List.getElem_toArray, List.getElem_cons_succ, List.getElem_cons_zero, List.setIfInBounds_toArray, List.set_cons_succ, List.set_cons_zero]
    refine wpAnyC_take 11 (.bool true) rfl (by kernel_rfl) (by kernel_rfl) (by kernel_rfl) (fun _ _ _ h => h) (wanted_free rfl _) (fun W hW => by go_simp) ?_
    try simp only [Act.put, List.getElem_toArray, List.getElem_cons_succ, List.getElem_cons_zero, List.setIfInBounds_toArray, List.set_cons_succ, List.set_cons_zero]
    refine wpAnyC_take 12 (.bool true) rfl (by kernel_rfl) (by kernel_rfl) (by kernel_rfl) (fun _ _ _ h => h) (wanted_free rfl _) (fun W hW => by go_simp) ?_
    try simp only [Act.put, List.getElem_toArray, List.getElem_cons_succ, List.getElem_cons_zero, List.setIfInBounds_toArray, List.set_cons_succ, List.set_cons_zero]
    refine wpAnyC_take 13 (.int .i64 x) rfl (by kernel_rfl) (by kernel_rfl) (by kernel_rfl) (fun _ _ _ h => h) (wanted_on rfl rfl rfl rfl) (fun W hW => by go_simp) ?_
    try simp only [Act.put, List.getElem_toArray, List.getElem_cons_succ, List.getElem_cons_zero, List.setIfInBounds_toArray, List.set_cons_succ, List.set_cons_zero]
    refine wpAnyC_take 14 (.int .i64 x) rfl (by kernel_rfl) (by kernel_rfl) (by kernel_rfl) (fun _ _ _ h => h) (wanted_on rfl rfl rfl rfl) (fun W hW => by go_simp) ?_
    try simp only [Act.put, List.getElem_toArray, List.getElem_cons_succ, List.getElem_cons_zero, List.setIfInBounds_toArray, List.set_cons_succ, List.set_cons_zero]
    refine wpAnyC_take 15 (.bool true) rfl (by kernel_rfl) (by kernel_rfl) (by kernel_rfl) (fun _ _ _ h => h) (wanted_on rfl rfl rfl rfl) (fun W hW => by go_simp) ?_
    try simp only [Act.put, List.getElem_toArray, List.getElem_cons_succ, List.getElem_cons_zero, List.setIfInBounds_toArray, List.set_cons_succ, List.set_cons_zero]
    refine wpAnyC_take 16 (.bool true) rfl (by kernel_rfl) (by kernel_rfl) (by kernel_rfl) (fun _ _ _ h => h) (wanted_free rfl _) (fun W hW => by go_simp) ?_
    try simp only [Act.put, List.getElem_toArray, List.getElem_cons_succ, List.getElem_cons_zero, List.setIfInBounds_toArray, List.set_cons_succ, List.set_cons_zero]
    refine wpAnyC_take 17 (.bool true) rfl (by kernel_rfl) (by kernel_rfl) (by kernel_rfl) (fun _ _ _ h => h) (wanted_free rfl _) (fun W hW => by go_simp) ?_
    try simp only [Act.put, List.getElem_toArray, List.getElem_cons_succ, List.getElem_cons_zero, List.setIfInBounds_toArray, List.set_cons_succ, List.set_cons_zero]
    refine wpAnyC_take 18 (v3) rfl (by kernel_rfl) (by kernel_rfl) (by kernel_rfl) (fun _ _ _ h => h) (wanted_on rfl rfl rfl rfl) (fun W hW => by go_simp) ?_
    try simp only [Act.put, List.getElem_toArray, List.getElem_cons_succ, List.getElem_cons_zero, List.setIfInBounds_toArray, List.set_cons_succ, List.set_cons_zero]
    refine wpAnyC_take 19 (.string SD) rfl (by kernel_rfl) (by kernel_rfl) (by kernel_rfl) (fun _ _ _ h => h) (wanted_on rfl rfl rfl rfl) (fun W hW => by have h := cv3.out W hW.2.2.2.1.1; go_simp) ?_
    try simp only [Act.put, List.getElem_toArray, List.getElem_cons_succ, List.getElem_cons_zero, List.setIfInBounds_toArray, List.set_cons_succ, List.set_cons_zero]
    refine wpAnyC_take 20 (v5) rfl (by kernel_rfl) (by kernel_rfl) (by kernel_rfl) (fun _ _ _ h => h) (wanted_on rfl rfl rfl rfl) (fun W hW => by go_simp) ?_
    try simp only [Act.put, List.getElem_toArray, List.getElem_cons_succ, List.getElem_cons_zero, List.setIfInBounds_toArray, List.set_cons_succ, List.set_cons_zero]
    refine wpAnyC_take 21 (.string SD) rfl (by kernel_rfl) (by kernel_rfl) (by kernel_rfl) (fun _ _ _ h => h) (wanted_on rfl rfl rfl rfl) (fun W hW => by have h := cv5.out W hW.2.2.2.2.2.1; go_simp) ?_
    try simp only [Act.put, List.getElem_toArray, List.getElem_cons_succ, List.getElem_cons_zero, List.setIfInBounds_toArray, List.set_cons_succ, List.set_cons_zero]
    refine wpAnyC_take 22 (.bool true) rfl (by kernel_rfl) (by kernel_rfl) (by kernel_rfl) (fun _ _ _ h => h) (wanted_on rfl rfl rfl rfl) (fun W hW => by go_simp) ?_
    try simp only [Act.put, List.getElem_toArray, List.getElem_cons_succ, List.getElem_cons_zero, List.setIfInBounds_toArray, List.set_cons_succ, List.set_cons_zero]
    refine wpAnyC_take 23 (.bool true) rfl (by kernel_rfl) (by kernel_rfl) (by kernel_rfl) (fun _ _ _ h => h) (wanted_free rfl _) (fun W hW => by go_simp) ?_
    try simp only [Act.put, List.getElem_toArray, List.getElem_cons_succ, List.getElem_cons_zero, List.setIfInBounds_toArray, List.set_cons_succ, List.set_cons_zero]
    refine wpAnyC_take 24 (.bool true) rfl (by kernel_rfl) (by kernel_rfl) (by kernel_rfl) (fun _ _ _ h => h) (wanted_free rfl _) (fun W hW => by go_simp) ?_
    try simp only [Act.put, List.getElem_toArray, List.getElem_cons_succ, List.getElem_cons_zero, List.setIfInBounds_toArray, List.set_cons_succ, List.set_cons_zero]
    refine wpAnyC_take 25 (.int .i64 y) rfl (by kernel_rfl) (by kernel_rfl) (by kernel_rfl) (fun _ _ _ h => h) (wanted_on rfl rfl rfl rfl) (fun W hW => by go_simp) ?_
    try simp only [Act.put, List.getElem_toArray, List.getElem_cons_succ, List.getElem_cons_zero, List.setIfInBounds_toArray, List.set_cons_succ, List.set_cons_zero]
    refine wpAnyC_take 26 (.int .i64 y) rfl (by kernel_rfl) (by kernel_rfl) (by kernel_rfl) (fun _ _ _ h => h) (wanted_on rfl rfl rfl rfl) (fun W hW => by go_simp) ?_
    try simp only [Act.put, List.getElem_toArray, List.getElem_cons_succ, List.getElem_cons_zero, List.setIfInBounds_toArray, List.set_cons_succ, List.set_cons_zero]
    refine wpAnyC_take 27 (.bool true) rfl (by kernel_rfl) (by kernel_rfl) (by kernel_rfl) (fun _ _ _ h => h) (wanted_on rfl rfl rfl rfl) (fun W hW => by go_simp) ?_
    try simp only [Act.put, List.getElem_toArray, List.getElem_cons_succ, List.getElem_cons_zero, List.setIfInBounds_toArray, List.set_cons_succ, List.set_cons_zero]
    refine wpAnyC_take 28 (.bool true) rfl (by kernel_rfl) (by kernel_rfl) (by kernel_rfl) (fun _ _ _ h => h) (wanted_free rfl _) (fun W hW => by go_simp) ?_
    try simp only [Act.put, List.getElem_toArray, List.getElem_cons_succ, List.getElem_cons_zero, List.setIfInBounds_toArray, List.set_cons_succ, List.set_cons_zero]
    refine wpAnyC_take 29 (.bool true) rfl (by kernel_rfl) (by kernel_rfl) (by kernel_rfl) (fun _ _ _ h => h) (wanted_free rfl _) (fun W hW => by go_simp) ?_
    try simp only [Act.put, List.getElem_toArray, List.getElem_cons_succ, List.getElem_cons_zero, List.setIfInBounds_toArray, List.set_cons_succ, List.set_cons_zero]
    have hfin := Kpt.mk hC2.out.2.1
    refine wpAnyC_done hC2.out (by kernel_rfl) ?_
    clear keep hC0 cv2 cv3 cv4 cv5
    go_wp2
    go_ret
    exact ⟨rfl, hfin.out⟩

theorem walk (s : Sn) (w : World) (hs : s.wf) :
    Calls Try.prog 3 #[.agg s.vals] w fun e w' => e = .returned (.bool true) ∧ Below w.heap.size w w' := by
  cases hform : s.form with
  | false => exact walk1 s w [] [] 3 3 ⟨fun W => nil_any (fixed_form s hform W)⟩ ⟨fun W => nil_any (rfixed_form s hform W)⟩ ⟨fun W => nil_any (described_form s hform W)⟩ ⟨fun W => nil_any (rdescribed_form s hform W)⟩
  | true =>
    have HD : ∀ W, Calls Try.prog 10 #[.agg s.vals] W fun e w' => ∃ v, e = .returned (.tuple #[v, .int .i64 0]) ∧ (RdAt w' v s.descB ∧ ∀ g, v.ownBlock = some g → g < w'.heap.size) ∧ Below W.heap.size W w' := fun W =>
      (described_ok s hs hform W).mono (fun e w' ⟨g, cap, h1, h2⟩ => ⟨_, h1, ⟨own_rd h2.1, fun g' hg => (World.ownsRow.lt h2.1 g' hg).2⟩, h2.2⟩)
    have HE : ∀ W, Calls Try.prog 12 #[.agg s.vals] W fun e w' => ∃ v, e = .returned (.tuple #[v, .int .i64 0]) ∧ (RdAt w' v s.descB ∧ ∀ g, v.ownBlock = some g → g < w'.heap.size) ∧ Below W.heap.size W w' := fun W =>
      (rdescribed_ok s hs hform W).mono (fun e w' ⟨g, cap, h1, h2⟩ => ⟨_, h1, ⟨own_rd h2.1, fun g' hg => (World.ownsRow.lt h2.1 g' hg).2⟩, h2.2⟩)
    by_cases hr : s.info < 4294967296
    · exact walk1 s w s.fixedB s.descB 0 0 ⟨fun W => (fixed_ok s hs hform hr W).mono (fun e w' ⟨g, h1, h2⟩ => ⟨_, h1, ⟨own_rd h2.1, fun g' hg => (World.ownsRow.lt h2.1 g' hg).2⟩, h2.2⟩)⟩
        ⟨fun W => (rfixed_ok s hs hform hr W).mono (fun e w' ⟨g, cap, h1, h2⟩ => ⟨_, h1, ⟨own_rd h2.1, fun g' hg => (World.ownsRow.lt h2.1 g' hg).2⟩, h2.2⟩)⟩ ⟨HD⟩ ⟨HE⟩
    · exact walk1 s w [] s.descB 4 0 ⟨fun W => nil_any (fixed_range s hform (by omega) W)⟩ ⟨fun W => nil_any (rfixed_range s hform (by omega) W)⟩ ⟨HD⟩ ⟨HE⟩

/-! ### The row. -/
set_option maxRecDepth 100000 in
theorem lifted (os : Os) (started : os.Started) (H : Type) (enc : TypeId × Value → H) :
    ReturnsInHanded {} Try.checked os 3 .any (Rows.senseBytesSpec.pre6 enc Try.prog Try.f3 Rows.senseBytesRow.domain false) (Rows.senseBytesSpec.post enc Try.prog Try.f3 false true false false) := by
  refine returnsInHanded_of_change (C := Try.checked) own started (by kernel_rfl) Try.func3
    (ChangeSpec.witness6 (enc := enc) (C := Try.checked) false ⟨#[], #[.agg #[.int .u8 0, .int .u16 0, .int .u64 0, .bool false, .int .i64 0, .int .i64 0, .bool false, .bool false]], []⟩ 8 (by kernel_rfl) (by kernel_rfl) (by kernel_rfl) (by kernel_rfl)) ?_
  intro W base args ds gs before hval0 hW hcnd _
  have hval : ∀ (j : Nat) t v, Try.f3.params[j]? = some t → args[j]? = some v → Value.okWide Try.prog W .any base t v := hval0
  have hW' := hW
  obtain ⟨p, q, hA0, hV, rfl, hfz, hnd⟩ := hW
  have hA : DataW.TrodAll enc Try.prog W 0 (fun _ => true) true Try.f3.params.toList args.toList ds p := hA0
  rw [Try.params3] at hA hval
  obtain ⟨v0, vs0, d0, ds0, p0, q0, hargs, rfl, rfl, h0, r0⟩ := trodAll_cons hA
  obtain ⟨rfl, rfl, rfl⟩ := trodAll_nil r0
  obtain rfl : args = #[v0] := by cases args; simp_all
  obtain ⟨rfl, rfl⟩ := trodVars_none hV
  have k0 := h0
  have lt0 : ∀ x ∈ p0, x.block < W.heap.size := by obtain ⟨m, hm⟩ := k0; exact DataW.trod_lt m _ _ _ hm
  obtain ⟨s0, rfl, w0⟩ := open_sense (hval 0 25 v0 rfl rfl) h0
  clear hA0 hval0
  refine (walk s0 W w0).mono fun e W' ⟨he, bel⟩ => ?_
  subst he
  exact ⟨_, rfl, _, _, _, [], _, [], hW', trodAll_mk1 (shut_bool Try.underlying4 _), (trodAll_cons_mk (Below.trod laidOut (by kernel_rfl) (of_decide_eq_true (by kernel_rfl)) k0 bel lt0) trodAll_mk0), rfl, bel.frame _, fun h => by cases h⟩

theorem over : Rows.senseBytesRow.holds Try.pinned (OpenSpec.ofChange Rows.senseBytesSpec) :=
  OpenClaim.holds_of_wide 3 Try.f3 rfl rfl rfl rfl rfl rfl rfl ⟨rfl, rfl, rfl, rfl, rfl⟩ rfl rfl rfl rfl rfl (by kernel_rfl) Try.func3 (by kernel_rfl)
    (of_decide_eq_true (by kernel_rfl)) (by unfold Func.isWrapper; first | (rw [if_pos (by decide +kernel)]; kernel_rfl) | (rw [if_neg (by decide +kernel)]; exact ⟨rfl, rfl⟩))
    (fun os started H enc _ => lifted os started H enc)

/-- The statement. -/
theorem proved : Rows.SenseBytesSaid := over
#print axioms proved
end Go.Proofs.Ytglfkpdbgddpdaa.senseBytes
