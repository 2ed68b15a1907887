/-
  Proved: what either format was written of is read again (SenseBackSaid), for every sense, no conditions.
-/
import Derived.Test.YtglfkpdbgddpdaaRows
import Derived.Test.YtglfkpdbgddpdaaSName
import Derived.Test.YtglfkpdbgddpdaaSDecode
import Derived.Test.YtglfkpdbgddpdaaSOpen
import Derived.WalkKit
import Derived.ProofKit
import Derived.OpenShut
import Derived.ShutString
import Derived.ChangeOld
import Derived.Below
import Derived.Lib.SmallJoins
namespace Go.Proofs.Ytglfkpdbgddpdaa.senseBack
open Go.ChangeShapes Go.WideShapes Go.ChangeAt Go.RowKit Go.Joins
open Go.ChangeMaps (open_string shut_string)
set_option linter.unusedVariables false
set_option linter.unusedSimpArgs false

theorem own : ownKnob Try.prog.godebug = none := by kernel_rfl
theorem laidOut : laidOutB Try.prog = true := by kernel_rfl

/-! ### The walk: the Go text returns true. -/
set_option maxRecDepth 100000 in
set_option maxHeartbeats 2000000 in
theorem walk (s : Sn) (w : World) (hs : s.wf) :
    Calls Try.prog 5 #[.agg s.vals] w fun e w' => e = .returned (.bool true) ∧ Below w.heap.size w w' := by
  have HA := fun w => Kpt.mk (awake_any w)
  have HF : Kpt (∀ W, Calls Try.prog 13 #[.agg s.vals] W fun e w' => e = .returned (.bool s.form) ∧ Below W.heap.size W w' ∧ Grown W w') := ⟨fun W => form_any s W⟩
  obtain ⟨V, hV⟩ : ∃ V, V = s.vals := ⟨_, rfl⟩
  have hbox0 : Kpt (Blk (w.alloc (.cells V 25)) w.heap.size s) := ⟨by rw [hV]; exact blk_alloc w s⟩
  cases hform : s.form with
  | false =>
    have HD : Kpt (∀ W, Calls Try.prog 10 #[.agg V] W fun e w' => e = .returned (.tuple #[.slice none 0 0, .int .i64 3]) ∧ Below W.heap.size W w') := ⟨fun W => by rw [hV]; exact described_form s hform W⟩
    rw [hform, ← hV] at HF
    rw [← hV]
    have hV' := Kpt.mk hV
    obtain ⟨key, code, info, hi, field, bit, hf, ic⟩ := s
    simp only [Sn.vals] at hV
    subst hV
    clear hs hform
    go_enter Try.func5, Try.ntmps5
    go_wp2_with (first
      | (go_at_call 13; refine (HF.out _).mono ?_; rintro e w3 ⟨rfl, hN3, _⟩; have hb3 : Kpt (Below w.heap.size w w3) := ⟨hb2.out.trans (hN3.mono (Nat.le_of_lt hB2.out.lt))⟩; clear hN3)
      | (go_at_call 10; refine (HD.out _).mono ?_; rintro e w2 ⟨rfl, hN2⟩; have hB2 : Kpt (Blk w2 w.heap.size _) := ⟨hB1.out.below hN2 hB1.out.lt⟩; have hb2 : Kpt (Below w.heap.size w w2) := ⟨hb1.out.trans (hN2.mono (Nat.le_of_lt hB1.out.lt))⟩; clear hN2 c0 c1 c2 c3 c4 c5 c6 c7; have c0 := hB2.out.box 0; have c1 := hB2.out.box 1; have c2 := hB2.out.box 2; have c3 := hB2.out.box 3; have c4 := hB2.out.box 4; have c5 := hB2.out.box 5; have c6 := hB2.out.box 6; have c7 := hB2.out.box 7; simp [Sn.vals] at c0 c1 c2 c3 c4 c5 c6 c7)
      | (go_at_call 8; refine (HA _).out.mono ?_; rintro e w1 ⟨rfl, hN1⟩; have hB1 : Kpt (Blk w1 w.heap.size _) := ⟨hbox0.out.below hN1 hbox0.out.lt⟩; have hb1 : Kpt (Below w.heap.size w w1) := ⟨((Below.refl _ _).alloc (Nat.le_refl _) _).trans (hN1.mono (by simp))⟩; clear hN1; have c0 := hB1.out.box 0; have c1 := hB1.out.box 1; have c2 := hB1.out.box 2; have c3 := hB1.out.box 3; have c4 := hB1.out.box 4; have c5 := hB1.out.box 5; have c6 := hB1.out.box 6; have c7 := hB1.out.box 7; simp [Sn.vals] at c0 c1 c2 c3 c4 c5 c6 c7))
    go_ret
    exact ⟨rfl, hb3.out⟩
  | true =>
    have HD : Kpt (∀ W, Calls Try.prog 10 #[.agg V] W fun e w' => ∃ g cap n, e = .returned (.tuple #[.slice (some ⟨g, 0, none⟩) n cap, .int .i64 0]) ∧ (RdAt w' (.slice (some ⟨g, 0, none⟩) n cap) s.descB ∧ g < w'.heap.size) ∧ Below W.heap.size W w') := ⟨fun W => by
      rw [hV]
      exact (described_ok s hs hform W).mono (fun e w' ⟨g, cap, h1, h2⟩ => ⟨g, cap, _, h1, ⟨own_rd h2.1, (World.ownsRow.lt h2.1 g rfl).2⟩, h2.2⟩)⟩
    have HC : Kpt (∀ W v, RdAt W v s.descB → (∀ g, v.ownBlock = some g → g < W.heap.size) → Calls Try.prog 15 #[v] W fun e w' => e = .returned (.tuple #[.agg V, .int .i64 0]) ∧ Below W.heap.size W w') := ⟨fun W v h1 h2 => by
      have hl : s.descB.length ≤ maxLen := by
        have : s.rest.length ≤ 20 := by unfold Sn.rest; (repeat' split) <;> simp [Sn.infoB, Sn.partB, Sn.fieldB]
        unfold maxLen
        simp [Sn.descB]
        omega
      have := decode_any v s.descB W h1 (bytes_of_wf_desc hs hform) hl h2
      unfold decRes at this
      rw [decS_desc s hs hform] at this
      rw [hV]
      exact this⟩
    by_cases hrng : 4294967295 < s.info
    · have HX : Kpt (∀ W, Calls Try.prog 9 #[.agg V] W fun e w' => e = .returned (.tuple #[.slice none 0 0, .int .i64 4]) ∧ Below W.heap.size W w') := ⟨fun W => by rw [hV]; exact fixed_range s hform hrng W⟩
      rw [hform, ← hV] at HF
      rw [← hV]
      obtain ⟨L, hL⟩ : ∃ L, L = s.descB := ⟨_, rfl⟩
      rw [← hL] at HD HC
      obtain ⟨key, code, info, hi, field, bit, hf, ic⟩ := s
      simp only [Sn.vals] at hV
      simp only at hrng
      subst hV
      clear hs hform hL
      go_enter Try.func5, Try.ntmps5
      go_wp2_with (first
        | (go_at_call 9; refine (HX.out _).mono ?_; rintro e w5 ⟨rfl, hN5⟩; have hA5 : Kpt (Below w4.heap.size w4 (w4.alloc (.cells #[.int .u8 key, .int .u16 code, .int .u64 info, .bool hi, .int .i64 field, .int .i64 bit, .bool hf, .bool ic] 25))) := ⟨(Below.refl _ _).alloc (Nat.le_refl _) _⟩; have hB5 : Kpt (Blk w5 w.heap.size _) := ⟨(hB4.out.below hA5.out hB4.out.lt).below hN5 (by have := hB4.out.lt; simp; omega)⟩; have hb5 : Kpt (Below w.heap.size w w5) := ⟨hb4.out.trans ((hA5.out.mono (Nat.le_of_lt hB4.out.lt)).trans (hN5.mono (by have := hB4.out.lt; simp; omega)))⟩; clear hN5; clear c0 c1 c2 c3 c4 c5 c6 c7; have c0 := hB5.out.box 0; have c1 := hB5.out.box 1; have c2 := hB5.out.box 2; have c3 := hB5.out.box 3; have c4 := hB5.out.box 4; have c5 := hB5.out.box 5; have c6 := hB5.out.box 6; have c7 := hB5.out.box 7; simp [Sn.vals] at c0 c1 c2 c3 c4 c5 c6 c7; have m9 : Kpt True := ⟨trivial⟩)
        | (go_at_call 15; refine (HC.out _ _ (hr2.out.1.of_block (fun g hg => by simp [Value.ownBlock] at hg; subst hg; exact hN3.out.block _ hr2.out.2)) (fun g hg => by simp [Value.ownBlock] at hg; subst hg; exact Nat.lt_of_lt_of_le hr2.out.2 hN3.out.size)).mono ?_; rintro e w4 ⟨rfl, hN4⟩; have hB4 : Kpt (Blk w4 w.heap.size _) := ⟨hB3.out.below hN4 hB3.out.lt⟩; have hb4 : Kpt (Below w.heap.size w w4) := ⟨hb3.out.trans (hN4.mono (Nat.le_of_lt hB3.out.lt))⟩; clear hN4; have hl4 := hB4.out.lt; clear c0 c1 c2 c3 c4 c5 c6 c7; have c0 := hB4.out.box 0; have c1 := hB4.out.box 1; have c2 := hB4.out.box 2; have c3 := hB4.out.box 3; have c4 := hB4.out.box 4; have c5 := hB4.out.box 5; have c6 := hB4.out.box 6; have c7 := hB4.out.box 7; simp [Sn.vals] at c0 c1 c2 c3 c4 c5 c6 c7)
        | (go_at_call 13; refine (HF.out _).mono ?_; rintro e w3 ⟨rfl, hN3, _⟩; have hB3 : Kpt (Blk w3 w.heap.size _) := ⟨hB2.out.below hN3 hB2.out.lt⟩; have hb3 : Kpt (Below w.heap.size w w3) := ⟨hb2.out.trans (hN3.mono (Nat.le_of_lt hB2.out.lt))⟩; replace hN3 := Kpt.mk hN3; clear c0 c1 c2 c3 c4 c5 c6 c7; have c0 := hB3.out.box 0; have c1 := hB3.out.box 1; have c2 := hB3.out.box 2; have c3 := hB3.out.box 3; have c4 := hB3.out.box 4; have c5 := hB3.out.box 5; have c6 := hB3.out.box 6; have c7 := hB3.out.box 7; simp [Sn.vals] at c0 c1 c2 c3 c4 c5 c6 c7)
        | (go_at_call 10; refine (HD.out _).mono ?_; rintro e w2 ⟨g2, cap2, n2, rfl, hr2, hN2⟩; replace hr2 := Kpt.mk hr2; have hB2 : Kpt (Blk w2 w.heap.size _) := ⟨hB1.out.below hN2 hB1.out.lt⟩; have hb2 : Kpt (Below w.heap.size w w2) := ⟨hb1.out.trans (hN2.mono (Nat.le_of_lt hB1.out.lt))⟩; clear hN2; clear c0 c1 c2 c3 c4 c5 c6 c7; have c0 := hB2.out.box 0; have c1 := hB2.out.box 1; have c2 := hB2.out.box 2; have c3 := hB2.out.box 3; have c4 := hB2.out.box 4; have c5 := hB2.out.box 5; have c6 := hB2.out.box 6; have c7 := hB2.out.box 7; simp [Sn.vals] at c0 c1 c2 c3 c4 c5 c6 c7)
        | (go_at_call 8; refine (HA _).out.mono ?_; rintro e w1 ⟨rfl, hN1⟩; have hB1 : Kpt (Blk w1 w.heap.size _) := ⟨hbox0.out.below hN1 hbox0.out.lt⟩; have hb1 : Kpt (Below w.heap.size w w1) := ⟨((Below.refl _ _).alloc (Nat.le_refl _) _).trans (hN1.mono (by simp))⟩; clear hN1; have c0 := hB1.out.box 0; have c1 := hB1.out.box 1; have c2 := hB1.out.box 2; have c3 := hB1.out.box 3; have c4 := hB1.out.box 4; have c5 := hB1.out.box 5; have c6 := hB1.out.box 6; have c7 := hB1.out.box 7; simp [Sn.vals] at c0 c1 c2 c3 c4 c5 c6 c7))
      go_ret
      refine ⟨rfl, ?_⟩
      first | exact hb5.out | exact hb6.out | exact hb6.out.alloc (Nat.le_of_lt hB6.out.lt) _
    · have HX : Kpt (∀ W, Calls Try.prog 9 #[.agg V] W fun e w' => ∃ g, e = .returned (.tuple #[.slice (some ⟨g, 0, none⟩) 18 18, .int .i64 0]) ∧ (RdAt w' (.slice (some ⟨g, 0, none⟩) 18 18) s.fixedB ∧ g < w'.heap.size) ∧ Below W.heap.size W w') := ⟨fun W => by
        rw [hV]
        exact (fixed_ok s hs hform (by omega) W).mono (fun e w' ⟨g, h1, h2⟩ => ⟨g, h1, ⟨own_rd h2.1, (World.ownsRow.lt h2.1 g rfl).2⟩, h2.2⟩)⟩
      have HC2 : Kpt (∀ W v, RdAt W v s.fixedB → (∀ g, v.ownBlock = some g → g < W.heap.size) → Calls Try.prog 15 #[v] W fun e w' => e = .returned (.tuple #[.agg V, .int .i64 0]) ∧ Below W.heap.size W w') := ⟨fun W v h1 h2 => by
        have := decode_any v s.fixedB W h1 (bytes_of_wf_fixed hs hform (by omega)) (by unfold maxLen; simp [Sn.fixedB, Sn.fieldB]) h2
        unfold decRes at this
        rw [decS_fixed s hs hform (by omega)] at this
        rw [hV]
        exact this⟩
      rw [hform, ← hV] at HF
      rw [← hV]
      obtain ⟨L, hL⟩ : ∃ L, L = s.descB := ⟨_, rfl⟩
      rw [← hL] at HD HC
      obtain ⟨M, hM⟩ : ∃ L, L = s.fixedB := ⟨_, rfl⟩
      rw [← hM] at HX HC2
      obtain ⟨key, code, info, hi, field, bit, hf, ic⟩ := s
      simp only [Sn.vals] at hV
      simp only at hrng
      subst hV
      clear hs hform hL hM
      go_enter Try.func5, Try.ntmps5
      go_wp2_with (first
        | (go_at_call 15; have hm := m9; refine (HC2.out _ _ hr5.out.1 (fun g hg => by simp [Value.ownBlock] at hg; subst hg; exact hr5.out.2)).mono ?_; rintro e w6 ⟨rfl, hN6⟩; have hB6 : Kpt (Blk w6 w.heap.size _) := ⟨hB5.out.below hN6 hB5.out.lt⟩; have hb6 : Kpt (Below w.heap.size w w6) := ⟨hb5.out.trans (hN6.mono (Nat.le_of_lt hB5.out.lt))⟩; clear hN6; have hl6 := hB6.out.lt; clear c0 c1 c2 c3 c4 c5 c6 c7; have c0 := hB6.out.box 0; have c1 := hB6.out.box 1; have c2 := hB6.out.box 2; have c3 := hB6.out.box 3; have c4 := hB6.out.box 4; have c5 := hB6.out.box 5; have c6 := hB6.out.box 6; have c7 := hB6.out.box 7; simp [Sn.vals] at c0 c1 c2 c3 c4 c5 c6 c7)
        | (go_at_call 9; refine (HX.out _).mono ?_; rintro e w5 ⟨g5, rfl, hr5, hN5⟩; replace hr5 := Kpt.mk hr5; have hA5 : Kpt (Below w4.heap.size w4 (w4.alloc (.cells #[.int .u8 key, .int .u16 code, .int .u64 info, .bool hi, .int .i64 field, .int .i64 bit, .bool hf, .bool ic] 25))) := ⟨(Below.refl _ _).alloc (Nat.le_refl _) _⟩; have hB5 : Kpt (Blk w5 w.heap.size _) := ⟨(hB4.out.below hA5.out hB4.out.lt).below hN5 (by have := hB4.out.lt; simp; omega)⟩; have hb5 : Kpt (Below w.heap.size w w5) := ⟨hb4.out.trans ((hA5.out.mono (Nat.le_of_lt hB4.out.lt)).trans (hN5.mono (by have := hB4.out.lt; simp; omega)))⟩; clear hN5; clear c0 c1 c2 c3 c4 c5 c6 c7; have c0 := hB5.out.box 0; have c1 := hB5.out.box 1; have c2 := hB5.out.box 2; have c3 := hB5.out.box 3; have c4 := hB5.out.box 4; have c5 := hB5.out.box 5; have c6 := hB5.out.box 6; have c7 := hB5.out.box 7; simp [Sn.vals] at c0 c1 c2 c3 c4 c5 c6 c7; have m9 : Kpt True := ⟨trivial⟩)
        | (go_at_call 15; refine (HC.out _ _ (hr2.out.1.of_block (fun g hg => by simp [Value.ownBlock] at hg; subst hg; exact hN3.out.block _ hr2.out.2)) (fun g hg => by simp [Value.ownBlock] at hg; subst hg; exact Nat.lt_of_lt_of_le hr2.out.2 hN3.out.size)).mono ?_; rintro e w4 ⟨rfl, hN4⟩; have hB4 : Kpt (Blk w4 w.heap.size _) := ⟨hB3.out.below hN4 hB3.out.lt⟩; have hb4 : Kpt (Below w.heap.size w w4) := ⟨hb3.out.trans (hN4.mono (Nat.le_of_lt hB3.out.lt))⟩; clear hN4; have hl4 := hB4.out.lt; clear c0 c1 c2 c3 c4 c5 c6 c7; have c0 := hB4.out.box 0; have c1 := hB4.out.box 1; have c2 := hB4.out.box 2; have c3 := hB4.out.box 3; have c4 := hB4.out.box 4; have c5 := hB4.out.box 5; have c6 := hB4.out.box 6; have c7 := hB4.out.box 7; simp [Sn.vals] at c0 c1 c2 c3 c4 c5 c6 c7)
        | (go_at_call 13; refine (HF.out _).mono ?_; rintro e w3 ⟨rfl, hN3, _⟩; have hB3 : Kpt (Blk w3 w.heap.size _) := ⟨hB2.out.below hN3 hB2.out.lt⟩; have hb3 : Kpt (Below w.heap.size w w3) := ⟨hb2.out.trans (hN3.mono (Nat.le_of_lt hB2.out.lt))⟩; replace hN3 := Kpt.mk hN3; clear c0 c1 c2 c3 c4 c5 c6 c7; have c0 := hB3.out.box 0; have c1 := hB3.out.box 1; have c2 := hB3.out.box 2; have c3 := hB3.out.box 3; have c4 := hB3.out.box 4; have c5 := hB3.out.box 5; have c6 := hB3.out.box 6; have c7 := hB3.out.box 7; simp [Sn.vals] at c0 c1 c2 c3 c4 c5 c6 c7)
        | (go_at_call 10; refine (HD.out _).mono ?_; rintro e w2 ⟨g2, cap2, n2, rfl, hr2, hN2⟩; replace hr2 := Kpt.mk hr2; have hB2 : Kpt (Blk w2 w.heap.size _) := ⟨hB1.out.below hN2 hB1.out.lt⟩; have hb2 : Kpt (Below w.heap.size w w2) := ⟨hb1.out.trans (hN2.mono (Nat.le_of_lt hB1.out.lt))⟩; clear hN2; clear c0 c1 c2 c3 c4 c5 c6 c7; have c0 := hB2.out.box 0; have c1 := hB2.out.box 1; have c2 := hB2.out.box 2; have c3 := hB2.out.box 3; have c4 := hB2.out.box 4; have c5 := hB2.out.box 5; have c6 := hB2.out.box 6; have c7 := hB2.out.box 7; simp [Sn.vals] at c0 c1 c2 c3 c4 c5 c6 c7)
        | (go_at_call 8; refine (HA _).out.mono ?_; rintro e w1 ⟨rfl, hN1⟩; have hB1 : Kpt (Blk w1 w.heap.size _) := ⟨hbox0.out.below hN1 hbox0.out.lt⟩; have hb1 : Kpt (Below w.heap.size w w1) := ⟨((Below.refl _ _).alloc (Nat.le_refl _) _).trans (hN1.mono (by simp))⟩; clear hN1; have c0 := hB1.out.box 0; have c1 := hB1.out.box 1; have c2 := hB1.out.box 2; have c3 := hB1.out.box 3; have c4 := hB1.out.box 4; have c5 := hB1.out.box 5; have c6 := hB1.out.box 6; have c7 := hB1.out.box 7; simp [Sn.vals] at c0 c1 c2 c3 c4 c5 c6 c7))
      go_ret
      refine ⟨rfl, ?_⟩
      first | exact hb5.out | exact hb6.out | exact hb6.out.alloc (Nat.le_of_lt hB6.out.lt) _

/-! ### The row. -/
set_option maxRecDepth 100000 in
theorem lifted (os : Os) (started : os.Started) (H : Type) (enc : TypeId × Value → H) :
    ReturnsInHanded {} Try.checked os 5 .any (Rows.senseBackSpec.pre6 enc Try.prog Try.f5 Rows.senseBackRow.domain false) (Rows.senseBackSpec.post enc Try.prog Try.f5 false true false false) := by
  refine returnsInHanded_of_change (C := Try.checked) own started (by kernel_rfl) Try.func5
    (ChangeSpec.witness6 (enc := enc) (C := Try.checked) false ⟨#[], #[.agg #[.int .u8 0, .int .u16 0, .int .u64 0, .bool false, .int .i64 0, .int .i64 0, .bool false, .bool false]], []⟩ 8 (by kernel_rfl) (by kernel_rfl) (by kernel_rfl) (by kernel_rfl)) ?_
  intro W base args ds gs before hval0 hW hcnd _
  have hval : ∀ (j : Nat) t v, Try.f5.params[j]? = some t → args[j]? = some v → Value.okWide Try.prog W .any base t v := hval0
  have hW' := hW
  obtain ⟨p, q, hA0, hV, rfl, hfz, hnd⟩ := hW
  have hA : DataW.TrodAll enc Try.prog W 0 (fun _ => true) true Try.f5.params.toList args.toList ds p := hA0
  rw [Try.params5] at hA hval
  obtain ⟨v0, vs0, d0, ds0, p0, q0, hargs, rfl, rfl, h0, r0⟩ := trodAll_cons hA
  obtain ⟨rfl, rfl, rfl⟩ := trodAll_nil r0
  obtain rfl : args = #[v0] := by cases args; simp_all
  obtain ⟨rfl, rfl⟩ := trodVars_none hV
  have k0 := h0
  have lt0 : ∀ x ∈ p0, x.block < W.heap.size := by obtain ⟨m, hm⟩ := k0; exact DataW.trod_lt m _ _ _ hm
  obtain ⟨s0, rfl, w0⟩ := open_sense (hval 0 25 v0 rfl rfl) h0
  clear hA0 hval0
  refine (walk s0 W w0).mono fun e W' ⟨he, bel⟩ => ?_
  subst he
  exact ⟨_, rfl, _, _, _, [], _, [], hW', trodAll_mk1 (shut_bool Try.underlying4 _), (trodAll_cons_mk (Below.trod laidOut (by kernel_rfl) (of_decide_eq_true (by kernel_rfl)) k0 bel lt0) trodAll_mk0), rfl, bel.frame _, fun h => by cases h⟩

theorem over : Rows.senseBackRow.holds Try.pinned (OpenSpec.ofChange Rows.senseBackSpec) :=
  OpenClaim.holds_of_wide 5 Try.f5 rfl rfl rfl rfl rfl rfl rfl ⟨rfl, rfl, rfl, rfl, rfl⟩ rfl rfl rfl rfl rfl (by kernel_rfl) Try.func5 (by kernel_rfl)
    (of_decide_eq_true (by kernel_rfl)) (by unfold Func.isWrapper; first | (rw [if_pos (by decide +kernel)]; kernel_rfl) | (rw [if_neg (by decide +kernel)]; exact ⟨rfl, rfl⟩))
    (fun os started H enc _ => lifted os started H enc)

/-- The statement. -/
theorem proved : Rows.SenseBackSaid := over
#print axioms proved
end Go.Proofs.Ytglfkpdbgddpdaa.senseBack
