/-
  Proved: sense data with a byte turned, cut, or longer tell something else or nothing (SenseSpoilsSaid), for every sense, place, byte and format, no conditions.
-/
import Derived.Test.YtglfkpdbgddpdaaRows
import Derived.Test.YtglfkpdbgddpdaaSSpA
import Derived.Test.YtglfkpdbgddpdaaSSpB
import Derived.Test.YtglfkpdbgddpdaaSSpC
import Derived.Test.YtglfkpdbgddpdaaSSpD
import Derived.Test.YtglfkpdbgddpdaaSSpE
import Derived.Test.YtglfkpdbgddpdaaSOpen
import Derived.WalkKit
import Derived.ProofKit
import Derived.OpenShut
import Derived.ShutString
import Derived.ChangeOld
import Derived.Below
import Derived.Lib.SmallJoins
namespace Go.Proofs.Ytglfkpdbgddpdaa.senseSpoils
open Go.ChangeShapes Go.WideShapes Go.ChangeAt Go.RowKit Go.Joins
open Go.ChangeMaps (open_string shut_string)
set_option linter.unusedVariables false
set_option linter.unusedSimpArgs false

theorem own : ownKnob Try.prog.godebug = none := by kernel_rfl
theorem laidOut : laidOutB Try.prog = true := by kernel_rfl

/-! ### The walk: the Go text returns true. -/
theorem by_zero (s : Sn) (x : Int) (d : Bool) (w : World) : Calls Try.prog 6 #[.agg s.vals, .int .u8 x, .int .u8 0, .bool d] w fun e w' => e = .returned (.bool true) ∧ Below w.heap.size w w' := by
  have HA := fun w => Kpt.mk (awake_any w)
  obtain ⟨key, code, info, hi, field, bit, hf, ic⟩ := s
  simp only [Sn.vals]
  go_enter Try.func6, Try.ntmps6
  go_wp2_with (first
    | (go_at_call 8; have hm := m1; refine (HA _).out.mono ?_; rintro e w2 ⟨rfl, hN2⟩)
    | (go_at_call 8; refine (HA _).out.mono ?_; rintro e w1 ⟨rfl, hN1⟩; have m1 : Kpt True := ⟨trivial⟩))
  go_ret
  have h0 : Below w.heap.size w (w.alloc (.cells #[.int .u8 key, .int .u16 code, .int .u64 info, .bool hi, .int .i64 field, .int .i64 bit, .bool hf, .bool ic] 25)) := (Below.refl _ _).alloc (Nat.le_refl _) _
  have h1 := h0.trans (hN1.mono h0.size)
  exact ⟨rfl, h1.trans (hN2.mono h1.size)⟩

set_option maxRecDepth 100000 in
theorem no_form (s : Sn) (x y : Int) (d : Bool) (w : World) (hy : y ≠ 0) (hform : s.form = false) : Calls Try.prog 6 #[.agg s.vals, .int .u8 x, .int .u8 y, .bool d] w fun e w' => e = .returned (.bool true) ∧ Below w.heap.size w w' := by
  have HA := fun w => Kpt.mk (awake_any w)
  obtain ⟨V, hV⟩ : ∃ V, V = s.vals := ⟨_, rfl⟩
  have hbox0 : Kpt (Blk (w.alloc (.cells V 25)) w.heap.size s) := ⟨by rw [hV]; exact blk_alloc w s⟩
  have H9 : Kpt (∀ W, Calls Try.prog 9 #[.agg V] W fun e w' => e = .returned (.tuple #[.slice none 0 0, .int .i64 3]) ∧ Below W.heap.size W w') := ⟨fun W => by rw [hV]; exact fixed_form s hform W⟩
  have H10 : Kpt (∀ W, Calls Try.prog 10 #[.agg V] W fun e w' => e = .returned (.tuple #[.slice none 0 0, .int .i64 3]) ∧ Below W.heap.size W w') := ⟨fun W => by rw [hV]; exact described_form s hform W⟩
  rw [← hV]
  obtain ⟨key, code, info, hi, field, bit, hf, ic⟩ := s
  simp only [Sn.vals] at hV
  subst hV
  clear hform
  cases d
  all_goals (
    go_enter Try.func6, Try.ntmps6
    go_wp2_with (first
      | (go_at_call 10; refine (H10.out _).mono ?_; rintro e w3 ⟨rfl, hN3⟩; have hb3 : Kpt (Below w.heap.size w w3) := ⟨hb2.out.trans (hN3.mono (Nat.le_of_lt hB2.out.lt))⟩; clear hN3)
      | (go_at_call 9; refine (H9.out _).mono ?_; rintro e w2 ⟨rfl, hN2⟩; have hB2 : Kpt (Blk w2 w.heap.size _) := ⟨hB1.out.below hN2 hB1.out.lt⟩; have hb2 : Kpt (Below w.heap.size w w2) := ⟨hb1.out.trans (hN2.mono (Nat.le_of_lt hB1.out.lt))⟩; clear hN2 c0 c1 c2 c3 c4 c5 c6 c7; have c0 := hB2.out.box 0; have c1 := hB2.out.box 1; have c2 := hB2.out.box 2; have c3 := hB2.out.box 3; have c4 := hB2.out.box 4; have c5 := hB2.out.box 5; have c6 := hB2.out.box 6; have c7 := hB2.out.box 7; simp [Sn.vals] at c0 c1 c2 c3 c4 c5 c6 c7)
      | (go_at_call 8; refine (HA _).out.mono ?_; rintro e w1 ⟨rfl, hN1⟩; have hB1 : Kpt (Blk w1 w.heap.size _) := ⟨hbox0.out.below hN1 hbox0.out.lt⟩; have hb1 : Kpt (Below w.heap.size w w1) := ⟨((Below.refl _ _).alloc (Nat.le_refl _) _).trans (hN1.mono (by simp))⟩; clear hN1; have c0 := hB1.out.box 0; have c1 := hB1.out.box 1; have c2 := hB1.out.box 2; have c3 := hB1.out.box 3; have c4 := hB1.out.box 4; have c5 := hB1.out.box 5; have c6 := hB1.out.box 6; have c7 := hB1.out.box 7; simp [Sn.vals] at c0 c1 c2 c3 c4 c5 c6 c7))
    go_ret
    exact ⟨rfl, hb3.out⟩)

theorem walk (s : Sn) (x y : Int) (d : Bool) (w : World) (hs : s.wf) (hx' : (Lit.int .u8 x).wf = true) (hy' : (Lit.int .u8 y).wf = true) :
    Calls Try.prog 6 #[.agg s.vals, .int .u8 x, .int .u8 y, .bool d] w fun e w' => e = .returned (.bool true) ∧ Below w.heap.size w w' := by
  have hx := wf_u8 hx'
  have hy := wf_u8 hy'
  by_cases hy0 : y = 0
  · subst hy0; exact by_zero s x d w
  cases hform : s.form with
  | false => exact no_form s x y d w hy0 hform
  | true =>
    have key : ∀ n : Nat, 0 < n → ∃ i : Nat, x % (n : Int) = i := fun n hn => ⟨(x % (n : Int)).toNat, by have := Int.emod_nonneg x (show (n : Int) ≠ 0 by omega); omega⟩
    by_cases hr : s.info < 4294967296
    · cases d with
      | false =>
        obtain ⟨i, hi⟩ := key s.fixedB.length (by rw [fixedB_len]; decide)
        cases hq : decS (turned s.fixedB i y) with
        | none => exact spoil_C_none s x y w hs hform hx hy hy0 hr i hi hq
        | some t => exact spoil_C_some s x y w hs hform hx hy hy0 hr i hi t hq
      | true =>
        obtain ⟨i, hi⟩ := key s.descB.length (by have := descB_len s; omega)
        cases hq : decS (turned s.descB i y) with
        | none => exact spoil_D1_none s x y w hs hform hx hy hy0 hr i hi hq
        | some t => exact spoil_D1_some s x y w hs hform hx hy hy0 hr i hi t hq
    · have hr' : 4294967295 < s.info := by omega
      obtain ⟨i, hi⟩ := key s.descB.length (by have := descB_len s; omega)
      cases d with
      | false =>
        cases hq : decS (turned s.descB i y) with
        | none => exact spoil_D2f_none s x y w hs hform hx hy hy0 hr' i hi hq
        | some t => exact spoil_D2f_some s x y w hs hform hx hy hy0 hr' i hi t hq
      | true =>
        cases hq : decS (turned s.descB i y) with
        | none => exact spoil_D2t_none s x y w hs hform hx hy hy0 hr' i hi hq
        | some t => exact spoil_D2t_some s x y w hs hform hx hy hy0 hr' i hi t hq

/-! ### The row. -/
set_option maxRecDepth 100000 in
theorem lifted (os : Os) (started : os.Started) (H : Type) (enc : TypeId × Value → H) :
    ReturnsInHanded {} Try.checked os 6 .any (Rows.senseSpoilsSpec.pre6 enc Try.prog Try.f6 Rows.senseSpoilsRow.domain false) (Rows.senseSpoilsSpec.post enc Try.prog Try.f6 false true false false) := by
  refine returnsInHanded_of_change (C := Try.checked) own started (by kernel_rfl) Try.func6
    (ChangeSpec.witness6 (enc := enc) (C := Try.checked) false ⟨#[], #[.agg #[.int .u8 0, .int .u16 0, .int .u64 0, .bool false, .int .i64 0, .int .i64 0, .bool false, .bool false], .int .u8 0, .int .u8 0, .bool false], []⟩ 8 (by kernel_rfl) (by kernel_rfl) (by kernel_rfl) (by kernel_rfl)) ?_
  intro W base args ds gs before hval0 hW hcnd _
  have hval : ∀ (j : Nat) t v, Try.f6.params[j]? = some t → args[j]? = some v → Value.okWide Try.prog W .any base t v := hval0
  have hW' := hW
  obtain ⟨p, q, hA0, hV, rfl, hfz, hnd⟩ := hW
  have hA : DataW.TrodAll enc Try.prog W 0 (fun _ => true) true Try.f6.params.toList args.toList ds p := hA0
  rw [Try.params6] at hA hval
  obtain ⟨v0, vs0, d0, ds0, p0, q0, hargs, rfl, rfl, h0, r0⟩ := trodAll_cons hA
  obtain ⟨v1, vs1, d1, ds1, p1, q1, rfl, rfl, rfl, h1, r1⟩ := trodAll_cons r0
  obtain ⟨v2, vs2, d2, ds2, p2, q2, rfl, rfl, rfl, h2, r2⟩ := trodAll_cons r1
  obtain ⟨v3, vs3, d3, ds3, p3, q3, rfl, rfl, rfl, h3, r3⟩ := trodAll_cons r2
  obtain ⟨rfl, rfl, rfl⟩ := trodAll_nil r3
  obtain rfl : args = #[v0, v1, v2, v3] := by cases args; simp_all
  obtain ⟨rfl, rfl⟩ := trodVars_none hV
  have k0 := h0
  have lt0 : ∀ x ∈ p0, x.block < W.heap.size := by obtain ⟨m, hm⟩ := k0; exact DataW.trod_lt m _ _ _ hm
  obtain ⟨s0, rfl, w0⟩ := open_sense (hval 0 25 v0 rfl rfl) h0
  obtain ⟨a1, rfl, rfl, rfl, w1⟩ := open_int Try.underlying5 (hval 1 5 v1 rfl rfl) h1
  obtain ⟨a2, rfl, rfl, rfl, w2⟩ := open_int Try.underlying5 (hval 2 5 v2 rfl rfl) h2
  obtain ⟨a3, rfl, rfl, rfl⟩ := open_bool Try.underlying4 (hval 3 4 v3 rfl rfl) h3
  clear hA0 hval0
  refine (walk s0 a1 a2 a3 W w0 w1 w2).mono fun e W' ⟨he, bel⟩ => ?_
  subst he
  exact ⟨_, rfl, _, _, _, [], _, [], hW', trodAll_mk1 (shut_bool Try.underlying4 _), (trodAll_cons_mk (Below.trod laidOut (by kernel_rfl) (of_decide_eq_true (by kernel_rfl)) k0 bel lt0) (trodAll_cons_mk (shut_int Try.underlying5 w1) (trodAll_cons_mk (shut_int Try.underlying5 w2) (trodAll_cons_mk (shut_bool Try.underlying4 a3) trodAll_mk0)))), rfl, bel.frame _, fun h => by cases h⟩

theorem over : Rows.senseSpoilsRow.holds Try.pinned (OpenSpec.ofChange Rows.senseSpoilsSpec) :=
  OpenClaim.holds_of_wide 6 Try.f6 rfl rfl rfl rfl rfl rfl rfl ⟨rfl, rfl, rfl, rfl, rfl⟩ rfl rfl rfl rfl rfl (by kernel_rfl) Try.func6 (by kernel_rfl)
    (of_decide_eq_true (by kernel_rfl)) (by unfold Func.isWrapper; first | (rw [if_pos (by decide +kernel)]; kernel_rfl) | (rw [if_neg (by decide +kernel)]; exact ⟨rfl, rfl⟩))
    (fun os started H enc _ => lifted os started H enc)

/-- The statement. -/
theorem proved : Rows.SenseSpoilsSaid := over
#print axioms proved
end Go.Proofs.Ytglfkpdbgddpdaa.senseSpoils
