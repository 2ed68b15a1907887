/-
  Which bits of any operation and service are looked at: CdbUses returns true for every operation and service; no condition.
-/
import Derived.Test.YtcgojpnjaloofaaRows
import Derived.Test.YtcgojpnjaloofaaCLaw
import Derived.Test.YtcgojpnjaloofaaCSame
import Derived.WalkKit
import Derived.ProofKit
import Derived.OpenShut
import Derived.ShutString
import Derived.ChangeOld
import Derived.Below
import Derived.Lib.SmallJoins
namespace Go.Proofs.Ytcgojpnjaloofaa.cdbUses
open Go.ChangeShapes Go.WideShapes Go.ChangeAt Go.RowKit Go.Joins
open Go.ChangeMaps (open_string shut_string)
set_option linter.unusedVariables false
set_option linter.unusedSimpArgs false

theorem own : ownKnob Try.prog.godebug = none := by kernel_rfl
theorem laidOut : laidOutB Try.prog = true := by kernel_rfl

/-! ### The walk: the Go text returns true. -/
set_option maxRecDepth 100000 in
set_option maxHeartbeats 2000000 in
theorem walk_gen (a0 a1 : Int) (M : List Int) (sv : Bool) (w : World) (h0 : 0 ≤ a0 ∧ a0 ≤ 255)
    (HU : Kpt (∀ W, Calls Try.prog 12 #[.int .u8 a0, .int .u8 a1] W fun e w' => ∃ a n c, e = .returned (.tuple #[.slice a n c, .bool sv]) ∧ RdAt w' (.slice a n c) M ∧ Below W.heap.size W w'))
    (HV : Kpt (∀ W, Calls Try.prog 13 #[.int .u8 a0, .int .u8 a1] W fun e w' => ∃ a n c, e = .returned (.tuple #[.slice a n c, .bool sv]) ∧ RdAt w' (.slice a n c) M ∧ Below W.heap.size W w')) :
    Calls Try.prog 4 #[.int .u8 a0, .int .u8 a1] w fun e w' => e = .returned (.bool true) ∧ Below w.heap.size w w' := by
  have HA := fun w => Kpt.mk (awake_any w)
  have HF := fun w => Kpt.mk (fault_any a0 (-1) w)
  have HG := fun w => Kpt.mk (rfault_any a0 (-1) w)
  simp only [faultS, Sn.vals] at HF HG
  go_enter Try.func4, Try.ntmps4
  go_wp2_with (first
    | (go_at_call 9; refine (HA _).out.mono ?_; rintro e w1 ⟨rfl, hb1⟩; replace hb1 := Kpt.mk hb1)
    | (go_at_call 12; refine (HU.out w1).mono ?_; rintro e w2 ⟨x2, n2, c2, rfl, hr2, hb2⟩; have HB2 : Kpt (Below w.heap.size w w2) := ⟨hb1.out.trans (hb2.mono hb1.out.size)⟩; replace hr2 := Kpt.mk hr2; clear hb2)
    | (go_at_call 13; refine (HV.out w2).mono ?_; rintro e w3 ⟨x3, n3, c3, rfl, hr3, hb3⟩; have HB3 : Kpt (Below w.heap.size w w3) := ⟨HB2.out.trans (hb3.mono HB2.out.size)⟩; have e2 := conv_rd (hr2.out.below hb3); have e3 := conv_rd hr3; clear hb3 hr3)
    | (go_at_call 14; refine (HF _).out.mono ?_; rintro e w4 ⟨rfl, hb4⟩; have HB4 : Kpt (Below w.heap.size w w4) := ⟨HB3.out.trans (hb4.mono HB3.out.size)⟩; clear hb4)
    | (go_at_call 15; refine (HG _).out.mono ?_; rintro e w5 ⟨rfl, hb5⟩; have HB5 : Kpt (Below w.heap.size w w5) := ⟨HB4.out.trans (hb5.mono HB4.out.size)⟩; clear hb5))
  go_ret
  exact ⟨by simp, HB5.out⟩

theorem walk (a0 a1 : Int) (w : World) (w0 : (Lit.int .u8 a0).wf = true) (w1 : (Lit.int .u8 a1).wf = true) :
    Calls Try.prog 4 #[.int .u8 a0, .int .u8 a1] w fun e w' => e = .returned (.bool true) ∧ Below w.heap.size w w' := by
  by_cases hm : maskL a0 = []
  · refine walk_gen a0 a1 [] false w (wf_u8 w0) ⟨fun W => ?_⟩ ⟨fun W => ?_⟩
    · exact (usage_nil a0 a1 W hm).mono fun e w' ⟨h1, h2⟩ => ⟨_, _, _, h1, rd_nil _, by rw [h2]; exact Below.refl _ _⟩
    · exact (rusage_nil a0 a1 W hm).mono fun e w' ⟨h1, h2⟩ => ⟨_, _, _, h1, rd_nil _, by rw [h2]; exact Below.refl _ _⟩
  · refine walk_gen a0 a1 (maskL a0) (servB a0 a1) w (wf_u8 w0) ⟨fun W => ?_⟩ ⟨fun W => ?_⟩
    · exact (usage_any a0 a1 W hm).mono fun e w' ⟨h1, h2⟩ => ⟨_, _, _, h1, by rw [h2]; exact rd_alloc W _ _ rfl, by rw [h2]; exact (Below.refl _ _).alloc (Nat.le_refl _) _⟩
    · exact (rusage_any a0 a1 W hm).mono fun e w' ⟨g, cap, h1, h2, h3⟩ => ⟨_, _, _, h1, own_rd h2, h3⟩

/-! ### The row. -/
set_option maxRecDepth 100000 in
theorem lifted (os : Os) (started : os.Started) (H : Type) (enc : TypeId × Value → H) :
    ReturnsInHanded {} Try.checked os 4 .any (Rows.cdbUsesSpec.pre6 enc Try.prog Try.f4 Rows.cdbUsesRow.domain false) (Rows.cdbUsesSpec.post enc Try.prog Try.f4 false true false false) := by
  refine returnsInHanded_of_change (C := Try.checked) own started (by kernel_rfl) Try.func4
    (ChangeSpec.witness6 (enc := enc) (C := Try.checked) false ⟨#[], #[.int .u8 0, .int .u8 0], []⟩ 8 (by kernel_rfl) (by kernel_rfl) (by kernel_rfl) (by kernel_rfl)) ?_
  intro W base args ds gs before hval0 hW hcnd _
  have hval : ∀ (j : Nat) t v, Try.f4.params[j]? = some t → args[j]? = some v → Value.okWide Try.prog W .any base t v := hval0
  have hW' := hW
  obtain ⟨p, q, hA0, hV, rfl, hfz, hnd⟩ := hW
  have hA : DataW.TrodAll enc Try.prog W 0 (fun _ => true) true Try.f4.params.toList args.toList ds p := hA0
  rw [Try.params4] at hA hval
  obtain ⟨v0, vs0, d0, ds0, p0, q0, hargs, rfl, rfl, h0, r0⟩ := trodAll_cons hA
  obtain ⟨v1, vs1, d1, ds1, p1, q1, rfl, rfl, rfl, h1, r1⟩ := trodAll_cons r0
  obtain ⟨rfl, rfl, rfl⟩ := trodAll_nil r1
  obtain rfl : args = #[v0, v1] := by cases args; simp_all
  obtain ⟨rfl, rfl⟩ := trodVars_none hV
  obtain ⟨a0, rfl, rfl, rfl, w0⟩ := open_int Try.underlying5 (hval 0 5 v0 rfl rfl) h0
  obtain ⟨a1, rfl, rfl, rfl, w1⟩ := open_int Try.underlying5 (hval 1 5 v1 rfl rfl) h1
  clear hA0 hval0
  refine (walk a0 a1 W w0 w1).mono fun e W' ⟨he, bel⟩ => ?_
  subst he
  exact ⟨_, rfl, _, _, _, [], _, [], hW', trodAll_mk1 (shut_bool Try.underlying4 _), (trodAll_cons_mk (shut_int Try.underlying5 w0) (trodAll_cons_mk (shut_int Try.underlying5 w1) trodAll_mk0)), rfl, bel.frame _, fun h => by cases h⟩

theorem over : Rows.cdbUsesRow.holds Try.pinned (OpenSpec.ofChange Rows.cdbUsesSpec) :=
  OpenClaim.holds_of_wide 4 Try.f4 rfl rfl rfl rfl rfl rfl rfl ⟨rfl, rfl, rfl, rfl, rfl⟩ rfl rfl rfl rfl rfl (by kernel_rfl) Try.func4 (by kernel_rfl)
    (of_decide_eq_true (by kernel_rfl)) (by unfold Func.isWrapper; first | (rw [if_pos (by decide +kernel)]; kernel_rfl) | (rw [if_neg (by decide +kernel)]; exact ⟨rfl, rfl⟩))
    (fun os started H enc _ => lifted os started H enc)

/-- The statement. -/
theorem proved : Rows.CdbUsesSaid := over
#print axioms proved
end Go.Proofs.Ytcgojpnjaloofaa.cdbUses
