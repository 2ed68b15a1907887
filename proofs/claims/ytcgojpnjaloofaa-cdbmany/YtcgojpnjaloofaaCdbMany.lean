/-
  Commands that read or write more blocks than may be are refused, as many as may be are not: CdbMany returns true for every number and pick; no condition.
-/
import Derived.Test.YtcgojpnjaloofaaRows
import Derived.Test.YtcgojpnjaloofaaCLaw
import Derived.Test.YtcgojpnjaloofaaCMnA
import Derived.Test.YtcgojpnjaloofaaCMnB
import Derived.Test.YtcgojpnjaloofaaCMnC
import Derived.Test.YtcgojpnjaloofaaCMnD
import Derived.WalkKit
import Derived.ProofKit
import Derived.OpenShut
import Derived.ShutString
import Derived.ChangeOld
import Derived.Below
import Derived.Lib.SmallJoins
namespace Go.Proofs.Ytcgojpnjaloofaa.cdbMany
open Go.ChangeShapes Go.WideShapes Go.ChangeAt Go.RowKit Go.Joins
open Go.ChangeMaps (open_string shut_string)
set_option linter.unusedVariables false
set_option linter.unusedSimpArgs false

theorem own : ownKnob Try.prog.godebug = none := by kernel_rfl
theorem laidOut : laidOutB Try.prog = true := by kernel_rfl

/-! ### The walk: the Go text returns true. -/
theorem walk (a0 a1 : Int) (w : World) (w0 : (Lit.int .u32 a0).wf = true) (w1 : (Lit.int .u8 a1).wf = true) :
    Calls Try.prog 8 #[.int .u32 a0, .int .u8 a1] w fun e w' => e = .returned (.bool true) ∧ Below w.heap.size w w' := by
  have h0 := wf_u32 w0
  have h1 := wf_u8 w1
  have hc : a1 % 6 = 0 ∨ a1 % 6 = 1 ∨ a1 % 6 = 2 ∨ a1 % 6 = 3 ∨ a1 % 6 = 4 ∨ a1 % 6 = 5 := by omega
  obtain ⟨k, hk⟩ : ∃ k, a0 % 65536 = k := ⟨_, rfl⟩
  by_cases hb : 256 < k
  · by_cases hB : 256 < a0
    · rcases hc with h | h | h | h | h | h
      · exact many_0_big a0 a1 k w h0 h1 h hk hb
      · exact many_1_big a0 a1 k w h0 h1 h hk hb
      · exact many_2_big a0 a1 k w h0 h1 h hk hb
      · exact many_3_big a0 a1 k w h0 h1 h hk hb
      · exact many_4_big a0 a1 w h0 h1 h hB
      · exact many_5_big a0 a1 w h0 h1 h hB
    · omega
  · have hb' : k ≤ 256 := by omega
    by_cases hB : 256 < a0
    · rcases hc with h | h | h | h | h | h
      · exact many_0_few a0 a1 k w h0 h1 h hk hb'
      · exact many_1_few a0 a1 k w h0 h1 h hk hb'
      · exact many_2_few a0 a1 k w h0 h1 h hk hb'
      · exact many_3_few a0 a1 k w h0 h1 h hk hb'
      · exact many_4_big a0 a1 w h0 h1 h hB
      · exact many_5_big a0 a1 w h0 h1 h hB
    · rcases hc with h | h | h | h | h | h
      · exact many_0_few a0 a1 k w h0 h1 h hk hb'
      · exact many_1_few a0 a1 k w h0 h1 h hk hb'
      · exact many_2_few a0 a1 k w h0 h1 h hk hb'
      · exact many_3_few a0 a1 k w h0 h1 h hk hb'
      · exact many_4_few a0 a1 w h0 h1 h (by omega)
      · exact many_5_few a0 a1 w h0 h1 h (by omega)

/-! ### The row. -/
set_option maxRecDepth 100000 in
theorem lifted (os : Os) (started : os.Started) (H : Type) (enc : TypeId × Value → H) :
    ReturnsInHanded {} Try.checked os 8 .any (Rows.cdbManySpec.pre6 enc Try.prog Try.f8 Rows.cdbManyRow.domain false) (Rows.cdbManySpec.post enc Try.prog Try.f8 false true false false) := by
  refine returnsInHanded_of_change (C := Try.checked) own started (by kernel_rfl) Try.func8
    (ChangeSpec.witness6 (enc := enc) (C := Try.checked) false ⟨#[], #[.int .u32 0, .int .u8 0], []⟩ 8 (by kernel_rfl) (by kernel_rfl) (by kernel_rfl) (by kernel_rfl)) ?_
  intro W base args ds gs before hval0 hW hcnd _
  have hval : ∀ (j : Nat) t v, Try.f8.params[j]? = some t → args[j]? = some v → Value.okWide Try.prog W .any base t v := hval0
  have hW' := hW
  obtain ⟨p, q, hA0, hV, rfl, hfz, hnd⟩ := hW
  have hA : DataW.TrodAll enc Try.prog W 0 (fun _ => true) true Try.f8.params.toList args.toList ds p := hA0
  rw [Try.params8] at hA hval
  obtain ⟨v0, vs0, d0, ds0, p0, q0, hargs, rfl, rfl, h0, r0⟩ := trodAll_cons hA
  obtain ⟨v1, vs1, d1, ds1, p1, q1, rfl, rfl, rfl, h1, r1⟩ := trodAll_cons r0
  obtain ⟨rfl, rfl, rfl⟩ := trodAll_nil r1
  obtain rfl : args = #[v0, v1] := by cases args; simp_all
  obtain ⟨rfl, rfl⟩ := trodVars_none hV
  obtain ⟨a0, rfl, rfl, rfl, w0⟩ := open_int Try.underlying40 (hval 0 40 v0 rfl rfl) h0
  obtain ⟨a1, rfl, rfl, rfl, w1⟩ := open_int Try.underlying5 (hval 1 5 v1 rfl rfl) h1
  clear hA0 hval0
  refine (walk a0 a1 W w0 w1).mono fun e W' ⟨he, bel⟩ => ?_
  subst he
  exact ⟨_, rfl, _, _, _, [], _, [], hW', trodAll_mk1 (shut_bool Try.underlying4 _), (trodAll_cons_mk (shut_int Try.underlying40 w0) (trodAll_cons_mk (shut_int Try.underlying5 w1) trodAll_mk0)), rfl, bel.frame _, fun h => by cases h⟩

theorem over : Rows.cdbManyRow.holds Try.pinned (OpenSpec.ofChange Rows.cdbManySpec) :=
  OpenClaim.holds_of_wide 8 Try.f8 rfl rfl rfl rfl rfl rfl rfl ⟨rfl, rfl, rfl, rfl, rfl⟩ rfl rfl rfl rfl rfl (by kernel_rfl) Try.func8 (by kernel_rfl)
    (of_decide_eq_true (by kernel_rfl)) (by unfold Func.isWrapper; first | (rw [if_pos (by decide +kernel)]; kernel_rfl) | (rw [if_neg (by decide +kernel)]; exact ⟨rfl, rfl⟩))
    (fun os started H enc _ => lifted os started H enc)

/-- The statement. -/
theorem proved : Rows.CdbManySaid := over
#print axioms proved
end Go.Proofs.Ytcgojpnjaloofaa.cdbMany
