/-
  sess: SessWrites, where there are no data, or too many.
-/
import Derived.Test.YtdplndlmdhpfaaaEWdw
namespace Go.Proofs.Ytdplndlmdhpfaaa
open Go.RowKit
set_option linter.unusedVariables false
set_option linter.unusedSimpArgs false

set_option maxRecDepth 100000 in
theorem writes_long (a : Option Addr) (n c : Nat) (burst wi : Int) (ca : Value) (w : World) (h5 : 3000 < n) :
    Calls Try.prog 4 #[.slice a n c, .int .u16 burst, .int .u16 wi, ca] w fun e w' => e = .returned (.bool true) ∧ Below w.heap.size w w' := by
  have hA : Kpt (∀ W : World, Calls Try.prog 8 #[] W fun e w' => e = .returned (.bool true) ∧ Below W.heap.size W w') := ⟨awake_any⟩
  have e5 : (3000 : Int) < n := by omega
  have d5 : decide ((3000 : Int) < n) = true := by simp; omega
  have d6 : ((n : Int) == 0) = false := by simp; omega
  have d7 : decide ((n : Int) = 0) = false := by simp; omega
  go_enter Try.func4, Try.ntmps4
  go_wp2_with (first
    | (go_at_call 8; have m := hb1; go_must (refine (hA.out _).mono ?_; rintro e w2 ⟨rfl, hb2⟩; replace hb2 := Kpt.mk (hb1.out.trans (hb2.mono hb1.out.size)); clear m))
    | (go_at_call 8; go_must (refine (hA.out _).mono ?_; rintro e w1 ⟨rfl, hb1⟩; replace hb1 := Kpt.mk hb1)))
  go_ret
  exact ⟨rfl, hb2.out⟩
set_option maxRecDepth 100000 in
theorem writes_none (a : Option Addr) (c : Nat) (burst wi : Int) (ca : Value) (w : World) :
    Calls Try.prog 4 #[.slice a 0 c, .int .u16 burst, .int .u16 wi, ca] w fun e w' => e = .returned (.bool true) ∧ Below w.heap.size w w' := by
  have hA : Kpt (∀ W : World, Calls Try.prog 8 #[] W fun e w' => e = .returned (.bool true) ∧ Below W.heap.size W w') := ⟨awake_any⟩
  go_enter Try.func4, Try.ntmps4
  go_wp2_with (first
    | (go_at_call 8; have m := hb1; go_must (refine (hA.out _).mono ?_; rintro e w2 ⟨rfl, hb2⟩; replace hb2 := Kpt.mk (hb1.out.trans (hb2.mono hb1.out.size)); clear m))
    | (go_at_call 8; go_must (refine (hA.out _).mono ?_; rintro e w1 ⟨rfl, hb1⟩; replace hb1 := Kpt.mk hb1)))
  go_ret
  exact ⟨rfl, hb2.out⟩
theorem wf_w16 {n : Int} (h : (Lit.int .u16 n).wf = true) : 0 ≤ n ∧ n < 65536 := by
  simp [Lit.wf, IntKind.min, IntKind.max, IntKind.bits, IntKind.signed] at h; omega
end Go.Proofs.Ytdplndlmdhpfaaa
