/-
  SbcUnmaps: too few bytes.
-/
import Derived.Test.YtklboieemljmiabVUd
namespace Go.Proofs.Ytklboieemljmiab
open Go.RowKit
set_option linter.unusedVariables false
set_option linter.unusedSimpArgs false

set_option maxRecDepth 100000 in
set_option maxHeartbeats 1000000 in
theorem unmaps_0 (a : Option Addr) (len cap : Nat) (lb nb : Int) (sm : Bool) (w : World) (hn : len < 256) :
    Calls Try.prog 3 #[.slice a len cap, .int .u8 lb, .int .u8 nb, .bool sm] w fun e w' => e = .returned (.bool true) ∧ Below w.heap.size w w' := by
  have HA := Kpt.mk (fun W => awake_any W)
  have e0 : (len : Int) < 256 := by omega
  go_enter Try.func3, Try.ntmps3
  go_wp2_with (first
    | (go_at_call 4; have hm := m1; go_must (refine (HA.out _).mono ?_; rintro e w2 ⟨rfl, hb2⟩; replace hb1 : Kpt (Below w.heap.size w w2) := ⟨hb1.out.trans (hb2.mono hb1.out.size)⟩; clear hb2))
    | (go_at_call 4; go_must (refine (HA.out _).mono ?_; rintro e w1 ⟨rfl, hb1⟩; replace hb1 := Kpt.mk hb1; have m1 : Kpt True := ⟨trivial⟩))
    | fail)
  go_ret
  exact ⟨rfl, hb1.out⟩
end Go.Proofs.Ytklboieemljmiab
