/-
  PrReserves: a key that is 0; all together.
-/
import Derived.Test.YtikndkmpedoooaaPResA
import Derived.Test.YtikndkmpedoooaaPResB
import Derived.Test.YtikndkmpedoooaaPResC
namespace Go.Proofs.Ytikndkmpedoooaa.prReserves
open Go.Proofs.Ytikndkmpedoooaa
open Go.RowKit
set_option linter.unusedVariables false
set_option linter.unusedSimpArgs false

set_option maxRecDepth 100000 in
set_option maxHeartbeats 2000000 in
theorem res_0 (a0 : Int) (o : Bool) (w : World) (h0 : 0 ≤ a0 ∧ a0 < 256) (hm : a0 % 6 = 0 ∨ a0 % 6 = 1 ∨ a0 % 6 = 2 ∨ a0 % 6 = 3 ∨ a0 % 6 = 4 ∨ a0 % 6 = 5) :
    Calls Try.prog 7 #[.int .u8 a0, .int .u64 0, .bool o] w fun e w' => e = .returned (.bool true) ∧ Below w.heap.size w w' := by
  rcases hm with hm | hm | hm | hm | hm | hm
  all_goals
    go_enter Try.func7, Try.ntmps7
    go_wp2_with fail
    refine (awake_any _).mono ?_
    rintro e w1 ⟨rfl, hb1⟩
    replace hb1 := Kpt.mk hb1
    go_wp2
    go_ret
    exact ⟨rfl, by first | exact hb1.out | exact hb1.out.alloc hb1.out.size _⟩
theorem res_walk (a0 x : Int) (o : Bool) (w : World) (h0 : 0 ≤ a0 ∧ a0 < 256) (hxr : 0 ≤ x ∧ x < 18446744073709551616) :
    Calls Try.prog 7 #[.int .u8 a0, .int .u64 x, .bool o] w fun e w' => e = .returned (.bool true) ∧ Below w.heap.size w w' := by
  have hm : a0 % 6 = 0 ∨ a0 % 6 = 1 ∨ a0 % 6 = 2 ∨ a0 % 6 = 3 ∨ a0 % 6 = 4 ∨ a0 % 6 = 5 := by omega
  by_cases hx : x = 0
  · subst hx
    exact res_0 a0 o w h0 hm
  · cases o
    · rcases hm with hm | hm | hm | hm | hm | hm
      · exact res_1_false a0 x w h0 hm hx hxr
      · exact res_3_false a0 x w h0 hm hx hxr
      · exact res_5_false a0 x w h0 hm hx hxr
      · exact res_6_false a0 x w h0 hm hx hxr
      · exact res_7_false a0 x w h0 hm hx hxr
      · exact res_8_false a0 x w h0 hm hx hxr
    · rcases hm with hm | hm | hm | hm | hm | hm
      · exact res_1_true a0 x w h0 hm hx hxr
      · exact res_3_true a0 x w h0 hm hx hxr
      · exact res_5_true a0 x w h0 hm hx hxr
      · exact res_6_true a0 x w h0 hm hx hxr
      · exact res_7_true a0 x w h0 hm hx hxr
      · exact res_8_true a0 x w h0 hm hx hxr
end Go.Proofs.Ytikndkmpedoooaa.prReserves
