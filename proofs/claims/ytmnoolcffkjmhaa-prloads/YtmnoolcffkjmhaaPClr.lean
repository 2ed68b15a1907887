/-
  The contract of clear.
-/
import Derived.Test.YtmnoolcffkjmhaaPSrv
namespace Go.Proofs.Ytmnoolcffkjmhaa
open Go.RowKit
set_option linter.unusedVariables false
set_option linter.unusedSimpArgs false

/-- Nothing is left. -/
def Tb.clear (t : Tb) : Tb := { t with ks := fun _ => 0, kd := 0, gn := (t.gn + 1) % 4294967296 }
abbrev wiped (w : World) (B : Nat) : World := (((((((w.setCell ⟨B, 0, none⟩ (.int .u64 0)).setCell ⟨B, 1, none⟩ (.int .u64 0)).setCell ⟨B, 2, none⟩ (.int .u64 0)).setCell ⟨B, 3, none⟩ (.int .u64 0)).setCell ⟨B, 4, none⟩ (.int .u64 0)).setCell ⟨B, 5, none⟩ (.int .u64 0)).setCell ⟨B, 6, none⟩ (.int .u64 0)).setCell ⟨B, 7, none⟩ (.int .u64 0)
theorem Tab.wipe {w : World} {B : Nat} {t : Tb} (h : Tab w B t) : Tab (wiped w B) B { t with ks := fun _ => 0 } := by
  have := ((((((((h.setKey 0 (by omega) 0).setKey 1 (by omega) 0).setKey 2 (by omega) 0).setKey 3 (by omega) 0).setKey 4 (by omega) 0).setKey 5 (by omega) 0).setKey 6 (by omega) 0).setKey 7 (by omega) 0)
  refine Tab.congr (t := _) this (fun j hj => ?_) rfl rfl rfl rfl
  obtain rfl | rfl | rfl | rfl | rfl | rfl | rfl | rfl : j = 0 ∨ j = 1 ∨ j = 2 ∨ j = 3 ∨ j = 4 ∨ j = 5 ∨ j = 6 ∨ j = 7 := by omega
  all_goals simp [upd]
theorem grown_wiped (w : World) (B : Nat) : w.grownBy (wiped w B) (some B) :=
  grown_trans (grown_setCell w ⟨B, 0, none⟩ _) (grown_trans (grown_setCell _ ⟨B, 1, none⟩ _) (grown_trans (grown_setCell _ ⟨B, 2, none⟩ _) (grown_trans (grown_setCell _ ⟨B, 3, none⟩ _) (grown_trans (grown_setCell _ ⟨B, 4, none⟩ _) (grown_trans (grown_setCell _ ⟨B, 5, none⟩ _) (grown_trans (grown_setCell _ ⟨B, 6, none⟩ _) (grown_setCell _ ⟨B, 7, none⟩ _)))))))
set_option maxRecDepth 100000 in
set_option maxHeartbeats 2000000 in
theorem clear_any (B : Nat) (t : Tb) (n : Int) (w : World) (h : Tab w B t) (hgn : 0 ≤ t.gn ∧ t.gn < 4294967296) :
    Calls Try.prog 41 #[.pointer (some ⟨B, 0, none⟩), .int .i64 n] w fun e w' => ∃ v, e = .returned v ∧ Own .u16 55 w.heap.size w' v (othersL n 10755 t.regs) ∧ Tab w' B t.clear ∧ w.grownBy w' (some B) := by
  have HO := Kpt.mk (others_any B t n 10755 w h)
  have hK := Kpt.mk h
  have hlt := h.lt
  have hS : Kpt (∀ W, Tab W B { t with ks := fun _ => 0, kd := 0, gn := (t.gn + 1) % 4294967296 } → Tab W B t.clear) := ⟨fun W h => h⟩
  generalize t.clear = C at *
  generalize othersL n 10755 t.regs = L at *
  clear h
  go_enter Try.func41, Try.ntmps41
  go_wp2_with (go_at_call 55; go_must (refine HO.out.mono ?_; rintro e w1 ⟨v, rfl, hO1, hB1⟩; replace hO1 := Kpt.mk hO1; have hT1 := Kpt.mk (hK.out.below' hB1); have hG1 : Kpt (w.grownBy w1 (some B)) := ⟨grown_below hB1⟩; have lt1 := hT1.out.lt; have k0 := hT1.out.key 0 (by omega); have k1 := hT1.out.key 1 (by omega); have k2 := hT1.out.key 2 (by omega); have k3 := hT1.out.key 3 (by omega); have k4 := hT1.out.key 4 (by omega); have k5 := hT1.out.key 5 (by omega); have k6 := hT1.out.key 6 (by omega); have k7 := hT1.out.key 7 (by omega); have c8 := hT1.out.c8; have c10 := hT1.out.c10; have fr := hT1.out.free; clear hB1))
  go_ret
  exact ⟨v, rfl, hO1.out.of_block (fun g hg => by
    have := (hO1.out.lt hg).1
    exact (grown_trans (grown_wiped w1 B) (grown_trans (grown_setCell _ ⟨B, 8, none⟩ _) (grown_setCell _ ⟨B, 10, none⟩ _))).block g (hO1.out.lt hg).2 (fun e => by simp at e; omega)), hS.out _ ((hT1.out.wipe.setKd 0).setGn _), grown_trans hG1.out (grown_trans (grown_wiped w1 B) (grown_trans (grown_setCell _ ⟨B, 8, none⟩ _) (grown_setCell _ ⟨B, 10, none⟩ _)))⟩
end Go.Proofs.Ytmnoolcffkjmhaa
