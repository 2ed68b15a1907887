/-
  login: a step that fails.
-/
import Derived.Test.YtplifodddfjhdaaGreatDoorXLgE
namespace Go.Proofs.YtplifodddfjhdaaGreatDoor
open Go.RowKit
set_option linter.unusedVariables false
set_option linter.unusedSimpArgs false

theorem szAns : (Tryz.prog.info? 46).map (·.size) = some 6 := by kernel_rfl
def ansZ : Array Value := #[.int .u8 0, .int .u8 0, .int .u8 0, .int .u8 0, .bool false, .slice none 0 0]
theorem zAns : (Tryz.prog.info? 46).map (fun i => i.zero) = some (some (.agg ansZ)) := by kernel_rfl
/-- A new block turned beside an old one. -/
theorem grown_new {w a b : World} {L A : Nat} (h : w.grownBy a (some L)) (k : a.grownBy b (some A)) (hA : w.heap.size ≤ A) : w.grownBy b (some L) :=
  ⟨k.os.trans h.os, k.tape.trans h.tape, k.output.trans h.output, Nat.le_trans h.size k.size, fun j hj hr => (k.block j (Nat.lt_of_lt_of_le hj h.size) (fun e => by injection e with e; omega)).trans (h.block j hj hr)⟩
def ansF (d : Int) : Array Value := #[.int .u8 2, .int .u8 d, .int .u8 0, .int .u8 0, .bool false, .slice none 0 0]

set_option maxRecDepth 100000 in
set_option maxHeartbeats 4000000 in
theorem fail_any (L : Nat) (s : Lg) (d : Int) (w : World) (hX : Bx w L s.v) :
    Calls Tryz.prog 28 #[.pointer (some ⟨L, 0, none⟩), .int .u8 d] w fun e w' => e = .returned (.agg (ansF d)) ∧ Bx w' L { s with over := true }.v ∧ w.grownBy w' (some L) := by
  have hK : Kpt (∀ (A : Nat) (w1 : World), w.heap.size ≤ A → Bx w1 A ansZ → Below w.heap.size w w1 → Bx (w1.setCell ⟨L, 11, none⟩ (.bool true)) L { s with over := true }.v ∧ Bx (w1.setCell ⟨L, 11, none⟩ (.bool true)) A ansZ ∧ w.grownBy (w1.setCell ⟨L, 11, none⟩ (.bool true)) (some L) ∧ w1.cell? ⟨L, 11, none⟩ = some (.bool s.over) ∧ w1.frozen? ⟨L, 11, none⟩ = false ∧ A ≠ L) := ⟨fun A w1 hA hB hb => by
    have hX1 := hX.below hb hX.lt
    have hg := grown_setCellK w1 ⟨L, 11, none⟩ (.bool true)
    have hne : A ≠ L := fun e => by have := hX.lt; omega
    have e : s.v.setIfInBounds 11 (.bool true) = { s with over := true }.v := by simp [Lg.v]
    exact ⟨by rw [← e]; exact bx_setC _ hX1 (by simp [Lg.v]), hB.grown hg (fun e => hne (by injection e with e; exact e.symm)), grown_tr (grown_of_below hb _) hg, hX1.cells 11 (by simp [Lg.v]), hX1.free 11, hne⟩⟩
  have hlt := hX.lt
  clear hX
  go_enter Tryz.func28, Tryz.ntmps28
  go_wp2_with (first
    | (refine (?_ : wpList _ _ _ (Oper.mk none (Op.store 46 _ _) _ _ _ _ :: _) _ _); go_must (refine wpList_store_bx rfl 46 (.tmp 4) (.tmp 9) rfl A ansZ (ansF d) rfl rfl k2.out rfl szAns (by simp [ansF, Value.oneCell']) rfl ?_; intro w3 hA3 hg3; have k6 : Kpt (Bx w3 L { s with over := true }.v) := ⟨k1.out.grown hg3 (fun e => k5.out (by injection e))⟩; have k7 : Kpt (w.grownBy w3 (some L)) := ⟨grown_new k3.out hg3 hA.out⟩; replace hA3 := Kpt.mk hA3; clear hg3))
    | (refine wpList_var rfl 46 rfl ansZ zAns ?_; intro A w1 hA hB hb; obtain ⟨k1, k2, k3, k4, f4, k5⟩ := hK.out A w1 hA hB hb; replace k1 := Kpt.mk k1; replace k2 := Kpt.mk k2; replace k3 := Kpt.mk k3; replace k5 := Kpt.mk k5; replace hA := Kpt.mk hA; clear hB hb))
  refine bodyPost_ret (v := .agg (ansF d)) (by simp [results, Tryz.results28, asAddr, run_res hA3.out 46 _ Tryz.underlying46 rfl szAns]) rfl ⟨rfl, k6.out, k7.out⟩
end Go.Proofs.YtplifodddfjhdaaGreatDoor
