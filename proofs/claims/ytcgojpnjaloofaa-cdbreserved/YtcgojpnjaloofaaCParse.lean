/-
  The contract of Parse.
-/
import Derived.Test.YtcgojpnjaloofaaCWhole
import Derived.Test.YtcgojpnjaloofaaCUnfit
import Derived.Test.YtcgojpnjaloofaaBOdd
namespace Go.Proofs.Ytcgojpnjaloofaa
open Go.RowKit
set_option linter.unusedVariables false
set_option linter.unusedSimpArgs false

theorem Bx.drewN {w : World} {b : Nat} {cs : Array Value} (h : Bx w b cs) (n : Nat) : Bx (w.drewN n) b cs := ⟨h.lt, h.cells, h.free⟩
theorem Below.drewN' {B : Nat} {a w : World} (h : Below B a w) (n : Nat) : Below B a (w.drewN n) := ⟨h.os, h.tape, h.output, h.size, h.block⟩
theorem below_store {w1 w2 : World} {o : Obj} (hg : (w1.alloc o).grownBy w2 (some w1.heap.size)) : Below w1.heap.size w1 w2 :=
  ((Below.refl _ _).alloc (Nat.le_refl _) _).grown hg (by simp) (fun k h => by cases h; exact Nat.le_refl _)
theorem bx_new2 (w : World) (o : Obj) (cs : Array Value) (t : TypeId) : Bx ((w.alloc o).alloc (.cells cs t)) (w.heap.size + 1) cs := by
  have := bx_new (w.alloc o) cs t
  simpa using this

theorem exec_load_bx {W : World} {o : Oper} {a : Act} (ty : TypeId) (x : Operand) (ho : o.op = .load ty x) (b : Nat) (cs : Array Value) (hx : a.eval x = .pointer (some ⟨b, 0, none⟩)) (hB : Bx W b cs) (d : TypeDesc)
    (hu : Try.prog.underlying ty = some d) (hd : d.isRow = true) (hi : (Try.prog.info? ty).map (·.size) = some cs.size) : (execOp a.eval o).run Try.prog W = .ok (.value (.agg cs)) W := by
  have := run_loadAt_mid (P := Try.prog) W b 0 ty cs.toList d hB.range hu hd (by rw [Array.length_toList]; exact hi)
  unfold execOp
  simp only [ho, hx]
  simp [this]

set_option maxRecDepth 100000 in
set_option maxHeartbeats 1000000 in
theorem parse_no (v : Value) (s : Sn) (w : World) (HW : Kpt (∀ W, Below w.heap.size w W → Calls Try.prog 17 #[v] W fun e w' => e = .returned (.tuple #[.slice none 0 0, .agg s.vals, .bool false]) ∧ Below W.heap.size W w')) :
    Calls Try.prog 10 #[v] w fun e w' => e = .returned (.tuple #[.agg zeroC, .agg s.vals, .bool false]) ∧ Below w.heap.size w w' := by
  go_enter Try.func10, Try.ntmps10
  go_wp2_with (first
    | (go_at_call 17; refine (HW.out _ (by repeat (first | refine Below.setCell ?_ (by simp) _ | refine Below.alloc ?_ (by simp) _ | exact Below.refl _ _))).mono ?_; rintro e w1 ⟨rfl, hb⟩; have HB : Kpt (Below w.heap.size w w1) := ⟨Below.trans (by repeat (first | refine Below.setCell ?_ (by simp) _ | refine Below.alloc ?_ (by simp) _ | exact Below.refl _ _)) (hb.mono (by simp; omega))⟩; have B2 : Kpt (Bx w1 w.heap.size zeroC) := ⟨((bx_new w zeroC 27).alloc _).below hb (by simp; omega)⟩; have B3 : Kpt (Bx w1 (w.heap.size + 1) zeroS) := ⟨(bx_new2 w _ zeroS 30).below hb (by simp)⟩; clear hb)
    | (refine wpList_store_bx rfl 30 (.tmp 6) (.tmp 17) rfl w1.heap.size zeroS s.vals rfl rfl (bx_new w1 zeroS 30) rfl infoS (Sn.vals_one _) rfl ?_; intro w2 h6 hg2; have hx := below_store hg2; have HB2 : Kpt (Below w.heap.size w w2) := ⟨HB.out.trans (hx.mono HB.out.size)⟩; have C2 : Kpt (Bx w2 w.heap.size zeroC) := ⟨B2.out.below hx B2.out.lt⟩; have C3 : Kpt (Bx w2 (w.heap.size + 1) zeroS) := ⟨B3.out.below hx B3.out.lt⟩; replace h6 := Kpt.mk h6; clear hx hg2))
  refine wp_region_any (by kernel_rfl) ?_
  refine wpAny_of_C (C := fun W => Bx W w1.heap.size s.vals) _ _ _ _ ?_
  refine wpAnyC_take 0 (.agg zeroC) rfl (by kernel_rfl) (by kernel_rfl) (by kernel_rfl) (fun _ _ _ h => h) (by rfl) (fun W hW => by kernel_rfl) ?_
  refine wpAnyC_take 1 (.agg s.vals) rfl (by kernel_rfl) (by kernel_rfl) (by kernel_rfl) (fun _ _ _ h => h) (by rfl) (fun W hW => exec_load_bx 30 (.tmp 6) rfl w1.heap.size s.vals rfl hW _ Try.underlying30 rfl infoS) ?_
  have hlt3 := B3.out.lt
  refine wpAnyC_one 2 (h6.out.drew) rfl (by kernel_rfl) (by rfl) (fun K hK => ?_)
  refine wp_store_bx 27 (.tmp 2) (.tmp 21) rfl w.heap.size zeroC zeroC rfl rfl C2.out.drew rfl infoC (Cm.vals_one noC) ?_
  intro w4 E2 hg4
  refine hK _ _ ?_
  clear hK K
  refine wpAnyC_one 3 (h6.out.drew.grown hg4 (by simp; omega)) rfl (by kernel_rfl) (by rfl) (fun K hK => ?_)
  refine wp_store_bx 30 (.tmp 3) (.tmp 22) rfl (w.heap.size + 1) zeroS s.vals rfl rfl (C3.out.drew.grown hg4 (by simp)) rfl infoS (Sn.vals_one _) ?_
  intro w5 G3 hg5
  have G2 := E2.grown hg5 (by simp)
  have HB5 : Below w.heap.size w w5 := (HB2.out.drew.grown hg4 (Nat.le_of_lt C2.out.drew.lt) (fun k h => by cases h; exact Nat.le_refl _)).grown hg5 (by have := E2.lt; omega) (fun k h => by cases h; omega)
  refine hK _ _ ?_
  clear hK K
  refine wpAnyC_one 4 ((h6.out.drew.grown hg4 (by simp; omega)).grown hg5 (by simp; omega)) rfl (by kernel_rfl) (by rfl) (fun K hK => ?_)
  go_simp
  refine hK _ _ ?_
  clear hK K
  refine wpAnyC_done ((h6.out.drew.grown hg4 (by simp; omega)).grown hg5 (by simp; omega)) (by kernel_rfl) ?_
  replace G2 := Kpt.mk G2
  replace G3 := Kpt.mk G3
  replace HB5 := Kpt.mk HB5
  clear hg4 hg5 E2
  go_wp2
  refine bodyPost_ret (v := .tuple #[.agg zeroC, .agg s.vals, .bool false]) (by simp [results, Try.results10, asAddr, run_res G2.out 27 _ Try.underlying27 rfl infoC, run_res G3.out 30 _ Try.underlying30 rfl infoS]) rfl ⟨rfl, HB5.out⟩

end Go.Proofs.Ytcgojpnjaloofaa
