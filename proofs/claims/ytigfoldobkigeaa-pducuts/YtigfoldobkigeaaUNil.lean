/-
  pdu: a nil reader.
-/
import Derived.Test.YtigfoldobkigeaaUAwk
namespace Go.Proofs.Ytigfoldobkigeaa
open Go.RowKit
set_option linter.unusedVariables false
set_option linter.unusedSimpArgs false

theorem pd_cells {W : World} {B : Nat} {op fl rs st lun tag x0 x1 x2 x3 x4 x5 x6 : Int} {d : List Int} {v : Value} (h : Bx W B (Pd.vals ⟨op, fl, rs, st, lun, tag, [x0, x1, x2, x3, x4, x5, x6], d⟩ v)) :
    W.cell? ⟨B, 0, none⟩ = some (.int .u8 op) ∧ W.cell? ⟨B, 1, none⟩ = some (.int .u8 fl) ∧ W.cell? ⟨B, 2, none⟩ = some (.int .u8 rs) ∧ W.cell? ⟨B, 3, none⟩ = some (.int .u8 st) ∧ W.cell? ⟨B, 4, none⟩ = some (.int .u8 lun) ∧ W.cell? ⟨B, 5, none⟩ = some (.int .u32 tag) ∧ W.cell? ⟨B, 6, none⟩ = some (.int .u32 x0) ∧ W.cell? ⟨B, 7, none⟩ = some (.int .u32 x1) ∧ W.cell? ⟨B, 8, none⟩ = some (.int .u32 x2) ∧ W.cell? ⟨B, 9, none⟩ = some (.int .u32 x3) ∧ W.cell? ⟨B, 10, none⟩ = some (.int .u32 x4) ∧ W.cell? ⟨B, 11, none⟩ = some (.int .u32 x5) ∧ W.cell? ⟨B, 12, none⟩ = some (.int .u32 x6) ∧ W.cell? ⟨B, 13, none⟩ = some v := by
  simp only [Pd.vals, Pd.cs, List.map_cons, List.map_nil, List.cons_append, List.nil_append] at h
  exact ⟨h.cells 0 (by simp), h.cells 1 (by simp), h.cells 2 (by simp), h.cells 3 (by simp), h.cells 4 (by simp), h.cells 5 (by simp), h.cells 6 (by simp), h.cells 7 (by simp), h.cells 8 (by simp), h.cells 9 (by simp), h.cells 10 (by simp), h.cells 11 (by simp), h.cells 12 (by simp), h.cells 13 (by simp)⟩

theorem digests_nil (h d : Bool) (w : World) : Calls Try.prog 17 #[.pointer none, .bool h, .bool d] w fun e w' => e = .returned (.tuple #[]) ∧ w' = w := by
  go_enter Try.func17, Try.ntmps17
  go_wp2
  exact bodyPost_ret (v := .tuple #[]) (by simp [results, Try.results17]) rfl ⟨rfl, rfl⟩
theorem feed_nil (v : Value) (w : World) : Calls Try.prog 18 #[.pointer none, v] w fun e w' => e = .returned (.tuple #[]) ∧ w' = w := by
  go_enter Try.func18, Try.ntmps18
  go_wp2
  exact bodyPost_ret (v := .tuple #[]) (by simp [results, Try.results18]) rfl ⟨rfl, rfl⟩
theorem held_nil (w : World) : Calls Try.prog 20 #[.pointer none] w fun e w' => e = .returned (.int .i64 0) ∧ w' = w := by
  go_enter Try.func20, Try.ntmps20
  go_wp2
  go_ret
  exact ⟨rfl, rfl⟩
set_option maxRecDepth 100000 in
set_option maxHeartbeats 1000000 in
theorem next_nil (w : World) : Calls Try.prog 19 #[.pointer none] w fun e w' => e = .returned (.tuple #[.agg (noP.vals (.slice none 0 0)), .int .i64 8]) ∧ Below w.heap.size w w' := by
  go_enter Try.func19, Try.ntmps19
  go_wp2_with (first
    | (refine (?_ : wpList _ _ _ (Oper.mk none (Op.store _ _ _) _ _ _ _ :: _) _ _); go_must (refine wpList_store_bx rfl 26 (.tmp 2) (.tmp 9) rfl B0 (noP.vals (.slice none 0 0)) (noP.vals (.slice none 0 0)) rfl rfl hX0.out rfl sizeP (Pd.one noP none 0 0) rfl ?_; intro wz hXz hgz; have hbz : Kpt (Below w.heap.size w wz) := ⟨hb0.out.grown hgz hb0.out.size (fun k h => by cases h; exact hB0.out)⟩; replace hXz := Kpt.mk hXz; clear hgz))
    | (refine (?_ : wpList _ _ _ (Oper.mk (some 9) (Op.build _ _) _ _ _ _ :: _) _ _); refine wpList_of_exec rfl (by kernel_rfl : _ = Result.ok (.value (.agg (noP.vals (.slice none 0 0)))) _) ?_)
    | (refine wpList_var rfl 26 rfl (noP.vals (.slice none 0 0)) zeroPi ?_; intro B0 w0 hB0 hX0 hb0; replace hX0 := Kpt.mk hX0; replace hB0 := Kpt.mk hB0; replace hb0 := Kpt.mk hb0))
  refine bodyPost_ret (v := .tuple #[.agg (noP.vals (.slice none 0 0)), .int .i64 8]) (by simp [results, Try.results19, asAddr, Act.put, run_res hXz.out 26 _ Try.underlying26 rfl sizeP]) rfl ⟨rfl, hbz.out⟩

set_option maxRecDepth 100000 in
set_option maxHeartbeats 1000000 in
theorem nil_walk (v : Value) (w : World) : Calls Try.prog 7 #[v] w fun e w' => e = .returned (.bool true) ∧ Below w.heap.size w w' := by
  have hS := Kpt.mk (fun W => same_any noP none none 0 0 0 W rfl (rd_nil W) (rd_nil W))
  go_enter Try.func7, Try.ntmps7
  go_wp2_with (first
    | (go_at_call 20; refine (held_nil _).mono ?_; rintro e w4 ⟨rfl, rfl⟩)
    | (go_at_call 13; go_must (refine (hS.out _).mono ?_; rintro e w4 ⟨rfl, hbe4⟩; have hb4 : Kpt (Below w.heap.size w w4) := ⟨hb3.out.trans (hbe4.mono hb3.out.size)⟩; clear hbe4))
    | (go_at_call 9; go_must (refine (awake_any _).mono ?_; rintro e w3 ⟨rfl, hbe3⟩; have hb3 : Kpt (Below w.heap.size w w3) := ⟨hb2.out.trans (hbe3.mono hb2.out.size)⟩; have hX3 : Kpt (Bx w3 B0 (noP.vals (.slice none 0 0))) := ⟨hX2.out.below hbe3 hX2.out.lt⟩; have hq3 := pd_cells (op := 0) (fl := 0) (rs := 0) (st := 0) (lun := 0) (tag := 0) (x0 := 0) (x1 := 0) (x2 := 0) (x3 := 0) (x4 := 0) (x5 := 0) (x6 := 0) (d := []) (v := .slice none 0 0) hX3.out; clear hbe3))
    | (refine (?_ : wpList _ _ _ (Oper.mk none (Op.store _ _ _) _ _ _ _ :: _) _ _); go_must (refine wpList_store_bx rfl 26 (.tmp 4) (.tmp 14) rfl B0 (noP.vals (.slice none 0 0)) (noP.vals (.slice none 0 0)) rfl rfl hX0.out rfl sizeP (Pd.one noP none 0 0) rfl ?_; intro w2 hX2 hg2; have hb2 : Kpt (Below w.heap.size w w2) := ⟨hb0.out.grown hg2 hb0.out.size (fun k h => by cases h; exact hB0.out)⟩; replace hX2 := Kpt.mk hX2; clear hg2))
    | (refine wpList_var rfl 26 rfl (noP.vals (.slice none 0 0)) zeroPi ?_; intro B0 w0 hB0 hX0 hbe0; have hb0 : Kpt (Below w.heap.size w w0) := ⟨hb1.out.trans (hbe0.mono hb1.out.size)⟩; replace hX0 := Kpt.mk hX0; replace hB0 : Kpt (w.heap.size ≤ B0) := ⟨Nat.le_trans hb1.out.size hB0⟩; clear hbe0)
    | (go_at_call 19; go_must (refine (next_nil _).mono ?_; rintro e w1 ⟨rfl, hb1⟩; replace hb1 := Kpt.mk hb1))
    | (go_at_call 18; go_must (refine (feed_nil _ _).mono ?_; rintro e w ⟨rfl, rfl⟩))
    | (go_at_call 17; go_must (refine (digests_nil _ _ _).mono ?_; rintro e w ⟨rfl, rfl⟩)))
  go_ret
  exact ⟨rfl, hb4.out⟩
end Go.Proofs.Ytigfoldobkigeaa
