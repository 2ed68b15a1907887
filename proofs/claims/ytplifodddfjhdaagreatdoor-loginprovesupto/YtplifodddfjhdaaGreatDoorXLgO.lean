/-
  login: what is asked of a login.
-/
import Derived.Test.YtplifodddfjhdaaGreatDoorXLgN
namespace Go.Proofs.YtplifodddfjhdaaGreatDoor
open Go.RowKit
set_option linter.unusedVariables false
set_option linter.unusedSimpArgs false

set_option maxRecDepth 100000 in
theorem over_any (L : Nat) (s : Lg) (w : World) (hX : Bx w L s.v) : Calls Tryz.prog 15 #[.pointer (some ⟨L, 0, none⟩)] w fun e w' => e = .returned (.bool s.over) ∧ w' = w := by
  have c := hX.cells 11 (by simp [Lg.v])
  simp [Lg.v] at c
  clear hX
  go_enter Tryz.func15, Tryz.ntmps15
  go_wp2
  go_ret
  exact ⟨rfl, rfl⟩
set_option maxRecDepth 100000 in
theorem done_any (L : Nat) (s : Lg) (w : World) (hX : Bx w L s.v) : Calls Tryz.prog 14 #[.pointer (some ⟨L, 0, none⟩)] w fun e w' => e = .returned (.bool s.done) ∧ w' = w := by
  have c := hX.cells 10 (by simp [Lg.v])
  simp [Lg.v] at c
  clear hX
  go_enter Tryz.func14, Tryz.ntmps14
  go_wp2
  go_ret
  exact ⟨rfl, rfl⟩
def Lg.p (s : Lg) : Array Value := #[.string s.ini, .string s.tgt, .bool s.dis, .bool s.hd, .bool s.dt, .int .i64 s.seg, .int .i64 s.bu, .int .i64 s.fi, .bool s.imm, .bool s.rdy]
def prmZ : Array Value := #[.string ⟨#[]⟩, .string ⟨#[]⟩, .bool false, .bool false, .bool false, .int .i64 0, .int .i64 0, .int .i64 0, .bool false, .bool false]
theorem szPrm : (Tryz.prog.info? 62).map (·.size) = some 10 := by kernel_rfl
theorem zPrm : (Tryz.prog.info? 62).map (fun i => i.zero) = some (some (.agg prmZ)) := by kernel_rfl
theorem prm_range {w : World} {L : Nat} {s : Lg} (h : Bx w L s.v) : w.rangeAt L 12 s.p.toList := fun j v hv => by
  have hj : j < 10 := by have := (List.getElem?_eq_some_iff.1 hv).1; simpa [Lg.p] using this
  rw [h.cells (12 + j) (by simp [Lg.v]; omega), ← hv]
  match j, hj with
  | 0, _ => rfl
  | 1, _ => rfl
  | 2, _ => rfl
  | 3, _ => rfl
  | 4, _ => rfl
  | 5, _ => rfl
  | 6, _ => rfl
  | 7, _ => rfl
  | 8, _ => rfl
  | 9, _ => rfl
set_option maxRecDepth 100000 in
theorem params_any (L : Nat) (s : Lg) (w : World) (hX : Bx w L s.v) : Calls Tryz.prog 17 #[.pointer (some ⟨L, 0, none⟩)] w fun e w' => e = .returned (.agg s.p) ∧ Below w.heap.size w w' := by
  have hr : Kpt (∀ w1, Below w.heap.size w w1 → w1.rangeAt L 12 s.p.toList) := ⟨fun w1 hb => prm_range (hX.below hb hX.lt)⟩
  clear hX
  go_enter Tryz.func17, Tryz.ntmps17
  go_wp2_with (first
    | (refine (?_ : wpList _ _ _ (Oper.mk none (Op.store 62 _ _) _ _ _ _ :: _) _ _); go_must (refine wpList_store_bx rfl 62 (.tmp 2) (.tmp 9) rfl A prmZ s.p rfl rfl hAx.out rfl szPrm (by simp [Lg.p, Value.oneCell']) rfl ?_; intro w3 hA3 hg3; have hb3 : Kpt (Below w.heap.size w w3) := ⟨hb.out.grown hg3 hb.out.size (fun q e => by injection e with e; subst e; exact hA.out)⟩; replace hA3 := Kpt.mk hA3; clear hg3))
    | (refine (?_ : wpList _ _ _ (Oper.mk _ (Op.load 62 _) _ _ _ _ :: _) _ _); go_must (refine wpList_load_mid rfl 62 (.tmp 8) rfl L 12 rfl s.p.toList _ (hr.out _ hb.out) Tryz.underlying62 rfl szPrm ?_))
    | (refine wpList_var rfl 62 rfl prmZ zPrm ?_; intro A w1 hA hAx hb; replace hA := Kpt.mk hA; replace hAx := Kpt.mk hAx; replace hb := Kpt.mk hb))
  refine bodyPost_ret (v := .agg s.p) (by simp [results, Tryz.results17, asAddr, Act.put, run_res hA3.out 62 _ Tryz.underlying62 rfl szPrm]) rfl ⟨rfl, hb3.out⟩
end Go.Proofs.YtplifodddfjhdaaGreatDoor
