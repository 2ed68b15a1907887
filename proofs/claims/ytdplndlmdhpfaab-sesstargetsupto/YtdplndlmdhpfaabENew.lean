/-
  sess: plain, read, New.
-/
import Derived.Test.YtdplndlmdhpfaabESml
namespace Go.Proofs.Ytdplndlmdhpfaab
open Go.RowKit
set_option linter.unusedVariables false
set_option linter.unusedSimpArgs false

def Se.prm (s : Se) : Array Value := #[.string s.ini, .string s.tgt, .bool s.dis, .bool s.hd, .bool s.dt, .int .i64 s.seg, .int .i64 s.bu, .int .i64 s.fi, .bool s.imm, .bool s.rdy]
def Se.new (s : Se) (first : Int) : Se := { s with tg := .slice none 0 0, next := first, stat := 1, asked := 0, held := .slice none 0 0, opn := .slice none 0 0, wts := .slice none 0 0, over := false }
def plainS : Se := { ini := ⟨#[]⟩, tgt := ⟨#[116]⟩, dis := false, hd := false, dt := false, seg := 8192, bu := 65536, fi := 65536, imm := true, rdy := true, tg := .slice none 0 0, next := 0, stat := 1, asked := 0, held := .slice none 0 0, opn := .slice none 0 0, wts := .slice none 0 0, over := false }
theorem szPrm : (Try.prog.info? 25).map (·.size) = some 10 := by kernel_rfl
theorem szPdu : (Try.prog.info? 42).map (·.size) = some 14 := by kernel_rfl
theorem zPrm : (Try.prog.info? 25).map (fun i => i.zero) = some (some (.agg #[.string ⟨#[]⟩, .string ⟨#[]⟩, .bool false, .bool false, .bool false, .int .i64 0, .int .i64 0, .int .i64 0, .bool false, .bool false])) := by kernel_rfl
def zP : Pd := { op := 0, fl := 0, rs := 0, st := 0, lu := 0, tg := 0, w0 := 0, w1 := 0, w2 := 0, w3 := 0, w4 := 0, w5 := 0, w6 := 0, da := .slice none 0 0 }
theorem zPdu : (Try.prog.info? 42).map (fun i => i.zero) = some (some (.agg zP.v)) := by kernel_rfl

set_option maxRecDepth 100000 in
theorem plain_any (w : World) : Calls Try.prog 7 #[] w fun e w' => e = .returned (.agg plainS.prm) ∧ Below w.heap.size w w' := by
  go_enter Try.func7, Try.ntmps7
  go_wp2_with (first
    | (refine (?_ : wpList _ _ _ (Oper.mk _ (Op.store 25 _ _) _ _ _ _ :: _) _ _); go_must (refine wpList_store_bx rfl 25 _ _ rfl R _ plainS.prm rfl rfl hB.out rfl szPrm (by simp [Se.prm, plainS, Value.oneCell']) rfl ?_; intro w2 hB2 hg2; replace hB2 := Kpt.mk hB2; have hb2 := Kpt.mk (hb1.out.grown hg2 hb1.out.size (fun q e => by injection e with e; subst e; exact hR.out)); clear hg2))
    | (refine (?_ : wpList _ _ _ (Oper.mk _ (Op.alloc 25) _ _ _ _ :: _) _ _); go_must (refine wpList_var rfl 25 rfl _ zPrm ?_; intro R w1 hR hB hb1; replace hR := Kpt.mk hR; replace hB := Kpt.mk hB; replace hb1 := Kpt.mk hb1)))
  refine bodyPost_ret (v := .agg plainS.prm) (by simp [results, Try.results7, asAddr, Act.put, run_res hB2.out 25 _ Try.underlying25 rfl szPrm]) rfl ⟨rfl, hb2.out⟩

def rdP (tag cmd n : Int) : Pd := { zP with op := 1, fl := 193, tg := tag, w0 := n, w1 := cmd, w3 := 671088640 }
set_option maxRecDepth 100000 in
theorem read_any (tag cmd n : Int) (w : World) : Calls Try.prog 11 #[.int .u32 tag, .int .u32 cmd, .int .u32 n] w fun e w' => e = .returned (.agg (rdP tag cmd n).v) ∧ Below w.heap.size w w' := by
  go_enter Try.func11, Try.ntmps11
  go_wp2_with (first
    | (refine (?_ : wpList _ _ _ (Oper.mk _ (Op.store 42 _ _) _ _ _ _ :: _) _ _); go_must (refine wpList_store_bx rfl 42 _ _ rfl R _ (rdP tag cmd n).v rfl rfl hB.out rfl szPdu (Pd.one (p := rdP tag cmd n) rfl).2 rfl ?_; intro w2 hB2 hg2; replace hB2 := Kpt.mk hB2; have hb2 := Kpt.mk (hb1.out.grown hg2 hb1.out.size (fun q e => by injection e with e; subst e; exact hR.out)); clear hg2))
    | (refine (?_ : wpList _ _ _ (Oper.mk _ (Op.alloc 42) _ _ _ _ :: _) _ _); go_must (refine wpList_var rfl 42 rfl _ zPdu ?_; intro R w1 hR hB hb1; replace hR := Kpt.mk hR; replace hB := Kpt.mk hB; replace hb1 := Kpt.mk hb1)))
  refine bodyPost_ret (v := .agg (rdP tag cmd n).v) (by simp [results, Try.results11, asAddr, Act.put, run_res hB2.out 42 _ Try.underlying42 rfl szPdu]) rfl ⟨rfl, hb2.out⟩

theorem eqlS (w : World) : (binOp .eql 22 (.slice none 0 0) (.slice none 0 0)).run Try.prog w = .ok (.bool true) w := by kernel_rfl
set_option maxRecDepth 100000 in
theorem cloneS_nil (w : World) : Calls Try.prog 16 #[.slice none 0 0] w fun e w' => e = .returned (.slice none 0 0) ∧ w' = w := by
  have h0 := eqlS
  go_enter Try.func16, Try.ntmps16
  go_wp2
  go_ret
  exact ⟨rfl, rfl⟩

set_option maxRecDepth 100000 in
set_option maxHeartbeats 4000000 in
theorem new_nil (s : Se) (first : Int) (w : World) :
    Calls Try.prog 8 #[.agg s.prm, .slice none 0 0, .int .u32 first] w fun e w' => (∃ S, e = .returned (.pointer (some ⟨S, 0, none⟩)) ∧ w.heap.size ≤ S ∧ Ss w' S (s.new first) [] [] []) ∧ Below w.heap.size w w' := by
  have fC : Kpt (∀ W : World, Calls Try.prog 16 #[.slice none 0 0] W fun e w' => e = .returned (.slice none 0 0) ∧ w' = W) := ⟨cloneS_nil⟩
  go_enter Try.func8, Try.ntmps8
  go_wp2_with (refine (?_ : wpList _ _ _ (Oper.mk _ (Op.box 25 _) _ _ _ _ :: _) _ _); go_must (refine wpList_box rfl 25 _ rfl s.prm rfl ?_; intro R w1 hR hBq hbe _; have hb1 := Kpt.mk hbe; have hX1 := Kpt.mk hBq; replace hR := Kpt.mk hR; clear hBq hbe))
  refine wp_region_any (by kernel_rfl) ?_
  refine wpAny_of_C (C := fun W => Bx W R s.prm) _ _ _ _ ?_
  refine wpAnyC_take 0 (.agg s.prm) rfl (by kernel_rfl) (by kernel_rfl) (by kernel_rfl) (fun _ _ _ h => h) (wanted_free rfl _) (fun W hW => exec_load_bx 25 (.tmp 3) rfl R s.prm rfl hW _ Try.underlying25 rfl szPrm) ?_
  try simp only [Act.put, List.getElem_toArray, List.getElem_cons_succ, List.getElem_cons_zero, List.setIfInBounds_toArray, List.set_cons_succ, List.set_cons_zero]
  refine wpAnyC_take 1 (.slice none 0 0) rfl (by kernel_rfl) (by kernel_rfl) (by kernel_rfl) (fun _ _ _ h => h) (wanted_free rfl _) (fun W hW => by go_simp) ?_
  try simp only [Act.put, List.getElem_toArray, List.getElem_cons_succ, List.getElem_cons_zero, List.setIfInBounds_toArray, List.set_cons_succ, List.set_cons_zero]
  refine wpAnyC_take 3 (.int .u32 first) rfl (by kernel_rfl) (by kernel_rfl) (by kernel_rfl) (fun _ _ _ h => h) (wanted_free rfl _) (fun W hW => by go_simp) ?_
  try simp only [Act.put, List.getElem_toArray, List.getElem_cons_succ, List.getElem_cons_zero, List.setIfInBounds_toArray, List.set_cons_succ, List.set_cons_zero]
  refine wpAnyC_one 2 (hX1.out.drew) rfl (by kernel_rfl) (wanted_free rfl _) (fun KA hKA => ?_)
  go_simp
  refine (fC.out _).mono ?_
  rintro e wx ⟨rfl, rfl⟩
  refine hKA _ _ ?_
  clear hKA KA
  try simp only [Act.put, List.getElem_toArray, List.getElem_cons_succ, List.getElem_cons_zero, List.setIfInBounds_toArray, List.set_cons_succ, List.set_cons_zero]
  refine wpAnyC_take 4 (.agg (s.new first).v) rfl (by kernel_rfl) (by kernel_rfl) (by kernel_rfl) (fun _ _ _ h => h) (wanted_free rfl _) (fun W hW => by unfold Se.new Se.v Se.prm; go_simp) ?_
  try simp only [Act.put, List.getElem_toArray, List.getElem_cons_succ, List.getElem_cons_zero, List.setIfInBounds_toArray, List.set_cons_succ, List.set_cons_zero]
  refine wpAnyC_one 5 (hX1.out.drew) rfl (by kernel_rfl) (wanted_free rfl _) (fun KA hKA => ?_)
  go_simp
  refine hKA _ _ ?_
  clear hKA KA
  try simp only [Act.put, List.getElem_toArray, List.getElem_cons_succ, List.getElem_cons_zero, List.setIfInBounds_toArray, List.set_cons_succ, List.set_cons_zero]
  refine wpAnyC_one 6 (hX1.out.drew.alloc _) rfl (by kernel_rfl) (wanted_free rfl _) (fun KA hKA => ?_)
  go_simp
  refine hKA _ _ ?_
  clear hKA KA
  try simp only [Act.put, List.getElem_toArray, List.getElem_cons_succ, List.getElem_cons_zero, List.setIfInBounds_toArray, List.set_cons_succ, List.set_cons_zero]
  refine wpAnyC_done (hX1.out.drew.alloc _) (by kernel_rfl) ?_
  go_wp2
  go_ret
  have hbd : Below w.heap.size w w1.drew := hb1.out.trans ((below_drew w1).mono hb1.out.size)
  refine ⟨⟨w1.heap.size, rfl, hb1.out.size, ?_⟩, hbd.alloc hbd.size _⟩
  exact ⟨bx_new w1.drew _ 65, OwnR.nil _ _ _, OwnR.nil _ _ _, OwnR.nil _ _ _, by simp [Se.new, Value.ownBlock], by simp [Se.new, Value.ownBlock], by simp [Se.new, Value.ownBlock], fun b h => by simp [Se.new, Value.ownBlock] at h, fun b h => by simp [Se.new, Value.ownBlock] at h, fun b h => by simp [Se.new, Value.ownBlock] at h⟩
end Go.Proofs.Ytdplndlmdhpfaab
