/-
  pdu: Next of a reader.
-/
import Derived.Test.YtigfoldobkigeaaURd3
namespace Go.Proofs.Ytigfoldobkigeaa
open Go.RowKit
set_option linter.unusedVariables false
set_option linter.unusedSimpArgs false

theorem decP_len (zs : List Int) (h : Bool) : (decP zs h).ws.length = 7 := headK_len _ _ _
theorem noP_ok : (noP.vals (.slice none 0 0)).size = 14 ∧ (noP.vals (.slice none 0 0)).all (·.oneCell') = true := ⟨rfl, Pd.one noP none 0 0⟩
/-- What Decode comes to, in short. -/
structure DecK (w w' : World) (h d : Bool) (Wt : List Int) (pv : Array Value) (nn er : Int) : Prop where
  bel : Below w.heap.size w w'
  ok : pv.size = 14 ∧ pv.all (·.oneCell') = true
  num : er = decE Wt h d
  good : er = 0 → nn = decN Wt h d ∧ ∃ dv, pv = (decP Wt h).vals dv ∧ Row w' dv (decP Wt h).d ∧ ∀ g, dv.ownBlock = some g → w.heap.size ≤ g
theorem decode_k (va : Option Addr) (n vc : Nat) (Wt : List Int) (h d : Bool) (w : World) (hr : RdAt w (.slice va n vc) Wt) (hn : n ≤ 140737488355328) (hc : vc ≤ maxLen) (hb : Bytes Wt) :
    Calls Try.prog 12 #[.slice va n vc, .bool h, .bool d] w fun e w' => ∃ pv nn er, e = .returned (.tuple #[.agg pv, .int .i64 nn, .int .i64 er]) ∧ DecK w w' h d Wt pv nn er := by
  refine (decode_any va n vc Wt h d w hr hn hc hb).mono ?_
  rintro e w' ⟨hb', ⟨h0, rfl⟩ | ⟨h0, v, rfl, hR, hg⟩⟩
  · exact ⟨_, _, _, rfl, hb', noP_ok, rfl, fun e => absurd e h0⟩
  · obtain ⟨a, n, c, rfl⟩ := row_sl hR
    exact ⟨_, _, _, rfl, hb', ⟨Pd.size (decP_len _ _) _, Pd.one _ _ _ _⟩, h0.symm, fun _ => ⟨rfl, _, rfl, hR, hg⟩⟩

set_option maxRecDepth 100000 in
set_option maxHeartbeats 4000000 in
theorem next_bad (base R : Nat) (h d : Bool) (F : Int) (v : Value) (Wt : List Int) (w : World) (r : Re base w R h d F v Wt) (hF : F ≠ 0) :
    Calls Try.prog 19 #[.pointer (some ⟨R, 0, none⟩)] w fun e w' => e = .returned (.tuple #[.agg (noP.vals (.slice none 0 0)), .int .i64 F]) ∧ Below w.heap.size w w' := by
  have rK := Kpt.mk r
  have n1 : ¬ F = 0 := hF
  have n2 : (F == 0) = false := by simpa using hF
  have n3 : (F != 0) = true := by simpa using hF
  clear r
  go_enter Try.func19, Try.ntmps19
  go_upto_region 4 with (refine (?_ : wpList _ _ _ (Oper.mk (some 2) _ _ _ _ _ :: _) _ _); refine wpList_var rfl 26 rfl (noP.vals (.slice none 0 0)) zeroPi ?_; intro B0 w0 hB0 hX0 hb0; have r1 := Kpt.mk (rK.out.below hb0); obtain ⟨c0, c1, c2, c3⟩ := r1.out.cell; replace hX0 := Kpt.mk hX0; have hB0R : Kpt (B0 ≠ R) := ⟨fun e => by have := rK.out.bx.lt; omega⟩; have hB0v : Kpt (∀ g, v.ownBlock = some g → g < w.heap.size → g ≠ B0) := ⟨fun g _ hg => by omega⟩; replace hB0 := Kpt.mk hB0; replace hb0 := Kpt.mk hb0)
  refine wp_region_any (by kernel_rfl) ?_
  refine wpAny_of_C (C := fun W => Bx W R #[.bool h, .bool d, v, .int .i64 F] ∧ Bx W B0 (noP.vals (.slice none 0 0))) _ _ _ _ ?_
  refine wpAnyC_take 0 (.agg (noP.vals (.slice none 0 0))) rfl (by kernel_rfl) (by kernel_rfl) (by kernel_rfl) (fun _ _ _ h => h) (wanted_free rfl _) (fun W hW => by go_simp; rfl) ?_
  try simp only [Act.put, List.getElem_toArray, List.getElem_cons_succ, List.getElem_cons_zero, List.setIfInBounds_toArray, List.set_cons_succ, List.set_cons_zero]
  refine wpAnyC_take 1 (.pointer (some ⟨R, 0, none⟩)) rfl (by kernel_rfl) (by kernel_rfl) (by kernel_rfl) (fun _ _ _ h => h) (wanted_free rfl _) (fun W hW => by go_simp) ?_
  try simp only [Act.put, List.getElem_toArray, List.getElem_cons_succ, List.getElem_cons_zero, List.setIfInBounds_toArray, List.set_cons_succ, List.set_cons_zero]
  refine wpAnyC_take 2 (.pointer (some ⟨R, 0, none⟩)) rfl (by kernel_rfl) (by kernel_rfl) (by kernel_rfl) (fun _ _ _ h => h) (wanted_free rfl _) (fun W hW => by go_simp) ?_
  try simp only [Act.put, List.getElem_toArray, List.getElem_cons_succ, List.getElem_cons_zero, List.setIfInBounds_toArray, List.set_cons_succ, List.set_cons_zero]
  refine wpAnyC_take 3 (.pointer (some ⟨R, 3, none⟩)) rfl (by kernel_rfl) (by kernel_rfl) (by kernel_rfl) (fun _ _ _ h => h) (wanted_free rfl _) (fun W hW => by go_simp) ?_
  try simp only [Act.put, List.getElem_toArray, List.getElem_cons_succ, List.getElem_cons_zero, List.setIfInBounds_toArray, List.set_cons_succ, List.set_cons_zero]
  refine wpAnyC_take 4 (.int .i64 F) rfl (by kernel_rfl) (by kernel_rfl) (by kernel_rfl) (fun _ _ _ h => h) (wanted_free rfl _) (fun W hW => by have c := hW.1.cells 3 (by simp); simp at c; go_simp) ?_
  try simp only [Act.put, List.getElem_toArray, List.getElem_cons_succ, List.getElem_cons_zero, List.setIfInBounds_toArray, List.set_cons_succ, List.set_cons_zero]
  refine wpAnyC_one 5 (⟨r1.out.bx.drew, hX0.out.drew⟩) rfl (by kernel_rfl) (wanted_free rfl _) (fun KA hKA => ?_)
  refine wp_store_bx 26 (.tmp 2) (.tmp 15) rfl B0 (noP.vals (.slice none 0 0)) (noP.vals (.slice none 0 0)) rfl rfl hX0.out.drew rfl sizeP noP_ok.2 ?_
  intro w5 hXs hgs
  refine hKA _ _ ?_
  clear hKA KA
  try simp only [Act.put, List.getElem_toArray, List.getElem_cons_succ, List.getElem_cons_zero, List.setIfInBounds_toArray, List.set_cons_succ, List.set_cons_zero]
  have hR5 := r1.out.bx.drew.grown hgs (fun e => hB0R.out (by injection e))
  have hb5 : Kpt (Below w.heap.size w w5) := ⟨(hb0.out.trans ((below_drew w0).mono hb0.out.size)).grown hgs (Nat.le_trans hb0.out.size (Nat.le_refl _)) (fun q e => by injection e with e; rw [← e]; exact hB0.out)⟩
  refine wpAnyC_one 6 (⟨hR5, hXs⟩) rfl (by kernel_rfl) (wanted_free rfl _) (fun KA hKA => ?_)
  go_simp
  refine hKA _ _ ?_
  clear hKA KA
  try simp only [Act.put, List.getElem_toArray, List.getElem_cons_succ, List.getElem_cons_zero, List.setIfInBounds_toArray, List.set_cons_succ, List.set_cons_zero]
  refine wpAnyC_done (⟨hR5, hXs⟩) (by kernel_rfl) ?_
  go_wp2
  refine bodyPost_ret (v := .tuple #[.agg (noP.vals (.slice none 0 0)), .int .i64 F]) (by simp [results, Try.results19, asAddr, Act.put, run_res hXs 26 _ Try.underlying26 rfl sizeP]) rfl ⟨rfl, hb5.out⟩
end Go.Proofs.Ytigfoldobkigeaa
