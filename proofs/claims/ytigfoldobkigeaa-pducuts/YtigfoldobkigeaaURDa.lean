/-
  pdu: the document's Decode: no whole head, a wrong sum.
-/
import Derived.Test.YtigfoldobkigeaaURD0
namespace Go.Proofs.Ytigfoldobkigeaa
open Go.RowKit
set_option linter.unusedVariables false
set_option linter.unusedSimpArgs false

set_option maxRecDepth 100000 in
set_option maxHeartbeats 2000000 in
theorem rdec_none_f (a : Option Addr) (n c : Nat) (d : Bool) (w : World) (hn : n ≤ 140737488355328) (hs : n < 48) :
    Calls Try.prog 14 #[.slice a n c, .bool false, .bool d] w fun e w' => e = .returned (.tuple #[.agg (noP.vals (.slice none 0 0)), .int .i64 0, .int .i64 8]) ∧ Below w.heap.size w w' := by
  have h1 : (n : Int) < 48 := by omega
  go_enter Try.func14, Try.ntmps14
  go_wp2_with (first
    | (refine (?_ : wpList _ _ _ (Oper.mk none (Op.store _ _ _) _ _ _ _ :: _) _ _); go_must (refine wpList_store_bx rfl 26 (.tmp 6) (.tmp 21) rfl B0 (noP.vals (.slice none 0 0)) (noP.vals (.slice none 0 0)) rfl rfl hX.out rfl sizeP (Pd.one noP none 0 0) rfl ?_; intro wz hXz hgz; have hbz : Kpt (Below w.heap.size w wz) := ⟨hbc.out.grown hgz hbc.out.size (fun k h => by cases h; exact hB0.out)⟩; replace hXz := Kpt.mk hXz; clear hgz))
    | (refine (?_ : wpList _ _ _ (Oper.mk (some 21) (Op.build _ _) _ _ _ _ :: _) _ _); refine wpList_of_exec rfl (by kernel_rfl : _ = Result.ok (.value (.agg (noP.vals (.slice none 0 0)))) _) ?_)
    | (refine wpList_var rfl 26 rfl (noP.vals (.slice none 0 0)) zeroPi ?_; intro B0 w0 hB0 hX hbc; replace hX := Kpt.mk hX; replace hB0 := Kpt.mk hB0; replace hbc := Kpt.mk hbc))
  refine bodyPost_ret (v := .tuple #[.agg (noP.vals (.slice none 0 0)), .int .i64 0, .int .i64 8]) (by simp [results, Try.results14, asAddr, Act.put, run_res hXz.out 26 _ Try.underlying26 rfl sizeP]) rfl ⟨rfl, hbz.out⟩

set_option maxRecDepth 100000 in
set_option maxHeartbeats 2000000 in
theorem rdec_none_t (a : Option Addr) (n c : Nat) (d : Bool) (w : World) (hn : n ≤ 140737488355328) (hs : n < 52) :
    Calls Try.prog 14 #[.slice a n c, .bool true, .bool d] w fun e w' => e = .returned (.tuple #[.agg (noP.vals (.slice none 0 0)), .int .i64 0, .int .i64 8]) ∧ Below w.heap.size w w' := by
  have h1 : (n : Int) < 52 := by omega
  go_enter Try.func14, Try.ntmps14
  go_wp2_with (first
    | (refine (?_ : wpList _ _ _ (Oper.mk none (Op.store _ _ _) _ _ _ _ :: _) _ _); go_must (refine wpList_store_bx rfl 26 (.tmp 6) (.tmp 21) rfl B0 (noP.vals (.slice none 0 0)) (noP.vals (.slice none 0 0)) rfl rfl hX.out rfl sizeP (Pd.one noP none 0 0) rfl ?_; intro wz hXz hgz; have hbz : Kpt (Below w.heap.size w wz) := ⟨hbc.out.grown hgz hbc.out.size (fun k h => by cases h; exact hB0.out)⟩; replace hXz := Kpt.mk hXz; clear hgz))
    | (refine (?_ : wpList _ _ _ (Oper.mk (some 21) (Op.build _ _) _ _ _ _ :: _) _ _); refine wpList_of_exec rfl (by kernel_rfl : _ = Result.ok (.value (.agg (noP.vals (.slice none 0 0)))) _) ?_)
    | (refine wpList_var rfl 26 rfl (noP.vals (.slice none 0 0)) zeroPi ?_; intro B0 w0 hB0 hX hbc; replace hX := Kpt.mk hX; replace hB0 := Kpt.mk hB0; replace hbc := Kpt.mk hbc))
  refine bodyPost_ret (v := .tuple #[.agg (noP.vals (.slice none 0 0)), .int .i64 0, .int .i64 8]) (by simp [results, Try.results14, asAddr, Act.put, run_res hXz.out 26 _ Try.underlying26 rfl sizeP]) rfl ⟨rfl, hbz.out⟩

set_option maxRecDepth 100000 in
set_option maxHeartbeats 2000000 in
theorem rdec_sum (b off n c : Nat) (zs : List Int) (w : World) (hr : RdAt w (.slice (some ⟨b, off, none⟩) n c) zs) (hn : n ≤ 140737488355328) (hc : c ≤ maxLen) (hb : Bytes zs) (d : Bool) (hs : 52 ≤ n) (hq : ¬ B.num zs 48 4 = (sumL (zs.take 48) : Int)) :
    Calls Try.prog 14 #[.slice (some ⟨b, off, none⟩) n c, .bool true, .bool d] w fun e w' => e = .returned (.tuple #[.agg (noP.vals (.slice none 0 0)), .int .i64 0, .int .i64 5]) ∧ Below w.heap.size w w' := by
  have hzl := (rd_row hr).1
  have hcn : n ≤ c := by obtain ⟨a', c', hv, h1, h2, h3⟩ := hr; simp only [Value.slice.injEq] at hv; omega
  have hrB : Kpt (∀ W, Below w.heap.size w W → RdAt W (.slice (some ⟨b, off, none⟩) n c) zs) := ⟨fun W h' => hr.bel h'⟩
  have hcl : Kpt (∀ W, Below w.heap.size w W → ∀ j, j < n → W.cell? ⟨b, off + j, none⟩ = some (.int .u8 (zs.getD j 0))) := ⟨fun W h' => (rd_cells (hr.bel h')).2⟩
  have hNum : Kpt (∀ W, Below w.heap.size w W → ∀ i k : Nat, 1 ≤ k → k ≤ 8 → i + k ≤ n → Calls Try.prog 30 #[.slice (some ⟨b, off, none⟩) n c, .int .i64 i, .int .i64 k] W fun e w' => e = .returned (.int .u64 (B.num zs i k)) ∧ w' = W) := ⟨fun W h' i k h1 h2 h3 => rnum_any b off n c i k zs W (by unfold maxLen; omega) h1 h2 h3 hb (hcl.out W h')⟩
  have hS4 := sumL_lt (zs.take 48)
  have hSum : Kpt (∀ W, Below w.heap.size w W → Calls Try.prog 25 #[.slice (some ⟨b, off, none⟩) 48 c] W fun e w' => ∃ g, e = .returned (.slice (some ⟨g, 0, none⟩) 4 4) ∧ w'.ownsRow W.heap.size 5 1 (.slice (some ⟨g, 0, none⟩) 4 4) 4 (cels (bigL (sumL (zs.take 48)) 4)) ∧ Below W.heap.size W w') := ⟨fun W h' => rsum_any _ _ W (rd_take (hr.bel h') 48 (by omega)) (by simp; unfold maxLen; omega) (Bytes.take hb 48)⟩
  have hcv1 : Kpt (∀ W, Below w.heap.size w W → (convert 24 9 (.slice (some ⟨b, off + 48, none⟩) 4 (c - 48))).run Try.prog W = .ok (.string (strOfNums ((zs.drop 48).take 4))) W) := ⟨fun W h' => conv_rd (rd_cut (hr.bel h') 48 4 (by omega) (by omega))⟩
  have hst := str_four zs hb 48 (by omega) (sumL (zs.take 48)) hS4
  obtain ⟨S, hS⟩ : ∃ S, S = bigL (sumL (zs.take 48)) 4 := ⟨_, rfl⟩
  rw [← hS] at hSum hst
  have hcv2 : Kpt (∀ W g, RdAt W (.slice (some ⟨g, 0, none⟩) 4 4) S → (convert 24 9 (.slice (some ⟨g, 0, none⟩) 4 4)).run Try.prog W = .ok (.string (strOfNums S)) W) := ⟨fun W g h' => conv_rd h'⟩
  obtain ⟨s1, hs1⟩ : ∃ s, s = strOfNums ((zs.drop 48).take 4) := ⟨_, rfl⟩
  obtain ⟨s2, hs2⟩ : ∃ s, s = strOfNums S := ⟨_, rfl⟩
  rw [← hs1] at hcv1 hst
  rw [← hs2] at hcv2 hst
  have hne : ¬ s1 = s2 := fun e => hq (hst.1 e)
  have hne2 : ¬ s1.toList = s2.toList := fun e => hne (by
    rw [ByteArray.toList_eq, ByteArray.toList_eq] at e
    obtain ⟨d1⟩ := s1
    obtain ⟨d2⟩ := s2
    congr
    exact Array.toList_inj.1 e)
  clear hS hs1 hs2 hst hS4
  have h1 : ¬ (n : Int) < 52 := by omega
  have c48 : ¬ c = 48 := by omega
  have c52 : ¬ (c : Int) < 52 := by omega
  have c48' : ¬ (c : Int) < 48 := by omega
  clear hr hq hb hzl hNum hcl hrB
  unfold maxLen at hc
  go_enter Try.func14, Try.ntmps14
  go_wp2_with (first
    | (refine wpList_var rfl 26 rfl (noP.vals (.slice none 0 0)) zeroPi ?_; intro B0 w0 hB0 hX hbc; replace hX := Kpt.mk hX; replace hB0 := Kpt.mk hB0; replace hbc := Kpt.mk hbc)
    | fail)
  refine wp_region_any (by kernel_rfl) ?_
  refine wpAny_of_C (C := fun W => Below w.heap.size w W) _ _ _ _ ?_
  refine wpAnyC_take 0 (.bool true) rfl (by kernel_rfl) (by kernel_rfl) (by kernel_rfl) (fun _ _ _ h => h) (wanted_free rfl _) (fun W hW => by go_simp) ?_
  try simp only [Act.put, List.getElem_toArray, List.getElem_cons_succ, List.getElem_cons_zero, List.setIfInBounds_toArray, List.set_cons_succ, List.set_cons_zero]
  refine wpAnyC_take 1 (.bool true) rfl (by kernel_rfl) (by kernel_rfl) (by kernel_rfl) (fun _ _ _ h => h) (wanted_free rfl _) (fun W hW => by go_simp) ?_
  try simp only [Act.put, List.getElem_toArray, List.getElem_cons_succ, List.getElem_cons_zero, List.setIfInBounds_toArray, List.set_cons_succ, List.set_cons_zero]
  refine wpAnyC_take 2 (.slice (some ⟨b, off, none⟩) n c) rfl (by kernel_rfl) (by kernel_rfl) (by kernel_rfl) (fun _ _ _ h => h) (wanted_at true rfl rfl rfl rfl) (fun W hW => by go_simp) ?_
  try simp only [Act.put, List.getElem_toArray, List.getElem_cons_succ, List.getElem_cons_zero, List.setIfInBounds_toArray, List.set_cons_succ, List.set_cons_zero]
  refine wpAnyC_take 3 (.slice (some ⟨b, off + 48, none⟩) 4 (c - 48)) rfl (by kernel_rfl) (by kernel_rfl) (by kernel_rfl) (fun _ _ _ h => h) (wanted_at true rfl rfl rfl rfl) (fun W hW => by go_simp) ?_
  try simp only [Act.put, List.getElem_toArray, List.getElem_cons_succ, List.getElem_cons_zero, List.setIfInBounds_toArray, List.set_cons_succ, List.set_cons_zero]
  refine wpAnyC_take 4 (.string s1) rfl (by kernel_rfl) (by kernel_rfl) (by kernel_rfl) (fun _ _ _ h => h) (wanted_at true rfl rfl rfl rfl) (fun W hW => by have hq1 := hcv1.out W hW; go_simp) ?_
  try simp only [Act.put, List.getElem_toArray, List.getElem_cons_succ, List.getElem_cons_zero, List.setIfInBounds_toArray, List.set_cons_succ, List.set_cons_zero]
  refine wpAnyC_take 5 (.slice (some ⟨b, off, none⟩) n c) rfl (by kernel_rfl) (by kernel_rfl) (by kernel_rfl) (fun _ _ _ h => h) (wanted_at true rfl rfl rfl rfl) (fun W hW => by go_simp) ?_
  try simp only [Act.put, List.getElem_toArray, List.getElem_cons_succ, List.getElem_cons_zero, List.setIfInBounds_toArray, List.set_cons_succ, List.set_cons_zero]
  refine wpAnyC_take 6 (.slice (some ⟨b, off, none⟩) 48 c) rfl (by kernel_rfl) (by kernel_rfl) (by kernel_rfl) (fun _ _ _ h => h) (wanted_at true rfl rfl rfl rfl) (fun W hW => by go_simp) ?_
  try simp only [Act.put, List.getElem_toArray, List.getElem_cons_succ, List.getElem_cons_zero, List.setIfInBounds_toArray, List.set_cons_succ, List.set_cons_zero]
  refine wpAnyC_one 7 (hbc.out.drew) rfl (by kernel_rfl) (wanted_at true rfl rfl rfl rfl) (fun KA hKA => ?_)
  go_simp
  refine (hSum.out _ hbc.out.drew).mono ?_
  rintro e wc ⟨g1, rfl, ho1, hbe1⟩
  replace hbe1 := below_undrew hbe1
  replace hX : Kpt (Bx wc B0 (noP.vals (.slice none 0 0))) := ⟨hX.out.below hbe1 hX.out.lt⟩
  replace hbc : Kpt (Below w.heap.size w wc) := ⟨hbc.out.trans (hbe1.mono hbc.out.size)⟩
  have hro1 : Kpt (RdAt wc (.slice (some ⟨g1, 0, none⟩) 4 4) S) := ⟨own_rd ho1⟩
  clear hbe1 ho1
  refine hKA _ _ ?_
  clear hKA KA
  try simp only [Act.put, List.getElem_toArray, List.getElem_cons_succ, List.getElem_cons_zero, List.setIfInBounds_toArray, List.set_cons_succ, List.set_cons_zero]
  refine wpAnyC_mono (C' := fun W => Sm wc W) (fun W h => hbc.out.trans (h.bel.mono hbc.out.size)) _ _ _ _ ?_
  refine wpAnyC_take 8 (.string s2) rfl (by kernel_rfl) (by kernel_rfl) (by kernel_rfl) (fun _ _ _ h => h) (wanted_at true rfl rfl rfl rfl) (fun W hW => by have hq2 := hcv2.out W g1 (hW.rd hro1.out); go_simp) ?_
  try simp only [Act.put, List.getElem_toArray, List.getElem_cons_succ, List.getElem_cons_zero, List.setIfInBounds_toArray, List.set_cons_succ, List.set_cons_zero]
  refine wpAnyC_take 9 (.bool true) rfl (by kernel_rfl) (by kernel_rfl) (by kernel_rfl) (fun _ _ _ h => h) (wanted_at true rfl rfl rfl rfl) (fun W hW => by go_simp) ?_
  try simp only [Act.put, List.getElem_toArray, List.getElem_cons_succ, List.getElem_cons_zero, List.setIfInBounds_toArray, List.set_cons_succ, List.set_cons_zero]
  refine wpAnyC_take 10 (.bool true) rfl (by kernel_rfl) (by kernel_rfl) (by kernel_rfl) (fun _ _ _ h => h) (wanted_free rfl _) (fun W hW => by go_simp) ?_
  try simp only [Act.put, List.getElem_toArray, List.getElem_cons_succ, List.getElem_cons_zero, List.setIfInBounds_toArray, List.set_cons_succ, List.set_cons_zero]
  refine wpAnyC_done (Sm.refl _) (by kernel_rfl) ?_
  go_wp2_with (first
    | (refine (?_ : wpList _ _ _ (Oper.mk none (Op.store _ _ _) _ _ _ _ :: _) _ _); go_must (refine wpList_store_bx rfl 26 (.tmp 6) (.tmp 33) rfl B0 (noP.vals (.slice none 0 0)) (noP.vals (.slice none 0 0)) rfl rfl hX.out rfl sizeP (Pd.one noP none 0 0) rfl ?_; intro wz hXz hgz; have hbz : Kpt (Below w.heap.size w wz) := ⟨hbc.out.grown hgz hbc.out.size (fun k h => by cases h; exact hB0.out)⟩; replace hXz := Kpt.mk hXz; clear hgz))
    | (refine (?_ : wpList _ _ _ (Oper.mk (some 33) (Op.build _ _) _ _ _ _ :: _) _ _); refine wpList_of_exec rfl (by kernel_rfl : _ = Result.ok (.value (.agg (noP.vals (.slice none 0 0)))) _) ?_))
  refine bodyPost_ret (v := .tuple #[.agg (noP.vals (.slice none 0 0)), .int .i64 0, .int .i64 5]) (by simp [results, Try.results14, asAddr, Act.put, run_res hXz.out 26 _ Try.underlying26 rfl sizeP]) rfl ⟨rfl, hbz.out⟩
end Go.Proofs.Ytigfoldobkigeaa
