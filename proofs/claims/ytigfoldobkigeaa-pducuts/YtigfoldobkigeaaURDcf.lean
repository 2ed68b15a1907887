/-
  pdu: the document's Decode: a body that is not whole.
-/
import Derived.Test.YtigfoldobkigeaaURD0
namespace Go.Proofs.Ytigfoldobkigeaa
open Go.RowKit
set_option linter.unusedVariables false
set_option linter.unusedSimpArgs false

set_option maxRecDepth 100000 in
set_option maxHeartbeats 2000000 in
theorem rdec_cut_fF (b off n c : Nat) (zs : List Int) (w : World) (hr : RdAt w (.slice (some ⟨b, off, none⟩) n c) zs) (hn : n ≤ 140737488355328) (hc : c ≤ maxLen) (hb : Bytes zs) (hs : 48 ≤ n) (L M : Nat) (hL : B.num zs 5 3 = (L : Int)) (hL8 : L ≤ 8192) (h4 : zs.getD 4 0 = 0) (h8 : zs.getD 8 0 = 0) (h10 : B.num zs 10 6 = 0) (hM : M = L + padN L) (hcut : n < 48 + M) :
    Calls Try.prog 14 #[.slice (some ⟨b, off, none⟩) n c, .bool false, .bool false] w fun e w' => e = .returned (.tuple #[.agg (noP.vals (.slice none 0 0)), .int .i64 0, .int .i64 8]) ∧ Below w.heap.size w w' := by
  have hzl := (rd_row hr).1
  have hcn : n ≤ c := by obtain ⟨a', c', hv, h1, h2, h3⟩ := hr; simp only [Value.slice.injEq] at hv; omega
  have hrB : Kpt (∀ W, Below w.heap.size w W → RdAt W (.slice (some ⟨b, off, none⟩) n c) zs) := ⟨fun W h' => hr.bel h'⟩
  have hcl : Kpt (∀ W, Below w.heap.size w W → ∀ j, j < n → W.cell? ⟨b, off + j, none⟩ = some (.int .u8 (zs.getD j 0))) := ⟨fun W h' => (rd_cells (hr.bel h')).2⟩
  have hNum : Kpt (∀ W, Below w.heap.size w W → ∀ i k : Nat, 1 ≤ k → k ≤ 8 → i + k ≤ n → Calls Try.prog 30 #[.slice (some ⟨b, off, none⟩) n c, .int .i64 i, .int .i64 k] W fun e w' => e = .returned (.int .u64 (B.num zs i k)) ∧ w' = W) := ⟨fun W h' i k h1 h2 h3 => rnum_any b off n c i k zs W (by unfold maxLen; omega) h1 h2 h3 hb (hcl.out W h')⟩
  have hN5 : Kpt (∀ W, Below w.heap.size w W → Calls Try.prog 30 #[.slice (some ⟨b, off, none⟩) n c, .int .i64 5, .int .i64 3] W fun e w' => e = .returned (.int .u64 (B.num zs 5 3)) ∧ w' = W) := ⟨fun W h' => hNum.out W h' 5 3 (by decide) (by decide) (by omega)⟩
  have hN10 : Kpt (∀ W, Below w.heap.size w W → Calls Try.prog 30 #[.slice (some ⟨b, off, none⟩) n c, .int .i64 10, .int .i64 6] W fun e w' => e = .returned (.int .u64 (B.num zs 10 6)) ∧ w' = W) := ⟨fun W h' => hNum.out W h' 10 6 (by decide) (by decide) (by omega)⟩
  have hx0 := num4 zs hb 5 3 (by decide)
  have hc4 : Kpt (∀ W, Below w.heap.size w W → W.cell? ⟨b, off + 4, none⟩ = some (.int .u8 (zs.getD 4 0)) ∧ W.cell? ⟨b, off + 8, none⟩ = some (.int .u8 (zs.getD 8 0))) := ⟨fun W h' => ⟨hcl.out W h' 4 (by omega), hcl.out W h' 8 (by omega)⟩⟩
  rw [hL] at hN5
  rw [h10] at hN10
  rw [h4, h8] at hc4
  have wL : IntKind.i64.wrap (L : Int) = L := by simp only [IntKind.wrap, IntKind.bits, IntKind.signed]; simp; omega
  have hL8' : ¬ (8192 : Int) < L := by omega
  obtain ⟨P, hP⟩ : ∃ P, P = padN L := ⟨_, rfl⟩
  have hP4 : P ≤ 3 ∧ (L + P) % 4 = 0 := by rw [hP]; unfold padN; omega
  rw [← hP] at hM
  have hM8 : M ≤ 8195 := by omega
  obtain ⟨A, hA⟩ : ∃ A, A = 48 + M := ⟨_, rfl⟩
  have hAe : (48 : Int) + (M : Int) = (A : Int) := by omega
  obtain ⟨I0, hI0⟩ : ∃ A, A = 48 + L := ⟨_, rfl⟩
  have hI0e : (48 : Int) + (L : Int) = (I0 : Int) := by omega
  have h1 : ¬ (n : Int) < 48 := by omega
  have hlt : (n : Int) < (A : Int) := by omega
  clear hr hzl hNum hrB hL h4 h8 h10 hP hcl hb hcut hA hI0
  unfold maxLen at hc
  go_enter Try.func14, Try.ntmps14
  go_wp2_with (first
    | (refine wpList_var rfl 26 rfl (noP.vals (.slice none 0 0)) zeroPi ?_; intro B0 w0 hB0 hX hbc; replace hX := Kpt.mk hX; replace hB0 := Kpt.mk hB0; replace hbc := Kpt.mk hbc)
    | fail)
  refine wp_region_any (by kernel_rfl) ?_
  refine wpAny_of_C (C := fun W => True) _ _ _ _ ?_
  refine wpAnyC_take 0 (.bool false) rfl (by kernel_rfl) (by kernel_rfl) (by kernel_rfl) (fun _ _ _ h => h) (wanted_free rfl _) (fun W hW => by go_simp) ?_
  try simp only [Act.put, List.getElem_toArray, List.getElem_cons_succ, List.getElem_cons_zero, List.setIfInBounds_toArray, List.set_cons_succ, List.set_cons_zero]
  refine wpAnyC_take 1 (.bool false) rfl (by kernel_rfl) (by kernel_rfl) (by kernel_rfl) (fun _ _ _ h => h) (wanted_free rfl _) (fun W hW => by go_simp) ?_
  try simp only [Act.put, List.getElem_toArray, List.getElem_cons_succ, List.getElem_cons_zero, List.setIfInBounds_toArray, List.set_cons_succ, List.set_cons_zero]
  refine wpAnyC_skip 2 rfl (by kernel_rfl) (by kernel_rfl) (by kernel_rfl) (fun _ _ _ h => h) (wanted_no true rfl rfl rfl rfl) ?_
  try simp only [Act.put, List.getElem_toArray, List.getElem_cons_succ, List.getElem_cons_zero, List.setIfInBounds_toArray, List.set_cons_succ, List.set_cons_zero]
  refine wpAnyC_skip 3 rfl (by kernel_rfl) (by kernel_rfl) (by kernel_rfl) (fun _ _ _ h => h) (wanted_no true rfl rfl rfl rfl) ?_
  try simp only [Act.put, List.getElem_toArray, List.getElem_cons_succ, List.getElem_cons_zero, List.setIfInBounds_toArray, List.set_cons_succ, List.set_cons_zero]
  refine wpAnyC_skip 4 rfl (by kernel_rfl) (by kernel_rfl) (by kernel_rfl) (fun _ _ _ h => h) (wanted_no true rfl rfl rfl rfl) ?_
  try simp only [Act.put, List.getElem_toArray, List.getElem_cons_succ, List.getElem_cons_zero, List.setIfInBounds_toArray, List.set_cons_succ, List.set_cons_zero]
  refine wpAnyC_skip 5 rfl (by kernel_rfl) (by kernel_rfl) (by kernel_rfl) (fun _ _ _ h => h) (wanted_no true rfl rfl rfl rfl) ?_
  try simp only [Act.put, List.getElem_toArray, List.getElem_cons_succ, List.getElem_cons_zero, List.setIfInBounds_toArray, List.set_cons_succ, List.set_cons_zero]
  refine wpAnyC_skip 6 rfl (by kernel_rfl) (by kernel_rfl) (by kernel_rfl) (fun _ _ _ h => h) (wanted_no true rfl rfl rfl rfl) ?_
  try simp only [Act.put, List.getElem_toArray, List.getElem_cons_succ, List.getElem_cons_zero, List.setIfInBounds_toArray, List.set_cons_succ, List.set_cons_zero]
  refine wpAnyC_skip 7 rfl (by kernel_rfl) (by kernel_rfl) (by kernel_rfl) (fun _ _ _ h => h) (wanted_no true rfl rfl rfl rfl) ?_
  try simp only [Act.put, List.getElem_toArray, List.getElem_cons_succ, List.getElem_cons_zero, List.setIfInBounds_toArray, List.set_cons_succ, List.set_cons_zero]
  refine wpAnyC_skip 8 rfl (by kernel_rfl) (by kernel_rfl) (by kernel_rfl) (fun _ _ _ h => h) (wanted_no true rfl rfl rfl rfl) ?_
  try simp only [Act.put, List.getElem_toArray, List.getElem_cons_succ, List.getElem_cons_zero, List.setIfInBounds_toArray, List.set_cons_succ, List.set_cons_zero]
  refine wpAnyC_skip 9 rfl (by kernel_rfl) (by kernel_rfl) (by kernel_rfl) (fun _ _ _ h => h) (wanted_no true rfl rfl rfl rfl) ?_
  try simp only [Act.put, List.getElem_toArray, List.getElem_cons_succ, List.getElem_cons_zero, List.setIfInBounds_toArray, List.set_cons_succ, List.set_cons_zero]
  refine wpAnyC_take 10 (.bool false) rfl (by kernel_rfl) (by kernel_rfl) (by kernel_rfl) (fun _ _ _ h => h) (wanted_free rfl _) (fun W hW => by go_simp) ?_
  try simp only [Act.put, List.getElem_toArray, List.getElem_cons_succ, List.getElem_cons_zero, List.setIfInBounds_toArray, List.set_cons_succ, List.set_cons_zero]
  refine wpAnyC_done (trivial) (by kernel_rfl) ?_
  replace hX : Kpt (Bx w0.drew B0 (noP.vals (.slice none 0 0))) := ⟨hX.out.drew⟩
  replace hbc : Kpt (Below w.heap.size w w0.drew) := ⟨hbc.out.drew⟩
  have hcc := hc4.out _ hbc.out
  go_wp2_with (first
    | (go_at_call 30; have hm := m1; go_must (refine (hN10.out _ hbc.out).mono ?_; rintro e wc ⟨rfl, rfl⟩))
    | (go_at_call 30; go_must (refine (hN5.out _ hbc.out).mono ?_; rintro e wc ⟨rfl, rfl⟩; have m1 : Kpt True := ⟨trivial⟩)))
  clear hcc
  go_loop [11] (fun t => ∃ j : Nat, j ≤ P ∧ t = .int .i64 ((L + j : Nat) : Int)) (fun t => L + 4 - (intOf t).toNat)
  case atStart => exact ⟨0, by omega, rfl⟩
  case round =>
    obtain ⟨j, hj, rfl⟩ := hrel
    by_cases hjP : j < P
    · have hrem2 : ¬ ((L + j : Nat) : Int).tmod 4 = 0 := by rw [Int.tmod_eq_emod_of_nonneg (by omega)]; omega
      go_wp2
      go_round
      case rel => exact ⟨j + 1, by omega, by go_num⟩
      case measure => simp [intOf]; omega
    · have hjM : L + j = M := by omega
      have hrem2 : (M : Int).tmod 4 = 0 := by rw [Int.tmod_eq_emod_of_nonneg (by omega)]; omega
      rw [hjM]
      clear hjP hj hjM j
      go_wp2_with (first
        | (refine (?_ : wpList _ _ _ (Oper.mk none (Op.store _ _ _) _ _ _ _ :: _) _ _); go_must (refine wpList_store_bx rfl 26 (.tmp 6) (.tmp 77) rfl B0 (noP.vals (.slice none 0 0)) (noP.vals (.slice none 0 0)) rfl rfl hX.out rfl sizeP (Pd.one noP none 0 0) rfl ?_; intro wz hXz hgz; have hbz : Kpt (Below w.heap.size w wz) := ⟨hbc.out.grown hgz hbc.out.size (fun k h => by cases h; exact hB0.out)⟩; replace hXz := Kpt.mk hXz; clear hgz))
        | (refine (?_ : wpList _ _ _ (Oper.mk (some 77) (Op.build _ _) _ _ _ _ :: _) _ _); refine wpList_of_exec rfl (by kernel_rfl : _ = Result.ok (.value (.agg (noP.vals (.slice none 0 0)))) _) ?_))
      refine bodyPost_ret (v := .tuple #[.agg (noP.vals (.slice none 0 0)), .int .i64 0, .int .i64 8]) (by simp [results, Try.results14, asAddr, Act.put, run_res hXz.out 26 _ Try.underlying26 rfl sizeP]) rfl ⟨rfl, hbz.out⟩

set_option maxRecDepth 100000 in
set_option maxHeartbeats 2000000 in
theorem rdec_cut_fz (b off n c : Nat) (zs : List Int) (w : World) (hr : RdAt w (.slice (some ⟨b, off, none⟩) n c) zs) (hn : n ≤ 140737488355328) (hc : c ≤ maxLen) (hb : Bytes zs) (hs : 48 ≤ n) (L M : Nat) (hL : B.num zs 5 3 = (L : Int)) (hL8 : L ≤ 8192) (h4 : zs.getD 4 0 = 0) (h8 : zs.getD 8 0 = 0) (h10 : B.num zs 10 6 = 0) (hM : M = L + padN L) (h0 : M = 0) (hcut : n < 48 + M) :
    Calls Try.prog 14 #[.slice (some ⟨b, off, none⟩) n c, .bool false, .bool true] w fun e w' => e = .returned (.tuple #[.agg (noP.vals (.slice none 0 0)), .int .i64 0, .int .i64 8]) ∧ Below w.heap.size w w' := by
  exfalso
  omega

set_option maxRecDepth 100000 in
set_option maxHeartbeats 2000000 in
theorem rdec_cut_fp (b off n c : Nat) (zs : List Int) (w : World) (hr : RdAt w (.slice (some ⟨b, off, none⟩) n c) zs) (hn : n ≤ 140737488355328) (hc : c ≤ maxLen) (hb : Bytes zs) (hs : 48 ≤ n) (L M : Nat) (hL : B.num zs 5 3 = (L : Int)) (hL8 : L ≤ 8192) (h4 : zs.getD 4 0 = 0) (h8 : zs.getD 8 0 = 0) (h10 : B.num zs 10 6 = 0) (hM : M = L + padN L) (h0 : 0 < M) (hcut : n < 48 + M + 4) :
    Calls Try.prog 14 #[.slice (some ⟨b, off, none⟩) n c, .bool false, .bool true] w fun e w' => e = .returned (.tuple #[.agg (noP.vals (.slice none 0 0)), .int .i64 0, .int .i64 8]) ∧ Below w.heap.size w w' := by
  have hzl := (rd_row hr).1
  have hcn : n ≤ c := by obtain ⟨a', c', hv, h1, h2, h3⟩ := hr; simp only [Value.slice.injEq] at hv; omega
  have hrB : Kpt (∀ W, Below w.heap.size w W → RdAt W (.slice (some ⟨b, off, none⟩) n c) zs) := ⟨fun W h' => hr.bel h'⟩
  have hcl : Kpt (∀ W, Below w.heap.size w W → ∀ j, j < n → W.cell? ⟨b, off + j, none⟩ = some (.int .u8 (zs.getD j 0))) := ⟨fun W h' => (rd_cells (hr.bel h')).2⟩
  have hNum : Kpt (∀ W, Below w.heap.size w W → ∀ i k : Nat, 1 ≤ k → k ≤ 8 → i + k ≤ n → Calls Try.prog 30 #[.slice (some ⟨b, off, none⟩) n c, .int .i64 i, .int .i64 k] W fun e w' => e = .returned (.int .u64 (B.num zs i k)) ∧ w' = W) := ⟨fun W h' i k h1 h2 h3 => rnum_any b off n c i k zs W (by unfold maxLen; omega) h1 h2 h3 hb (hcl.out W h')⟩
  have hN5 : Kpt (∀ W, Below w.heap.size w W → Calls Try.prog 30 #[.slice (some ⟨b, off, none⟩) n c, .int .i64 5, .int .i64 3] W fun e w' => e = .returned (.int .u64 (B.num zs 5 3)) ∧ w' = W) := ⟨fun W h' => hNum.out W h' 5 3 (by decide) (by decide) (by omega)⟩
  have hN10 : Kpt (∀ W, Below w.heap.size w W → Calls Try.prog 30 #[.slice (some ⟨b, off, none⟩) n c, .int .i64 10, .int .i64 6] W fun e w' => e = .returned (.int .u64 (B.num zs 10 6)) ∧ w' = W) := ⟨fun W h' => hNum.out W h' 10 6 (by decide) (by decide) (by omega)⟩
  have hx0 := num4 zs hb 5 3 (by decide)
  have hc4 : Kpt (∀ W, Below w.heap.size w W → W.cell? ⟨b, off + 4, none⟩ = some (.int .u8 (zs.getD 4 0)) ∧ W.cell? ⟨b, off + 8, none⟩ = some (.int .u8 (zs.getD 8 0))) := ⟨fun W h' => ⟨hcl.out W h' 4 (by omega), hcl.out W h' 8 (by omega)⟩⟩
  rw [hL] at hN5
  rw [h10] at hN10
  rw [h4, h8] at hc4
  have wL : IntKind.i64.wrap (L : Int) = L := by simp only [IntKind.wrap, IntKind.bits, IntKind.signed]; simp; omega
  have hL8' : ¬ (8192 : Int) < L := by omega
  obtain ⟨P, hP⟩ : ∃ P, P = padN L := ⟨_, rfl⟩
  have hP4 : P ≤ 3 ∧ (L + P) % 4 = 0 := by rw [hP]; unfold padN; omega
  rw [← hP] at hM
  have hM8 : M ≤ 8195 := by omega
  obtain ⟨A, hA⟩ : ∃ A, A = 48 + M := ⟨_, rfl⟩
  have hAe : (48 : Int) + (M : Int) = (A : Int) := by omega
  obtain ⟨I0, hI0⟩ : ∃ A, A = 48 + L := ⟨_, rfl⟩
  have hI0e : (48 : Int) + (L : Int) = (I0 : Int) := by omega
  obtain ⟨N, hN⟩ : ∃ N, N = A + 4 := ⟨_, rfl⟩
  have hNe : (A : Int) + 4 = (N : Int) := by omega
  have hM0 : (0 : Int) < (M : Int) := by omega
  have h1 : ¬ (n : Int) < 48 := by omega
  have hlt : (n : Int) < (N : Int) := by omega
  clear hr hzl hNum hrB hL h4 h8 h10 hP hcl hb hcut hA hI0 hN h0
  unfold maxLen at hc
  go_enter Try.func14, Try.ntmps14
  go_wp2_with (first
    | (refine wpList_var rfl 26 rfl (noP.vals (.slice none 0 0)) zeroPi ?_; intro B0 w0 hB0 hX hbc; replace hX := Kpt.mk hX; replace hB0 := Kpt.mk hB0; replace hbc := Kpt.mk hbc)
    | fail)
  refine wp_region_any (by kernel_rfl) ?_
  refine wpAny_of_C (C := fun W => True) _ _ _ _ ?_
  refine wpAnyC_take 0 (.bool false) rfl (by kernel_rfl) (by kernel_rfl) (by kernel_rfl) (fun _ _ _ h => h) (wanted_free rfl _) (fun W hW => by go_simp) ?_
  try simp only [Act.put, List.getElem_toArray, List.getElem_cons_succ, List.getElem_cons_zero, List.setIfInBounds_toArray, List.set_cons_succ, List.set_cons_zero]
  refine wpAnyC_take 1 (.bool false) rfl (by kernel_rfl) (by kernel_rfl) (by kernel_rfl) (fun _ _ _ h => h) (wanted_free rfl _) (fun W hW => by go_simp) ?_
  try simp only [Act.put, List.getElem_toArray, List.getElem_cons_succ, List.getElem_cons_zero, List.setIfInBounds_toArray, List.set_cons_succ, List.set_cons_zero]
  refine wpAnyC_skip 2 rfl (by kernel_rfl) (by kernel_rfl) (by kernel_rfl) (fun _ _ _ h => h) (wanted_no true rfl rfl rfl rfl) ?_
  try simp only [Act.put, List.getElem_toArray, List.getElem_cons_succ, List.getElem_cons_zero, List.setIfInBounds_toArray, List.set_cons_succ, List.set_cons_zero]
  refine wpAnyC_skip 3 rfl (by kernel_rfl) (by kernel_rfl) (by kernel_rfl) (fun _ _ _ h => h) (wanted_no true rfl rfl rfl rfl) ?_
  try simp only [Act.put, List.getElem_toArray, List.getElem_cons_succ, List.getElem_cons_zero, List.setIfInBounds_toArray, List.set_cons_succ, List.set_cons_zero]
  refine wpAnyC_skip 4 rfl (by kernel_rfl) (by kernel_rfl) (by kernel_rfl) (fun _ _ _ h => h) (wanted_no true rfl rfl rfl rfl) ?_
  try simp only [Act.put, List.getElem_toArray, List.getElem_cons_succ, List.getElem_cons_zero, List.setIfInBounds_toArray, List.set_cons_succ, List.set_cons_zero]
  refine wpAnyC_skip 5 rfl (by kernel_rfl) (by kernel_rfl) (by kernel_rfl) (fun _ _ _ h => h) (wanted_no true rfl rfl rfl rfl) ?_
  try simp only [Act.put, List.getElem_toArray, List.getElem_cons_succ, List.getElem_cons_zero, List.setIfInBounds_toArray, List.set_cons_succ, List.set_cons_zero]
  refine wpAnyC_skip 6 rfl (by kernel_rfl) (by kernel_rfl) (by kernel_rfl) (fun _ _ _ h => h) (wanted_no true rfl rfl rfl rfl) ?_
  try simp only [Act.put, List.getElem_toArray, List.getElem_cons_succ, List.getElem_cons_zero, List.setIfInBounds_toArray, List.set_cons_succ, List.set_cons_zero]
  refine wpAnyC_skip 7 rfl (by kernel_rfl) (by kernel_rfl) (by kernel_rfl) (fun _ _ _ h => h) (wanted_no true rfl rfl rfl rfl) ?_
  try simp only [Act.put, List.getElem_toArray, List.getElem_cons_succ, List.getElem_cons_zero, List.setIfInBounds_toArray, List.set_cons_succ, List.set_cons_zero]
  refine wpAnyC_skip 8 rfl (by kernel_rfl) (by kernel_rfl) (by kernel_rfl) (fun _ _ _ h => h) (wanted_no true rfl rfl rfl rfl) ?_
  try simp only [Act.put, List.getElem_toArray, List.getElem_cons_succ, List.getElem_cons_zero, List.setIfInBounds_toArray, List.set_cons_succ, List.set_cons_zero]
  refine wpAnyC_skip 9 rfl (by kernel_rfl) (by kernel_rfl) (by kernel_rfl) (fun _ _ _ h => h) (wanted_no true rfl rfl rfl rfl) ?_
  try simp only [Act.put, List.getElem_toArray, List.getElem_cons_succ, List.getElem_cons_zero, List.setIfInBounds_toArray, List.set_cons_succ, List.set_cons_zero]
  refine wpAnyC_take 10 (.bool false) rfl (by kernel_rfl) (by kernel_rfl) (by kernel_rfl) (fun _ _ _ h => h) (wanted_free rfl _) (fun W hW => by go_simp) ?_
  try simp only [Act.put, List.getElem_toArray, List.getElem_cons_succ, List.getElem_cons_zero, List.setIfInBounds_toArray, List.set_cons_succ, List.set_cons_zero]
  refine wpAnyC_done (trivial) (by kernel_rfl) ?_
  replace hX : Kpt (Bx w0.drew B0 (noP.vals (.slice none 0 0))) := ⟨hX.out.drew⟩
  replace hbc : Kpt (Below w.heap.size w w0.drew) := ⟨hbc.out.drew⟩
  have hcc := hc4.out _ hbc.out
  go_wp2_with (first
    | (go_at_call 30; have hm := m1; go_must (refine (hN10.out _ hbc.out).mono ?_; rintro e wc ⟨rfl, rfl⟩))
    | (go_at_call 30; go_must (refine (hN5.out _ hbc.out).mono ?_; rintro e wc ⟨rfl, rfl⟩; have m1 : Kpt True := ⟨trivial⟩)))
  clear hcc
  go_loop [11] (fun t => ∃ j : Nat, j ≤ P ∧ t = .int .i64 ((L + j : Nat) : Int)) (fun t => L + 4 - (intOf t).toNat)
  case atStart => exact ⟨0, by omega, rfl⟩
  case round =>
    obtain ⟨j, hj, rfl⟩ := hrel
    by_cases hjP : j < P
    · have hrem2 : ¬ ((L + j : Nat) : Int).tmod 4 = 0 := by rw [Int.tmod_eq_emod_of_nonneg (by omega)]; omega
      go_wp2
      go_round
      case rel => exact ⟨j + 1, by omega, by go_num⟩
      case measure => simp [intOf]; omega
    · have hjM : L + j = M := by omega
      have hrem2 : (M : Int).tmod 4 = 0 := by rw [Int.tmod_eq_emod_of_nonneg (by omega)]; omega
      rw [hjM]
      clear hjP hj hjM j
      go_wp2_with (first
        | (refine (?_ : wpList _ _ _ (Oper.mk none (Op.store _ _ _) _ _ _ _ :: _) _ _); go_must (refine wpList_store_bx rfl 26 (.tmp 6) (.tmp 77) rfl B0 (noP.vals (.slice none 0 0)) (noP.vals (.slice none 0 0)) rfl rfl hX.out rfl sizeP (Pd.one noP none 0 0) rfl ?_; intro wz hXz hgz; have hbz : Kpt (Below w.heap.size w wz) := ⟨hbc.out.grown hgz hbc.out.size (fun k h => by cases h; exact hB0.out)⟩; replace hXz := Kpt.mk hXz; clear hgz))
        | (refine (?_ : wpList _ _ _ (Oper.mk (some 77) (Op.build _ _) _ _ _ _ :: _) _ _); refine wpList_of_exec rfl (by kernel_rfl : _ = Result.ok (.value (.agg (noP.vals (.slice none 0 0)))) _) ?_))
      refine bodyPost_ret (v := .tuple #[.agg (noP.vals (.slice none 0 0)), .int .i64 0, .int .i64 8]) (by simp [results, Try.results14, asAddr, Act.put, run_res hXz.out 26 _ Try.underlying26 rfl sizeP]) rfl ⟨rfl, hbz.out⟩
end Go.Proofs.Ytigfoldobkigeaa
