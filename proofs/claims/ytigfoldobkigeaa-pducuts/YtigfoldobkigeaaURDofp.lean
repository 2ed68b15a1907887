/-
  pdu: the document's Decode: a PDU.
-/
import Derived.Test.YtigfoldobkigeaaURD1
namespace Go.Proofs.Ytigfoldobkigeaa
open Go.RowKit
set_option linter.unusedVariables false
set_option linter.unusedSimpArgs false

set_option maxRecDepth 100000 in
set_option maxHeartbeats 2000000 in
theorem rdec_ok_fp (b off n c : Nat) (zs : List Int) (w : World) (hr : RdAt w (.slice (some ⟨b, off, none⟩) n c) zs) (hn : n ≤ 140737488355328) (hc : c ≤ maxLen) (hb : Bytes zs) (hs : 48 ≤ n) (L M : Nat) (hL : B.num zs 5 3 = (L : Int)) (hL8 : L ≤ 8192) (h4 : zs.getD 4 0 = 0) (h8 : zs.getD 8 0 = 0) (h10 : B.num zs 10 6 = 0) (hM : M = L + padN L) (h0 : 0 < M) (hwh : 48 + M + 4 ≤ n) (hq2 : B.num zs (48 + M) 4 = (sumL ((zs.drop 48).take M) : Int)) (hz0 : ∀ j, j < padN L → zs.getD (48 + L + j) 0 = 0) :
    Calls Try.prog 14 #[.slice (some ⟨b, off, none⟩) n c, .bool false, .bool true] w fun e w' => ∃ v, e = .returned (.tuple #[.agg ((headK (zs.take 48) ((zs.drop 48).take L) 7).vals v), .int .i64 ((48 + M + 4 : Nat) : Int), .int .i64 0]) ∧ Row w' v ((zs.drop 48).take L) ∧ (∀ g, v.ownBlock = some g → w.heap.size ≤ g) ∧ Below w.heap.size w w' := by
  have hzl := (rd_row hr).1
  have hcn : n ≤ c := by obtain ⟨a', c', hv, h1, h2, h3⟩ := hr; simp only [Value.slice.injEq] at hv; omega
  have hrB : Kpt (∀ W, Below w.heap.size w W → RdAt W (.slice (some ⟨b, off, none⟩) n c) zs) := ⟨fun W h' => hr.bel h'⟩
  have hcl : Kpt (∀ W, Below w.heap.size w W → ∀ j, j < n → W.cell? ⟨b, off + j, none⟩ = some (.int .u8 (zs.getD j 0))) := ⟨fun W h' => (rd_cells (hr.bel h')).2⟩
  have hNum : Kpt (∀ W, Below w.heap.size w W → ∀ i k : Nat, 1 ≤ k → k ≤ 8 → i + k ≤ n → Calls Try.prog 30 #[.slice (some ⟨b, off, none⟩) n c, .int .i64 i, .int .i64 k] W fun e w' => e = .returned (.int .u64 (B.num zs i k)) ∧ w' = W) := ⟨fun W h' i k h1 h2 h3 => rnum_any b off n c i k zs W (by unfold maxLen; omega) h1 h2 h3 hb (hcl.out W h')⟩
  have hN5 : Kpt (∀ W, Below w.heap.size w W → Calls Try.prog 30 #[.slice (some ⟨b, off, none⟩) n c, .int .i64 5, .int .i64 3] W fun e w' => e = .returned (.int .u64 (B.num zs 5 3)) ∧ w' = W) := ⟨fun W h' => hNum.out W h' 5 3 (by decide) (by decide) (by omega)⟩
  have hN10 : Kpt (∀ W, Below w.heap.size w W → Calls Try.prog 30 #[.slice (some ⟨b, off, none⟩) n c, .int .i64 10, .int .i64 6] W fun e w' => e = .returned (.int .u64 (B.num zs 10 6)) ∧ w' = W) := ⟨fun W h' => hNum.out W h' 10 6 (by decide) (by decide) (by omega)⟩
  have hx0 := num4 zs hb 5 3 (by decide)
  have hc4 : Kpt (∀ W, Below w.heap.size w W → W.cell? ⟨b, off + 4, none⟩ = some (.int .u8 (zs.getD 4 0)) ∧ W.cell? ⟨b, off + 8, none⟩ = some (.int .u8 (zs.getD 8 0))) := ⟨fun W h' => ⟨hcl.out W h' 4 (by omega), hcl.out W h' 8 (by omega)⟩⟩
  rw [hL] at hN5
  rw [h10] at hN10
  rw [h4, h8] at hc4
  have wL : IntKind.i64.wrap (L : Int) = L := by simp only [IntKind.wrap, IntKind.bits, IntKind.signed]; simp; omega
  have hL8' : ¬ (8192 : Int) < L := by omega
  obtain ⟨P, hP⟩ : ∃ P, P = padN L := ⟨_, rfl⟩
  have hP4 : P ≤ 3 ∧ (L + P) % 4 = 0 := by rw [hP]; unfold padN; omega
  rw [← hP] at hM
  have hM8 : M ≤ 8195 := by omega
  obtain ⟨A, hA⟩ : ∃ A, A = 48 + M := ⟨_, rfl⟩
  have hAe : (48 : Int) + (M : Int) = (A : Int) := by omega
  obtain ⟨I0, hI0⟩ : ∃ A, A = 48 + L := ⟨_, rfl⟩
  have hI0e : (48 : Int) + (L : Int) = (I0 : Int) := by omega
  obtain ⟨N, hN⟩ : ∃ N, N = A + 4 := ⟨_, rfl⟩
  have hNe : (A : Int) + 4 = (N : Int) := by omega
  have hM0 : (0 : Int) < (M : Int) := by omega
  have h1 : ¬ (n : Int) < 48 := by omega
  rw [show 48 + M + 4 = N by omega]
  obtain ⟨D, hD⟩ : ∃ D, D = (zs.drop 48).take L := ⟨_, rfl⟩
  have hDl : D.length = L := by rw [hD, List.length_take, List.length_drop]; omega
  obtain ⟨o3, ho3⟩ : ∃ o, o = offK c off 48 := ⟨_, rfl⟩
  have hif : Kpt ((if c = 48 then some (⟨b, off, none⟩ : Addr) else some ⟨b, off + 48, none⟩) = some ⟨b, o3, none⟩) := ⟨by rw [ho3]; unfold offK; split <;> rfl⟩
  have hDr : Kpt (∀ W, Below w.heap.size w W → RdAt W (.slice (some ⟨b, o3, none⟩) L (c - 48)) D) := ⟨fun W h' => by rw [ho3, hD]; exact rd_take (rd_drop (hr.bel h') 48 (by omega)) L (by rw [List.length_drop]; omega)⟩
  have hRk : Kpt (∀ W, Below w.heap.size w W → ∀ k : Nat, k < 7 → Calls Try.prog 30 #[.slice (some ⟨b, off, none⟩) n c, .int .i64 (20 + 4 * (k : Int)), .int .i64 4] W fun e w' => e = .returned (.int .u64 (B.num zs (20 + 4 * k) 4)) ∧ w' = W) := ⟨fun W h' k hk => by
    have e : (20 + 4 * (k : Int)) = ((20 + 4 * k : Nat) : Int) := by omega
    rw [e]
    exact hNum.out W h' (20 + 4 * k) 4 (by decide) (by decide) (by omega)⟩
  have hR16 : Kpt (∀ W, Below w.heap.size w W → Calls Try.prog 30 #[.slice (some ⟨b, off, none⟩) n c, .int .i64 16, .int .i64 4] W fun e w' => e = .returned (.int .u64 (B.num zs 16 4)) ∧ w' = W) := ⟨fun W h' => hNum.out W h' 16 4 (by decide) (by decide) (by omega)⟩
  have hw32 : Kpt (∀ i, IntKind.u32.wrap (B.num zs i 4) = B.num zs i 4) := ⟨fun i => by have := num4 zs hb i 4 (by decide); simp only [IntKind.wrap, IntKind.bits, IntKind.signed]; simp; omega⟩
  have hcl5 : Kpt (∀ W, Below w.heap.size w W → W.cell? ⟨b, off, none⟩ = some (.int .u8 (zs.getD 0 0)) ∧ W.cell? ⟨b, off + 1, none⟩ = some (.int .u8 (zs.getD 1 0)) ∧ W.cell? ⟨b, off + 2, none⟩ = some (.int .u8 (zs.getD 2 0)) ∧ W.cell? ⟨b, off + 3, none⟩ = some (.int .u8 (zs.getD 3 0)) ∧ W.cell? ⟨b, off + 9, none⟩ = some (.int .u8 (zs.getD 9 0))) := ⟨fun W h' => ⟨hcl.out W h' 0 (by omega), hcl.out W h' 1 (by omega), hcl.out W h' 2 (by omega), hcl.out W h' 3 (by omega), hcl.out W h' 9 (by omega)⟩⟩
  obtain ⟨P0, hP0⟩ : ∃ P, P = headK zs D 0 := ⟨_, rfl⟩
  obtain ⟨x0, hx0'⟩ : ∃ x, x = zs.getD 0 0 := ⟨_, rfl⟩
  obtain ⟨x1, hx1⟩ : ∃ x, x = zs.getD 1 0 := ⟨_, rfl⟩
  obtain ⟨x2, hx2⟩ : ∃ x, x = zs.getD 2 0 := ⟨_, rfl⟩
  obtain ⟨x3, hx3⟩ : ∃ x, x = zs.getD 3 0 := ⟨_, rfl⟩
  obtain ⟨x9, hx9⟩ : ∃ x, x = zs.getD 9 0 := ⟨_, rfl⟩
  obtain ⟨tg, htg⟩ : ∃ x, x = B.num zs 16 4 := ⟨_, rfl⟩
  rw [← hx0', ← hx1, ← hx2, ← hx3, ← hx9] at hcl5
  rw [← htg] at hR16
  have hwtg : Kpt (IntKind.u32.wrap tg = tg) := ⟨by rw [htg]; exact hw32.out 16⟩
  have hPe : Kpt (P0.vals (.slice none 0 0) = #[.int .u8 x0, .int .u8 x1, .int .u8 x2, .int .u8 x3, .int .u8 x9, .int .u32 tg, .int .u32 0, .int .u32 0, .int .u32 0, .int .u32 0, .int .u32 0, .int .u32 0, .int .u32 0, .slice none 0 0]) := ⟨by rw [hP0, hx0', hx1, hx2, hx3, hx9, htg]; rfl⟩
  replace hP0 := Kpt.mk hP0
  have hres : Kpt (headK (zs.take 48) D 7 = headK zs D 7) := ⟨headK_take zs D 7⟩
  have wI0 : Kpt (IntKind.i64.wrap (I0 : Int) = I0) := ⟨by simp only [IntKind.wrap, IntKind.bits, IntKind.signed]; simp; omega⟩
  have kI0 : ¬ (c : Int) < (I0 : Int) := by omega
  have kEI : (48 : Int) ≤ (I0 : Int) := by omega
  have kIE : I0 - 48 = L := by omega
  have hn9 : (9 : Int) < n := by omega
  have kn0 : ¬ n = 0 := by omega
  have kn1 : ¬ (n : Int) ≤ 1 := by omega
  have kn2 : ¬ (n : Int) ≤ 2 := by omega
  have kn3 : ¬ (n : Int) ≤ 3 := by omega
  replace hDl := Kpt.mk hDl
  rw [← hD]
  clear hx0' hx1 hx2 hx3 hx9 htg hD ho3
  have hRl : ((zs.drop 48).take M).length = M := by rw [List.length_take, List.length_drop]; omega
  have hS42 := sumL_lt ((zs.drop 48).take M)
  have hSum2 : Kpt (∀ W, Below w.heap.size w W → Calls Try.prog 25 #[.slice (some ⟨b, off + 48, none⟩) M (c - 48)] W fun e w' => ∃ g, e = .returned (.slice (some ⟨g, 0, none⟩) 4 4) ∧ w'.ownsRow W.heap.size 5 1 (.slice (some ⟨g, 0, none⟩) 4 4) 4 (cels (bigL (sumL ((zs.drop 48).take M)) 4)) ∧ Below W.heap.size W w') := ⟨fun W h' => rsum_any _ _ W (rd_cut (hr.bel h') 48 M (by omega) (by omega)) (by rw [hRl]; unfold maxLen; omega) (Bytes.take (Bytes.drop hb 48) M)⟩
  have hcv3 : Kpt (∀ W, Below w.heap.size w W → (convert 24 9 (.slice (some ⟨b, off + A, none⟩) 4 (c - A))).run Try.prog W = .ok (.string (strOfNums ((zs.drop A).take 4))) W) := ⟨fun W h' => conv_rd (rd_cut (hr.bel h') A 4 (by omega) (by omega))⟩
  have hst2 := str_four zs hb A (by omega) (sumL ((zs.drop 48).take M)) hS42
  have hwA : Kpt (IntKind.i64.wrap (A : Int) = A) := ⟨by simp only [IntKind.wrap, IntKind.bits, IntKind.signed]; simp; omega⟩
  obtain ⟨S2, hS2⟩ : ∃ S, S = bigL (sumL ((zs.drop 48).take M)) 4 := ⟨_, rfl⟩
  rw [← hS2] at hSum2 hst2
  have hcv4 : Kpt (∀ W g, RdAt W (.slice (some ⟨g, 0, none⟩) 4 4) S2 → (convert 24 9 (.slice (some ⟨g, 0, none⟩) 4 4)).run Try.prog W = .ok (.string (strOfNums S2)) W) := ⟨fun W g h' => conv_rd h'⟩
  have hNA : N - A = 4 := by omega
  have hAE : A - 48 = M := by omega
  have kN : ¬ (c : Int) < (N : Int) := by omega
  have kA : ¬ (c : Int) < (A : Int) := by omega
  have kAN : (A : Int) ≤ (N : Int) := by omega
  have kEA : (48 : Int) ≤ (A : Int) := by omega
  have kcA : ¬ c = A := by omega
  have kcE : ¬ c = 48 := by omega
  have hq2x :  B.num zs A 4 = (sumL ((zs.drop 48).take M) : Int) := by rw [hA]; exact hq2
  rw [hst2.2 hq2x] at hcv3
  obtain ⟨s3, hs3⟩ : ∃ s, s = strOfNums S2 := ⟨_, rfl⟩
  rw [← hs3] at hcv3 hcv4
  clear hS2 hs3 hst2 hS42 hq2x hRl
  have hlt : ¬ (n : Int) < (N : Int) := by omega
  rw [← hP] at hz0
  have hzj : Kpt (∀ j, j < P → zs.getD (I0 + j) 0 = 0) := ⟨fun j hj => by rw [hI0]; exact hz0 j hj⟩
  have hIA : Kpt (A = I0 + P ∧ A ≤ n) := ⟨by omega, by omega⟩
  clear hr hzl hNum hrB hL h4 h8 h10 hP hb hwh hz0 hA hI0 hq2 hN h0
  unfold maxLen at hc
  replace hM := Kpt.mk hM
  go_enter Try.func14, Try.ntmps14
  go_wp2_with (first
    | (refine wpList_var rfl 26 rfl (noP.vals (.slice none 0 0)) zeroPi ?_; intro B0 w0 hB0 hX hbc; replace hX := Kpt.mk hX; replace hB0 := Kpt.mk hB0; replace hbc := Kpt.mk hbc)
    | fail)
  refine wp_region_any (by kernel_rfl) ?_
  refine wpAny_of_C (C := fun W => True) _ _ _ _ ?_
  refine wpAnyC_take 0 (.bool false) rfl (by kernel_rfl) (by kernel_rfl) (by kernel_rfl) (fun _ _ _ h => h) (wanted_free rfl _) (fun W hW => by go_simp) ?_
  try simp only [Act.put, List.getElem_toArray, List.getElem_cons_succ, List.getElem_cons_zero, List.setIfInBounds_toArray, List.set_cons_succ, List.set_cons_zero]
  refine wpAnyC_take 1 (.bool false) rfl (by kernel_rfl) (by kernel_rfl) (by kernel_rfl) (fun _ _ _ h => h) (wanted_free rfl _) (fun W hW => by go_simp) ?_
  try simp only [Act.put, List.getElem_toArray, List.getElem_cons_succ, List.getElem_cons_zero, List.setIfInBounds_toArray, List.set_cons_succ, List.set_cons_zero]
  refine wpAnyC_skip 2 rfl (by kernel_rfl) (by kernel_rfl) (by kernel_rfl) (fun _ _ _ h => h) (wanted_no true rfl rfl rfl rfl) ?_
  try simp only [Act.put, List.getElem_toArray, List.getElem_cons_succ, List.getElem_cons_zero, List.setIfInBounds_toArray, List.set_cons_succ, List.set_cons_zero]
  refine wpAnyC_skip 3 rfl (by kernel_rfl) (by kernel_rfl) (by kernel_rfl) (fun _ _ _ h => h) (wanted_no true rfl rfl rfl rfl) ?_
  try simp only [Act.put, List.getElem_toArray, List.getElem_cons_succ, List.getElem_cons_zero, List.setIfInBounds_toArray, List.set_cons_succ, List.set_cons_zero]
  refine wpAnyC_skip 4 rfl (by kernel_rfl) (by kernel_rfl) (by kernel_rfl) (fun _ _ _ h => h) (wanted_no true rfl rfl rfl rfl) ?_
  try simp only [Act.put, List.getElem_toArray, List.getElem_cons_succ, List.getElem_cons_zero, List.setIfInBounds_toArray, List.set_cons_succ, List.set_cons_zero]
  refine wpAnyC_skip 5 rfl (by kernel_rfl) (by kernel_rfl) (by kernel_rfl) (fun _ _ _ h => h) (wanted_no true rfl rfl rfl rfl) ?_
  try simp only [Act.put, List.getElem_toArray, List.getElem_cons_succ, List.getElem_cons_zero, List.setIfInBounds_toArray, List.set_cons_succ, List.set_cons_zero]
  refine wpAnyC_skip 6 rfl (by kernel_rfl) (by kernel_rfl) (by kernel_rfl) (fun _ _ _ h => h) (wanted_no true rfl rfl rfl rfl) ?_
  try simp only [Act.put, List.getElem_toArray, List.getElem_cons_succ, List.getElem_cons_zero, List.setIfInBounds_toArray, List.set_cons_succ, List.set_cons_zero]
  refine wpAnyC_skip 7 rfl (by kernel_rfl) (by kernel_rfl) (by kernel_rfl) (fun _ _ _ h => h) (wanted_no true rfl rfl rfl rfl) ?_
  try simp only [Act.put, List.getElem_toArray, List.getElem_cons_succ, List.getElem_cons_zero, List.setIfInBounds_toArray, List.set_cons_succ, List.set_cons_zero]
  refine wpAnyC_skip 8 rfl (by kernel_rfl) (by kernel_rfl) (by kernel_rfl) (fun _ _ _ h => h) (wanted_no true rfl rfl rfl rfl) ?_
  try simp only [Act.put, List.getElem_toArray, List.getElem_cons_succ, List.getElem_cons_zero, List.setIfInBounds_toArray, List.set_cons_succ, List.set_cons_zero]
  refine wpAnyC_skip 9 rfl (by kernel_rfl) (by kernel_rfl) (by kernel_rfl) (fun _ _ _ h => h) (wanted_no true rfl rfl rfl rfl) ?_
  try simp only [Act.put, List.getElem_toArray, List.getElem_cons_succ, List.getElem_cons_zero, List.setIfInBounds_toArray, List.set_cons_succ, List.set_cons_zero]
  refine wpAnyC_take 10 (.bool false) rfl (by kernel_rfl) (by kernel_rfl) (by kernel_rfl) (fun _ _ _ h => h) (wanted_free rfl _) (fun W hW => by go_simp) ?_
  try simp only [Act.put, List.getElem_toArray, List.getElem_cons_succ, List.getElem_cons_zero, List.setIfInBounds_toArray, List.set_cons_succ, List.set_cons_zero]
  refine wpAnyC_done (trivial) (by kernel_rfl) ?_
  replace hX : Kpt (Bx w0.drew B0 (noP.vals (.slice none 0 0))) := ⟨hX.out.drew⟩
  replace hbc : Kpt (Below w.heap.size w w0.drew) := ⟨hbc.out.drew⟩
  have hcc := hc4.out _ hbc.out
  go_wp2_with (first
    | (go_at_call 30; have hm := m1; go_must (refine (hN10.out _ hbc.out).mono ?_; rintro e wc' ⟨rfl, rfl⟩))
    | (go_at_call 30; go_must (refine (hN5.out _ hbc.out).mono ?_; rintro e wc' ⟨rfl, rfl⟩; have m1 : Kpt True := ⟨trivial⟩)))
  clear hcc
  refine (show Code.wp _ _ _ _ w0.drew from ?_)
  obtain ⟨wc, hwc⟩ : ∃ W, W = w0.drew := ⟨_, rfl⟩
  rw [← hwc] at hX hbc
  rw [← hwc]
  clear hwc
  go_loop [11] (fun t => ∃ j : Nat, j ≤ P ∧ t = .int .i64 ((L + j : Nat) : Int)) (fun t => L + 4 - (intOf t).toNat)
  case atStart => exact ⟨0, by omega, rfl⟩
  case round =>
    obtain ⟨j, hj, rfl⟩ := hrel
    by_cases hjP : j < P
    · have hrem2 : ¬ ((L + j : Nat) : Int).tmod 4 = 0 := by rw [Int.tmod_eq_emod_of_nonneg (by omega)]; omega
      go_wp2
      go_round
      case rel => exact ⟨j + 1, by omega, by go_num⟩
      case measure => simp [intOf]; omega
    · have hjM : L + j = M := by have := hM.out; omega
      have hrem2 : (M : Int).tmod 4 = 0 := by have := hM.out; rw [Int.tmod_eq_emod_of_nonneg (by omega)]; omega
      rw [hjM]
      clear hjP hj hjM j
      go_wp2_with fail
      refine wp_region_any (by kernel_rfl) ?_
      refine wpAny_of_C (C := fun W => Below w.heap.size w W) _ _ _ _ ?_
      refine wpAnyC_take 0 (.bool true) rfl (by kernel_rfl) (by kernel_rfl) (by kernel_rfl) (fun _ _ _ h => h) (wanted_free rfl _) (fun W hW => by go_simp) ?_
      try simp only [Act.put, List.getElem_toArray, List.getElem_cons_succ, List.getElem_cons_zero, List.setIfInBounds_toArray, List.set_cons_succ, List.set_cons_zero]
      refine wpAnyC_take 1 (.bool true) rfl (by kernel_rfl) (by kernel_rfl) (by kernel_rfl) (fun _ _ _ h => h) (wanted_free rfl _) (fun W hW => by go_simp) ?_
      try simp only [Act.put, List.getElem_toArray, List.getElem_cons_succ, List.getElem_cons_zero, List.setIfInBounds_toArray, List.set_cons_succ, List.set_cons_zero]
      refine wpAnyC_take 2 (.int .i64 M) rfl (by kernel_rfl) (by kernel_rfl) (by kernel_rfl) (fun _ _ _ h => h) (wanted_at true rfl rfl rfl rfl) (fun W hW => by go_simp) ?_
      try simp only [Act.put, List.getElem_toArray, List.getElem_cons_succ, List.getElem_cons_zero, List.setIfInBounds_toArray, List.set_cons_succ, List.set_cons_zero]
      refine wpAnyC_take 3 (.bool true) rfl (by kernel_rfl) (by kernel_rfl) (by kernel_rfl) (fun _ _ _ h => h) (wanted_at true rfl rfl rfl rfl) (fun W hW => by first | (go_simp; done) | (go_simp; omega)) ?_
      try simp only [Act.put, List.getElem_toArray, List.getElem_cons_succ, List.getElem_cons_zero, List.setIfInBounds_toArray, List.set_cons_succ, List.set_cons_zero]
      refine wpAnyC_take 4 (.bool true) rfl (by kernel_rfl) (by kernel_rfl) (by kernel_rfl) (fun _ _ _ h => h) (wanted_free rfl _) (fun W hW => by go_simp) ?_
      try simp only [Act.put, List.getElem_toArray, List.getElem_cons_succ, List.getElem_cons_zero, List.setIfInBounds_toArray, List.set_cons_succ, List.set_cons_zero]
      refine wpAnyC_take 5 (.bool true) rfl (by kernel_rfl) (by kernel_rfl) (by kernel_rfl) (fun _ _ _ h => h) (wanted_free rfl _) (fun W hW => by go_simp) ?_
      try simp only [Act.put, List.getElem_toArray, List.getElem_cons_succ, List.getElem_cons_zero, List.setIfInBounds_toArray, List.set_cons_succ, List.set_cons_zero]
      refine wpAnyC_take 6 (.slice (some ⟨b, off, none⟩) n c) rfl (by kernel_rfl) (by kernel_rfl) (by kernel_rfl) (fun _ _ _ h => h) (wanted_at true rfl rfl rfl rfl) (fun W hW => by go_simp) ?_
      try simp only [Act.put, List.getElem_toArray, List.getElem_cons_succ, List.getElem_cons_zero, List.setIfInBounds_toArray, List.set_cons_succ, List.set_cons_zero]
      refine wpAnyC_take 7 (.int .i64 48) rfl (by kernel_rfl) (by kernel_rfl) (by kernel_rfl) (fun _ _ _ h => h) (wanted_at true rfl rfl rfl rfl) (fun W hW => by go_simp) ?_
      try simp only [Act.put, List.getElem_toArray, List.getElem_cons_succ, List.getElem_cons_zero, List.setIfInBounds_toArray, List.set_cons_succ, List.set_cons_zero]
      refine wpAnyC_take 8 (.int .i64 M) rfl (by kernel_rfl) (by kernel_rfl) (by kernel_rfl) (fun _ _ _ h => h) (wanted_at true rfl rfl rfl rfl) (fun W hW => by go_simp) ?_
      try simp only [Act.put, List.getElem_toArray, List.getElem_cons_succ, List.getElem_cons_zero, List.setIfInBounds_toArray, List.set_cons_succ, List.set_cons_zero]
      refine wpAnyC_take 9 (.int .i64 A) rfl (by kernel_rfl) (by kernel_rfl) (by kernel_rfl) (fun _ _ _ h => h) (wanted_at true rfl rfl rfl rfl) (fun W hW => by have wA := hwA.out; go_simp) ?_
      try simp only [Act.put, List.getElem_toArray, List.getElem_cons_succ, List.getElem_cons_zero, List.setIfInBounds_toArray, List.set_cons_succ, List.set_cons_zero]
      refine wpAnyC_take 10 (.int .i64 N) rfl (by kernel_rfl) (by kernel_rfl) (by kernel_rfl) (fun _ _ _ h => h) (wanted_at true rfl rfl rfl rfl) (fun W hW => by go_simp) ?_
      try simp only [Act.put, List.getElem_toArray, List.getElem_cons_succ, List.getElem_cons_zero, List.setIfInBounds_toArray, List.set_cons_succ, List.set_cons_zero]
      refine wpAnyC_take 11 (.slice (some ⟨b, off + A, none⟩) 4 (c - A)) rfl (by kernel_rfl) (by kernel_rfl) (by kernel_rfl) (fun _ _ _ h => h) (wanted_at true rfl rfl rfl rfl) (fun W hW => by go_simp) ?_
      try simp only [Act.put, List.getElem_toArray, List.getElem_cons_succ, List.getElem_cons_zero, List.setIfInBounds_toArray, List.set_cons_succ, List.set_cons_zero]
      refine wpAnyC_take 12 (.string s3) rfl (by kernel_rfl) (by kernel_rfl) (by kernel_rfl) (fun _ _ _ h => h) (wanted_at true rfl rfl rfl rfl) (fun W hW => by have hq1 := hcv3.out W hW; go_simp) ?_
      try simp only [Act.put, List.getElem_toArray, List.getElem_cons_succ, List.getElem_cons_zero, List.setIfInBounds_toArray, List.set_cons_succ, List.set_cons_zero]
      refine wpAnyC_take 13 (.slice (some ⟨b, off, none⟩) n c) rfl (by kernel_rfl) (by kernel_rfl) (by kernel_rfl) (fun _ _ _ h => h) (wanted_at true rfl rfl rfl rfl) (fun W hW => by go_simp) ?_
      try simp only [Act.put, List.getElem_toArray, List.getElem_cons_succ, List.getElem_cons_zero, List.setIfInBounds_toArray, List.set_cons_succ, List.set_cons_zero]
      refine wpAnyC_take 14 (.int .i64 48) rfl (by kernel_rfl) (by kernel_rfl) (by kernel_rfl) (fun _ _ _ h => h) (wanted_at true rfl rfl rfl rfl) (fun W hW => by go_simp) ?_
      try simp only [Act.put, List.getElem_toArray, List.getElem_cons_succ, List.getElem_cons_zero, List.setIfInBounds_toArray, List.set_cons_succ, List.set_cons_zero]
      refine wpAnyC_take 15 (.int .i64 48) rfl (by kernel_rfl) (by kernel_rfl) (by kernel_rfl) (fun _ _ _ h => h) (wanted_at true rfl rfl rfl rfl) (fun W hW => by go_simp) ?_
      try simp only [Act.put, List.getElem_toArray, List.getElem_cons_succ, List.getElem_cons_zero, List.setIfInBounds_toArray, List.set_cons_succ, List.set_cons_zero]
      refine wpAnyC_take 16 (.int .i64 M) rfl (by kernel_rfl) (by kernel_rfl) (by kernel_rfl) (fun _ _ _ h => h) (wanted_at true rfl rfl rfl rfl) (fun W hW => by go_simp) ?_
      try simp only [Act.put, List.getElem_toArray, List.getElem_cons_succ, List.getElem_cons_zero, List.setIfInBounds_toArray, List.set_cons_succ, List.set_cons_zero]
      refine wpAnyC_take 17 (.int .i64 A) rfl (by kernel_rfl) (by kernel_rfl) (by kernel_rfl) (fun _ _ _ h => h) (wanted_at true rfl rfl rfl rfl) (fun W hW => by have wA := hwA.out; go_simp) ?_
      try simp only [Act.put, List.getElem_toArray, List.getElem_cons_succ, List.getElem_cons_zero, List.setIfInBounds_toArray, List.set_cons_succ, List.set_cons_zero]
      refine wpAnyC_take 18 (.slice (some ⟨b, off + 48, none⟩) M (c - 48)) rfl (by kernel_rfl) (by kernel_rfl) (by kernel_rfl) (fun _ _ _ h => h) (wanted_at true rfl rfl rfl rfl) (fun W hW => by go_simp) ?_
      try simp only [Act.put, List.getElem_toArray, List.getElem_cons_succ, List.getElem_cons_zero, List.setIfInBounds_toArray, List.set_cons_succ, List.set_cons_zero]
      refine wpAnyC_one 19 (hbc.out.drew) rfl (by kernel_rfl) (wanted_at true rfl rfl rfl rfl) (fun KA hKA => ?_)
      go_simp
      refine (hSum2.out _ hbc.out.drew).mono ?_
      rintro e wd ⟨g2, rfl, ho2, hbe2⟩
      replace hbe2 := below_undrew hbe2
      replace hX : Kpt (Bx wd B0 (noP.vals (.slice none 0 0))) := ⟨hX.out.below hbe2 hX.out.lt⟩
      replace hbc : Kpt (Below w.heap.size w wd) := ⟨hbc.out.trans (hbe2.mono hbc.out.size)⟩
      have hro2 : Kpt (RdAt wd (.slice (some ⟨g2, 0, none⟩) 4 4) S2) := ⟨own_rd ho2⟩
      clear hbe2 ho2
      refine hKA _ _ ?_
      clear hKA KA
      try simp only [Act.put, List.getElem_toArray, List.getElem_cons_succ, List.getElem_cons_zero, List.setIfInBounds_toArray, List.set_cons_succ, List.set_cons_zero]
      refine wpAnyC_mono (C' := fun W => Sm wd W) (fun W h => hbc.out.trans (h.bel.mono hbc.out.size)) _ _ _ _ ?_
      refine wpAnyC_take 20 (.string s3) rfl (by kernel_rfl) (by kernel_rfl) (by kernel_rfl) (fun _ _ _ h => h) (wanted_at true rfl rfl rfl rfl) (fun W hW => by have hq2 := hcv4.out W g2 (hW.rd hro2.out); go_simp) ?_
      try simp only [Act.put, List.getElem_toArray, List.getElem_cons_succ, List.getElem_cons_zero, List.setIfInBounds_toArray, List.set_cons_succ, List.set_cons_zero]
      refine wpAnyC_take 21 (.bool false) rfl (by kernel_rfl) (by kernel_rfl) (by kernel_rfl) (fun _ _ _ h => h) (wanted_at true rfl rfl rfl rfl) (fun W hW => by go_simp) ?_
      try simp only [Act.put, List.getElem_toArray, List.getElem_cons_succ, List.getElem_cons_zero, List.setIfInBounds_toArray, List.set_cons_succ, List.set_cons_zero]
      refine wpAnyC_take 22 (.bool false) rfl (by kernel_rfl) (by kernel_rfl) (by kernel_rfl) (fun _ _ _ h => h) (wanted_free rfl _) (fun W hW => by go_simp) ?_
      try simp only [Act.put, List.getElem_toArray, List.getElem_cons_succ, List.getElem_cons_zero, List.setIfInBounds_toArray, List.set_cons_succ, List.set_cons_zero]
      refine wpAnyC_done (Sm.refl _) (by kernel_rfl) ?_
      go_wp2_with fail
      go_loop [13] (fun t => ∃ j : Nat, j ≤ P ∧ t = .int .i64 ((I0 + j : Nat) : Int)) (fun t => I0 + 4 - (intOf t).toNat)
      case atStart => exact ⟨0, by omega, rfl⟩
      case round =>
        obtain ⟨j, hj, rfl⟩ := hrel
        by_cases hjP : j < P
        · have hlt2 : ((I0 + j : Nat) : Int) < (A : Int) := by have := hM.out; have := hIA.out; omega
          have hcj := hcl.out _ hbc.out (I0 + j) (by have := hM.out; have := hIA.out; omega)
          rw [hzj.out j hjP] at hcj
          have hnj : ((I0 + j : Nat) : Int) < (n : Int) := by have := hM.out; have := hIA.out; omega
          go_wp2
          go_round
          case rel => exact ⟨j + 1, by omega, by go_num⟩
          case measure => simp [intOf]; omega
        · obtain rfl : j = P := by omega
          have hlt2 : ¬ ((I0 + j : Nat) : Int) < (A : Int) := by have := hM.out; have := hIA.out; omega
          go_wp2_with fail
          refine wp_region_any (by kernel_rfl) ?_
          refine wpAny_of_C (C := fun W => Below w.heap.size w W) _ _ _ _ ?_
          refine wpAnyC_take 0 (.slice (some ⟨b, off, none⟩) n c) rfl (by kernel_rfl) (by kernel_rfl) (by kernel_rfl) (fun _ _ _ h => h) (wanted_free rfl _) (fun W hW => by go_simp) ?_
          try simp only [Act.put, List.getElem_toArray, List.getElem_cons_succ, List.getElem_cons_zero, List.setIfInBounds_toArray, List.set_cons_succ, List.set_cons_zero]
          refine wpAnyC_take 1 (.pointer (some ⟨b, off, none⟩)) rfl (by kernel_rfl) (by kernel_rfl) (by kernel_rfl) (fun _ _ _ h => h) (wanted_free rfl _) (fun W hW => by go_simp) ?_
          try simp only [Act.put, List.getElem_toArray, List.getElem_cons_succ, List.getElem_cons_zero, List.setIfInBounds_toArray, List.set_cons_succ, List.set_cons_zero]
          refine wpAnyC_take 2 (.int .u8 x0) rfl (by kernel_rfl) (by kernel_rfl) (by kernel_rfl) (fun _ _ _ h => h) (wanted_free rfl _) (fun W hW => by have hq0 := (hcl5.out W hW).1; go_simp) ?_
          try simp only [Act.put, List.getElem_toArray, List.getElem_cons_succ, List.getElem_cons_zero, List.setIfInBounds_toArray, List.set_cons_succ, List.set_cons_zero]
          refine wpAnyC_take 3 (.slice (some ⟨b, off, none⟩) n c) rfl (by kernel_rfl) (by kernel_rfl) (by kernel_rfl) (fun _ _ _ h => h) (wanted_free rfl _) (fun W hW => by go_simp) ?_
          try simp only [Act.put, List.getElem_toArray, List.getElem_cons_succ, List.getElem_cons_zero, List.setIfInBounds_toArray, List.set_cons_succ, List.set_cons_zero]
          refine wpAnyC_take 4 (.pointer (some ⟨b, off + 1, none⟩)) rfl (by kernel_rfl) (by kernel_rfl) (by kernel_rfl) (fun _ _ _ h => h) (wanted_free rfl _) (fun W hW => by go_simp) ?_
          try simp only [Act.put, List.getElem_toArray, List.getElem_cons_succ, List.getElem_cons_zero, List.setIfInBounds_toArray, List.set_cons_succ, List.set_cons_zero]
          refine wpAnyC_take 5 (.int .u8 x1) rfl (by kernel_rfl) (by kernel_rfl) (by kernel_rfl) (fun _ _ _ h => h) (wanted_free rfl _) (fun W hW => by have hq1 := (hcl5.out W hW).2.1; go_simp) ?_
          try simp only [Act.put, List.getElem_toArray, List.getElem_cons_succ, List.getElem_cons_zero, List.setIfInBounds_toArray, List.set_cons_succ, List.set_cons_zero]
          refine wpAnyC_take 6 (.slice (some ⟨b, off, none⟩) n c) rfl (by kernel_rfl) (by kernel_rfl) (by kernel_rfl) (fun _ _ _ h => h) (wanted_free rfl _) (fun W hW => by go_simp) ?_
          try simp only [Act.put, List.getElem_toArray, List.getElem_cons_succ, List.getElem_cons_zero, List.setIfInBounds_toArray, List.set_cons_succ, List.set_cons_zero]
          refine wpAnyC_take 7 (.pointer (some ⟨b, off + 2, none⟩)) rfl (by kernel_rfl) (by kernel_rfl) (by kernel_rfl) (fun _ _ _ h => h) (wanted_free rfl _) (fun W hW => by go_simp) ?_
          try simp only [Act.put, List.getElem_toArray, List.getElem_cons_succ, List.getElem_cons_zero, List.setIfInBounds_toArray, List.set_cons_succ, List.set_cons_zero]
          refine wpAnyC_take 8 (.int .u8 x2) rfl (by kernel_rfl) (by kernel_rfl) (by kernel_rfl) (fun _ _ _ h => h) (wanted_free rfl _) (fun W hW => by have hq2 := (hcl5.out W hW).2.2.1; go_simp) ?_
          try simp only [Act.put, List.getElem_toArray, List.getElem_cons_succ, List.getElem_cons_zero, List.setIfInBounds_toArray, List.set_cons_succ, List.set_cons_zero]
          refine wpAnyC_take 9 (.slice (some ⟨b, off, none⟩) n c) rfl (by kernel_rfl) (by kernel_rfl) (by kernel_rfl) (fun _ _ _ h => h) (wanted_free rfl _) (fun W hW => by go_simp) ?_
          try simp only [Act.put, List.getElem_toArray, List.getElem_cons_succ, List.getElem_cons_zero, List.setIfInBounds_toArray, List.set_cons_succ, List.set_cons_zero]
          refine wpAnyC_take 10 (.pointer (some ⟨b, off + 3, none⟩)) rfl (by kernel_rfl) (by kernel_rfl) (by kernel_rfl) (fun _ _ _ h => h) (wanted_free rfl _) (fun W hW => by go_simp) ?_
          try simp only [Act.put, List.getElem_toArray, List.getElem_cons_succ, List.getElem_cons_zero, List.setIfInBounds_toArray, List.set_cons_succ, List.set_cons_zero]
          refine wpAnyC_take 11 (.int .u8 x3) rfl (by kernel_rfl) (by kernel_rfl) (by kernel_rfl) (fun _ _ _ h => h) (wanted_free rfl _) (fun W hW => by have hq3 := (hcl5.out W hW).2.2.2.1; go_simp) ?_
          try simp only [Act.put, List.getElem_toArray, List.getElem_cons_succ, List.getElem_cons_zero, List.setIfInBounds_toArray, List.set_cons_succ, List.set_cons_zero]
          refine wpAnyC_take 12 (.slice (some ⟨b, off, none⟩) n c) rfl (by kernel_rfl) (by kernel_rfl) (by kernel_rfl) (fun _ _ _ h => h) (wanted_free rfl _) (fun W hW => by go_simp) ?_
          try simp only [Act.put, List.getElem_toArray, List.getElem_cons_succ, List.getElem_cons_zero, List.setIfInBounds_toArray, List.set_cons_succ, List.set_cons_zero]
          refine wpAnyC_take 13 (.pointer (some ⟨b, off + 9, none⟩)) rfl (by kernel_rfl) (by kernel_rfl) (by kernel_rfl) (fun _ _ _ h => h) (wanted_free rfl _) (fun W hW => by go_simp) ?_
          try simp only [Act.put, List.getElem_toArray, List.getElem_cons_succ, List.getElem_cons_zero, List.setIfInBounds_toArray, List.set_cons_succ, List.set_cons_zero]
          refine wpAnyC_take 14 (.int .u8 x9) rfl (by kernel_rfl) (by kernel_rfl) (by kernel_rfl) (fun _ _ _ h => h) (wanted_free rfl _) (fun W hW => by have hq9 := (hcl5.out W hW).2.2.2.2; go_simp) ?_
          try simp only [Act.put, List.getElem_toArray, List.getElem_cons_succ, List.getElem_cons_zero, List.setIfInBounds_toArray, List.set_cons_succ, List.set_cons_zero]
          refine wpAnyC_take 15 (.slice (some ⟨b, off, none⟩) n c) rfl (by kernel_rfl) (by kernel_rfl) (by kernel_rfl) (fun _ _ _ h => h) (wanted_free rfl _) (fun W hW => by go_simp) ?_
          try simp only [Act.put, List.getElem_toArray, List.getElem_cons_succ, List.getElem_cons_zero, List.setIfInBounds_toArray, List.set_cons_succ, List.set_cons_zero]
          have hb9 := hbc
          have hbr : Kpt (Below w.heap.size w _) := ⟨hbc.out.drew⟩
          have hXr := Kpt.mk hX.out.drew
          refine wpAnyC_two 16 19 (hbr.out) rfl rfl (by kernel_rfl) (wanted_free rfl _) (wanted_free rfl _) (fun KA hKA => ?_) (fun KA hKA => ?_)
          · go_simp
            refine (hR16.out _ hbr.out).mono ?_
            rintro e wq ⟨rfl, rfl⟩
            refine hKA _ _ ?_
            clear hKA KA
            try simp only [Act.put, List.getElem_toArray, List.getElem_cons_succ, List.getElem_cons_zero, List.setIfInBounds_toArray, List.set_cons_succ, List.set_cons_zero]
            refine wpAnyC_take 17 (.int .u32 tg) rfl (by kernel_rfl) (by kernel_rfl) (by kernel_rfl) (fun _ _ _ h => h) (wanted_free rfl _) (fun W hW => by have hq := hwtg.out; go_simp) ?_
            try simp only [Act.put, List.getElem_toArray, List.getElem_cons_succ, List.getElem_cons_zero, List.setIfInBounds_toArray, List.set_cons_succ, List.set_cons_zero]
            refine wpAnyC_take 18 (.agg (P0.vals (.slice none 0 0))) rfl (by kernel_rfl) (by kernel_rfl) (by kernel_rfl) (fun _ _ _ h => h) (wanted_free rfl _) (fun W hW => by rw [hPe.out]; kernel_rfl) ?_
            try simp only [Act.put, List.getElem_toArray, List.getElem_cons_succ, List.getElem_cons_zero, List.setIfInBounds_toArray, List.set_cons_succ, List.set_cons_zero]
            refine wpAnyC_one 19 (hbr.out) rfl (by kernel_rfl) (wanted_free rfl _) (fun KA hKA => ?_)
            refine wp_var 26 rfl (noP.vals (.slice none 0 0)) zeroPi ?_
            intro B1 we hB1 hX1 hbe1
            replace hbr : Kpt (Below w.heap.size w we) := ⟨hbr.out.trans (hbe1.mono hbr.out.size)⟩
            have hBB : Kpt (B0 ≠ B1 ∧ w.heap.size ≤ B1) := ⟨Nat.ne_of_lt (Nat.lt_of_lt_of_le hXr.out.lt hB1), Nat.le_trans hb9.out.size hB1⟩
            replace hXr : Kpt (Bx we B0 (noP.vals (.slice none 0 0))) := ⟨hXr.out.below hbe1 hXr.out.lt⟩
            replace hX1 := Kpt.mk hX1
            clear hbe1 hB1
            refine hKA _ _ ?_
            clear hKA KA
            try simp only [Act.put, List.getElem_toArray, List.getElem_cons_succ, List.getElem_cons_zero, List.setIfInBounds_toArray, List.set_cons_succ, List.set_cons_zero]
            refine wpAnyC_one 20 (hbr.out) rfl (by kernel_rfl) (wanted_free rfl _) (fun KA hKA => ?_)
            refine wp_store_bx 26 (.tmp 14) (.tmp 136) rfl B1 (noP.vals (.slice none 0 0)) (P0.vals (.slice none 0 0)) rfl rfl hX1.out (by rw [hP0.out, Pd.size (headK_len _ _ _)]; rfl) (by rw [hP0.out, Pd.size (headK_len _ _ _)]; exact sizeP) (Pd.one _ _ _ _) ?_
            intro wf hXf hgf
            refine hKA _ _ ?_
            clear hKA KA
            replace hbr : Kpt (Below w.heap.size w wf) := ⟨hbr.out.grown hgf hbr.out.size (fun k h => by cases h; exact hBB.out.2)⟩
            replace hXr : Kpt (Bx wf B0 (noP.vals (.slice none 0 0))) := ⟨hXr.out.grown hgf (fun e => hBB.out.1 (Option.some.inj e).symm)⟩
            rw [hP0.out] at hXf
            replace hXf := Kpt.mk hXf
            clear hgf hX1
            try simp only [Act.put, List.getElem_toArray, List.getElem_cons_succ, List.getElem_cons_zero, List.setIfInBounds_toArray, List.set_cons_succ, List.set_cons_zero]
            refine wpAnyC_done hbr.out (by kernel_rfl) ?_
            go_wp2_with fail
            go_loopw [15] (fun t wr => ∃ k : Nat, k ≤ 7 ∧ t = .int .i64 k ∧ Kpt (Bx wr B1 ((headK zs D k).vals (.slice none 0 0))) ∧ Kpt (Bx wr B0 (noP.vals (.slice none 0 0))) ∧ Kpt (Below w.heap.size w wr)) (fun t _ => 7 - (intOf t).toNat)
            case atStart => exact ⟨0, by omega, rfl, hXf, hXr, hbr⟩
            case round =>
              obtain ⟨k, hk, rfl, hXk, hX0k, hbk⟩ := hrel
              clear hXf hXr hbr
              by_cases hlt7 : k < 7
              · have hxk := Kpt.mk (headK_step zs D (.slice none 0 0) k hlt7)
                have hsz : Kpt (6 + k < ((headK zs D k).vals (.slice none 0 0)).size) := ⟨by rw [Pd.size (headK_len _ _ _)]; omega⟩
                have hwk := hw32.out (20 + 4 * k)
                have hltI : (k : Int) < 7 := by omega
                go_wp2_with (first
                  | (refine wpList_store_cell rfl rfl B1 (6 + k) _ (.int .u32 (B.num zs (20 + 4 * k) 4)) rfl rfl rfl hXk.out hsz.out size22 rfl ?_; intro wq hXq hgq; rw [hxk.out] at hXq; have hX0q : Kpt (Bx wq B0 (noP.vals (.slice none 0 0))) := ⟨hX0k.out.grown hgq (fun e => hBB.out.1 (Option.some.inj e).symm)⟩; have hbq : Kpt (Below w.heap.size w wq) := ⟨hbk.out.grown hgq hbk.out.size (fun k h => by cases h; exact hBB.out.2)⟩; replace hXq := Kpt.mk hXq; clear hgq)
                  | (go_at_call 30; go_must (refine (hRk.out _ hbk.out k hlt7).mono ?_; rintro e wr ⟨rfl, rfl⟩)))
                go_roundw
                case rel => exact ⟨k + 1, by omega, by go_num, hXq, hX0q, hbq⟩
                case measure => simp [intOf]; omega
              · obtain rfl : k = 7 := by omega
                go_wp2_with fail
                refine wp_region_any (by kernel_rfl) ?_
                refine wpAny_of_C (C := fun W => Below w.heap.size w W) _ _ _ _ ?_
                refine wpAnyC_take 0 (.pointer (some ⟨B1, 13, none⟩)) rfl (by kernel_rfl) (by kernel_rfl) (by kernel_rfl) (fun _ _ _ h => h) (wanted_free rfl _) (fun W hW => by go_simp) ?_
                try simp only [Act.put, List.getElem_toArray, List.getElem_cons_succ, List.getElem_cons_zero, List.setIfInBounds_toArray, List.set_cons_succ, List.set_cons_zero]
                refine wpAnyC_take 2 (.slice (some ⟨b, off, none⟩) n c) rfl (by kernel_rfl) (by kernel_rfl) (by kernel_rfl) (fun _ _ _ h => h) (wanted_free rfl _) (fun W hW => by go_simp) ?_
                try simp only [Act.put, List.getElem_toArray, List.getElem_cons_succ, List.getElem_cons_zero, List.setIfInBounds_toArray, List.set_cons_succ, List.set_cons_zero]
                refine wpAnyC_take 3 (.int .i64 48) rfl (by kernel_rfl) (by kernel_rfl) (by kernel_rfl) (fun _ _ _ h => h) (wanted_free rfl _) (fun W hW => by go_simp) ?_
                try simp only [Act.put, List.getElem_toArray, List.getElem_cons_succ, List.getElem_cons_zero, List.setIfInBounds_toArray, List.set_cons_succ, List.set_cons_zero]
                refine wpAnyC_take 4 (.int .i64 48) rfl (by kernel_rfl) (by kernel_rfl) (by kernel_rfl) (fun _ _ _ h => h) (wanted_free rfl _) (fun W hW => by go_simp) ?_
                try simp only [Act.put, List.getElem_toArray, List.getElem_cons_succ, List.getElem_cons_zero, List.setIfInBounds_toArray, List.set_cons_succ, List.set_cons_zero]
                refine wpAnyC_take 5 (.int .i64 L) rfl (by kernel_rfl) (by kernel_rfl) (by kernel_rfl) (fun _ _ _ h => h) (wanted_free rfl _) (fun W hW => by go_simp) ?_
                try simp only [Act.put, List.getElem_toArray, List.getElem_cons_succ, List.getElem_cons_zero, List.setIfInBounds_toArray, List.set_cons_succ, List.set_cons_zero]
                refine wpAnyC_take 6 (.int .i64 I0) rfl (by kernel_rfl) (by kernel_rfl) (by kernel_rfl) (fun _ _ _ h => h) (wanted_free rfl _) (fun W hW => by have wq := wI0.out; go_simp) ?_
                try simp only [Act.put, List.getElem_toArray, List.getElem_cons_succ, List.getElem_cons_zero, List.setIfInBounds_toArray, List.set_cons_succ, List.set_cons_zero]
                refine wpAnyC_take 7 (.slice (some ⟨b, o3, none⟩) L (c - 48)) rfl (by kernel_rfl) (by kernel_rfl) (by kernel_rfl) (fun _ _ _ h => h) (wanted_free rfl _) (fun W hW => by have hiq := hif.out; rw [if_neg kcE] at hiq; have hiq2 : off + 48 = o3 := (by simpa using hiq); clear hiq; first | (go_simp; done) | (go_simp; omega)) ?_
                try simp only [Act.put, List.getElem_toArray, List.getElem_cons_succ, List.getElem_cons_zero, List.setIfInBounds_toArray, List.set_cons_succ, List.set_cons_zero]
                refine wpAnyC_one 1 (hbk.out.drew) rfl (by kernel_rfl) (wanted_free rfl _) (fun KA hKA => ?_)
                have hc13 : wr.drew.cell? ⟨B1, 13, none⟩ = some (.slice none 0 0) := hXk.out.drew.cells13
                go_simp
                refine hKA _ _ ?_
                clear hKA KA hc13
                try simp only [Act.put, List.getElem_toArray, List.getElem_cons_succ, List.getElem_cons_zero, List.setIfInBounds_toArray, List.set_cons_succ, List.set_cons_zero]
                refine wpAnyC_one 8 (hbk.out.drew) rfl (by kernel_rfl) (wanted_free rfl _) (fun KA hKA => ?_)
                refine wp_append_rdS (.tmp 151) (.tmp 157) rfl wr.heap.size (.slice none 0 0) [] rfl (World.ownsRow_nil _ _ 5 1) ⟨b, o3, none⟩ (c - 48) L D rfl (hDr.out _ hbk.out.drew) (by rw [hDl.out]; simp; omega) (Nat.le_refl _) ?_
                intro v8 w8 ho8 hg8
                rw [List.nil_append, hDl.out] at ho8
                obtain ⟨va, vc, rfl⟩ := own_len ho8
                have hg8' : wr.grownBy w8 none := ⟨hg8.os, hg8.tape, hg8.output, hg8.size, hg8.block⟩
                have hX8 : Kpt (Bx w8 B1 ((headK zs D 7).vals (.slice none 0 0))) := ⟨hXk.out.grown hg8' (by simp)⟩
                have hX08 : Kpt (Bx w8 B0 (noP.vals (.slice none 0 0))) := ⟨hX0k.out.grown hg8' (by simp)⟩
                have hb8 : Kpt (Below w.heap.size w w8) := ⟨hbk.out.grown hg8' hbk.out.size (fun k h => by cases h)⟩
                have hr8 : Kpt (Row w8 (.slice va L vc) D) := ⟨by have h9 := own_zero ho8; rw [← hDl.out] at h9 ⊢; exact h9⟩
                have hv8 : Kpt (∀ g, (Value.slice va L vc).ownBlock = some g → w.heap.size ≤ g ∧ B0 ≠ g ∧ B1 ≠ g) := ⟨fun g hg => by
                  have h1 : wr.heap.size ≤ g := (World.ownsRow.lt ho8 g hg).1
                  exact ⟨Nat.le_trans hbk.out.size h1, Nat.ne_of_lt (Nat.lt_of_lt_of_le hX0k.out.lt h1), Nat.ne_of_lt (Nat.lt_of_lt_of_le hXk.out.lt h1)⟩⟩
                refine hKA _ _ ?_
                clear hKA KA hg8 hg8' ho8
                try simp only [Act.put, List.getElem_toArray, List.getElem_cons_succ, List.getElem_cons_zero, List.setIfInBounds_toArray, List.set_cons_succ, List.set_cons_zero]
                refine wpAnyC_take 9 (.pointer (some ⟨B1, 13, none⟩)) rfl (by kernel_rfl) (by kernel_rfl) (by kernel_rfl) (fun _ _ _ h => h) (wanted_free rfl _) (fun W hW => by go_simp) ?_
                try simp only [Act.put, List.getElem_toArray, List.getElem_cons_succ, List.getElem_cons_zero, List.setIfInBounds_toArray, List.set_cons_succ, List.set_cons_zero]
                refine wpAnyC_one 10 (hb8.out) rfl (by kernel_rfl) (wanted_free rfl _) (fun KA hKA => ?_)
                refine wp_store_cell (b := B1) (j := 13) (cs := (headK zs D 7).vals (.slice none 0 0)) (v := .slice va L vc) rfl rfl rfl rfl hX8.out (by rw [Pd.size (headK_len _ _ _)]; decide) sizeSB ?_
                intro w9 hX9 hg9
                rw [headK_13] at hX9
                have hb9q : Kpt (Below w.heap.size w w9) := ⟨hb8.out.grown hg9 hb8.out.size (fun k h => by cases h; exact hBB.out.2)⟩
                have hX09 : Kpt (Bx w9 B0 (noP.vals (.slice none 0 0))) := ⟨hX08.out.grown hg9 (fun e => hBB.out.1 (Option.some.inj e).symm)⟩
                have hr9 : Kpt (Row w9 (.slice va L vc) D) := ⟨hr8.out.of_block fun g hg => hg9.block g (Row.lt hr8.out hg) (fun e => (hv8.out g hg).2.2 (Option.some.inj e).symm)⟩
                replace hX9 := Kpt.mk hX9
                refine hKA _ _ ?_
                clear hKA KA hg9 hr8 hX8 hX08
                try simp only [Act.put, List.getElem_toArray, List.getElem_cons_succ, List.getElem_cons_zero, List.setIfInBounds_toArray, List.set_cons_succ, List.set_cons_zero]
                refine wpAnyC_done (hb9q.out) (by kernel_rfl) ?_
                have hs7 := Kpt.mk (Pd.size (headK_len zs D 7) (.slice va L vc))
                go_wp2_with (first
                  | (have hm := m9; refine wpList_store_bx rfl 26 (.tmp 6) (.tmp 160) rfl B0 (noP.vals (.slice none 0 0)) ((headK zs D 7).vals (.slice va L vc)) rfl rfl hX09.out (by rw [hs7.out]; rfl) (by rw [hs7.out]; exact sizeP) (Pd.one _ _ _ _) rfl ?_; intro wz hXz hgz; have hbz : Kpt (Below w.heap.size w wz) := ⟨hb9q.out.grown hgz hb9q.out.size (fun k h => by cases h; exact hB0.out)⟩; have hrz : Kpt (Row wz (.slice va L vc) D) := ⟨hr9.out.of_block fun g hg => hgz.block g (Row.lt hr9.out hg) (fun e => (hv8.out g hg).2.1 (Option.some.inj e).symm)⟩; replace hXz := Kpt.mk hXz; clear hgz)
                  | (refine wpList_load_bx rfl 26 (.tmp 14) rfl B1 ((headK zs D 7).vals (.slice va L vc)) rfl hX9.out _ Try.underlying26 rfl (by rw [hs7.out]; exact sizeP) ?_; have m9 : Kpt True := ⟨trivial⟩))
                refine bodyPost_ret (v := .tuple #[.agg ((headK zs D 7).vals (.slice va L vc)), .int .i64 N, .int .i64 0]) (by simp [results, Try.results14, asAddr, Act.put, run_res hXz.out 26 _ Try.underlying26 rfl (by rw [hs7.out]; exact sizeP)]) rfl ⟨_, by rw [hres.out], hrz.out, fun g hg => (hv8.out g hg).1, hbz.out⟩
          · refine wp_var 26 rfl (noP.vals (.slice none 0 0)) zeroPi ?_
            intro B1 we hB1 hX1 hbe1
            replace hbr : Kpt (Below w.heap.size w we) := ⟨hbr.out.trans (hbe1.mono hbr.out.size)⟩
            have hBB : Kpt (B0 ≠ B1 ∧ w.heap.size ≤ B1) := ⟨Nat.ne_of_lt (Nat.lt_of_lt_of_le hXr.out.lt hB1), Nat.le_trans hb9.out.size hB1⟩
            replace hXr : Kpt (Bx we B0 (noP.vals (.slice none 0 0))) := ⟨hXr.out.below hbe1 hXr.out.lt⟩
            replace hX1 := Kpt.mk hX1
            clear hbe1 hB1
            refine hKA _ _ ?_
            clear hKA KA
            try simp only [Act.put, List.getElem_toArray, List.getElem_cons_succ, List.getElem_cons_zero, List.setIfInBounds_toArray, List.set_cons_succ, List.set_cons_zero]
            refine wpAnyC_one 16 (hbr.out) rfl (by kernel_rfl) (wanted_free rfl _) (fun KA hKA => ?_)
            go_simp
            refine (hR16.out _ hbr.out).mono ?_
            rintro e wq ⟨rfl, rfl⟩
            refine hKA _ _ ?_
            clear hKA KA
            try simp only [Act.put, List.getElem_toArray, List.getElem_cons_succ, List.getElem_cons_zero, List.setIfInBounds_toArray, List.set_cons_succ, List.set_cons_zero]
            refine wpAnyC_take 17 (.int .u32 tg) rfl (by kernel_rfl) (by kernel_rfl) (by kernel_rfl) (fun _ _ _ h => h) (wanted_free rfl _) (fun W hW => by have hq := hwtg.out; go_simp) ?_
            try simp only [Act.put, List.getElem_toArray, List.getElem_cons_succ, List.getElem_cons_zero, List.setIfInBounds_toArray, List.set_cons_succ, List.set_cons_zero]
            refine wpAnyC_take 18 (.agg (P0.vals (.slice none 0 0))) rfl (by kernel_rfl) (by kernel_rfl) (by kernel_rfl) (fun _ _ _ h => h) (wanted_free rfl _) (fun W hW => by rw [hPe.out]; kernel_rfl) ?_
            try simp only [Act.put, List.getElem_toArray, List.getElem_cons_succ, List.getElem_cons_zero, List.setIfInBounds_toArray, List.set_cons_succ, List.set_cons_zero]
            refine wpAnyC_one 20 (hbr.out) rfl (by kernel_rfl) (wanted_free rfl _) (fun KA hKA => ?_)
            refine wp_store_bx 26 (.tmp 14) (.tmp 136) rfl B1 (noP.vals (.slice none 0 0)) (P0.vals (.slice none 0 0)) rfl rfl hX1.out (by rw [hP0.out, Pd.size (headK_len _ _ _)]; rfl) (by rw [hP0.out, Pd.size (headK_len _ _ _)]; exact sizeP) (Pd.one _ _ _ _) ?_
            intro wf hXf hgf
            refine hKA _ _ ?_
            clear hKA KA
            replace hbr : Kpt (Below w.heap.size w wf) := ⟨hbr.out.grown hgf hbr.out.size (fun k h => by cases h; exact hBB.out.2)⟩
            replace hXr : Kpt (Bx wf B0 (noP.vals (.slice none 0 0))) := ⟨hXr.out.grown hgf (fun e => hBB.out.1 (Option.some.inj e).symm)⟩
            rw [hP0.out] at hXf
            replace hXf := Kpt.mk hXf
            clear hgf hX1
            try simp only [Act.put, List.getElem_toArray, List.getElem_cons_succ, List.getElem_cons_zero, List.setIfInBounds_toArray, List.set_cons_succ, List.set_cons_zero]
            refine wpAnyC_done hbr.out (by kernel_rfl) ?_
            go_wp2_with fail
            go_loopw [15] (fun t wr => ∃ k : Nat, k ≤ 7 ∧ t = .int .i64 k ∧ Kpt (Bx wr B1 ((headK zs D k).vals (.slice none 0 0))) ∧ Kpt (Bx wr B0 (noP.vals (.slice none 0 0))) ∧ Kpt (Below w.heap.size w wr)) (fun t _ => 7 - (intOf t).toNat)
            case atStart => exact ⟨0, by omega, rfl, hXf, hXr, hbr⟩
            case round =>
              obtain ⟨k, hk, rfl, hXk, hX0k, hbk⟩ := hrel
              clear hXf hXr hbr
              by_cases hlt7 : k < 7
              · have hxk := Kpt.mk (headK_step zs D (.slice none 0 0) k hlt7)
                have hsz : Kpt (6 + k < ((headK zs D k).vals (.slice none 0 0)).size) := ⟨by rw [Pd.size (headK_len _ _ _)]; omega⟩
                have hwk := hw32.out (20 + 4 * k)
                have hltI : (k : Int) < 7 := by omega
                go_wp2_with (first
                  | (refine wpList_store_cell rfl rfl B1 (6 + k) _ (.int .u32 (B.num zs (20 + 4 * k) 4)) rfl rfl rfl hXk.out hsz.out size22 rfl ?_; intro wq hXq hgq; rw [hxk.out] at hXq; have hX0q : Kpt (Bx wq B0 (noP.vals (.slice none 0 0))) := ⟨hX0k.out.grown hgq (fun e => hBB.out.1 (Option.some.inj e).symm)⟩; have hbq : Kpt (Below w.heap.size w wq) := ⟨hbk.out.grown hgq hbk.out.size (fun k h => by cases h; exact hBB.out.2)⟩; replace hXq := Kpt.mk hXq; clear hgq)
                  | (go_at_call 30; go_must (refine (hRk.out _ hbk.out k hlt7).mono ?_; rintro e wr ⟨rfl, rfl⟩)))
                go_roundw
                case rel => exact ⟨k + 1, by omega, by go_num, hXq, hX0q, hbq⟩
                case measure => simp [intOf]; omega
              · obtain rfl : k = 7 := by omega
                go_wp2_with fail
                refine wp_region_any (by kernel_rfl) ?_
                refine wpAny_of_C (C := fun W => Below w.heap.size w W) _ _ _ _ ?_
                refine wpAnyC_take 0 (.pointer (some ⟨B1, 13, none⟩)) rfl (by kernel_rfl) (by kernel_rfl) (by kernel_rfl) (fun _ _ _ h => h) (wanted_free rfl _) (fun W hW => by go_simp) ?_
                try simp only [Act.put, List.getElem_toArray, List.getElem_cons_succ, List.getElem_cons_zero, List.setIfInBounds_toArray, List.set_cons_succ, List.set_cons_zero]
                refine wpAnyC_take 2 (.slice (some ⟨b, off, none⟩) n c) rfl (by kernel_rfl) (by kernel_rfl) (by kernel_rfl) (fun _ _ _ h => h) (wanted_free rfl _) (fun W hW => by go_simp) ?_
                try simp only [Act.put, List.getElem_toArray, List.getElem_cons_succ, List.getElem_cons_zero, List.setIfInBounds_toArray, List.set_cons_succ, List.set_cons_zero]
                refine wpAnyC_take 3 (.int .i64 48) rfl (by kernel_rfl) (by kernel_rfl) (by kernel_rfl) (fun _ _ _ h => h) (wanted_free rfl _) (fun W hW => by go_simp) ?_
                try simp only [Act.put, List.getElem_toArray, List.getElem_cons_succ, List.getElem_cons_zero, List.setIfInBounds_toArray, List.set_cons_succ, List.set_cons_zero]
                refine wpAnyC_take 4 (.int .i64 48) rfl (by kernel_rfl) (by kernel_rfl) (by kernel_rfl) (fun _ _ _ h => h) (wanted_free rfl _) (fun W hW => by go_simp) ?_
                try simp only [Act.put, List.getElem_toArray, List.getElem_cons_succ, List.getElem_cons_zero, List.setIfInBounds_toArray, List.set_cons_succ, List.set_cons_zero]
                refine wpAnyC_take 5 (.int .i64 L) rfl (by kernel_rfl) (by kernel_rfl) (by kernel_rfl) (fun _ _ _ h => h) (wanted_free rfl _) (fun W hW => by go_simp) ?_
                try simp only [Act.put, List.getElem_toArray, List.getElem_cons_succ, List.getElem_cons_zero, List.setIfInBounds_toArray, List.set_cons_succ, List.set_cons_zero]
                refine wpAnyC_take 6 (.int .i64 I0) rfl (by kernel_rfl) (by kernel_rfl) (by kernel_rfl) (fun _ _ _ h => h) (wanted_free rfl _) (fun W hW => by have wq := wI0.out; go_simp) ?_
                try simp only [Act.put, List.getElem_toArray, List.getElem_cons_succ, List.getElem_cons_zero, List.setIfInBounds_toArray, List.set_cons_succ, List.set_cons_zero]
                refine wpAnyC_take 7 (.slice (some ⟨b, o3, none⟩) L (c - 48)) rfl (by kernel_rfl) (by kernel_rfl) (by kernel_rfl) (fun _ _ _ h => h) (wanted_free rfl _) (fun W hW => by have hiq := hif.out; rw [if_neg kcE] at hiq; have hiq2 : off + 48 = o3 := (by simpa using hiq); clear hiq; first | (go_simp; done) | (go_simp; omega)) ?_
                try simp only [Act.put, List.getElem_toArray, List.getElem_cons_succ, List.getElem_cons_zero, List.setIfInBounds_toArray, List.set_cons_succ, List.set_cons_zero]
                refine wpAnyC_one 1 (hbk.out.drew) rfl (by kernel_rfl) (wanted_free rfl _) (fun KA hKA => ?_)
                have hc13 : wr.drew.cell? ⟨B1, 13, none⟩ = some (.slice none 0 0) := hXk.out.drew.cells13
                go_simp
                refine hKA _ _ ?_
                clear hKA KA hc13
                try simp only [Act.put, List.getElem_toArray, List.getElem_cons_succ, List.getElem_cons_zero, List.setIfInBounds_toArray, List.set_cons_succ, List.set_cons_zero]
                refine wpAnyC_one 8 (hbk.out.drew) rfl (by kernel_rfl) (wanted_free rfl _) (fun KA hKA => ?_)
                refine wp_append_rdS (.tmp 151) (.tmp 157) rfl wr.heap.size (.slice none 0 0) [] rfl (World.ownsRow_nil _ _ 5 1) ⟨b, o3, none⟩ (c - 48) L D rfl (hDr.out _ hbk.out.drew) (by rw [hDl.out]; simp; omega) (Nat.le_refl _) ?_
                intro v8 w8 ho8 hg8
                rw [List.nil_append, hDl.out] at ho8
                obtain ⟨va, vc, rfl⟩ := own_len ho8
                have hg8' : wr.grownBy w8 none := ⟨hg8.os, hg8.tape, hg8.output, hg8.size, hg8.block⟩
                have hX8 : Kpt (Bx w8 B1 ((headK zs D 7).vals (.slice none 0 0))) := ⟨hXk.out.grown hg8' (by simp)⟩
                have hX08 : Kpt (Bx w8 B0 (noP.vals (.slice none 0 0))) := ⟨hX0k.out.grown hg8' (by simp)⟩
                have hb8 : Kpt (Below w.heap.size w w8) := ⟨hbk.out.grown hg8' hbk.out.size (fun k h => by cases h)⟩
                have hr8 : Kpt (Row w8 (.slice va L vc) D) := ⟨by have h9 := own_zero ho8; rw [← hDl.out] at h9 ⊢; exact h9⟩
                have hv8 : Kpt (∀ g, (Value.slice va L vc).ownBlock = some g → w.heap.size ≤ g ∧ B0 ≠ g ∧ B1 ≠ g) := ⟨fun g hg => by
                  have h1 : wr.heap.size ≤ g := (World.ownsRow.lt ho8 g hg).1
                  exact ⟨Nat.le_trans hbk.out.size h1, Nat.ne_of_lt (Nat.lt_of_lt_of_le hX0k.out.lt h1), Nat.ne_of_lt (Nat.lt_of_lt_of_le hXk.out.lt h1)⟩⟩
                refine hKA _ _ ?_
                clear hKA KA hg8 hg8' ho8
                try simp only [Act.put, List.getElem_toArray, List.getElem_cons_succ, List.getElem_cons_zero, List.setIfInBounds_toArray, List.set_cons_succ, List.set_cons_zero]
                refine wpAnyC_take 9 (.pointer (some ⟨B1, 13, none⟩)) rfl (by kernel_rfl) (by kernel_rfl) (by kernel_rfl) (fun _ _ _ h => h) (wanted_free rfl _) (fun W hW => by go_simp) ?_
                try simp only [Act.put, List.getElem_toArray, List.getElem_cons_succ, List.getElem_cons_zero, List.setIfInBounds_toArray, List.set_cons_succ, List.set_cons_zero]
                refine wpAnyC_one 10 (hb8.out) rfl (by kernel_rfl) (wanted_free rfl _) (fun KA hKA => ?_)
                refine wp_store_cell (b := B1) (j := 13) (cs := (headK zs D 7).vals (.slice none 0 0)) (v := .slice va L vc) rfl rfl rfl rfl hX8.out (by rw [Pd.size (headK_len _ _ _)]; decide) sizeSB ?_
                intro w9 hX9 hg9
                rw [headK_13] at hX9
                have hb9q : Kpt (Below w.heap.size w w9) := ⟨hb8.out.grown hg9 hb8.out.size (fun k h => by cases h; exact hBB.out.2)⟩
                have hX09 : Kpt (Bx w9 B0 (noP.vals (.slice none 0 0))) := ⟨hX08.out.grown hg9 (fun e => hBB.out.1 (Option.some.inj e).symm)⟩
                have hr9 : Kpt (Row w9 (.slice va L vc) D) := ⟨hr8.out.of_block fun g hg => hg9.block g (Row.lt hr8.out hg) (fun e => (hv8.out g hg).2.2 (Option.some.inj e).symm)⟩
                replace hX9 := Kpt.mk hX9
                refine hKA _ _ ?_
                clear hKA KA hg9 hr8 hX8 hX08
                try simp only [Act.put, List.getElem_toArray, List.getElem_cons_succ, List.getElem_cons_zero, List.setIfInBounds_toArray, List.set_cons_succ, List.set_cons_zero]
                refine wpAnyC_done (hb9q.out) (by kernel_rfl) ?_
                have hs7 := Kpt.mk (Pd.size (headK_len zs D 7) (.slice va L vc))
                go_wp2_with (first
                  | (have hm := m9; refine wpList_store_bx rfl 26 (.tmp 6) (.tmp 160) rfl B0 (noP.vals (.slice none 0 0)) ((headK zs D 7).vals (.slice va L vc)) rfl rfl hX09.out (by rw [hs7.out]; rfl) (by rw [hs7.out]; exact sizeP) (Pd.one _ _ _ _) rfl ?_; intro wz hXz hgz; have hbz : Kpt (Below w.heap.size w wz) := ⟨hb9q.out.grown hgz hb9q.out.size (fun k h => by cases h; exact hB0.out)⟩; have hrz : Kpt (Row wz (.slice va L vc) D) := ⟨hr9.out.of_block fun g hg => hgz.block g (Row.lt hr9.out hg) (fun e => (hv8.out g hg).2.1 (Option.some.inj e).symm)⟩; replace hXz := Kpt.mk hXz; clear hgz)
                  | (refine wpList_load_bx rfl 26 (.tmp 14) rfl B1 ((headK zs D 7).vals (.slice va L vc)) rfl hX9.out _ Try.underlying26 rfl (by rw [hs7.out]; exact sizeP) ?_; have m9 : Kpt True := ⟨trivial⟩))
                refine bodyPost_ret (v := .tuple #[.agg ((headK zs D 7).vals (.slice va L vc)), .int .i64 N, .int .i64 0]) (by simp [results, Try.results14, asAddr, Act.put, run_res hXz.out 26 _ Try.underlying26 rfl (by rw [hs7.out]; exact sizeP)]) rfl ⟨_, by rw [hres.out], hrz.out, fun g hg => (hv8.out g hg).1, hbz.out⟩
end Go.Proofs.Ytigfoldobkigeaa
