/-
  pdu: the document's Decode: bytes behind the data.
-/
import Derived.Test.YtigfoldobkigeaaURD0
namespace Go.Proofs.Ytigfoldobkigeaa
open Go.RowKit
set_option linter.unusedVariables false
set_option linter.unusedSimpArgs false

set_option maxRecDepth 100000 in
set_option maxHeartbeats 2000000 in
theorem rdec_pad_tF (b off n c : Nat) (zs : List Int) (w : World) (hr : RdAt w (.slice (some ⟨b, off, none⟩) n c) zs) (hn : n ≤ 140737488355328) (hc : c ≤ maxLen) (hb : Bytes zs) (hs : 52 ≤ n) (hq : B.num zs 48 4 = (sumL (zs.take 48) : Int)) (L M : Nat) (hL : B.num zs 5 3 = (L : Int)) (hL8 : L ≤ 8192) (h4 : zs.getD 4 0 = 0) (h8 : zs.getD 8 0 = 0) (h10 : B.num zs 10 6 = 0) (hM : M = L + padN L) (hwh : 52 + M ≤ n) (q : Nat) (hqP : q < padN L) (hzq : zs.getD (52 + L + q) 0 ≠ 0) (hz0 : ∀ j, j < q → zs.getD (52 + L + j) 0 = 0) :
    Calls Try.prog 14 #[.slice (some ⟨b, off, none⟩) n c, .bool true, .bool false] w fun e w' => e = .returned (.tuple #[.agg (noP.vals (.slice none 0 0)), .int .i64 0, .int .i64 3]) ∧ Below w.heap.size w w' := by
  have hzl := (rd_row hr).1
  have hcn : n ≤ c := by obtain ⟨a', c', hv, h1, h2, h3⟩ := hr; simp only [Value.slice.injEq] at hv; omega
  have hrB : Kpt (∀ W, Below w.heap.size w W → RdAt W (.slice (some ⟨b, off, none⟩) n c) zs) := ⟨fun W h' => hr.bel h'⟩
  have hcl : Kpt (∀ W, Below w.heap.size w W → ∀ j, j < n → W.cell? ⟨b, off + j, none⟩ = some (.int .u8 (zs.getD j 0))) := ⟨fun W h' => (rd_cells (hr.bel h')).2⟩
  have hNum : Kpt (∀ W, Below w.heap.size w W → ∀ i k : Nat, 1 ≤ k → k ≤ 8 → i + k ≤ n → Calls Try.prog 30 #[.slice (some ⟨b, off, none⟩) n c, .int .i64 i, .int .i64 k] W fun e w' => e = .returned (.int .u64 (B.num zs i k)) ∧ w' = W) := ⟨fun W h' i k h1 h2 h3 => rnum_any b off n c i k zs W (by unfold maxLen; omega) h1 h2 h3 hb (hcl.out W h')⟩
  have hS4 := sumL_lt (zs.take 48)
  have hSum : Kpt (∀ W, Below w.heap.size w W → Calls Try.prog 25 #[.slice (some ⟨b, off, none⟩) 48 c] W fun e w' => ∃ g, e = .returned (.slice (some ⟨g, 0, none⟩) 4 4) ∧ w'.ownsRow W.heap.size 5 1 (.slice (some ⟨g, 0, none⟩) 4 4) 4 (cels (bigL (sumL (zs.take 48)) 4)) ∧ Below W.heap.size W w') := ⟨fun W h' => rsum_any _ _ W (rd_take (hr.bel h') 48 (by omega)) (by simp; unfold maxLen; omega) (Bytes.take hb 48)⟩
  have hcv1 : Kpt (∀ W, Below w.heap.size w W → (convert 24 9 (.slice (some ⟨b, off + 48, none⟩) 4 (c - 48))).run Try.prog W = .ok (.string (strOfNums ((zs.drop 48).take 4))) W) := ⟨fun W h' => conv_rd (rd_cut (hr.bel h') 48 4 (by omega) (by omega))⟩
  have hst := str_four zs hb 48 (by omega) (sumL (zs.take 48)) hS4
  obtain ⟨S, hS⟩ : ∃ S, S = bigL (sumL (zs.take 48)) 4 := ⟨_, rfl⟩
  rw [← hS] at hSum hst
  have hcv2 : Kpt (∀ W g, RdAt W (.slice (some ⟨g, 0, none⟩) 4 4) S → (convert 24 9 (.slice (some ⟨g, 0, none⟩) 4 4)).run Try.prog W = .ok (.string (strOfNums S)) W) := ⟨fun W g h' => conv_rd h'⟩
  rw [hst.2 hq] at hcv1
  obtain ⟨s1, hs1⟩ : ∃ s, s = strOfNums S := ⟨_, rfl⟩
  rw [← hs1] at hcv1 hcv2
  clear hS hs1 hst hS4
  have hN5 : Kpt (∀ W, Below w.heap.size w W → Calls Try.prog 30 #[.slice (some ⟨b, off, none⟩) n c, .int .i64 5, .int .i64 3] W fun e w' => e = .returned (.int .u64 (B.num zs 5 3)) ∧ w' = W) := ⟨fun W h' => hNum.out W h' 5 3 (by decide) (by decide) (by omega)⟩
  have hN10 : Kpt (∀ W, Below w.heap.size w W → Calls Try.prog 30 #[.slice (some ⟨b, off, none⟩) n c, .int .i64 10, .int .i64 6] W fun e w' => e = .returned (.int .u64 (B.num zs 10 6)) ∧ w' = W) := ⟨fun W h' => hNum.out W h' 10 6 (by decide) (by decide) (by omega)⟩
  have hx0 := num4 zs hb 5 3 (by decide)
  have hc4 : Kpt (∀ W, Below w.heap.size w W → W.cell? ⟨b, off + 4, none⟩ = some (.int .u8 (zs.getD 4 0)) ∧ W.cell? ⟨b, off + 8, none⟩ = some (.int .u8 (zs.getD 8 0))) := ⟨fun W h' => ⟨hcl.out W h' 4 (by omega), hcl.out W h' 8 (by omega)⟩⟩
  rw [hL] at hN5
  rw [h10] at hN10
  rw [h4, h8] at hc4
  have wL : IntKind.i64.wrap (L : Int) = L := by simp only [IntKind.wrap, IntKind.bits, IntKind.signed]; simp; omega
  have hL8' : ¬ (8192 : Int) < L := by omega
  obtain ⟨P, hP⟩ : ∃ P, P = padN L := ⟨_, rfl⟩
  have hP4 : P ≤ 3 ∧ (L + P) % 4 = 0 := by rw [hP]; unfold padN; omega
  rw [← hP] at hM
  have hM8 : M ≤ 8195 := by omega
  obtain ⟨A, hA⟩ : ∃ A, A = 52 + M := ⟨_, rfl⟩
  have hAe : (52 : Int) + (M : Int) = (A : Int) := by omega
  obtain ⟨I0, hI0⟩ : ∃ A, A = 52 + L := ⟨_, rfl⟩
  have hI0e : (52 : Int) + (L : Int) = (I0 : Int) := by omega
  have h1 : ¬ (n : Int) < 52 := by omega
  have c48 : ¬ c = 48 := by omega
  have c52 : ¬ (c : Int) < 52 := by omega
  have c48' : ¬ (c : Int) < 48 := by omega
  have hlt : ¬ (n : Int) < (A : Int) := by omega
  rw [← hP] at hqP
  have hzj : Kpt (∀ j, j < q → zs.getD (I0 + j) 0 = 0) := ⟨fun j hj => by rw [hI0]; exact hz0 j hj⟩
  obtain ⟨y, hy⟩ : ∃ y, y = zs.getD (I0 + q) 0 := ⟨_, rfl⟩
  have hyn : (y != 0) = true := by rw [hy, hI0]; simpa using hzq
  replace hy := Kpt.mk hy
  have hIA : Kpt (A = I0 + P ∧ A ≤ n) := ⟨by omega, by omega⟩
  clear hr hzl hNum hrB hL h4 h8 h10 hP hq hb hwh hzq hz0 hA hI0
  unfold maxLen at hc
  replace hM := Kpt.mk hM
  go_enter Try.func14, Try.ntmps14
  go_wp2_with (first
    | (refine wpList_var rfl 26 rfl (noP.vals (.slice none 0 0)) zeroPi ?_; intro B0 w0 hB0 hX hbc; replace hX := Kpt.mk hX; replace hB0 := Kpt.mk hB0; replace hbc := Kpt.mk hbc)
    | fail)
  refine wp_region_any (by kernel_rfl) ?_
  refine wpAny_of_C (C := fun W => Below w.heap.size w W) _ _ _ _ ?_
  refine wpAnyC_take 0 (.bool true) rfl (by kernel_rfl) (by kernel_rfl) (by kernel_rfl) (fun _ _ _ h => h) (wanted_free rfl _) (fun W hW => by go_simp) ?_
  try simp only [Act.put, List.getElem_toArray, List.getElem_cons_succ, List.getElem_cons_zero, List.setIfInBounds_toArray, List.set_cons_succ, List.set_cons_zero]
  refine wpAnyC_take 1 (.bool true) rfl (by kernel_rfl) (by kernel_rfl) (by kernel_rfl) (fun _ _ _ h => h) (wanted_free rfl _) (fun W hW => by go_simp) ?_
  try simp only [Act.put, List.getElem_toArray, List.getElem_cons_succ, List.getElem_cons_zero, List.setIfInBounds_toArray, List.set_cons_succ, List.set_cons_zero]
  refine wpAnyC_take 2 (.slice (some ⟨b, off, none⟩) n c) rfl (by kernel_rfl) (by kernel_rfl) (by kernel_rfl) (fun _ _ _ h => h) (wanted_at true rfl rfl rfl rfl) (fun W hW => by go_simp) ?_
  try simp only [Act.put, List.getElem_toArray, List.getElem_cons_succ, List.getElem_cons_zero, List.setIfInBounds_toArray, List.set_cons_succ, List.set_cons_zero]
  refine wpAnyC_take 3 (.slice (some ⟨b, off + 48, none⟩) 4 (c - 48)) rfl (by kernel_rfl) (by kernel_rfl) (by kernel_rfl) (fun _ _ _ h => h) (wanted_at true rfl rfl rfl rfl) (fun W hW => by go_simp) ?_
  try simp only [Act.put, List.getElem_toArray, List.getElem_cons_succ, List.getElem_cons_zero, List.setIfInBounds_toArray, List.set_cons_succ, List.set_cons_zero]
  refine wpAnyC_take 4 (.string s1) rfl (by kernel_rfl) (by kernel_rfl) (by kernel_rfl) (fun _ _ _ h => h) (wanted_at true rfl rfl rfl rfl) (fun W hW => by have hq1 := hcv1.out W hW; go_simp) ?_
  try simp only [Act.put, List.getElem_toArray, List.getElem_cons_succ, List.getElem_cons_zero, List.setIfInBounds_toArray, List.set_cons_succ, List.set_cons_zero]
  refine wpAnyC_take 5 (.slice (some ⟨b, off, none⟩) n c) rfl (by kernel_rfl) (by kernel_rfl) (by kernel_rfl) (fun _ _ _ h => h) (wanted_at true rfl rfl rfl rfl) (fun W hW => by go_simp) ?_
  try simp only [Act.put, List.getElem_toArray, List.getElem_cons_succ, List.getElem_cons_zero, List.setIfInBounds_toArray, List.set_cons_succ, List.set_cons_zero]
  refine wpAnyC_take 6 (.slice (some ⟨b, off, none⟩) 48 c) rfl (by kernel_rfl) (by kernel_rfl) (by kernel_rfl) (fun _ _ _ h => h) (wanted_at true rfl rfl rfl rfl) (fun W hW => by go_simp) ?_
  try simp only [Act.put, List.getElem_toArray, List.getElem_cons_succ, List.getElem_cons_zero, List.setIfInBounds_toArray, List.set_cons_succ, List.set_cons_zero]
  refine wpAnyC_one 7 (hbc.out.drew) rfl (by kernel_rfl) (wanted_at true rfl rfl rfl rfl) (fun KA hKA => ?_)
  go_simp
  refine (hSum.out _ hbc.out.drew).mono ?_
  rintro e wc ⟨g1, rfl, ho1, hbe1⟩
  replace hbe1 := below_undrew hbe1
  replace hX : Kpt (Bx wc B0 (noP.vals (.slice none 0 0))) := ⟨hX.out.below hbe1 hX.out.lt⟩
  replace hbc : Kpt (Below w.heap.size w wc) := ⟨hbc.out.trans (hbe1.mono hbc.out.size)⟩
  have hro1 : Kpt (RdAt wc (.slice (some ⟨g1, 0, none⟩) 4 4) S) := ⟨own_rd ho1⟩
  clear hbe1 ho1
  refine hKA _ _ ?_
  clear hKA KA
  try simp only [Act.put, List.getElem_toArray, List.getElem_cons_succ, List.getElem_cons_zero, List.setIfInBounds_toArray, List.set_cons_succ, List.set_cons_zero]
  refine wpAnyC_mono (C' := fun W => Sm wc W) (fun W h => hbc.out.trans (h.bel.mono hbc.out.size)) _ _ _ _ ?_
  refine wpAnyC_take 8 (.string s1) rfl (by kernel_rfl) (by kernel_rfl) (by kernel_rfl) (fun _ _ _ h => h) (wanted_at true rfl rfl rfl rfl) (fun W hW => by have hq2 := hcv2.out W g1 (hW.rd hro1.out); go_simp) ?_
  try simp only [Act.put, List.getElem_toArray, List.getElem_cons_succ, List.getElem_cons_zero, List.setIfInBounds_toArray, List.set_cons_succ, List.set_cons_zero]
  refine wpAnyC_take 9 (.bool false) rfl (by kernel_rfl) (by kernel_rfl) (by kernel_rfl) (fun _ _ _ h => h) (wanted_at true rfl rfl rfl rfl) (fun W hW => by go_simp) ?_
  try simp only [Act.put, List.getElem_toArray, List.getElem_cons_succ, List.getElem_cons_zero, List.setIfInBounds_toArray, List.set_cons_succ, List.set_cons_zero]
  refine wpAnyC_take 10 (.bool false) rfl (by kernel_rfl) (by kernel_rfl) (by kernel_rfl) (fun _ _ _ h => h) (wanted_free rfl _) (fun W hW => by go_simp) ?_
  try simp only [Act.put, List.getElem_toArray, List.getElem_cons_succ, List.getElem_cons_zero, List.setIfInBounds_toArray, List.set_cons_succ, List.set_cons_zero]
  refine wpAnyC_done (Sm.refl _) (by kernel_rfl) ?_
  have hcc := hc4.out _ hbc.out
  go_wp2_with (first
    | (go_at_call 30; have hm := m1; go_must (refine (hN10.out _ hbc.out).mono ?_; rintro e wc' ⟨rfl, rfl⟩))
    | (go_at_call 30; go_must (refine (hN5.out _ hbc.out).mono ?_; rintro e wc' ⟨rfl, rfl⟩; have m1 : Kpt True := ⟨trivial⟩)))
  clear hcc
  go_loop [11] (fun t => ∃ j : Nat, j ≤ P ∧ t = .int .i64 ((L + j : Nat) : Int)) (fun t => L + 4 - (intOf t).toNat)
  case atStart => exact ⟨0, by omega, rfl⟩
  case round =>
    obtain ⟨j, hj, rfl⟩ := hrel
    by_cases hjP : j < P
    · have hrem2 : ¬ ((L + j : Nat) : Int).tmod 4 = 0 := by rw [Int.tmod_eq_emod_of_nonneg (by omega)]; omega
      go_wp2
      go_round
      case rel => exact ⟨j + 1, by omega, by go_num⟩
      case measure => simp [intOf]; omega
    · have hjM : L + j = M := by have := hM.out; omega
      have hrem2 : (M : Int).tmod 4 = 0 := by have := hM.out; rw [Int.tmod_eq_emod_of_nonneg (by omega)]; omega
      rw [hjM]
      clear hjP hj hjM j
      go_wp2_with fail
      refine wp_region_any (by kernel_rfl) ?_
      refine wpAny_of_C (C := fun W => Below w.heap.size w W) _ _ _ _ ?_
      refine wpAnyC_take 0 (.bool false) rfl (by kernel_rfl) (by kernel_rfl) (by kernel_rfl) (fun _ _ _ h => h) (wanted_free rfl _) (fun W hW => by go_simp) ?_
      try simp only [Act.put, List.getElem_toArray, List.getElem_cons_succ, List.getElem_cons_zero, List.setIfInBounds_toArray, List.set_cons_succ, List.set_cons_zero]
      refine wpAnyC_take 1 (.bool false) rfl (by kernel_rfl) (by kernel_rfl) (by kernel_rfl) (fun _ _ _ h => h) (wanted_free rfl _) (fun W hW => by go_simp) ?_
      try simp only [Act.put, List.getElem_toArray, List.getElem_cons_succ, List.getElem_cons_zero, List.setIfInBounds_toArray, List.set_cons_succ, List.set_cons_zero]
      refine wpAnyC_skip 2 rfl (by kernel_rfl) (by kernel_rfl) (by kernel_rfl) (fun _ _ _ h => h) (wanted_no true rfl rfl rfl rfl) ?_
      try simp only [Act.put, List.getElem_toArray, List.getElem_cons_succ, List.getElem_cons_zero, List.setIfInBounds_toArray, List.set_cons_succ, List.set_cons_zero]
      refine wpAnyC_skip 3 rfl (by kernel_rfl) (by kernel_rfl) (by kernel_rfl) (fun _ _ _ h => h) (wanted_no true rfl rfl rfl rfl) ?_
      try simp only [Act.put, List.getElem_toArray, List.getElem_cons_succ, List.getElem_cons_zero, List.setIfInBounds_toArray, List.set_cons_succ, List.set_cons_zero]
      refine wpAnyC_take 4 (.bool false) rfl (by kernel_rfl) (by kernel_rfl) (by kernel_rfl) (fun _ _ _ h => h) (wanted_free rfl _) (fun W hW => by go_simp) ?_
      try simp only [Act.put, List.getElem_toArray, List.getElem_cons_succ, List.getElem_cons_zero, List.setIfInBounds_toArray, List.set_cons_succ, List.set_cons_zero]
      refine wpAnyC_take 5 (.bool false) rfl (by kernel_rfl) (by kernel_rfl) (by kernel_rfl) (fun _ _ _ h => h) (wanted_free rfl _) (fun W hW => by go_simp) ?_
      try simp only [Act.put, List.getElem_toArray, List.getElem_cons_succ, List.getElem_cons_zero, List.setIfInBounds_toArray, List.set_cons_succ, List.set_cons_zero]
      refine wpAnyC_skip 6 rfl (by kernel_rfl) (by kernel_rfl) (by kernel_rfl) (fun _ _ _ h => h) (wanted_no true rfl rfl rfl rfl) ?_
      try simp only [Act.put, List.getElem_toArray, List.getElem_cons_succ, List.getElem_cons_zero, List.setIfInBounds_toArray, List.set_cons_succ, List.set_cons_zero]
      refine wpAnyC_skip 7 rfl (by kernel_rfl) (by kernel_rfl) (by kernel_rfl) (fun _ _ _ h => h) (wanted_no true rfl rfl rfl rfl) ?_
      try simp only [Act.put, List.getElem_toArray, List.getElem_cons_succ, List.getElem_cons_zero, List.setIfInBounds_toArray, List.set_cons_succ, List.set_cons_zero]
      refine wpAnyC_skip 8 rfl (by kernel_rfl) (by kernel_rfl) (by kernel_rfl) (fun _ _ _ h => h) (wanted_no true rfl rfl rfl rfl) ?_
      try simp only [Act.put, List.getElem_toArray, List.getElem_cons_succ, List.getElem_cons_zero, List.setIfInBounds_toArray, List.set_cons_succ, List.set_cons_zero]
      refine wpAnyC_skip 9 rfl (by kernel_rfl) (by kernel_rfl) (by kernel_rfl) (fun _ _ _ h => h) (wanted_no true rfl rfl rfl rfl) ?_
      try simp only [Act.put, List.getElem_toArray, List.getElem_cons_succ, List.getElem_cons_zero, List.setIfInBounds_toArray, List.set_cons_succ, List.set_cons_zero]
      refine wpAnyC_skip 10 rfl (by kernel_rfl) (by kernel_rfl) (by kernel_rfl) (fun _ _ _ h => h) (wanted_no true rfl rfl rfl rfl) ?_
      try simp only [Act.put, List.getElem_toArray, List.getElem_cons_succ, List.getElem_cons_zero, List.setIfInBounds_toArray, List.set_cons_succ, List.set_cons_zero]
      refine wpAnyC_skip 11 rfl (by kernel_rfl) (by kernel_rfl) (by kernel_rfl) (fun _ _ _ h => h) (wanted_no true rfl rfl rfl rfl) ?_
      try simp only [Act.put, List.getElem_toArray, List.getElem_cons_succ, List.getElem_cons_zero, List.setIfInBounds_toArray, List.set_cons_succ, List.set_cons_zero]
      refine wpAnyC_skip 12 rfl (by kernel_rfl) (by kernel_rfl) (by kernel_rfl) (fun _ _ _ h => h) (wanted_no true rfl rfl rfl rfl) ?_
      try simp only [Act.put, List.getElem_toArray, List.getElem_cons_succ, List.getElem_cons_zero, List.setIfInBounds_toArray, List.set_cons_succ, List.set_cons_zero]
      refine wpAnyC_skip 13 rfl (by kernel_rfl) (by kernel_rfl) (by kernel_rfl) (fun _ _ _ h => h) (wanted_no true rfl rfl rfl rfl) ?_
      try simp only [Act.put, List.getElem_toArray, List.getElem_cons_succ, List.getElem_cons_zero, List.setIfInBounds_toArray, List.set_cons_succ, List.set_cons_zero]
      refine wpAnyC_skip 14 rfl (by kernel_rfl) (by kernel_rfl) (by kernel_rfl) (fun _ _ _ h => h) (wanted_no true rfl rfl rfl rfl) ?_
      try simp only [Act.put, List.getElem_toArray, List.getElem_cons_succ, List.getElem_cons_zero, List.setIfInBounds_toArray, List.set_cons_succ, List.set_cons_zero]
      refine wpAnyC_skip 15 rfl (by kernel_rfl) (by kernel_rfl) (by kernel_rfl) (fun _ _ _ h => h) (wanted_no true rfl rfl rfl rfl) ?_
      try simp only [Act.put, List.getElem_toArray, List.getElem_cons_succ, List.getElem_cons_zero, List.setIfInBounds_toArray, List.set_cons_succ, List.set_cons_zero]
      refine wpAnyC_skip 16 rfl (by kernel_rfl) (by kernel_rfl) (by kernel_rfl) (fun _ _ _ h => h) (wanted_no true rfl rfl rfl rfl) ?_
      try simp only [Act.put, List.getElem_toArray, List.getElem_cons_succ, List.getElem_cons_zero, List.setIfInBounds_toArray, List.set_cons_succ, List.set_cons_zero]
      refine wpAnyC_skip 17 rfl (by kernel_rfl) (by kernel_rfl) (by kernel_rfl) (fun _ _ _ h => h) (wanted_no true rfl rfl rfl rfl) ?_
      try simp only [Act.put, List.getElem_toArray, List.getElem_cons_succ, List.getElem_cons_zero, List.setIfInBounds_toArray, List.set_cons_succ, List.set_cons_zero]
      refine wpAnyC_skip 18 rfl (by kernel_rfl) (by kernel_rfl) (by kernel_rfl) (fun _ _ _ h => h) (wanted_no true rfl rfl rfl rfl) ?_
      try simp only [Act.put, List.getElem_toArray, List.getElem_cons_succ, List.getElem_cons_zero, List.setIfInBounds_toArray, List.set_cons_succ, List.set_cons_zero]
      refine wpAnyC_skip 19 rfl (by kernel_rfl) (by kernel_rfl) (by kernel_rfl) (fun _ _ _ h => h) (wanted_no true rfl rfl rfl rfl) ?_
      try simp only [Act.put, List.getElem_toArray, List.getElem_cons_succ, List.getElem_cons_zero, List.setIfInBounds_toArray, List.set_cons_succ, List.set_cons_zero]
      refine wpAnyC_skip 20 rfl (by kernel_rfl) (by kernel_rfl) (by kernel_rfl) (fun _ _ _ h => h) (wanted_no true rfl rfl rfl rfl) ?_
      try simp only [Act.put, List.getElem_toArray, List.getElem_cons_succ, List.getElem_cons_zero, List.setIfInBounds_toArray, List.set_cons_succ, List.set_cons_zero]
      refine wpAnyC_skip 21 rfl (by kernel_rfl) (by kernel_rfl) (by kernel_rfl) (fun _ _ _ h => h) (wanted_no true rfl rfl rfl rfl) ?_
      try simp only [Act.put, List.getElem_toArray, List.getElem_cons_succ, List.getElem_cons_zero, List.setIfInBounds_toArray, List.set_cons_succ, List.set_cons_zero]
      refine wpAnyC_take 22 (.bool false) rfl (by kernel_rfl) (by kernel_rfl) (by kernel_rfl) (fun _ _ _ h => h) (wanted_free rfl _) (fun W hW => by go_simp) ?_
      try simp only [Act.put, List.getElem_toArray, List.getElem_cons_succ, List.getElem_cons_zero, List.setIfInBounds_toArray, List.set_cons_succ, List.set_cons_zero]
      refine wpAnyC_done (hbc.out.drew) (by kernel_rfl) ?_
      replace hX := Kpt.mk hX.out.drew
      replace hbc := Kpt.mk hbc.out.drew
      go_wp2_with fail
      go_loop [13] (fun t => ∃ j : Nat, j ≤ q ∧ t = .int .i64 ((I0 + j : Nat) : Int)) (fun t => I0 + 4 - (intOf t).toNat)
      case atStart => exact ⟨0, by omega, rfl⟩
      case round =>
        obtain ⟨j, hj, rfl⟩ := hrel
        by_cases hjP : j < q
        · have hlt2 : ((I0 + j : Nat) : Int) < (A : Int) := by have := hM.out; have := hIA.out; omega
          have hcj := hcl.out _ hbc.out (I0 + j) (by have := hM.out; have := hIA.out; omega)
          rw [hzj.out j hjP] at hcj
          have hnj : ((I0 + j : Nat) : Int) < (n : Int) := by have := hM.out; have := hIA.out; omega
          go_wp2
          go_round
          case rel => exact ⟨j + 1, by omega, by go_num⟩
          case measure => simp [intOf]; omega
        · obtain rfl : j = q := by omega
          have hlt2 : ((I0 + j : Nat) : Int) < (A : Int) := by have := hM.out; have := hIA.out; omega
          have hcj := hcl.out _ hbc.out (I0 + j) (by have := hM.out; have := hIA.out; omega)
          rw [← hy.out] at hcj
          have hnj : ((I0 + j : Nat) : Int) < (n : Int) := by have := hM.out; have := hIA.out; omega
          go_wp2_with (first
            | (refine (?_ : wpList _ _ _ (Oper.mk none (Op.store _ _ _) _ _ _ _ :: _) _ _); go_must (refine wpList_store_bx rfl 26 (.tmp 6) (.tmp 117) rfl B0 (noP.vals (.slice none 0 0)) (noP.vals (.slice none 0 0)) rfl rfl hX.out rfl sizeP (Pd.one noP none 0 0) rfl ?_; intro wz hXz hgz; have hbz : Kpt (Below w.heap.size w wz) := ⟨hbc.out.grown hgz hbc.out.size (fun k h => by cases h; exact hB0.out)⟩; replace hXz := Kpt.mk hXz; clear hgz))
            | (refine (?_ : wpList _ _ _ (Oper.mk (some 117) (Op.build _ _) _ _ _ _ :: _) _ _); refine wpList_of_exec rfl (by kernel_rfl : _ = Result.ok (.value (.agg (noP.vals (.slice none 0 0)))) _) ?_))
          refine bodyPost_ret (v := .tuple #[.agg (noP.vals (.slice none 0 0)), .int .i64 0, .int .i64 3]) (by simp [results, Try.results14, asAddr, Act.put, run_res hXz.out 26 _ Try.underlying26 rfl sizeP]) rfl ⟨rfl, hbz.out⟩

set_option maxRecDepth 100000 in
set_option maxHeartbeats 2000000 in
theorem rdec_pad_tz (b off n c : Nat) (zs : List Int) (w : World) (hr : RdAt w (.slice (some ⟨b, off, none⟩) n c) zs) (hn : n ≤ 140737488355328) (hc : c ≤ maxLen) (hb : Bytes zs) (hs : 52 ≤ n) (hq : B.num zs 48 4 = (sumL (zs.take 48) : Int)) (L M : Nat) (hL : B.num zs 5 3 = (L : Int)) (hL8 : L ≤ 8192) (h4 : zs.getD 4 0 = 0) (h8 : zs.getD 8 0 = 0) (h10 : B.num zs 10 6 = 0) (hM : M = L + padN L) (h0 : M = 0) (hwh : 52 + M ≤ n) (q : Nat) (hqP : q < padN L) (hzq : zs.getD (52 + L + q) 0 ≠ 0) (hz0 : ∀ j, j < q → zs.getD (52 + L + j) 0 = 0) :
    Calls Try.prog 14 #[.slice (some ⟨b, off, none⟩) n c, .bool true, .bool true] w fun e w' => e = .returned (.tuple #[.agg (noP.vals (.slice none 0 0)), .int .i64 0, .int .i64 3]) ∧ Below w.heap.size w w' := by
  exfalso
  omega

set_option maxRecDepth 100000 in
set_option maxHeartbeats 2000000 in
theorem rdec_pad_tp (b off n c : Nat) (zs : List Int) (w : World) (hr : RdAt w (.slice (some ⟨b, off, none⟩) n c) zs) (hn : n ≤ 140737488355328) (hc : c ≤ maxLen) (hb : Bytes zs) (hs : 52 ≤ n) (hq : B.num zs 48 4 = (sumL (zs.take 48) : Int)) (L M : Nat) (hL : B.num zs 5 3 = (L : Int)) (hL8 : L ≤ 8192) (h4 : zs.getD 4 0 = 0) (h8 : zs.getD 8 0 = 0) (h10 : B.num zs 10 6 = 0) (hM : M = L + padN L) (h0 : 0 < M) (hwh : 52 + M + 4 ≤ n) (hq2 : B.num zs (52 + M) 4 = (sumL ((zs.drop 52).take M) : Int)) (q : Nat) (hqP : q < padN L) (hzq : zs.getD (52 + L + q) 0 ≠ 0) (hz0 : ∀ j, j < q → zs.getD (52 + L + j) 0 = 0) :
    Calls Try.prog 14 #[.slice (some ⟨b, off, none⟩) n c, .bool true, .bool true] w fun e w' => e = .returned (.tuple #[.agg (noP.vals (.slice none 0 0)), .int .i64 0, .int .i64 3]) ∧ Below w.heap.size w w' := by
  have hzl := (rd_row hr).1
  have hcn : n ≤ c := by obtain ⟨a', c', hv, h1, h2, h3⟩ := hr; simp only [Value.slice.injEq] at hv; omega
  have hrB : Kpt (∀ W, Below w.heap.size w W → RdAt W (.slice (some ⟨b, off, none⟩) n c) zs) := ⟨fun W h' => hr.bel h'⟩
  have hcl : Kpt (∀ W, Below w.heap.size w W → ∀ j, j < n → W.cell? ⟨b, off + j, none⟩ = some (.int .u8 (zs.getD j 0))) := ⟨fun W h' => (rd_cells (hr.bel h')).2⟩
  have hNum : Kpt (∀ W, Below w.heap.size w W → ∀ i k : Nat, 1 ≤ k → k ≤ 8 → i + k ≤ n → Calls Try.prog 30 #[.slice (some ⟨b, off, none⟩) n c, .int .i64 i, .int .i64 k] W fun e w' => e = .returned (.int .u64 (B.num zs i k)) ∧ w' = W) := ⟨fun W h' i k h1 h2 h3 => rnum_any b off n c i k zs W (by unfold maxLen; omega) h1 h2 h3 hb (hcl.out W h')⟩
  have hS4 := sumL_lt (zs.take 48)
  have hSum : Kpt (∀ W, Below w.heap.size w W → Calls Try.prog 25 #[.slice (some ⟨b, off, none⟩) 48 c] W fun e w' => ∃ g, e = .returned (.slice (some ⟨g, 0, none⟩) 4 4) ∧ w'.ownsRow W.heap.size 5 1 (.slice (some ⟨g, 0, none⟩) 4 4) 4 (cels (bigL (sumL (zs.take 48)) 4)) ∧ Below W.heap.size W w') := ⟨fun W h' => rsum_any _ _ W (rd_take (hr.bel h') 48 (by omega)) (by simp; unfold maxLen; omega) (Bytes.take hb 48)⟩
  have hcv1 : Kpt (∀ W, Below w.heap.size w W → (convert 24 9 (.slice (some ⟨b, off + 48, none⟩) 4 (c - 48))).run Try.prog W = .ok (.string (strOfNums ((zs.drop 48).take 4))) W) := ⟨fun W h' => conv_rd (rd_cut (hr.bel h') 48 4 (by omega) (by omega))⟩
  have hst := str_four zs hb 48 (by omega) (sumL (zs.take 48)) hS4
  obtain ⟨S, hS⟩ : ∃ S, S = bigL (sumL (zs.take 48)) 4 := ⟨_, rfl⟩
  rw [← hS] at hSum hst
  have hcv2 : Kpt (∀ W g, RdAt W (.slice (some ⟨g, 0, none⟩) 4 4) S → (convert 24 9 (.slice (some ⟨g, 0, none⟩) 4 4)).run Try.prog W = .ok (.string (strOfNums S)) W) := ⟨fun W g h' => conv_rd h'⟩
  rw [hst.2 hq] at hcv1
  obtain ⟨s1, hs1⟩ : ∃ s, s = strOfNums S := ⟨_, rfl⟩
  rw [← hs1] at hcv1 hcv2
  clear hS hs1 hst hS4
  have hN5 : Kpt (∀ W, Below w.heap.size w W → Calls Try.prog 30 #[.slice (some ⟨b, off, none⟩) n c, .int .i64 5, .int .i64 3] W fun e w' => e = .returned (.int .u64 (B.num zs 5 3)) ∧ w' = W) := ⟨fun W h' => hNum.out W h' 5 3 (by decide) (by decide) (by omega)⟩
  have hN10 : Kpt (∀ W, Below w.heap.size w W → Calls Try.prog 30 #[.slice (some ⟨b, off, none⟩) n c, .int .i64 10, .int .i64 6] W fun e w' => e = .returned (.int .u64 (B.num zs 10 6)) ∧ w' = W) := ⟨fun W h' => hNum.out W h' 10 6 (by decide) (by decide) (by omega)⟩
  have hx0 := num4 zs hb 5 3 (by decide)
  have hc4 : Kpt (∀ W, Below w.heap.size w W → W.cell? ⟨b, off + 4, none⟩ = some (.int .u8 (zs.getD 4 0)) ∧ W.cell? ⟨b, off + 8, none⟩ = some (.int .u8 (zs.getD 8 0))) := ⟨fun W h' => ⟨hcl.out W h' 4 (by omega), hcl.out W h' 8 (by omega)⟩⟩
  rw [hL] at hN5
  rw [h10] at hN10
  rw [h4, h8] at hc4
  have wL : IntKind.i64.wrap (L : Int) = L := by simp only [IntKind.wrap, IntKind.bits, IntKind.signed]; simp; omega
  have hL8' : ¬ (8192 : Int) < L := by omega
  obtain ⟨P, hP⟩ : ∃ P, P = padN L := ⟨_, rfl⟩
  have hP4 : P ≤ 3 ∧ (L + P) % 4 = 0 := by rw [hP]; unfold padN; omega
  rw [← hP] at hM
  have hM8 : M ≤ 8195 := by omega
  obtain ⟨A, hA⟩ : ∃ A, A = 52 + M := ⟨_, rfl⟩
  have hAe : (52 : Int) + (M : Int) = (A : Int) := by omega
  obtain ⟨I0, hI0⟩ : ∃ A, A = 52 + L := ⟨_, rfl⟩
  have hI0e : (52 : Int) + (L : Int) = (I0 : Int) := by omega
  obtain ⟨N, hN⟩ : ∃ N, N = A + 4 := ⟨_, rfl⟩
  have hNe : (A : Int) + 4 = (N : Int) := by omega
  have hM0 : (0 : Int) < (M : Int) := by omega
  have h1 : ¬ (n : Int) < 52 := by omega
  have c48 : ¬ c = 48 := by omega
  have c52 : ¬ (c : Int) < 52 := by omega
  have c48' : ¬ (c : Int) < 48 := by omega
  have hRl : ((zs.drop 52).take M).length = M := by rw [List.length_take, List.length_drop]; omega
  have hS42 := sumL_lt ((zs.drop 52).take M)
  have hSum2 : Kpt (∀ W, Below w.heap.size w W → Calls Try.prog 25 #[.slice (some ⟨b, off + 52, none⟩) M (c - 52)] W fun e w' => ∃ g, e = .returned (.slice (some ⟨g, 0, none⟩) 4 4) ∧ w'.ownsRow W.heap.size 5 1 (.slice (some ⟨g, 0, none⟩) 4 4) 4 (cels (bigL (sumL ((zs.drop 52).take M)) 4)) ∧ Below W.heap.size W w') := ⟨fun W h' => rsum_any _ _ W (rd_cut (hr.bel h') 52 M (by omega) (by omega)) (by rw [hRl]; unfold maxLen; omega) (Bytes.take (Bytes.drop hb 52) M)⟩
  have hcv3 : Kpt (∀ W, Below w.heap.size w W → (convert 24 9 (.slice (some ⟨b, off + A, none⟩) 4 (c - A))).run Try.prog W = .ok (.string (strOfNums ((zs.drop A).take 4))) W) := ⟨fun W h' => conv_rd (rd_cut (hr.bel h') A 4 (by omega) (by omega))⟩
  have hst2 := str_four zs hb A (by omega) (sumL ((zs.drop 52).take M)) hS42
  have hwA : Kpt (IntKind.i64.wrap (A : Int) = A) := ⟨by simp only [IntKind.wrap, IntKind.bits, IntKind.signed]; simp; omega⟩
  obtain ⟨S2, hS2⟩ : ∃ S, S = bigL (sumL ((zs.drop 52).take M)) 4 := ⟨_, rfl⟩
  rw [← hS2] at hSum2 hst2
  have hcv4 : Kpt (∀ W g, RdAt W (.slice (some ⟨g, 0, none⟩) 4 4) S2 → (convert 24 9 (.slice (some ⟨g, 0, none⟩) 4 4)).run Try.prog W = .ok (.string (strOfNums S2)) W) := ⟨fun W g h' => conv_rd h'⟩
  have hNA : N - A = 4 := by omega
  have hAE : A - 52 = M := by omega
  have kN : ¬ (c : Int) < (N : Int) := by omega
  have kA : ¬ (c : Int) < (A : Int) := by omega
  have kAN : (A : Int) ≤ (N : Int) := by omega
  have kEA : (52 : Int) ≤ (A : Int) := by omega
  have kcA : ¬ c = A := by omega
  have kcE : ¬ c = 52 := by omega
  have hq2x :  B.num zs A 4 = (sumL ((zs.drop 52).take M) : Int) := by rw [hA]; exact hq2
  rw [hst2.2 hq2x] at hcv3
  obtain ⟨s3, hs3⟩ : ∃ s, s = strOfNums S2 := ⟨_, rfl⟩
  rw [← hs3] at hcv3 hcv4
  clear hS2 hs3 hst2 hS42 hq2x hRl
  have hlt : ¬ (n : Int) < (N : Int) := by omega
  rw [← hP] at hqP
  have hzj : Kpt (∀ j, j < q → zs.getD (I0 + j) 0 = 0) := ⟨fun j hj => by rw [hI0]; exact hz0 j hj⟩
  obtain ⟨y, hy⟩ : ∃ y, y = zs.getD (I0 + q) 0 := ⟨_, rfl⟩
  have hyn : (y != 0) = true := by rw [hy, hI0]; simpa using hzq
  replace hy := Kpt.mk hy
  have hIA : Kpt (A = I0 + P ∧ A ≤ n) := ⟨by omega, by omega⟩
  clear hr hzl hNum hrB hL h4 h8 h10 hP hq hb hwh hzq hz0 hA hI0 hq2 hN h0
  unfold maxLen at hc
  replace hM := Kpt.mk hM
  go_enter Try.func14, Try.ntmps14
  go_wp2_with (first
    | (refine wpList_var rfl 26 rfl (noP.vals (.slice none 0 0)) zeroPi ?_; intro B0 w0 hB0 hX hbc; replace hX := Kpt.mk hX; replace hB0 := Kpt.mk hB0; replace hbc := Kpt.mk hbc)
    | fail)
  refine wp_region_any (by kernel_rfl) ?_
  refine wpAny_of_C (C := fun W => Below w.heap.size w W) _ _ _ _ ?_
  refine wpAnyC_take 0 (.bool true) rfl (by kernel_rfl) (by kernel_rfl) (by kernel_rfl) (fun _ _ _ h => h) (wanted_free rfl _) (fun W hW => by go_simp) ?_
  try simp only [Act.put, List.getElem_toArray, List.getElem_cons_succ, List.getElem_cons_zero, List.setIfInBounds_toArray, List.set_cons_succ, List.set_cons_zero]
  refine wpAnyC_take 1 (.bool true) rfl (by kernel_rfl) (by kernel_rfl) (by kernel_rfl) (fun _ _ _ h => h) (wanted_free rfl _) (fun W hW => by go_simp) ?_
  try simp only [Act.put, List.getElem_toArray, List.getElem_cons_succ, List.getElem_cons_zero, List.setIfInBounds_toArray, List.set_cons_succ, List.set_cons_zero]
  refine wpAnyC_take 2 (.slice (some ⟨b, off, none⟩) n c) rfl (by kernel_rfl) (by kernel_rfl) (by kernel_rfl) (fun _ _ _ h => h) (wanted_at true rfl rfl rfl rfl) (fun W hW => by go_simp) ?_
  try simp only [Act.put, List.getElem_toArray, List.getElem_cons_succ, List.getElem_cons_zero, List.setIfInBounds_toArray, List.set_cons_succ, List.set_cons_zero]
  refine wpAnyC_take 3 (.slice (some ⟨b, off + 48, none⟩) 4 (c - 48)) rfl (by kernel_rfl) (by kernel_rfl) (by kernel_rfl) (fun _ _ _ h => h) (wanted_at true rfl rfl rfl rfl) (fun W hW => by go_simp) ?_
  try simp only [Act.put, List.getElem_toArray, List.getElem_cons_succ, List.getElem_cons_zero, List.setIfInBounds_toArray, List.set_cons_succ, List.set_cons_zero]
  refine wpAnyC_take 4 (.string s1) rfl (by kernel_rfl) (by kernel_rfl) (by kernel_rfl) (fun _ _ _ h => h) (wanted_at true rfl rfl rfl rfl) (fun W hW => by have hq1 := hcv1.out W hW; go_simp) ?_
  try simp only [Act.put, List.getElem_toArray, List.getElem_cons_succ, List.getElem_cons_zero, List.setIfInBounds_toArray, List.set_cons_succ, List.set_cons_zero]
  refine wpAnyC_take 5 (.slice (some ⟨b, off, none⟩) n c) rfl (by kernel_rfl) (by kernel_rfl) (by kernel_rfl) (fun _ _ _ h => h) (wanted_at true rfl rfl rfl rfl) (fun W hW => by go_simp) ?_
  try simp only [Act.put, List.getElem_toArray, List.getElem_cons_succ, List.getElem_cons_zero, List.setIfInBounds_toArray, List.set_cons_succ, List.set_cons_zero]
  refine wpAnyC_take 6 (.slice (some ⟨b, off, none⟩) 48 c) rfl (by kernel_rfl) (by kernel_rfl) (by kernel_rfl) (fun _ _ _ h => h) (wanted_at true rfl rfl rfl rfl) (fun W hW => by go_simp) ?_
  try simp only [Act.put, List.getElem_toArray, List.getElem_cons_succ, List.getElem_cons_zero, List.setIfInBounds_toArray, List.set_cons_succ, List.set_cons_zero]
  refine wpAnyC_one 7 (hbc.out.drew) rfl (by kernel_rfl) (wanted_at true rfl rfl rfl rfl) (fun KA hKA => ?_)
  go_simp
  refine (hSum.out _ hbc.out.drew).mono ?_
  rintro e wc ⟨g1, rfl, ho1, hbe1⟩
  replace hbe1 := below_undrew hbe1
  replace hX : Kpt (Bx wc B0 (noP.vals (.slice none 0 0))) := ⟨hX.out.below hbe1 hX.out.lt⟩
  replace hbc : Kpt (Below w.heap.size w wc) := ⟨hbc.out.trans (hbe1.mono hbc.out.size)⟩
  have hro1 : Kpt (RdAt wc (.slice (some ⟨g1, 0, none⟩) 4 4) S) := ⟨own_rd ho1⟩
  clear hbe1 ho1
  refine hKA _ _ ?_
  clear hKA KA
  try simp only [Act.put, List.getElem_toArray, List.getElem_cons_succ, List.getElem_cons_zero, List.setIfInBounds_toArray, List.set_cons_succ, List.set_cons_zero]
  refine wpAnyC_mono (C' := fun W => Sm wc W) (fun W h => hbc.out.trans (h.bel.mono hbc.out.size)) _ _ _ _ ?_
  refine wpAnyC_take 8 (.string s1) rfl (by kernel_rfl) (by kernel_rfl) (by kernel_rfl) (fun _ _ _ h => h) (wanted_at true rfl rfl rfl rfl) (fun W hW => by have hq2 := hcv2.out W g1 (hW.rd hro1.out); go_simp) ?_
  try simp only [Act.put, List.getElem_toArray, List.getElem_cons_succ, List.getElem_cons_zero, List.setIfInBounds_toArray, List.set_cons_succ, List.set_cons_zero]
  refine wpAnyC_take 9 (.bool false) rfl (by kernel_rfl) (by kernel_rfl) (by kernel_rfl) (fun _ _ _ h => h) (wanted_at true rfl rfl rfl rfl) (fun W hW => by go_simp) ?_
  try simp only [Act.put, List.getElem_toArray, List.getElem_cons_succ, List.getElem_cons_zero, List.setIfInBounds_toArray, List.set_cons_succ, List.set_cons_zero]
  refine wpAnyC_take 10 (.bool false) rfl (by kernel_rfl) (by kernel_rfl) (by kernel_rfl) (fun _ _ _ h => h) (wanted_free rfl _) (fun W hW => by go_simp) ?_
  try simp only [Act.put, List.getElem_toArray, List.getElem_cons_succ, List.getElem_cons_zero, List.setIfInBounds_toArray, List.set_cons_succ, List.set_cons_zero]
  refine wpAnyC_done (Sm.refl _) (by kernel_rfl) ?_
  have hcc := hc4.out _ hbc.out
  go_wp2_with (first
    | (go_at_call 30; have hm := m1; go_must (refine (hN10.out _ hbc.out).mono ?_; rintro e wc' ⟨rfl, rfl⟩))
    | (go_at_call 30; go_must (refine (hN5.out _ hbc.out).mono ?_; rintro e wc' ⟨rfl, rfl⟩; have m1 : Kpt True := ⟨trivial⟩)))
  clear hcc
  go_loop [11] (fun t => ∃ j : Nat, j ≤ P ∧ t = .int .i64 ((L + j : Nat) : Int)) (fun t => L + 4 - (intOf t).toNat)
  case atStart => exact ⟨0, by omega, rfl⟩
  case round =>
    obtain ⟨j, hj, rfl⟩ := hrel
    by_cases hjP : j < P
    · have hrem2 : ¬ ((L + j : Nat) : Int).tmod 4 = 0 := by rw [Int.tmod_eq_emod_of_nonneg (by omega)]; omega
      go_wp2
      go_round
      case rel => exact ⟨j + 1, by omega, by go_num⟩
      case measure => simp [intOf]; omega
    · have hjM : L + j = M := by have := hM.out; omega
      have hrem2 : (M : Int).tmod 4 = 0 := by have := hM.out; rw [Int.tmod_eq_emod_of_nonneg (by omega)]; omega
      rw [hjM]
      clear hjP hj hjM j
      go_wp2_with fail
      refine wp_region_any (by kernel_rfl) ?_
      refine wpAny_of_C (C := fun W => Below w.heap.size w W) _ _ _ _ ?_
      refine wpAnyC_take 0 (.bool true) rfl (by kernel_rfl) (by kernel_rfl) (by kernel_rfl) (fun _ _ _ h => h) (wanted_free rfl _) (fun W hW => by go_simp) ?_
      try simp only [Act.put, List.getElem_toArray, List.getElem_cons_succ, List.getElem_cons_zero, List.setIfInBounds_toArray, List.set_cons_succ, List.set_cons_zero]
      refine wpAnyC_take 1 (.bool true) rfl (by kernel_rfl) (by kernel_rfl) (by kernel_rfl) (fun _ _ _ h => h) (wanted_free rfl _) (fun W hW => by go_simp) ?_
      try simp only [Act.put, List.getElem_toArray, List.getElem_cons_succ, List.getElem_cons_zero, List.setIfInBounds_toArray, List.set_cons_succ, List.set_cons_zero]
      refine wpAnyC_take 2 (.int .i64 M) rfl (by kernel_rfl) (by kernel_rfl) (by kernel_rfl) (fun _ _ _ h => h) (wanted_at true rfl rfl rfl rfl) (fun W hW => by go_simp) ?_
      try simp only [Act.put, List.getElem_toArray, List.getElem_cons_succ, List.getElem_cons_zero, List.setIfInBounds_toArray, List.set_cons_succ, List.set_cons_zero]
      refine wpAnyC_take 3 (.bool true) rfl (by kernel_rfl) (by kernel_rfl) (by kernel_rfl) (fun _ _ _ h => h) (wanted_at true rfl rfl rfl rfl) (fun W hW => by first | (go_simp; done) | (go_simp; omega)) ?_
      try simp only [Act.put, List.getElem_toArray, List.getElem_cons_succ, List.getElem_cons_zero, List.setIfInBounds_toArray, List.set_cons_succ, List.set_cons_zero]
      refine wpAnyC_take 4 (.bool true) rfl (by kernel_rfl) (by kernel_rfl) (by kernel_rfl) (fun _ _ _ h => h) (wanted_free rfl _) (fun W hW => by go_simp) ?_
      try simp only [Act.put, List.getElem_toArray, List.getElem_cons_succ, List.getElem_cons_zero, List.setIfInBounds_toArray, List.set_cons_succ, List.set_cons_zero]
      refine wpAnyC_take 5 (.bool true) rfl (by kernel_rfl) (by kernel_rfl) (by kernel_rfl) (fun _ _ _ h => h) (wanted_free rfl _) (fun W hW => by go_simp) ?_
      try simp only [Act.put, List.getElem_toArray, List.getElem_cons_succ, List.getElem_cons_zero, List.setIfInBounds_toArray, List.set_cons_succ, List.set_cons_zero]
      refine wpAnyC_take 6 (.slice (some ⟨b, off, none⟩) n c) rfl (by kernel_rfl) (by kernel_rfl) (by kernel_rfl) (fun _ _ _ h => h) (wanted_at true rfl rfl rfl rfl) (fun W hW => by go_simp) ?_
      try simp only [Act.put, List.getElem_toArray, List.getElem_cons_succ, List.getElem_cons_zero, List.setIfInBounds_toArray, List.set_cons_succ, List.set_cons_zero]
      refine wpAnyC_take 7 (.int .i64 52) rfl (by kernel_rfl) (by kernel_rfl) (by kernel_rfl) (fun _ _ _ h => h) (wanted_at true rfl rfl rfl rfl) (fun W hW => by go_simp) ?_
      try simp only [Act.put, List.getElem_toArray, List.getElem_cons_succ, List.getElem_cons_zero, List.setIfInBounds_toArray, List.set_cons_succ, List.set_cons_zero]
      refine wpAnyC_take 8 (.int .i64 M) rfl (by kernel_rfl) (by kernel_rfl) (by kernel_rfl) (fun _ _ _ h => h) (wanted_at true rfl rfl rfl rfl) (fun W hW => by go_simp) ?_
      try simp only [Act.put, List.getElem_toArray, List.getElem_cons_succ, List.getElem_cons_zero, List.setIfInBounds_toArray, List.set_cons_succ, List.set_cons_zero]
      refine wpAnyC_take 9 (.int .i64 A) rfl (by kernel_rfl) (by kernel_rfl) (by kernel_rfl) (fun _ _ _ h => h) (wanted_at true rfl rfl rfl rfl) (fun W hW => by have wA := hwA.out; go_simp) ?_
      try simp only [Act.put, List.getElem_toArray, List.getElem_cons_succ, List.getElem_cons_zero, List.setIfInBounds_toArray, List.set_cons_succ, List.set_cons_zero]
      refine wpAnyC_take 10 (.int .i64 N) rfl (by kernel_rfl) (by kernel_rfl) (by kernel_rfl) (fun _ _ _ h => h) (wanted_at true rfl rfl rfl rfl) (fun W hW => by go_simp) ?_
      try simp only [Act.put, List.getElem_toArray, List.getElem_cons_succ, List.getElem_cons_zero, List.setIfInBounds_toArray, List.set_cons_succ, List.set_cons_zero]
      refine wpAnyC_take 11 (.slice (some ⟨b, off + A, none⟩) 4 (c - A)) rfl (by kernel_rfl) (by kernel_rfl) (by kernel_rfl) (fun _ _ _ h => h) (wanted_at true rfl rfl rfl rfl) (fun W hW => by go_simp) ?_
      try simp only [Act.put, List.getElem_toArray, List.getElem_cons_succ, List.getElem_cons_zero, List.setIfInBounds_toArray, List.set_cons_succ, List.set_cons_zero]
      refine wpAnyC_take 12 (.string s3) rfl (by kernel_rfl) (by kernel_rfl) (by kernel_rfl) (fun _ _ _ h => h) (wanted_at true rfl rfl rfl rfl) (fun W hW => by have hq1 := hcv3.out W hW; go_simp) ?_
      try simp only [Act.put, List.getElem_toArray, List.getElem_cons_succ, List.getElem_cons_zero, List.setIfInBounds_toArray, List.set_cons_succ, List.set_cons_zero]
      refine wpAnyC_take 13 (.slice (some ⟨b, off, none⟩) n c) rfl (by kernel_rfl) (by kernel_rfl) (by kernel_rfl) (fun _ _ _ h => h) (wanted_at true rfl rfl rfl rfl) (fun W hW => by go_simp) ?_
      try simp only [Act.put, List.getElem_toArray, List.getElem_cons_succ, List.getElem_cons_zero, List.setIfInBounds_toArray, List.set_cons_succ, List.set_cons_zero]
      refine wpAnyC_take 14 (.int .i64 52) rfl (by kernel_rfl) (by kernel_rfl) (by kernel_rfl) (fun _ _ _ h => h) (wanted_at true rfl rfl rfl rfl) (fun W hW => by go_simp) ?_
      try simp only [Act.put, List.getElem_toArray, List.getElem_cons_succ, List.getElem_cons_zero, List.setIfInBounds_toArray, List.set_cons_succ, List.set_cons_zero]
      refine wpAnyC_take 15 (.int .i64 52) rfl (by kernel_rfl) (by kernel_rfl) (by kernel_rfl) (fun _ _ _ h => h) (wanted_at true rfl rfl rfl rfl) (fun W hW => by go_simp) ?_
      try simp only [Act.put, List.getElem_toArray, List.getElem_cons_succ, List.getElem_cons_zero, List.setIfInBounds_toArray, List.set_cons_succ, List.set_cons_zero]
      refine wpAnyC_take 16 (.int .i64 M) rfl (by kernel_rfl) (by kernel_rfl) (by kernel_rfl) (fun _ _ _ h => h) (wanted_at true rfl rfl rfl rfl) (fun W hW => by go_simp) ?_
      try simp only [Act.put, List.getElem_toArray, List.getElem_cons_succ, List.getElem_cons_zero, List.setIfInBounds_toArray, List.set_cons_succ, List.set_cons_zero]
      refine wpAnyC_take 17 (.int .i64 A) rfl (by kernel_rfl) (by kernel_rfl) (by kernel_rfl) (fun _ _ _ h => h) (wanted_at true rfl rfl rfl rfl) (fun W hW => by have wA := hwA.out; go_simp) ?_
      try simp only [Act.put, List.getElem_toArray, List.getElem_cons_succ, List.getElem_cons_zero, List.setIfInBounds_toArray, List.set_cons_succ, List.set_cons_zero]
      refine wpAnyC_take 18 (.slice (some ⟨b, off + 52, none⟩) M (c - 52)) rfl (by kernel_rfl) (by kernel_rfl) (by kernel_rfl) (fun _ _ _ h => h) (wanted_at true rfl rfl rfl rfl) (fun W hW => by go_simp) ?_
      try simp only [Act.put, List.getElem_toArray, List.getElem_cons_succ, List.getElem_cons_zero, List.setIfInBounds_toArray, List.set_cons_succ, List.set_cons_zero]
      refine wpAnyC_one 19 (hbc.out.drew) rfl (by kernel_rfl) (wanted_at true rfl rfl rfl rfl) (fun KA hKA => ?_)
      go_simp
      refine (hSum2.out _ hbc.out.drew).mono ?_
      rintro e wd ⟨g2, rfl, ho2, hbe2⟩
      replace hbe2 := below_undrew hbe2
      replace hX : Kpt (Bx wd B0 (noP.vals (.slice none 0 0))) := ⟨hX.out.below hbe2 hX.out.lt⟩
      replace hbc : Kpt (Below w.heap.size w wd) := ⟨hbc.out.trans (hbe2.mono hbc.out.size)⟩
      have hro2 : Kpt (RdAt wd (.slice (some ⟨g2, 0, none⟩) 4 4) S2) := ⟨own_rd ho2⟩
      clear hbe2 ho2
      refine hKA _ _ ?_
      clear hKA KA
      try simp only [Act.put, List.getElem_toArray, List.getElem_cons_succ, List.getElem_cons_zero, List.setIfInBounds_toArray, List.set_cons_succ, List.set_cons_zero]
      refine wpAnyC_mono (C' := fun W => Sm wd W) (fun W h => hbc.out.trans (h.bel.mono hbc.out.size)) _ _ _ _ ?_
      refine wpAnyC_take 20 (.string s3) rfl (by kernel_rfl) (by kernel_rfl) (by kernel_rfl) (fun _ _ _ h => h) (wanted_at true rfl rfl rfl rfl) (fun W hW => by have hq2 := hcv4.out W g2 (hW.rd hro2.out); go_simp) ?_
      try simp only [Act.put, List.getElem_toArray, List.getElem_cons_succ, List.getElem_cons_zero, List.setIfInBounds_toArray, List.set_cons_succ, List.set_cons_zero]
      refine wpAnyC_take 21 (.bool false) rfl (by kernel_rfl) (by kernel_rfl) (by kernel_rfl) (fun _ _ _ h => h) (wanted_at true rfl rfl rfl rfl) (fun W hW => by go_simp) ?_
      try simp only [Act.put, List.getElem_toArray, List.getElem_cons_succ, List.getElem_cons_zero, List.setIfInBounds_toArray, List.set_cons_succ, List.set_cons_zero]
      refine wpAnyC_take 22 (.bool false) rfl (by kernel_rfl) (by kernel_rfl) (by kernel_rfl) (fun _ _ _ h => h) (wanted_free rfl _) (fun W hW => by go_simp) ?_
      try simp only [Act.put, List.getElem_toArray, List.getElem_cons_succ, List.getElem_cons_zero, List.setIfInBounds_toArray, List.set_cons_succ, List.set_cons_zero]
      refine wpAnyC_done (Sm.refl _) (by kernel_rfl) ?_
      go_wp2_with fail
      go_loop [13] (fun t => ∃ j : Nat, j ≤ q ∧ t = .int .i64 ((I0 + j : Nat) : Int)) (fun t => I0 + 4 - (intOf t).toNat)
      case atStart => exact ⟨0, by omega, rfl⟩
      case round =>
        obtain ⟨j, hj, rfl⟩ := hrel
        by_cases hjP : j < q
        · have hlt2 : ((I0 + j : Nat) : Int) < (A : Int) := by have := hM.out; have := hIA.out; omega
          have hcj := hcl.out _ hbc.out (I0 + j) (by have := hM.out; have := hIA.out; omega)
          rw [hzj.out j hjP] at hcj
          have hnj : ((I0 + j : Nat) : Int) < (n : Int) := by have := hM.out; have := hIA.out; omega
          go_wp2
          go_round
          case rel => exact ⟨j + 1, by omega, by go_num⟩
          case measure => simp [intOf]; omega
        · obtain rfl : j = q := by omega
          have hlt2 : ((I0 + j : Nat) : Int) < (A : Int) := by have := hM.out; have := hIA.out; omega
          have hcj := hcl.out _ hbc.out (I0 + j) (by have := hM.out; have := hIA.out; omega)
          rw [← hy.out] at hcj
          have hnj : ((I0 + j : Nat) : Int) < (n : Int) := by have := hM.out; have := hIA.out; omega
          go_wp2_with (first
            | (refine (?_ : wpList _ _ _ (Oper.mk none (Op.store _ _ _) _ _ _ _ :: _) _ _); go_must (refine wpList_store_bx rfl 26 (.tmp 6) (.tmp 117) rfl B0 (noP.vals (.slice none 0 0)) (noP.vals (.slice none 0 0)) rfl rfl hX.out rfl sizeP (Pd.one noP none 0 0) rfl ?_; intro wz hXz hgz; have hbz : Kpt (Below w.heap.size w wz) := ⟨hbc.out.grown hgz hbc.out.size (fun k h => by cases h; exact hB0.out)⟩; replace hXz := Kpt.mk hXz; clear hgz))
            | (refine (?_ : wpList _ _ _ (Oper.mk (some 117) (Op.build _ _) _ _ _ _ :: _) _ _); refine wpList_of_exec rfl (by kernel_rfl : _ = Result.ok (.value (.agg (noP.vals (.slice none 0 0)))) _) ?_))
          refine bodyPost_ret (v := .tuple #[.agg (noP.vals (.slice none 0 0)), .int .i64 0, .int .i64 3]) (by simp [results, Try.results14, asAddr, Act.put, run_res hXz.out 26 _ Try.underlying26 rfl sizeP]) rfl ⟨rfl, hbz.out⟩
end Go.Proofs.Ytigfoldobkigeaa
