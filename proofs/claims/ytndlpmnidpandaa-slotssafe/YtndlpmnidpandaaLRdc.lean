/-
  Slots: the document's Decode.
-/
import Derived.Test.YtndlpmnidpandaaLRrc
namespace Go.Proofs.Ytndlpmnidpandaa
open Go.RowKit
set_option linter.unusedVariables false
set_option linter.unusedSimpArgs false

/-- The bytes have the form of a slot. -/
def Front (zs : List Int) (k : Nat) : Prop := 16 ≤ zs.length ∧ zs.take 4 = [83, 76, 79, 84] ∧ B.num zs 12 4 = (k : Int) ∧ k ≤ 4096 ∧ 20 + k ≤ zs.length

set_option maxRecDepth 100000 in
set_option maxHeartbeats 1000000 in
theorem rdec_short (a : Option Addr) (n c : Nat) (w : World) (hn : n < 16) :
    Calls Try.prog 10 #[.slice a n c] w fun e w' => e = .returned (.tuple #[.int .u64 0, .slice none 0 0, .int .i64 3]) ∧ w' = w := by
  have h1 : (n : Int) < 16 := by omega
  go_enter Try.func10, Try.ntmps10
  go_wp2
  go_ret3
  exact ⟨rfl, rfl⟩

theorem conv4 {w : World} {b off n c : Nat} {zs : List Int} (h : RdAt w (.slice (some ⟨b, off, none⟩) n c) zs) (hl : zs.length = n) (hn : 16 ≤ n) : (convert 23 9 (.slice (some ⟨b, off, none⟩) 4 c)).run Try.prog w = .ok (.string (strOfNums (zs.take 4))) w :=
  conv_rd w _ _ (rd_take h 4 (by omega))
theorem mark_eq (A : List Int) (hA : Bytes A) : ((strOfNums A).toList == ([83, 76, 79, 84] : List UInt8)) = decide (A = [83, 76, 79, 84]) := by
  have e : ([83, 76, 79, 84] : List UInt8) = (strOfNums [83, 76, 79, 84]).toList := by rw [Go.Lib.strOfNums_toList]; rfl
  rw [e]
  by_cases h : A = [83, 76, 79, 84]
  · subst h; simp
  · rw [decide_eq_false h, beq_eq_false_iff_ne]
    intro e
    rw [Go.Lib.strOfNums_toList, Go.Lib.strOfNums_toList] at e
    exact h (str_inj hA (bytes_mem (by simp)) (by unfold strOfNums; exact congrArg (fun l => ByteArray.mk l.toArray) e))

set_option maxRecDepth 100000 in
set_option maxHeartbeats 1000000 in
theorem rdec_mark (b off n c : Nat) (zs : List Int) (w : World) (hr : RdAt w (.slice (some ⟨b, off, none⟩) n c) zs) (hl : zs.length = n) (hb : Bytes zs) (hn : 16 ≤ n) (hmk : ¬ zs.take 4 = [83, 76, 79, 84]) :
    Calls Try.prog 10 #[.slice (some ⟨b, off, none⟩) n c] w fun e w' => e = .returned (.tuple #[.int .u64 0, .slice none 0 0, .int .i64 3]) ∧ w' = w := by
  have h1 : ¬ (n : Int) < 16 := by omega
  have hc : n ≤ c := (rd_some hr (by omega)).1
  have h4 : (4 : Int) ≤ c := by omega
  have hcv := conv4 hr hl hn
  have hne := mark_eq (zs.take 4) (Bytes.take hb 4)
  rw [decide_eq_false hmk] at hne
  obtain ⟨T, hT⟩ : ∃ T, T = strOfNums (zs.take 4) := ⟨_, rfl⟩
  rw [← hT] at hcv hne
  clear hT hr hl hb hmk
  go_enter Try.func10, Try.ntmps10
  go_wp2
  go_ret3
  exact ⟨rfl, rfl⟩

set_option maxRecDepth 100000 in
set_option maxHeartbeats 1000000 in
theorem rdec_long (b off n c : Nat) (zs : List Int) (w : World) (hr : RdAt w (.slice (some ⟨b, off, none⟩) n c) zs) (hl : zs.length = n) (hm : n ≤ 140737488355328) (hb : Bytes zs) (hn : 16 ≤ n) (hmk : zs.take 4 = [83, 76, 79, 84]) (k : Nat) (hk : B.num zs 12 4 = (k : Int)) (hk2 : 4096 < k) (hk3 : k < 4294967296) :
    Calls Try.prog 10 #[.slice (some ⟨b, off, none⟩) n c] w fun e w' => e = .returned (.tuple #[.int .u64 0, .slice none 0 0, .int .i64 3]) ∧ w' = w := by
  have h1 : ¬ (n : Int) < 16 := by omega
  have hc : n ≤ c := (rd_some hr (by omega)).1
  have h4 : (4 : Int) ≤ c := by omega
  have hcv := conv4 hr hl hn
  have hne := mark_eq (zs.take 4) (Bytes.take hb 4)
  rw [decide_eq_true hmk] at hne
  obtain ⟨T, hT⟩ : ∃ T, T = strOfNums (zs.take 4) := ⟨_, rfl⟩
  rw [← hT] at hcv hne
  have hcl := (rd_cells hr).2
  have hmx : n ≤ maxLen := by unfold maxLen; omega
  have HN : Kpt (∀ W : World, W.heap = w.heap → Calls Try.prog 29 #[.slice (some ⟨b, off, none⟩) n c, .int .i64 12, .int .i64 4] W fun e w' => e = .returned (.int .u64 k) ∧ w' = W) := ⟨fun W hW => by
    have hx := rnum_any b off n c 12 4 zs W hmx (by decide) (by decide) (by omega) hb (fun j hj => by unfold World.cell?; rw [hW]; exact hcl j hj)
    rw [hk] at hx
    exact hx⟩
  have hkl : (4096 : Int) < k := by omega
  clear hT hr hl hb hmk hk hcl
  go_enter Try.func10, Try.ntmps10
  go_wp2_with (go_at_call 29; go_must (refine (HN.out _ (by rfl)).mono ?_; rintro e w1 ⟨rfl, h1w⟩; have h1w2 := h1w.symm; subst h1w2; clear HN))
  go_ret3
  exact ⟨rfl, rfl⟩

set_option maxRecDepth 100000 in
set_option maxHeartbeats 1000000 in
theorem rdec_cut (b off n c : Nat) (zs : List Int) (w : World) (hr : RdAt w (.slice (some ⟨b, off, none⟩) n c) zs) (hl : zs.length = n) (hm : n ≤ 140737488355328) (hb : Bytes zs) (hn : 16 ≤ n) (hmk : zs.take 4 = [83, 76, 79, 84]) (k : Nat) (hk : B.num zs 12 4 = (k : Int)) (hk2 : k ≤ 4096) (hct : n < 20 + k) :
    Calls Try.prog 10 #[.slice (some ⟨b, off, none⟩) n c] w fun e w' => e = .returned (.tuple #[.int .u64 0, .slice none 0 0, .int .i64 3]) ∧ w' = w := by
  have h1 : ¬ (n : Int) < 16 := by omega
  have hc : n ≤ c := (rd_some hr (by omega)).1
  have h4 : (4 : Int) ≤ c := by omega
  have hcv := conv4 hr hl hn
  have hne := mark_eq (zs.take 4) (Bytes.take hb 4)
  rw [decide_eq_true hmk] at hne
  obtain ⟨T, hT⟩ : ∃ T, T = strOfNums (zs.take 4) := ⟨_, rfl⟩
  rw [← hT] at hcv hne
  have hcl := (rd_cells hr).2
  have hmx : n ≤ maxLen := by unfold maxLen; omega
  have HN : Kpt (∀ W : World, W.heap = w.heap → Calls Try.prog 29 #[.slice (some ⟨b, off, none⟩) n c, .int .i64 12, .int .i64 4] W fun e w' => e = .returned (.int .u64 k) ∧ w' = W) := ⟨fun W hW => by
    have hx := rnum_any b off n c 12 4 zs W hmx (by decide) (by decide) (by omega) hb (fun j hj => by unfold World.cell?; rw [hW]; exact hcl j hj)
    rw [hk] at hx
    exact hx⟩
  have hkl : ¬ (4096 : Int) < k := by omega
  have hw1 : IntKind.u64.wrap (n : Int) = n := B.wrap64_id _ (by omega) (by omega)
  have hw2 : IntKind.u64.wrap (20 + (k : Int)) = 20 + (k : Int) := B.wrap64_id _ (by omega) (by omega)
  have hlt : (n : Int) < 20 + (k : Int) := by omega
  clear hT hr hl hb hmk hk hcl
  go_enter Try.func10, Try.ntmps10
  go_wp2_with (go_at_call 29; go_must (refine (HN.out _ (by rfl)).mono ?_; rintro e w1 ⟨rfl, h1w⟩; have h1w2 := h1w.symm; subst h1w2; clear HN))
  go_ret3
  exact ⟨rfl, rfl⟩

set_option maxRecDepth 100000 in
set_option maxHeartbeats 1000000 in
theorem rdec_sum (b off n c : Nat) (zs : List Int) (w : World) (hr : RdAt w (.slice (some ⟨b, off, none⟩) n c) zs) (hl : zs.length = n) (hm : n ≤ 140737488355328) (hb : Bytes zs) (hn : 16 ≤ n) (hmk : zs.take 4 = [83, 76, 79, 84]) (k : Nat) (hk : B.num zs 12 4 = (k : Int)) (hk2 : k ≤ 4096) (hct : 20 + k ≤ n) (hsm : ¬ B.num zs (16 + k) 4 = (sumL (zs.take (16 + k)) : Int)) :
    Calls Try.prog 10 #[.slice (some ⟨b, off, none⟩) n c] w fun e w' => e = .returned (.tuple #[.int .u64 0, .slice none 0 0, .int .i64 5]) ∧ Below w.heap.size w w' := by
  have h1 : ¬ (n : Int) < 16 := by omega
  have hc : n ≤ c := (rd_some hr (by omega)).1
  have h4 : (4 : Int) ≤ c := by omega
  have hcv := conv4 hr hl hn
  have hne := mark_eq (zs.take 4) (Bytes.take hb 4)
  rw [decide_eq_true hmk] at hne
  obtain ⟨T, hT⟩ : ∃ T, T = strOfNums (zs.take 4) := ⟨_, rfl⟩
  rw [← hT] at hcv hne
  have hcl := (rd_cells hr).2
  have hmx : n ≤ maxLen := by unfold maxLen; omega
  have HN : Kpt (∀ W : World, W.heap = w.heap → Calls Try.prog 29 #[.slice (some ⟨b, off, none⟩) n c, .int .i64 12, .int .i64 4] W fun e w' => e = .returned (.int .u64 k) ∧ w' = W) := ⟨fun W hW => by
    have hx := rnum_any b off n c 12 4 zs W hmx (by decide) (by decide) (by omega) hb (fun j hj => by unfold World.cell?; rw [hW]; exact hcl j hj)
    rw [hk] at hx
    exact hx⟩
  have hkl : ¬ (4096 : Int) < k := by omega
  have hw1 : IntKind.u64.wrap (n : Int) = n := B.wrap64_id _ (by omega) (by omega)
  have hw2 : IntKind.u64.wrap (20 + (k : Int)) = 20 + (k : Int) := B.wrap64_id _ (by omega) (by omega)
  have hlt : ¬ (n : Int) < 20 + (k : Int) := by omega
  obtain ⟨E, hE⟩ : ∃ E, E = 16 + k := ⟨_, rfl⟩
  have eE : (16 : Int) + k = (E : Int) := by omega
  have hw3 : IntKind.u64.wrap (E : Int) = E := B.wrap64_id _ (by omega) (by omega)
  have hw4 : IntKind.i64.wrap (E : Int) = E := by rw [IntKind.wrap_i64]; omega
  have hEc : (E : Int) ≤ c := by omega
  have hE4 : E + 4 ≤ n := by omega
  have HS : Kpt (∀ W : World, W.heap = w.heap → Calls Try.prog 29 #[.slice (some ⟨b, off, none⟩) n c, .int .i64 E, .int .i64 4] W fun e w' => e = .returned (.int .u64 (B.num zs E 4)) ∧ w' = W) := ⟨fun W hW => by
    have hx := rnum_any b off n c E 4 zs W hmx (by decide) (by decide) (by omega) hb (fun j hj => by unfold World.cell?; rw [hW]; exact hcl j hj)
    exact hx⟩
  have hSl := sumL_lt (zs.take E)
  obtain ⟨S, hS⟩ : ∃ S, S = sumL (zs.take E) := ⟨_, rfl⟩
  have HC : Kpt (∀ W : World, W.heap = w.heap → Calls Try.prog 30 #[.slice (some ⟨b, off, none⟩) E c] W fun e w' => e = .returned (.int .u32 (S : Int)) ∧ w' = W) := ⟨fun W hW => by
    rw [hS]
    exact rc32_any (some ⟨b, off, none⟩) E c (zs.take E) W (by rw [List.length_take]; omega) (by unfold maxLen; omega) (Bytes.take hb E) (.inr ⟨b, off, rfl, fun j hj => by
      unfold World.cell?; rw [hW]
      have hx := hcl j (by omega)
      unfold World.cell? at hx
      rw [hx]
      simp [List.getD_eq_getElem?_getD, hj]⟩)⟩
  rw [← hS] at hSl
  have hw5 : IntKind.u64.wrap (S : Int) = S := B.wrap64_id _ (by omega) (by omega)
  obtain ⟨N, hN⟩ : ∃ N, N = B.num zs E 4 := ⟨_, rfl⟩
  rw [← hN] at HS
  have hcmp : ¬ N = (S : Int) := by rw [hN, hS, hE]; exact hsm
  clear hsm hS hN hE
  clear hT hr hl hb hmk hk hcl
  go_enter Try.func10, Try.ntmps10
  go_wp2_with (go_at_call 29; go_must (refine (HN.out _ (by rfl)).mono ?_; rintro e w1 ⟨rfl, h1w⟩; have h1w2 := h1w.symm; subst h1w2; clear HN))
  refine wp_region_any (by kernel_rfl) ?_
  refine wpAny_of_C (C := fun W => W.heap = w.heap) _ _ _ _ ?_
  refine wpAnyC_take 0 (.slice (some ⟨b, off, none⟩) n c) rfl (by kernel_rfl) (by kernel_rfl) (by kernel_rfl) (fun _ _ _ h => h) (wanted_free rfl _) (fun W hW => by go_simp) ?_
  try simp only [Act.put, List.getElem_toArray, List.getElem_cons_succ, List.getElem_cons_zero, List.setIfInBounds_toArray, List.set_cons_succ, List.set_cons_zero]
  refine wpAnyC_take 1 (.int .u64 k) rfl (by kernel_rfl) (by kernel_rfl) (by kernel_rfl) (fun _ _ _ h => h) (wanted_free rfl _) (fun W hW => by go_simp) ?_
  try simp only [Act.put, List.getElem_toArray, List.getElem_cons_succ, List.getElem_cons_zero, List.setIfInBounds_toArray, List.set_cons_succ, List.set_cons_zero]
  refine wpAnyC_take 2 (.int .u64 E) rfl (by kernel_rfl) (by kernel_rfl) (by kernel_rfl) (fun _ _ _ h => h) (wanted_free rfl _) (fun W hW => by go_simp) ?_
  try simp only [Act.put, List.getElem_toArray, List.getElem_cons_succ, List.getElem_cons_zero, List.setIfInBounds_toArray, List.set_cons_succ, List.set_cons_zero]
  refine wpAnyC_take 3 (.int .i64 E) rfl (by kernel_rfl) (by kernel_rfl) (by kernel_rfl) (fun _ _ _ h => h) (wanted_free rfl _) (fun W hW => by go_simp) ?_
  try simp only [Act.put, List.getElem_toArray, List.getElem_cons_succ, List.getElem_cons_zero, List.setIfInBounds_toArray, List.set_cons_succ, List.set_cons_zero]
  refine wpAnyC_take 5 (.slice (some ⟨b, off, none⟩) n c) rfl (by kernel_rfl) (by kernel_rfl) (by kernel_rfl) (fun _ _ _ h => h) (wanted_free rfl _) (fun W hW => by go_simp) ?_
  try simp only [Act.put, List.getElem_toArray, List.getElem_cons_succ, List.getElem_cons_zero, List.setIfInBounds_toArray, List.set_cons_succ, List.set_cons_zero]
  refine wpAnyC_take 6 (.int .u64 k) rfl (by kernel_rfl) (by kernel_rfl) (by kernel_rfl) (fun _ _ _ h => h) (wanted_free rfl _) (fun W hW => by go_simp) ?_
  try simp only [Act.put, List.getElem_toArray, List.getElem_cons_succ, List.getElem_cons_zero, List.setIfInBounds_toArray, List.set_cons_succ, List.set_cons_zero]
  refine wpAnyC_take 7 (.int .u64 E) rfl (by kernel_rfl) (by kernel_rfl) (by kernel_rfl) (fun _ _ _ h => h) (wanted_free rfl _) (fun W hW => by go_simp) ?_
  try simp only [Act.put, List.getElem_toArray, List.getElem_cons_succ, List.getElem_cons_zero, List.setIfInBounds_toArray, List.set_cons_succ, List.set_cons_zero]
  refine wpAnyC_take 8 (.slice (some ⟨b, off, none⟩) E c) rfl (by kernel_rfl) (by kernel_rfl) (by kernel_rfl) (fun _ _ _ h => h) (wanted_free rfl _) (fun W hW => by go_simp) ?_
  try simp only [Act.put, List.getElem_toArray, List.getElem_cons_succ, List.getElem_cons_zero, List.setIfInBounds_toArray, List.set_cons_succ, List.set_cons_zero]
  refine wpAnyC_one 4 rfl rfl (by kernel_rfl) (wanted_free rfl _) (fun KA hKA => ?_)
  go_simp
  refine (HS.out _ (by rfl)).mono ?_
  rintro e y1 ⟨rfl, hy1⟩
  have hy12 := hy1.symm
  subst hy12
  refine hKA _ _ ?_
  clear hKA KA
  try simp only [Act.put, List.getElem_toArray, List.getElem_cons_succ, List.getElem_cons_zero, List.setIfInBounds_toArray, List.set_cons_succ, List.set_cons_zero]
  refine wpAnyC_one 9 rfl rfl (by kernel_rfl) (wanted_free rfl _) (fun KA hKA => ?_)
  go_simp
  refine (HC.out _ (by rfl)).mono ?_
  rintro e y3 ⟨rfl, hy3⟩
  have hy32 := hy3.symm
  subst hy32
  refine hKA _ _ ?_
  clear hKA KA
  try simp only [Act.put, List.getElem_toArray, List.getElem_cons_succ, List.getElem_cons_zero, List.setIfInBounds_toArray, List.set_cons_succ, List.set_cons_zero]
  refine wpAnyC_take 10 (.int .u64 S) rfl (by kernel_rfl) (by kernel_rfl) (by kernel_rfl) (fun _ _ _ h => h) (wanted_free rfl _) (fun W hW => by go_simp) ?_
  try simp only [Act.put, List.getElem_toArray, List.getElem_cons_succ, List.getElem_cons_zero, List.setIfInBounds_toArray, List.set_cons_succ, List.set_cons_zero]
  refine wpAnyC_take 11 (.bool true) rfl (by kernel_rfl) (by kernel_rfl) (by kernel_rfl) (fun _ _ _ h => h) (wanted_free rfl _) (fun W hW => by go_simp) ?_
  try simp only [Act.put, List.getElem_toArray, List.getElem_cons_succ, List.getElem_cons_zero, List.setIfInBounds_toArray, List.set_cons_succ, List.set_cons_zero]
  refine wpAnyC_done (rfl) (by kernel_rfl) ?_
  go_wp2_with fail
  go_ret3
  exact ⟨rfl, below_drawn w _⟩

set_option maxRecDepth 100000 in
set_option maxHeartbeats 1000000 in
theorem rdec_ok (b off n c : Nat) (zs : List Int) (w : World) (hr : RdAt w (.slice (some ⟨b, off, none⟩) n c) zs) (hl : zs.length = n) (hm : n ≤ 140737488355328) (hb : Bytes zs) (hn : 16 ≤ n) (hmk : zs.take 4 = [83, 76, 79, 84]) (k : Nat) (hk : B.num zs 12 4 = (k : Int)) (hk2 : k ≤ 4096) (hct : 20 + k ≤ n) (hsm : B.num zs (16 + k) 4 = (sumL (zs.take (16 + k)) : Int)) :
    Calls Try.prog 10 #[.slice (some ⟨b, off, none⟩) n c] w fun e w' => e = .returned (.tuple #[.int .u64 (B.num zs 4 8), .slice (some ⟨b, off + 16, none⟩) k (c - 16), .int .i64 0]) ∧ RdAt w (.slice (some ⟨b, off + 16, none⟩) k (c - 16)) ((zs.drop 16).take k) ∧ Below w.heap.size w w' := by
  have h1 : ¬ (n : Int) < 16 := by omega
  have hc : n ≤ c := (rd_some hr (by omega)).1
  have h4 : (4 : Int) ≤ c := by omega
  have hcv := conv4 hr hl hn
  have hne := mark_eq (zs.take 4) (Bytes.take hb 4)
  rw [decide_eq_true hmk] at hne
  obtain ⟨T, hT⟩ : ∃ T, T = strOfNums (zs.take 4) := ⟨_, rfl⟩
  rw [← hT] at hcv hne
  have hcl := (rd_cells hr).2
  have hmx : n ≤ maxLen := by unfold maxLen; omega
  have HN : Kpt (∀ W : World, W.heap = w.heap → Calls Try.prog 29 #[.slice (some ⟨b, off, none⟩) n c, .int .i64 12, .int .i64 4] W fun e w' => e = .returned (.int .u64 k) ∧ w' = W) := ⟨fun W hW => by
    have hx := rnum_any b off n c 12 4 zs W hmx (by decide) (by decide) (by omega) hb (fun j hj => by unfold World.cell?; rw [hW]; exact hcl j hj)
    rw [hk] at hx
    exact hx⟩
  have hkl : ¬ (4096 : Int) < k := by omega
  have hw1 : IntKind.u64.wrap (n : Int) = n := B.wrap64_id _ (by omega) (by omega)
  have hw2 : IntKind.u64.wrap (20 + (k : Int)) = 20 + (k : Int) := B.wrap64_id _ (by omega) (by omega)
  have hlt : ¬ (n : Int) < 20 + (k : Int) := by omega
  obtain ⟨E, hE⟩ : ∃ E, E = 16 + k := ⟨_, rfl⟩
  have eE : (16 : Int) + k = (E : Int) := by omega
  have hw3 : IntKind.u64.wrap (E : Int) = E := B.wrap64_id _ (by omega) (by omega)
  have hw4 : IntKind.i64.wrap (E : Int) = E := by rw [IntKind.wrap_i64]; omega
  have hEc : (E : Int) ≤ c := by omega
  have hE4 : E + 4 ≤ n := by omega
  have HS : Kpt (∀ W : World, W.heap = w.heap → Calls Try.prog 29 #[.slice (some ⟨b, off, none⟩) n c, .int .i64 E, .int .i64 4] W fun e w' => e = .returned (.int .u64 (B.num zs E 4)) ∧ w' = W) := ⟨fun W hW => by
    have hx := rnum_any b off n c E 4 zs W hmx (by decide) (by decide) (by omega) hb (fun j hj => by unfold World.cell?; rw [hW]; exact hcl j hj)
    exact hx⟩
  have hSl := sumL_lt (zs.take E)
  obtain ⟨S, hS⟩ : ∃ S, S = sumL (zs.take E) := ⟨_, rfl⟩
  have HC : Kpt (∀ W : World, W.heap = w.heap → Calls Try.prog 30 #[.slice (some ⟨b, off, none⟩) E c] W fun e w' => e = .returned (.int .u32 (S : Int)) ∧ w' = W) := ⟨fun W hW => by
    rw [hS]
    exact rc32_any (some ⟨b, off, none⟩) E c (zs.take E) W (by rw [List.length_take]; omega) (by unfold maxLen; omega) (Bytes.take hb E) (.inr ⟨b, off, rfl, fun j hj => by
      unfold World.cell?; rw [hW]
      have hx := hcl j (by omega)
      unfold World.cell? at hx
      rw [hx]
      simp [List.getD_eq_getElem?_getD, hj]⟩)⟩
  rw [← hS] at hSl
  have hw5 : IntKind.u64.wrap (S : Int) = S := B.wrap64_id _ (by omega) (by omega)
  obtain ⟨N, hN⟩ : ∃ N, N = B.num zs E 4 := ⟨_, rfl⟩
  rw [← hN] at HS
  have hcmp : N = (S : Int) := by rw [hN, hS, hE]; exact hsm
  subst hcmp
  have hrd := Kpt.mk (rd_mid hr 16 k (by omega))
  have e16 : (16 : Int) ≤ E := by omega
  have c16 : ¬ c = 16 := by omega
  have eEk : (E : Int) - 16 = k := by omega
  have eEk2 : E - 16 = k := by omega
  have HG : Kpt (∀ W : World, W.heap = w.heap → Calls Try.prog 29 #[.slice (some ⟨b, off, none⟩) n c, .int .i64 4, .int .i64 8] W fun e w' => e = .returned (.int .u64 (B.num zs 4 8)) ∧ w' = W) := ⟨fun W hW => by
    have hx := rnum_any b off n c 4 8 zs W hmx (by decide) (by decide) (by omega) hb (fun j hj => by unfold World.cell?; rw [hW]; exact hcl j hj)
    exact hx⟩
  obtain ⟨G, hG⟩ : ∃ G, G = B.num zs 4 8 := ⟨_, rfl⟩
  rw [← hG] at HG ⊢
  clear hsm hN hS hE hG
  clear hT hr hl hb hmk hk hcl
  go_enter Try.func10, Try.ntmps10
  go_wp2_with (go_at_call 29; go_must (refine (HN.out _ (by rfl)).mono ?_; rintro e w1 ⟨rfl, h1w⟩; have h1w2 := h1w.symm; subst h1w2; clear HN))
  refine wp_region_any (by kernel_rfl) ?_
  refine wpAny_of_C (C := fun W => W.heap = w.heap) _ _ _ _ ?_
  refine wpAnyC_take 0 (.slice (some ⟨b, off, none⟩) n c) rfl (by kernel_rfl) (by kernel_rfl) (by kernel_rfl) (fun _ _ _ h => h) (wanted_free rfl _) (fun W hW => by go_simp) ?_
  try simp only [Act.put, List.getElem_toArray, List.getElem_cons_succ, List.getElem_cons_zero, List.setIfInBounds_toArray, List.set_cons_succ, List.set_cons_zero]
  refine wpAnyC_take 1 (.int .u64 k) rfl (by kernel_rfl) (by kernel_rfl) (by kernel_rfl) (fun _ _ _ h => h) (wanted_free rfl _) (fun W hW => by go_simp) ?_
  try simp only [Act.put, List.getElem_toArray, List.getElem_cons_succ, List.getElem_cons_zero, List.setIfInBounds_toArray, List.set_cons_succ, List.set_cons_zero]
  refine wpAnyC_take 2 (.int .u64 E) rfl (by kernel_rfl) (by kernel_rfl) (by kernel_rfl) (fun _ _ _ h => h) (wanted_free rfl _) (fun W hW => by go_simp) ?_
  try simp only [Act.put, List.getElem_toArray, List.getElem_cons_succ, List.getElem_cons_zero, List.setIfInBounds_toArray, List.set_cons_succ, List.set_cons_zero]
  refine wpAnyC_take 3 (.int .i64 E) rfl (by kernel_rfl) (by kernel_rfl) (by kernel_rfl) (fun _ _ _ h => h) (wanted_free rfl _) (fun W hW => by go_simp) ?_
  try simp only [Act.put, List.getElem_toArray, List.getElem_cons_succ, List.getElem_cons_zero, List.setIfInBounds_toArray, List.set_cons_succ, List.set_cons_zero]
  refine wpAnyC_take 5 (.slice (some ⟨b, off, none⟩) n c) rfl (by kernel_rfl) (by kernel_rfl) (by kernel_rfl) (fun _ _ _ h => h) (wanted_free rfl _) (fun W hW => by go_simp) ?_
  try simp only [Act.put, List.getElem_toArray, List.getElem_cons_succ, List.getElem_cons_zero, List.setIfInBounds_toArray, List.set_cons_succ, List.set_cons_zero]
  refine wpAnyC_take 6 (.int .u64 k) rfl (by kernel_rfl) (by kernel_rfl) (by kernel_rfl) (fun _ _ _ h => h) (wanted_free rfl _) (fun W hW => by go_simp) ?_
  try simp only [Act.put, List.getElem_toArray, List.getElem_cons_succ, List.getElem_cons_zero, List.setIfInBounds_toArray, List.set_cons_succ, List.set_cons_zero]
  refine wpAnyC_take 7 (.int .u64 E) rfl (by kernel_rfl) (by kernel_rfl) (by kernel_rfl) (fun _ _ _ h => h) (wanted_free rfl _) (fun W hW => by go_simp) ?_
  try simp only [Act.put, List.getElem_toArray, List.getElem_cons_succ, List.getElem_cons_zero, List.setIfInBounds_toArray, List.set_cons_succ, List.set_cons_zero]
  refine wpAnyC_take 8 (.slice (some ⟨b, off, none⟩) E c) rfl (by kernel_rfl) (by kernel_rfl) (by kernel_rfl) (fun _ _ _ h => h) (wanted_free rfl _) (fun W hW => by go_simp) ?_
  try simp only [Act.put, List.getElem_toArray, List.getElem_cons_succ, List.getElem_cons_zero, List.setIfInBounds_toArray, List.set_cons_succ, List.set_cons_zero]
  refine wpAnyC_one 4 rfl rfl (by kernel_rfl) (wanted_free rfl _) (fun KA hKA => ?_)
  go_simp
  refine (HS.out _ (by rfl)).mono ?_
  rintro e y1 ⟨rfl, hy1⟩
  have hy12 := hy1.symm
  subst hy12
  refine hKA _ _ ?_
  clear hKA KA
  try simp only [Act.put, List.getElem_toArray, List.getElem_cons_succ, List.getElem_cons_zero, List.setIfInBounds_toArray, List.set_cons_succ, List.set_cons_zero]
  refine wpAnyC_one 9 rfl rfl (by kernel_rfl) (wanted_free rfl _) (fun KA hKA => ?_)
  go_simp
  refine (HC.out _ (by rfl)).mono ?_
  rintro e y3 ⟨rfl, hy3⟩
  have hy32 := hy3.symm
  subst hy32
  refine hKA _ _ ?_
  clear hKA KA
  try simp only [Act.put, List.getElem_toArray, List.getElem_cons_succ, List.getElem_cons_zero, List.setIfInBounds_toArray, List.set_cons_succ, List.set_cons_zero]
  refine wpAnyC_take 10 (.int .u64 S) rfl (by kernel_rfl) (by kernel_rfl) (by kernel_rfl) (fun _ _ _ h => h) (wanted_free rfl _) (fun W hW => by go_simp) ?_
  try simp only [Act.put, List.getElem_toArray, List.getElem_cons_succ, List.getElem_cons_zero, List.setIfInBounds_toArray, List.set_cons_succ, List.set_cons_zero]
  refine wpAnyC_take 11 (.bool false) rfl (by kernel_rfl) (by kernel_rfl) (by kernel_rfl) (fun _ _ _ h => h) (wanted_free rfl _) (fun W hW => by go_simp) ?_
  try simp only [Act.put, List.getElem_toArray, List.getElem_cons_succ, List.getElem_cons_zero, List.setIfInBounds_toArray, List.set_cons_succ, List.set_cons_zero]
  refine wpAnyC_done (rfl) (by kernel_rfl) ?_
  go_wp2_with fail
  refine wp_region_any (by kernel_rfl) ?_
  refine wpAny_of_C (C := fun W => W.heap = w.heap) _ _ _ _ ?_
  refine wpAnyC_take 0 (.slice (some ⟨b, off, none⟩) n c) rfl (by kernel_rfl) (by kernel_rfl) (by kernel_rfl) (fun _ _ _ h => h) (wanted_free rfl _) (fun W hW => by go_simp) ?_
  try simp only [Act.put, List.getElem_toArray, List.getElem_cons_succ, List.getElem_cons_zero, List.setIfInBounds_toArray, List.set_cons_succ, List.set_cons_zero]
  refine wpAnyC_take 2 (.slice (some ⟨b, off, none⟩) n c) rfl (by kernel_rfl) (by kernel_rfl) (by kernel_rfl) (fun _ _ _ h => h) (wanted_free rfl _) (fun W hW => by go_simp) ?_
  try simp only [Act.put, List.getElem_toArray, List.getElem_cons_succ, List.getElem_cons_zero, List.setIfInBounds_toArray, List.set_cons_succ, List.set_cons_zero]
  refine wpAnyC_take 3 (.int .u64 k) rfl (by kernel_rfl) (by kernel_rfl) (by kernel_rfl) (fun _ _ _ h => h) (wanted_free rfl _) (fun W hW => by go_simp) ?_
  try simp only [Act.put, List.getElem_toArray, List.getElem_cons_succ, List.getElem_cons_zero, List.setIfInBounds_toArray, List.set_cons_succ, List.set_cons_zero]
  refine wpAnyC_take 4 (.int .u64 E) rfl (by kernel_rfl) (by kernel_rfl) (by kernel_rfl) (fun _ _ _ h => h) (wanted_free rfl _) (fun W hW => by go_simp) ?_
  try simp only [Act.put, List.getElem_toArray, List.getElem_cons_succ, List.getElem_cons_zero, List.setIfInBounds_toArray, List.set_cons_succ, List.set_cons_zero]
  refine wpAnyC_take 5 (.slice (some ⟨b, off + 16, none⟩) k (c - 16)) rfl (by kernel_rfl) (by kernel_rfl) (by kernel_rfl) (fun _ _ _ h => h) (wanted_free rfl _) (fun W hW => by go_simp) ?_
  try simp only [Act.put, List.getElem_toArray, List.getElem_cons_succ, List.getElem_cons_zero, List.setIfInBounds_toArray, List.set_cons_succ, List.set_cons_zero]
  refine wpAnyC_one 1 rfl rfl (by kernel_rfl) (wanted_free rfl _) (fun KA hKA => ?_)
  go_simp
  refine (HG.out _ (by rfl)).mono ?_
  rintro e y5 ⟨rfl, hv⟩
  have hv2 := hv.symm
  subst hv2
  refine hKA _ _ ?_
  clear hKA KA
  try simp only [Act.put, List.getElem_toArray, List.getElem_cons_succ, List.getElem_cons_zero, List.setIfInBounds_toArray, List.set_cons_succ, List.set_cons_zero]
  refine wpAnyC_take 6 (.int .u64 G) rfl (by kernel_rfl) (by kernel_rfl) (by kernel_rfl) (fun _ _ _ h => h) (wanted_free rfl _) (fun W hW => by go_simp) ?_
  try simp only [Act.put, List.getElem_toArray, List.getElem_cons_succ, List.getElem_cons_zero, List.setIfInBounds_toArray, List.set_cons_succ, List.set_cons_zero]
  refine wpAnyC_take 7 (.slice (some ⟨b, off + 16, none⟩) k (c - 16)) rfl (by kernel_rfl) (by kernel_rfl) (by kernel_rfl) (fun _ _ _ h => h) (wanted_free rfl _) (fun W hW => by go_simp) ?_
  try simp only [Act.put, List.getElem_toArray, List.getElem_cons_succ, List.getElem_cons_zero, List.setIfInBounds_toArray, List.set_cons_succ, List.set_cons_zero]
  refine wpAnyC_take 8 (.int .i64 0) rfl (by kernel_rfl) (by kernel_rfl) (by kernel_rfl) (fun _ _ _ h => h) (wanted_free rfl _) (fun W hW => by go_simp) ?_
  try simp only [Act.put, List.getElem_toArray, List.getElem_cons_succ, List.getElem_cons_zero, List.setIfInBounds_toArray, List.set_cons_succ, List.set_cons_zero]
  refine wpAnyC_done (rfl) (by kernel_rfl) ?_
  go_wp2_with fail
  go_ret3
  exact ⟨rfl, hrd.out, (below_drewN (Below.refl _ _) 2)⟩
end Go.Proofs.Ytndlpmnidpandaa
