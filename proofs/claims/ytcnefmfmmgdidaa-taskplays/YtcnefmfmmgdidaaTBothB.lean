/-
  The law's function both: Start, End, Abort, AbortAll.
-/
import Derived.Test.YtcnefmfmmgdidaaTBoth
namespace Go.Proofs.Ytcnefmfmmgdidaa
open Go.RowKit
set_option linter.unusedVariables false
set_option linter.unusedSimpArgs false

set_option maxRecDepth 100000 in
set_option maxHeartbeats 4000000 in
theorem both1 (w0 W : World) (B C : Nat) (ts : List Tk) (st : Int) (v u : Value) (K n g a : Int) (h : Pa w0 W B C ts st v u) (hI : Inv ts st) (hK : 0 ≤ K ∧ K ≤ 255) (eK : K % 8 = 1) :
    Calls Try.prog 12 #[.pointer (some ⟨B, 0, none⟩), .pointer (some ⟨C, 0, none⟩), .agg #[.int .u8 K, .int .i64 n, .int .u32 g, .int .u8 a]] W (BothPost w0 B C) := by
  have hP := Kpt.mk (h.box K n g a)
  have hI2 := Kpt.mk (inv_start (n := n) (g := g) hI)
  have hs0 := Kpt.mk hI.st0
  have hon := Kpt.mk hI.2.2
  have hfew := Kpt.mk h.a.few
  clear h
  obtain ⟨W1, hW1⟩ : ∃ W1, W1 = W.alloc (.cells #[.int .u8 K, .int .i64 n, .int .u32 g, .int .u8 a] 32) := ⟨_, rfl⟩
  obtain ⟨T, hT⟩ : ∃ T, T = W.heap.size := ⟨_, rfl⟩
  rw [← hW1, ← hT] at hP
  go_enter Try.func12, Try.ntmps12
  go_wp2_with fail
  rw [← hW1, ← hT]
  clear hW1 hT
  refine wp_region_any (by kernel_rfl) ?_
  refine wpAny_of_C (C := fun W => W.rangeAt T 0 (actV K n g a)) _ _ _ _ ?_
  refine wpAnyC_take 0 (.pointer (some ⟨B, 0, none⟩)) rfl (by kernel_rfl) (by kernel_rfl) (by kernel_rfl) (fun _ _ _ h => h) (wanted_free rfl _) (fun W hW => by obtain ⟨k0, k1, k2, k3⟩ := act4 hW; go_simp) ?_
  simp only [Act.put, List.getElem_toArray, List.getElem_cons_succ, List.getElem_cons_zero, List.setIfInBounds_toArray, List.set_cons_succ, List.set_cons_zero]
  refine wpAnyC_take 1 (.pointer (some ⟨T, 1, none⟩)) rfl (by kernel_rfl) (by kernel_rfl) (by kernel_rfl) (fun _ _ _ h => h) (wanted_free rfl _) (fun W hW => by obtain ⟨k0, k1, k2, k3⟩ := act4 hW; go_simp) ?_
  simp only [Act.put, List.getElem_toArray, List.getElem_cons_succ, List.getElem_cons_zero, List.setIfInBounds_toArray, List.set_cons_succ, List.set_cons_zero]
  refine wpAnyC_take 2 (.int .i64 n) rfl (by kernel_rfl) (by kernel_rfl) (by kernel_rfl) (fun _ _ _ h => h) (wanted_free rfl _) (fun W hW => by obtain ⟨k0, k1, k2, k3⟩ := act4 hW; go_simp) ?_
  simp only [Act.put, List.getElem_toArray, List.getElem_cons_succ, List.getElem_cons_zero, List.setIfInBounds_toArray, List.set_cons_succ, List.set_cons_zero]
  refine wpAnyC_take 3 (.pointer (some ⟨T, 2, none⟩)) rfl (by kernel_rfl) (by kernel_rfl) (by kernel_rfl) (fun _ _ _ h => h) (wanted_free rfl _) (fun W hW => by obtain ⟨k0, k1, k2, k3⟩ := act4 hW; go_simp) ?_
  simp only [Act.put, List.getElem_toArray, List.getElem_cons_succ, List.getElem_cons_zero, List.setIfInBounds_toArray, List.set_cons_succ, List.set_cons_zero]
  refine wpAnyC_take 4 (.int .u32 g) rfl (by kernel_rfl) (by kernel_rfl) (by kernel_rfl) (fun _ _ _ h => h) (wanted_free rfl _) (fun W hW => by obtain ⟨k0, k1, k2, k3⟩ := act4 hW; go_simp) ?_
  simp only [Act.put, List.getElem_toArray, List.getElem_cons_succ, List.getElem_cons_zero, List.setIfInBounds_toArray, List.set_cons_succ, List.set_cons_zero]
  refine wpAnyC_take 6 (.pointer (some ⟨C, 0, none⟩)) rfl (by kernel_rfl) (by kernel_rfl) (by kernel_rfl) (fun _ _ _ h => h) (wanted_free rfl _) (fun W hW => by obtain ⟨k0, k1, k2, k3⟩ := act4 hW; go_simp) ?_
  simp only [Act.put, List.getElem_toArray, List.getElem_cons_succ, List.getElem_cons_zero, List.setIfInBounds_toArray, List.set_cons_succ, List.set_cons_zero]
  refine wpAnyC_take 7 (.pointer (some ⟨T, 1, none⟩)) rfl (by kernel_rfl) (by kernel_rfl) (by kernel_rfl) (fun _ _ _ h => h) (wanted_free rfl _) (fun W hW => by obtain ⟨k0, k1, k2, k3⟩ := act4 hW; go_simp) ?_
  simp only [Act.put, List.getElem_toArray, List.getElem_cons_succ, List.getElem_cons_zero, List.setIfInBounds_toArray, List.set_cons_succ, List.set_cons_zero]
  refine wpAnyC_take 8 (.int .i64 n) rfl (by kernel_rfl) (by kernel_rfl) (by kernel_rfl) (fun _ _ _ h => h) (wanted_free rfl _) (fun W hW => by obtain ⟨k0, k1, k2, k3⟩ := act4 hW; go_simp) ?_
  simp only [Act.put, List.getElem_toArray, List.getElem_cons_succ, List.getElem_cons_zero, List.setIfInBounds_toArray, List.set_cons_succ, List.set_cons_zero]
  refine wpAnyC_take 9 (.pointer (some ⟨T, 2, none⟩)) rfl (by kernel_rfl) (by kernel_rfl) (by kernel_rfl) (fun _ _ _ h => h) (wanted_free rfl _) (fun W hW => by obtain ⟨k0, k1, k2, k3⟩ := act4 hW; go_simp) ?_
  simp only [Act.put, List.getElem_toArray, List.getElem_cons_succ, List.getElem_cons_zero, List.setIfInBounds_toArray, List.set_cons_succ, List.set_cons_zero]
  refine wpAnyC_take 10 (.int .u32 g) rfl (by kernel_rfl) (by kernel_rfl) (by kernel_rfl) (fun _ _ _ h => h) (wanted_free rfl _) (fun W hW => by obtain ⟨k0, k1, k2, k3⟩ := act4 hW; go_simp) ?_
  simp only [Act.put, List.getElem_toArray, List.getElem_cons_succ, List.getElem_cons_zero, List.setIfInBounds_toArray, List.set_cons_succ, List.set_cons_zero]
  refine wpAnyC_one 5 hP.out.tr rfl (by kernel_rfl) (wanted_free rfl _) (fun KA hKA => ?_)
  go_simp
  refine (pt_start n g (hP.out.grow (below_drewN (Below.refl _ _) 1))).mono ?_
  rintro e w2 ⟨rfl, hP2⟩
  refine hKA _ _ ?_
  try simp only [Act.put, List.getElem_toArray, List.getElem_cons_succ, List.getElem_cons_zero, List.setIfInBounds_toArray, List.set_cons_succ, List.set_cons_zero]
  clear hKA KA
  refine wpAnyC_one 11 hP2.tr rfl (by kernel_rfl) (wanted_free rfl _) (fun KA hKA => ?_)
  go_simp
  refine (pt_rstart n g hP2 hs0.out).mono ?_
  rintro e w3 ⟨rfl, hP3⟩
  refine hKA _ _ ?_
  try simp only [Act.put, List.getElem_toArray, List.getElem_cons_succ, List.getElem_cons_zero, List.setIfInBounds_toArray, List.set_cons_succ, List.set_cons_zero]
  clear hKA KA
  refine wpAnyC_take 12 (.bool true) rfl (by kernel_rfl) (by kernel_rfl) (by kernel_rfl) (fun _ _ _ h => h) (wanted_free rfl _) (fun W hW => by obtain ⟨k0, k1, k2, k3⟩ := act4 hW; go_simp) ?_
  simp only [Act.put, List.getElem_toArray, List.getElem_cons_succ, List.getElem_cons_zero, List.setIfInBounds_toArray, List.set_cons_succ, List.set_cons_zero]
  refine wpAnyC_take 13 (.bool true) rfl (by kernel_rfl) (by kernel_rfl) (by kernel_rfl) (fun _ _ _ h => h) (wanted_free rfl _) (fun W hW => by obtain ⟨k0, k1, k2, k3⟩ := act4 hW; go_simp) ?_
  simp only [Act.put, List.getElem_toArray, List.getElem_cons_succ, List.getElem_cons_zero, List.setIfInBounds_toArray, List.set_cons_succ, List.set_cons_zero]
  refine wpAnyC_done hP3.tr (by kernel_rfl) ?_
  replace hP3 := Kpt.mk hP3
  clear hP2 hP
  go_wp2
  go_ret
  exact ⟨rfl, hP3.out.two rfl rfl hI2.out⟩

set_option maxRecDepth 100000 in
set_option maxHeartbeats 4000000 in
theorem both2 (w0 W : World) (B C : Nat) (ts : List Tk) (st : Int) (v u : Value) (K n g a : Int) (h : Pa w0 W B C ts st v u) (hI : Inv ts st) (hK : 0 ≤ K ∧ K ≤ 255) (eK : K % 8 = 2) :
    Calls Try.prog 12 #[.pointer (some ⟨B, 0, none⟩), .pointer (some ⟨C, 0, none⟩), .agg #[.int .u8 K, .int .i64 n, .int .u32 g, .int .u8 a]] W (BothPost w0 B C) := by
  have hP := Kpt.mk (h.box K n g a)
  have hI2 := Kpt.mk (inv_end (n := n) (g := g) hI)
  have hs0 := Kpt.mk hI.st0
  have hon := Kpt.mk hI.2.2
  have hfew := Kpt.mk h.a.few
  clear h
  obtain ⟨W1, hW1⟩ : ∃ W1, W1 = W.alloc (.cells #[.int .u8 K, .int .i64 n, .int .u32 g, .int .u8 a] 32) := ⟨_, rfl⟩
  obtain ⟨T, hT⟩ : ∃ T, T = W.heap.size := ⟨_, rfl⟩
  rw [← hW1, ← hT] at hP
  go_enter Try.func12, Try.ntmps12
  go_wp2_with fail
  rw [← hW1, ← hT]
  clear hW1 hT
  refine wp_region_any (by kernel_rfl) ?_
  refine wpAny_of_C (C := fun W => W.rangeAt T 0 (actV K n g a)) _ _ _ _ ?_
  refine wpAnyC_take 0 (.pointer (some ⟨B, 0, none⟩)) rfl (by kernel_rfl) (by kernel_rfl) (by kernel_rfl) (fun _ _ _ h => h) (wanted_free rfl _) (fun W hW => by obtain ⟨k0, k1, k2, k3⟩ := act4 hW; go_simp) ?_
  simp only [Act.put, List.getElem_toArray, List.getElem_cons_succ, List.getElem_cons_zero, List.setIfInBounds_toArray, List.set_cons_succ, List.set_cons_zero]
  refine wpAnyC_take 1 (.pointer (some ⟨T, 1, none⟩)) rfl (by kernel_rfl) (by kernel_rfl) (by kernel_rfl) (fun _ _ _ h => h) (wanted_free rfl _) (fun W hW => by obtain ⟨k0, k1, k2, k3⟩ := act4 hW; go_simp) ?_
  simp only [Act.put, List.getElem_toArray, List.getElem_cons_succ, List.getElem_cons_zero, List.setIfInBounds_toArray, List.set_cons_succ, List.set_cons_zero]
  refine wpAnyC_take 2 (.int .i64 n) rfl (by kernel_rfl) (by kernel_rfl) (by kernel_rfl) (fun _ _ _ h => h) (wanted_free rfl _) (fun W hW => by obtain ⟨k0, k1, k2, k3⟩ := act4 hW; go_simp) ?_
  simp only [Act.put, List.getElem_toArray, List.getElem_cons_succ, List.getElem_cons_zero, List.setIfInBounds_toArray, List.set_cons_succ, List.set_cons_zero]
  refine wpAnyC_take 3 (.pointer (some ⟨T, 2, none⟩)) rfl (by kernel_rfl) (by kernel_rfl) (by kernel_rfl) (fun _ _ _ h => h) (wanted_free rfl _) (fun W hW => by obtain ⟨k0, k1, k2, k3⟩ := act4 hW; go_simp) ?_
  simp only [Act.put, List.getElem_toArray, List.getElem_cons_succ, List.getElem_cons_zero, List.setIfInBounds_toArray, List.set_cons_succ, List.set_cons_zero]
  refine wpAnyC_take 4 (.int .u32 g) rfl (by kernel_rfl) (by kernel_rfl) (by kernel_rfl) (fun _ _ _ h => h) (wanted_free rfl _) (fun W hW => by obtain ⟨k0, k1, k2, k3⟩ := act4 hW; go_simp) ?_
  simp only [Act.put, List.getElem_toArray, List.getElem_cons_succ, List.getElem_cons_zero, List.setIfInBounds_toArray, List.set_cons_succ, List.set_cons_zero]
  refine wpAnyC_take 6 (.pointer (some ⟨C, 0, none⟩)) rfl (by kernel_rfl) (by kernel_rfl) (by kernel_rfl) (fun _ _ _ h => h) (wanted_free rfl _) (fun W hW => by obtain ⟨k0, k1, k2, k3⟩ := act4 hW; go_simp) ?_
  simp only [Act.put, List.getElem_toArray, List.getElem_cons_succ, List.getElem_cons_zero, List.setIfInBounds_toArray, List.set_cons_succ, List.set_cons_zero]
  refine wpAnyC_take 7 (.pointer (some ⟨T, 1, none⟩)) rfl (by kernel_rfl) (by kernel_rfl) (by kernel_rfl) (fun _ _ _ h => h) (wanted_free rfl _) (fun W hW => by obtain ⟨k0, k1, k2, k3⟩ := act4 hW; go_simp) ?_
  simp only [Act.put, List.getElem_toArray, List.getElem_cons_succ, List.getElem_cons_zero, List.setIfInBounds_toArray, List.set_cons_succ, List.set_cons_zero]
  refine wpAnyC_take 8 (.int .i64 n) rfl (by kernel_rfl) (by kernel_rfl) (by kernel_rfl) (fun _ _ _ h => h) (wanted_free rfl _) (fun W hW => by obtain ⟨k0, k1, k2, k3⟩ := act4 hW; go_simp) ?_
  simp only [Act.put, List.getElem_toArray, List.getElem_cons_succ, List.getElem_cons_zero, List.setIfInBounds_toArray, List.set_cons_succ, List.set_cons_zero]
  refine wpAnyC_take 9 (.pointer (some ⟨T, 2, none⟩)) rfl (by kernel_rfl) (by kernel_rfl) (by kernel_rfl) (fun _ _ _ h => h) (wanted_free rfl _) (fun W hW => by obtain ⟨k0, k1, k2, k3⟩ := act4 hW; go_simp) ?_
  simp only [Act.put, List.getElem_toArray, List.getElem_cons_succ, List.getElem_cons_zero, List.setIfInBounds_toArray, List.set_cons_succ, List.set_cons_zero]
  refine wpAnyC_take 10 (.int .u32 g) rfl (by kernel_rfl) (by kernel_rfl) (by kernel_rfl) (fun _ _ _ h => h) (wanted_free rfl _) (fun W hW => by obtain ⟨k0, k1, k2, k3⟩ := act4 hW; go_simp) ?_
  simp only [Act.put, List.getElem_toArray, List.getElem_cons_succ, List.getElem_cons_zero, List.setIfInBounds_toArray, List.set_cons_succ, List.set_cons_zero]
  refine wpAnyC_one 5 hP.out.tr rfl (by kernel_rfl) (wanted_free rfl _) (fun KA hKA => ?_)
  go_simp
  refine (pt_end n g (hP.out.grow (below_drewN (Below.refl _ _) 1))).mono ?_
  rintro e w2 ⟨rfl, v2, hP2⟩
  refine hKA _ _ ?_
  try simp only [Act.put, List.getElem_toArray, List.getElem_cons_succ, List.getElem_cons_zero, List.setIfInBounds_toArray, List.set_cons_succ, List.set_cons_zero]
  clear hKA KA
  refine wpAnyC_one 11 hP2.tr rfl (by kernel_rfl) (wanted_free rfl _) (fun KA hKA => ?_)
  go_simp
  refine (pt_rend n g hP2 hon.out).mono ?_
  rintro e w3 ⟨rfl, u3, hP3⟩
  refine hKA _ _ ?_
  try simp only [Act.put, List.getElem_toArray, List.getElem_cons_succ, List.getElem_cons_zero, List.setIfInBounds_toArray, List.set_cons_succ, List.set_cons_zero]
  clear hKA KA
  refine wpAnyC_take 12 (.bool true) rfl (by kernel_rfl) (by kernel_rfl) (by kernel_rfl) (fun _ _ _ h => h) (wanted_free rfl _) (fun W hW => by obtain ⟨k0, k1, k2, k3⟩ := act4 hW; go_simp) ?_
  simp only [Act.put, List.getElem_toArray, List.getElem_cons_succ, List.getElem_cons_zero, List.setIfInBounds_toArray, List.set_cons_succ, List.set_cons_zero]
  refine wpAnyC_take 13 (.bool true) rfl (by kernel_rfl) (by kernel_rfl) (by kernel_rfl) (fun _ _ _ h => h) (wanted_free rfl _) (fun W hW => by obtain ⟨k0, k1, k2, k3⟩ := act4 hW; go_simp) ?_
  simp only [Act.put, List.getElem_toArray, List.getElem_cons_succ, List.getElem_cons_zero, List.setIfInBounds_toArray, List.set_cons_succ, List.set_cons_zero]
  refine wpAnyC_done hP3.tr (by kernel_rfl) ?_
  replace hP3 := Kpt.mk hP3
  clear hP2 hP
  go_wp2
  go_ret
  exact ⟨rfl, hP3.out.two rfl rfl hI2.out⟩

set_option maxRecDepth 100000 in
set_option maxHeartbeats 4000000 in
theorem both3 (w0 W : World) (B C : Nat) (ts : List Tk) (st : Int) (v u : Value) (K n g a : Int) (h : Pa w0 W B C ts st v u) (hI : Inv ts st) (hK : 0 ≤ K ∧ K ≤ 255) (eK : K % 8 = 3) :
    Calls Try.prog 12 #[.pointer (some ⟨B, 0, none⟩), .pointer (some ⟨C, 0, none⟩), .agg #[.int .u8 K, .int .i64 n, .int .u32 g, .int .u8 a]] W (BothPost w0 B C) := by
  have hP := Kpt.mk (h.box K n g a)
  have hI2 := Kpt.mk (hI.sub (List.filter_sublist (p := fun t => !(isT n g) t)))
  have hA : Kpt (∀ t ∈ ts.filter (isT n g), 0 ≤ t.ar ∧ t.ar ≤ 3) := ⟨fun t ht => by have := hI.2.1 t ((List.mem_filter.1 ht).1); exact ⟨this.1, this.2.1⟩⟩
  have hfew := Kpt.mk h.a.few
  clear h
  obtain ⟨W1, hW1⟩ : ∃ W1, W1 = W.alloc (.cells #[.int .u8 K, .int .i64 n, .int .u32 g, .int .u8 a] 32) := ⟨_, rfl⟩
  obtain ⟨T, hT⟩ : ∃ T, T = W.heap.size := ⟨_, rfl⟩
  rw [← hW1, ← hT] at hP
  go_enter Try.func12, Try.ntmps12
  go_wp2_with fail
  rw [← hW1, ← hT]
  clear hW1 hT
  refine wp_region_any (by kernel_rfl) ?_
  refine wpAny_of_C (C := fun W => W.rangeAt T 0 (actV K n g a)) _ _ _ _ ?_
  refine wpAnyC_take 0 (.pointer (some ⟨B, 0, none⟩)) rfl (by kernel_rfl) (by kernel_rfl) (by kernel_rfl) (fun _ _ _ h => h) (wanted_free rfl _) (fun W hW => by obtain ⟨k0, k1, k2, k3⟩ := act4 hW; go_simp) ?_
  simp only [Act.put, List.getElem_toArray, List.getElem_cons_succ, List.getElem_cons_zero, List.setIfInBounds_toArray, List.set_cons_succ, List.set_cons_zero]
  refine wpAnyC_take 1 (.pointer (some ⟨T, 1, none⟩)) rfl (by kernel_rfl) (by kernel_rfl) (by kernel_rfl) (fun _ _ _ h => h) (wanted_free rfl _) (fun W hW => by obtain ⟨k0, k1, k2, k3⟩ := act4 hW; go_simp) ?_
  simp only [Act.put, List.getElem_toArray, List.getElem_cons_succ, List.getElem_cons_zero, List.setIfInBounds_toArray, List.set_cons_succ, List.set_cons_zero]
  refine wpAnyC_take 2 (.int .i64 n) rfl (by kernel_rfl) (by kernel_rfl) (by kernel_rfl) (fun _ _ _ h => h) (wanted_free rfl _) (fun W hW => by obtain ⟨k0, k1, k2, k3⟩ := act4 hW; go_simp) ?_
  simp only [Act.put, List.getElem_toArray, List.getElem_cons_succ, List.getElem_cons_zero, List.setIfInBounds_toArray, List.set_cons_succ, List.set_cons_zero]
  refine wpAnyC_take 3 (.pointer (some ⟨T, 2, none⟩)) rfl (by kernel_rfl) (by kernel_rfl) (by kernel_rfl) (fun _ _ _ h => h) (wanted_free rfl _) (fun W hW => by obtain ⟨k0, k1, k2, k3⟩ := act4 hW; go_simp) ?_
  simp only [Act.put, List.getElem_toArray, List.getElem_cons_succ, List.getElem_cons_zero, List.setIfInBounds_toArray, List.set_cons_succ, List.set_cons_zero]
  refine wpAnyC_take 4 (.int .u32 g) rfl (by kernel_rfl) (by kernel_rfl) (by kernel_rfl) (fun _ _ _ h => h) (wanted_free rfl _) (fun W hW => by obtain ⟨k0, k1, k2, k3⟩ := act4 hW; go_simp) ?_
  simp only [Act.put, List.getElem_toArray, List.getElem_cons_succ, List.getElem_cons_zero, List.setIfInBounds_toArray, List.set_cons_succ, List.set_cons_zero]
  refine wpAnyC_take 6 (.pointer (some ⟨C, 0, none⟩)) rfl (by kernel_rfl) (by kernel_rfl) (by kernel_rfl) (fun _ _ _ h => h) (wanted_free rfl _) (fun W hW => by obtain ⟨k0, k1, k2, k3⟩ := act4 hW; go_simp) ?_
  simp only [Act.put, List.getElem_toArray, List.getElem_cons_succ, List.getElem_cons_zero, List.setIfInBounds_toArray, List.set_cons_succ, List.set_cons_zero]
  refine wpAnyC_take 7 (.pointer (some ⟨T, 1, none⟩)) rfl (by kernel_rfl) (by kernel_rfl) (by kernel_rfl) (fun _ _ _ h => h) (wanted_free rfl _) (fun W hW => by obtain ⟨k0, k1, k2, k3⟩ := act4 hW; go_simp) ?_
  simp only [Act.put, List.getElem_toArray, List.getElem_cons_succ, List.getElem_cons_zero, List.setIfInBounds_toArray, List.set_cons_succ, List.set_cons_zero]
  refine wpAnyC_take 8 (.int .i64 n) rfl (by kernel_rfl) (by kernel_rfl) (by kernel_rfl) (fun _ _ _ h => h) (wanted_free rfl _) (fun W hW => by obtain ⟨k0, k1, k2, k3⟩ := act4 hW; go_simp) ?_
  simp only [Act.put, List.getElem_toArray, List.getElem_cons_succ, List.getElem_cons_zero, List.setIfInBounds_toArray, List.set_cons_succ, List.set_cons_zero]
  refine wpAnyC_take 9 (.pointer (some ⟨T, 2, none⟩)) rfl (by kernel_rfl) (by kernel_rfl) (by kernel_rfl) (fun _ _ _ h => h) (wanted_free rfl _) (fun W hW => by obtain ⟨k0, k1, k2, k3⟩ := act4 hW; go_simp) ?_
  simp only [Act.put, List.getElem_toArray, List.getElem_cons_succ, List.getElem_cons_zero, List.setIfInBounds_toArray, List.set_cons_succ, List.set_cons_zero]
  refine wpAnyC_take 10 (.int .u32 g) rfl (by kernel_rfl) (by kernel_rfl) (by kernel_rfl) (fun _ _ _ h => h) (wanted_free rfl _) (fun W hW => by obtain ⟨k0, k1, k2, k3⟩ := act4 hW; go_simp) ?_
  simp only [Act.put, List.getElem_toArray, List.getElem_cons_succ, List.getElem_cons_zero, List.setIfInBounds_toArray, List.set_cons_succ, List.set_cons_zero]
  refine wpAnyC_one 5 hP.out.tr rfl (by kernel_rfl) (wanted_free rfl _) (fun KA hKA => ?_)
  go_simp
  refine (pt_abort n g (hP.out.grow (below_drewN (Below.refl _ _) 1))).mono ?_
  rintro e w2 ⟨y, v2, rfl, hr2, hP2⟩
  refine hKA _ _ ?_
  try simp only [Act.put, List.getElem_toArray, List.getElem_cons_succ, List.getElem_cons_zero, List.setIfInBounds_toArray, List.set_cons_succ, List.set_cons_zero]
  clear hKA KA
  refine wpAnyC_one 11 hP2.tr rfl (by kernel_rfl) (wanted_free rfl _) (fun KA hKA => ?_)
  go_simp
  refine (pt_rdrop 0 n g hP2 hr2 (by omega)).mono ?_
  rintro e w3 ⟨y3, u3, rfl, hx3, hy3, hP3⟩
  rw [drop_isT] at hy3 hP3
  refine hKA _ _ ?_
  try simp only [Act.put, List.getElem_toArray, List.getElem_cons_succ, List.getElem_cons_zero, List.setIfInBounds_toArray, List.set_cons_succ, List.set_cons_zero]
  clear hKA KA
  refine wpAnyC_one 12 hP3.tr rfl (by kernel_rfl) (wanted_free rfl _) (fun KA hKA => ?_)
  go_simp
  refine (pt_same hP3 hx3 hy3 (by have := List.length_filter_le (isT n g) ts; have := hfew.out; omega) hA.out).mono ?_
  rintro e w4 ⟨rfl, hP4, _⟩
  refine hKA _ _ ?_
  try simp only [Act.put, List.getElem_toArray, List.getElem_cons_succ, List.getElem_cons_zero, List.setIfInBounds_toArray, List.set_cons_succ, List.set_cons_zero]
  clear hKA KA
  refine wpAnyC_take 13 (.bool true) rfl (by kernel_rfl) (by kernel_rfl) (by kernel_rfl) (fun _ _ _ h => h) (wanted_free rfl _) (fun W hW => by obtain ⟨k0, k1, k2, k3⟩ := act4 hW; go_simp) ?_
  simp only [Act.put, List.getElem_toArray, List.getElem_cons_succ, List.getElem_cons_zero, List.setIfInBounds_toArray, List.set_cons_succ, List.set_cons_zero]
  refine wpAnyC_done hP4.tr (by kernel_rfl) ?_
  replace hP4 := Kpt.mk hP4
  clear hP2 hP hP3 hx3 hy3 hr2
  go_wp2
  go_ret
  exact ⟨rfl, hP4.out.two rfl rfl hI2.out⟩

set_option maxRecDepth 100000 in
set_option maxHeartbeats 4000000 in
theorem both4 (w0 W : World) (B C : Nat) (ts : List Tk) (st : Int) (v u : Value) (K n g a : Int) (h : Pa w0 W B C ts st v u) (hI : Inv ts st) (hK : 0 ≤ K ∧ K ≤ 255) (eK : K % 8 = 4) :
    Calls Try.prog 12 #[.pointer (some ⟨B, 0, none⟩), .pointer (some ⟨C, 0, none⟩), .agg #[.int .u8 K, .int .i64 n, .int .u32 g, .int .u8 a]] W (BothPost w0 B C) := by
  have hP := Kpt.mk (h.box K n g a)
  have hI2 := Kpt.mk (hI.sub (List.filter_sublist (p := fun t => !(fun t => decide (t.nx = n)) t)))
  have hA : Kpt (∀ t ∈ ts.filter (fun t => decide (t.nx = n)), 0 ≤ t.ar ∧ t.ar ≤ 3) := ⟨fun t ht => by have := hI.2.1 t ((List.mem_filter.1 ht).1); exact ⟨this.1, this.2.1⟩⟩
  have hfew := Kpt.mk h.a.few
  clear h
  obtain ⟨W1, hW1⟩ : ∃ W1, W1 = W.alloc (.cells #[.int .u8 K, .int .i64 n, .int .u32 g, .int .u8 a] 32) := ⟨_, rfl⟩
  obtain ⟨T, hT⟩ : ∃ T, T = W.heap.size := ⟨_, rfl⟩
  rw [← hW1, ← hT] at hP
  go_enter Try.func12, Try.ntmps12
  go_wp2_with fail
  rw [← hW1, ← hT]
  clear hW1 hT
  refine wp_region_any (by kernel_rfl) ?_
  refine wpAny_of_C (C := fun W => W.rangeAt T 0 (actV K n g a)) _ _ _ _ ?_
  refine wpAnyC_take 0 (.pointer (some ⟨B, 0, none⟩)) rfl (by kernel_rfl) (by kernel_rfl) (by kernel_rfl) (fun _ _ _ h => h) (wanted_free rfl _) (fun W hW => by obtain ⟨k0, k1, k2, k3⟩ := act4 hW; go_simp) ?_
  simp only [Act.put, List.getElem_toArray, List.getElem_cons_succ, List.getElem_cons_zero, List.setIfInBounds_toArray, List.set_cons_succ, List.set_cons_zero]
  refine wpAnyC_take 1 (.pointer (some ⟨T, 1, none⟩)) rfl (by kernel_rfl) (by kernel_rfl) (by kernel_rfl) (fun _ _ _ h => h) (wanted_free rfl _) (fun W hW => by obtain ⟨k0, k1, k2, k3⟩ := act4 hW; go_simp) ?_
  simp only [Act.put, List.getElem_toArray, List.getElem_cons_succ, List.getElem_cons_zero, List.setIfInBounds_toArray, List.set_cons_succ, List.set_cons_zero]
  refine wpAnyC_take 2 (.int .i64 n) rfl (by kernel_rfl) (by kernel_rfl) (by kernel_rfl) (fun _ _ _ h => h) (wanted_free rfl _) (fun W hW => by obtain ⟨k0, k1, k2, k3⟩ := act4 hW; go_simp) ?_
  simp only [Act.put, List.getElem_toArray, List.getElem_cons_succ, List.getElem_cons_zero, List.setIfInBounds_toArray, List.set_cons_succ, List.set_cons_zero]
  refine wpAnyC_take 4 (.pointer (some ⟨C, 0, none⟩)) rfl (by kernel_rfl) (by kernel_rfl) (by kernel_rfl) (fun _ _ _ h => h) (wanted_free rfl _) (fun W hW => by obtain ⟨k0, k1, k2, k3⟩ := act4 hW; go_simp) ?_
  simp only [Act.put, List.getElem_toArray, List.getElem_cons_succ, List.getElem_cons_zero, List.setIfInBounds_toArray, List.set_cons_succ, List.set_cons_zero]
  refine wpAnyC_take 5 (.pointer (some ⟨T, 1, none⟩)) rfl (by kernel_rfl) (by kernel_rfl) (by kernel_rfl) (fun _ _ _ h => h) (wanted_free rfl _) (fun W hW => by obtain ⟨k0, k1, k2, k3⟩ := act4 hW; go_simp) ?_
  simp only [Act.put, List.getElem_toArray, List.getElem_cons_succ, List.getElem_cons_zero, List.setIfInBounds_toArray, List.set_cons_succ, List.set_cons_zero]
  refine wpAnyC_take 6 (.int .i64 n) rfl (by kernel_rfl) (by kernel_rfl) (by kernel_rfl) (fun _ _ _ h => h) (wanted_free rfl _) (fun W hW => by obtain ⟨k0, k1, k2, k3⟩ := act4 hW; go_simp) ?_
  simp only [Act.put, List.getElem_toArray, List.getElem_cons_succ, List.getElem_cons_zero, List.setIfInBounds_toArray, List.set_cons_succ, List.set_cons_zero]
  refine wpAnyC_one 3 hP.out.tr rfl (by kernel_rfl) (wanted_free rfl _) (fun KA hKA => ?_)
  go_simp
  refine (pt_abortAll n (hP.out.grow (below_drewN (Below.refl _ _) 1))).mono ?_
  rintro e w2 ⟨y, v2, rfl, hr2, hP2⟩
  refine hKA _ _ ?_
  try simp only [Act.put, List.getElem_toArray, List.getElem_cons_succ, List.getElem_cons_zero, List.setIfInBounds_toArray, List.set_cons_succ, List.set_cons_zero]
  clear hKA KA
  refine wpAnyC_one 7 hP2.tr rfl (by kernel_rfl) (wanted_free rfl _) (fun KA hKA => ?_)
  go_simp
  refine (pt_rdrop 1 n 0 hP2 hr2 (by omega)).mono ?_
  rintro e w3 ⟨y3, u3, rfl, hx3, hy3, hP3⟩
  rw [drop_nx] at hy3 hP3
  refine hKA _ _ ?_
  try simp only [Act.put, List.getElem_toArray, List.getElem_cons_succ, List.getElem_cons_zero, List.setIfInBounds_toArray, List.set_cons_succ, List.set_cons_zero]
  clear hKA KA
  refine wpAnyC_one 8 hP3.tr rfl (by kernel_rfl) (wanted_free rfl _) (fun KA hKA => ?_)
  go_simp
  refine (pt_same hP3 hx3 hy3 (by have := List.length_filter_le (fun t => decide (t.nx = n)) ts; have := hfew.out; omega) hA.out).mono ?_
  rintro e w4 ⟨rfl, hP4, _⟩
  refine hKA _ _ ?_
  try simp only [Act.put, List.getElem_toArray, List.getElem_cons_succ, List.getElem_cons_zero, List.setIfInBounds_toArray, List.set_cons_succ, List.set_cons_zero]
  clear hKA KA
  refine wpAnyC_take 9 (.bool true) rfl (by kernel_rfl) (by kernel_rfl) (by kernel_rfl) (fun _ _ _ h => h) (wanted_free rfl _) (fun W hW => by obtain ⟨k0, k1, k2, k3⟩ := act4 hW; go_simp) ?_
  simp only [Act.put, List.getElem_toArray, List.getElem_cons_succ, List.getElem_cons_zero, List.setIfInBounds_toArray, List.set_cons_succ, List.set_cons_zero]
  refine wpAnyC_done hP4.tr (by kernel_rfl) ?_
  replace hP4 := Kpt.mk hP4
  clear hP2 hP hP3 hx3 hy3 hr2
  go_wp2
  go_ret
  exact ⟨rfl, hP4.out.two rfl rfl hI2.out⟩

end Go.Proofs.Ytcnefmfmmgdidaa
