/-
  The program's readTuple.
-/
import Derived.Test.YtcnjnebhidfogaaGPack
namespace Go.Proofs.Ytcnjnebhidfogaa
open Go.RowKit
set_option linter.unusedVariables false
set_option linter.unusedSimpArgs false

theorem or_mul (a b k : Nat) (hb : b < 2 ^ k) : a * 2 ^ k ||| b = a * 2 ^ k + b := by
  have := Nat.shiftLeft_add_eq_or_of_lt hb a
  rw [Nat.shiftLeft_eq] at this
  exact this.symm
theorem or16 (a b : Int) (ha : 0 ≤ a ∧ a ≤ 255) (hb : 0 ≤ b ∧ b ≤ 255) : bits BinOp.or IntKind.u16 (a * 256) b = a * 256 + b := by
  obtain ⟨x, rfl⟩ := Int.eq_ofNat_of_zero_le ha.1
  obtain ⟨y, rfl⟩ := Int.eq_ofNat_of_zero_le hb.1
  have h := u16_or_nat (x * 256) y (by omega) (by omega)
  have e := or_mul x y 8 (by omega)
  rw [show (2 : Nat) ^ 8 = 256 from rfl] at e
  rw [e] at h
  rw [show ((x : Int) * 256) = ((x * 256 : Nat) : Int) by omega, h]
  omega
theorem or32 (a b k : Int) (n : Nat) (hk : k = 2 ^ n) (ha : 0 ≤ a) (hb : 0 ≤ b ∧ b < k) (hs : a * k + b < 4294967296) : bits BinOp.or IntKind.u32 (a * k) b = a * k + b := by
  subst hk
  obtain ⟨x, rfl⟩ := Int.eq_ofNat_of_zero_le ha
  obtain ⟨y, rfl⟩ := Int.eq_ofNat_of_zero_le hb.1
  have ep : ((2 : Int) ^ n) = ((2 ^ n : Nat) : Int) := by rw [Int.natCast_pow]; rfl
  rw [ep] at hb hs ⊢
  generalize hN : 2 ^ n = N at *
  have em : (x : Int) * (N : Int) = ((x * N : Nat) : Int) := by rw [Int.natCast_mul]
  rw [em] at hs ⊢
  have hy : y < N := by omega
  have h := u32_or_nat (x * N) y (by omega) (by omega)
  have e := or_mul x y n (by rw [hN]; exact hy)
  rw [hN] at e
  rw [h, e]
  omega

set_option maxRecDepth 100000 in
set_option maxHeartbeats 4000000 in
theorem readTuple_any (b off n c : Nat) (t0 t1 t2 t3 t4 t5 t6 t7 : Int) (w : World) (hn : 8 ≤ n) (hb : b < w.heap.size)
    (h0 : 0 ≤ t0 ∧ t0 ≤ 255) (h1 : 0 ≤ t1 ∧ t1 ≤ 255) (h2 : 0 ≤ t2 ∧ t2 ≤ 255) (h3 : 0 ≤ t3 ∧ t3 ≤ 255) (h4 : 0 ≤ t4 ∧ t4 ≤ 255) (h5 : 0 ≤ t5 ∧ t5 ≤ 255) (h6 : 0 ≤ t6 ∧ t6 ≤ 255) (h7 : 0 ≤ t7 ∧ t7 ≤ 255)
    (hc : ∀ j u, (cels [t0, t1, t2, t3, t4, t5, t6, t7])[j]? = some u → w.cell? ⟨b, off + j, none⟩ = some u) :
    Calls Try.prog 27 #[.slice (some ⟨b, off, none⟩) n c] w fun e w' => e = .returned (.agg (tupV (t0 * 256 + t1) (t2 * 256 + t3) (t4 * 16777216 + t5 * 65536 + t6 * 256 + t7))) ∧ Below w.heap.size w w' := by
  have c0 := hc 0 _ rfl
  have c1 := hc 1 _ rfl
  have c2 := hc 2 _ rfl
  have c3 := hc 3 _ rfl
  have c4 := hc 4 _ rfl
  have c5 := hc 5 _ rfl
  have c6 := hc 6 _ rfl
  have c7 := hc 7 _ rfl
  simp only [Nat.add_zero] at c0
  have o1 := or16 t0 t1 h0 h1
  have o2 := or16 t2 t3 h2 h3
  have o3 : bits BinOp.or IntKind.u32 (t4 * 16777216) (t5 * 65536) = t4 * 16777216 + t5 * 65536 := or32 t4 (t5 * 65536) 16777216 24 (by decide) h4.1 (by omega) (by omega)
  have o4 : bits BinOp.or IntKind.u32 (t4 * 16777216 + t5 * 65536) (t6 * 256) = t4 * 16777216 + t5 * 65536 + t6 * 256 := by
    have := or32 (t4 * 256 + t5) (t6 * 256) 65536 16 (by decide) (by omega) (by omega) (by omega)
    rw [show (t4 * 256 + t5) * 65536 = t4 * 16777216 + t5 * 65536 by omega] at this
    exact this
  have o5 : bits BinOp.or IntKind.u32 (t4 * 16777216 + t5 * 65536 + t6 * 256) t7 = t4 * 16777216 + t5 * 65536 + t6 * 256 + t7 := by
    have := or32 (t4 * 65536 + t5 * 256 + t6) t7 256 8 (by decide) (by omega) (by omega) (by omega)
    rw [show (t4 * 65536 + t5 * 256 + t6) * 256 = t4 * 16777216 + t5 * 65536 + t6 * 256 by omega] at this
    exact this
  have hbx := Kpt.mk (bx_new w #[.int .u16 0, .int .u16 0, .int .u32 0] 28)
  have hcl : Kpt (∀ p : Addr, p.block = b → (w.alloc (.cells #[.int .u16 0, .int .u16 0, .int .u32 0] 28)).cell? p = w.cell? p) := ⟨fun p hp => World.cell?_of_block (by rw [hp]; exact Below.heap_alloc _ _ _ hb)⟩
  have d0 := (hcl.out ⟨b, off, none⟩ rfl).trans c0
  have d1 := (hcl.out ⟨b, off + 1, none⟩ rfl).trans c1
  have d2 := (hcl.out ⟨b, off + 2, none⟩ rfl).trans c2
  have d3 := (hcl.out ⟨b, off + 3, none⟩ rfl).trans c3
  have d4 := (hcl.out ⟨b, off + 4, none⟩ rfl).trans c4
  have d5 := (hcl.out ⟨b, off + 5, none⟩ rfl).trans c5
  have d6 := (hcl.out ⟨b, off + 6, none⟩ rfl).trans c6
  have d7 := (hcl.out ⟨b, off + 7, none⟩ rfl).trans c7
  clear c0 c1 c2 c3 c4 c5 c6 c7 hc hcl
  have hn' : (8 : Int) ≤ n := by omega
  go_enter Try.func27, Try.ntmps27
  go_wp2_with fail
  refine wp_region_any (by kernel_rfl) ?_
  refine wpAny_of_C (C := fun W => W.cell? ⟨b, off, none⟩ = some (.int .u8 t0) ∧ W.cell? ⟨b, off + 1, none⟩ = some (.int .u8 t1) ∧ W.cell? ⟨b, off + 2, none⟩ = some (.int .u8 t2) ∧ W.cell? ⟨b, off + 3, none⟩ = some (.int .u8 t3) ∧ W.cell? ⟨b, off + 4, none⟩ = some (.int .u8 t4) ∧ W.cell? ⟨b, off + 5, none⟩ = some (.int .u8 t5) ∧ W.cell? ⟨b, off + 6, none⟩ = some (.int .u8 t6) ∧ W.cell? ⟨b, off + 7, none⟩ = some (.int .u8 t7)) _ _ _ _ ?_
  refine wpAnyC_take 0 (.slice (some ⟨b, off, none⟩) n c) rfl (by kernel_rfl) (by kernel_rfl) (by kernel_rfl) (fun _ _ _ h => h) (wanted_free rfl _) (fun W hW => by go_simp) ?_
  try simp only [Act.put, List.getElem_toArray, List.getElem_cons_succ, List.getElem_cons_zero, List.setIfInBounds_toArray, List.set_cons_succ, List.set_cons_zero]
  refine wpAnyC_take 1 (.pointer (some ⟨b, off, none⟩)) rfl (by kernel_rfl) (by kernel_rfl) (by kernel_rfl) (fun _ _ _ h => h) (wanted_free rfl _) (fun W hW => by (go_simp; intro hh; omega)) ?_
  try simp only [Act.put, List.getElem_toArray, List.getElem_cons_succ, List.getElem_cons_zero, List.setIfInBounds_toArray, List.set_cons_succ, List.set_cons_zero]
  refine wpAnyC_take 2 (.int .u8 t0) rfl (by kernel_rfl) (by kernel_rfl) (by kernel_rfl) (fun _ _ _ h => h) (wanted_free rfl _) (fun W hW => by (obtain ⟨e0, e1, e2, e3, e4, e5, e6, e7⟩ := hW; go_simp)) ?_
  try simp only [Act.put, List.getElem_toArray, List.getElem_cons_succ, List.getElem_cons_zero, List.setIfInBounds_toArray, List.set_cons_succ, List.set_cons_zero]
  refine wpAnyC_take 3 (.int .u16 t0) rfl (by kernel_rfl) (by kernel_rfl) (by kernel_rfl) (fun _ _ _ h => h) (wanted_free rfl _) (fun W hW => by (go_simp; rw [IntKind.wrap_u16]; omega)) ?_
  try simp only [Act.put, List.getElem_toArray, List.getElem_cons_succ, List.getElem_cons_zero, List.setIfInBounds_toArray, List.set_cons_succ, List.set_cons_zero]
  refine wpAnyC_take 4 (.int .u16 (t0 * 256)) rfl (by kernel_rfl) (by kernel_rfl) (by kernel_rfl) (fun _ _ _ h => h) (wanted_free rfl _) (fun W hW => by (go_simp; rw [IntKind.wrap_u16]; omega)) ?_
  try simp only [Act.put, List.getElem_toArray, List.getElem_cons_succ, List.getElem_cons_zero, List.setIfInBounds_toArray, List.set_cons_succ, List.set_cons_zero]
  refine wpAnyC_take 5 (.slice (some ⟨b, off, none⟩) n c) rfl (by kernel_rfl) (by kernel_rfl) (by kernel_rfl) (fun _ _ _ h => h) (wanted_free rfl _) (fun W hW => by go_simp) ?_
  try simp only [Act.put, List.getElem_toArray, List.getElem_cons_succ, List.getElem_cons_zero, List.setIfInBounds_toArray, List.set_cons_succ, List.set_cons_zero]
  refine wpAnyC_take 6 (.pointer (some ⟨b, off + 1, none⟩)) rfl (by kernel_rfl) (by kernel_rfl) (by kernel_rfl) (fun _ _ _ h => h) (wanted_free rfl _) (fun W hW => by (go_simp; intro hh; omega)) ?_
  try simp only [Act.put, List.getElem_toArray, List.getElem_cons_succ, List.getElem_cons_zero, List.setIfInBounds_toArray, List.set_cons_succ, List.set_cons_zero]
  refine wpAnyC_take 7 (.int .u8 t1) rfl (by kernel_rfl) (by kernel_rfl) (by kernel_rfl) (fun _ _ _ h => h) (wanted_free rfl _) (fun W hW => by (obtain ⟨e0, e1, e2, e3, e4, e5, e6, e7⟩ := hW; go_simp)) ?_
  try simp only [Act.put, List.getElem_toArray, List.getElem_cons_succ, List.getElem_cons_zero, List.setIfInBounds_toArray, List.set_cons_succ, List.set_cons_zero]
  refine wpAnyC_take 8 (.int .u16 t1) rfl (by kernel_rfl) (by kernel_rfl) (by kernel_rfl) (fun _ _ _ h => h) (wanted_free rfl _) (fun W hW => by (go_simp; rw [IntKind.wrap_u16]; omega)) ?_
  try simp only [Act.put, List.getElem_toArray, List.getElem_cons_succ, List.getElem_cons_zero, List.setIfInBounds_toArray, List.set_cons_succ, List.set_cons_zero]
  refine wpAnyC_take 9 (.int .u16 (t0 * 256 + t1)) rfl (by kernel_rfl) (by kernel_rfl) (by kernel_rfl) (fun _ _ _ h => h) (wanted_free rfl _) (fun W hW => by go_simp) ?_
  try simp only [Act.put, List.getElem_toArray, List.getElem_cons_succ, List.getElem_cons_zero, List.setIfInBounds_toArray, List.set_cons_succ, List.set_cons_zero]
  refine wpAnyC_take 10 (.slice (some ⟨b, off, none⟩) n c) rfl (by kernel_rfl) (by kernel_rfl) (by kernel_rfl) (fun _ _ _ h => h) (wanted_free rfl _) (fun W hW => by go_simp) ?_
  try simp only [Act.put, List.getElem_toArray, List.getElem_cons_succ, List.getElem_cons_zero, List.setIfInBounds_toArray, List.set_cons_succ, List.set_cons_zero]
  refine wpAnyC_take 11 (.pointer (some ⟨b, off + 2, none⟩)) rfl (by kernel_rfl) (by kernel_rfl) (by kernel_rfl) (fun _ _ _ h => h) (wanted_free rfl _) (fun W hW => by (go_simp; intro hh; omega)) ?_
  try simp only [Act.put, List.getElem_toArray, List.getElem_cons_succ, List.getElem_cons_zero, List.setIfInBounds_toArray, List.set_cons_succ, List.set_cons_zero]
  refine wpAnyC_take 12 (.int .u8 t2) rfl (by kernel_rfl) (by kernel_rfl) (by kernel_rfl) (fun _ _ _ h => h) (wanted_free rfl _) (fun W hW => by (obtain ⟨e0, e1, e2, e3, e4, e5, e6, e7⟩ := hW; go_simp)) ?_
  try simp only [Act.put, List.getElem_toArray, List.getElem_cons_succ, List.getElem_cons_zero, List.setIfInBounds_toArray, List.set_cons_succ, List.set_cons_zero]
  refine wpAnyC_take 13 (.int .u16 t2) rfl (by kernel_rfl) (by kernel_rfl) (by kernel_rfl) (fun _ _ _ h => h) (wanted_free rfl _) (fun W hW => by (go_simp; rw [IntKind.wrap_u16]; omega)) ?_
  try simp only [Act.put, List.getElem_toArray, List.getElem_cons_succ, List.getElem_cons_zero, List.setIfInBounds_toArray, List.set_cons_succ, List.set_cons_zero]
  refine wpAnyC_take 14 (.int .u16 (t2 * 256)) rfl (by kernel_rfl) (by kernel_rfl) (by kernel_rfl) (fun _ _ _ h => h) (wanted_free rfl _) (fun W hW => by (go_simp; rw [IntKind.wrap_u16]; omega)) ?_
  try simp only [Act.put, List.getElem_toArray, List.getElem_cons_succ, List.getElem_cons_zero, List.setIfInBounds_toArray, List.set_cons_succ, List.set_cons_zero]
  refine wpAnyC_take 15 (.slice (some ⟨b, off, none⟩) n c) rfl (by kernel_rfl) (by kernel_rfl) (by kernel_rfl) (fun _ _ _ h => h) (wanted_free rfl _) (fun W hW => by go_simp) ?_
  try simp only [Act.put, List.getElem_toArray, List.getElem_cons_succ, List.getElem_cons_zero, List.setIfInBounds_toArray, List.set_cons_succ, List.set_cons_zero]
  refine wpAnyC_take 16 (.pointer (some ⟨b, off + 3, none⟩)) rfl (by kernel_rfl) (by kernel_rfl) (by kernel_rfl) (fun _ _ _ h => h) (wanted_free rfl _) (fun W hW => by (go_simp; intro hh; omega)) ?_
  try simp only [Act.put, List.getElem_toArray, List.getElem_cons_succ, List.getElem_cons_zero, List.setIfInBounds_toArray, List.set_cons_succ, List.set_cons_zero]
  refine wpAnyC_take 17 (.int .u8 t3) rfl (by kernel_rfl) (by kernel_rfl) (by kernel_rfl) (fun _ _ _ h => h) (wanted_free rfl _) (fun W hW => by (obtain ⟨e0, e1, e2, e3, e4, e5, e6, e7⟩ := hW; go_simp)) ?_
  try simp only [Act.put, List.getElem_toArray, List.getElem_cons_succ, List.getElem_cons_zero, List.setIfInBounds_toArray, List.set_cons_succ, List.set_cons_zero]
  refine wpAnyC_take 18 (.int .u16 t3) rfl (by kernel_rfl) (by kernel_rfl) (by kernel_rfl) (fun _ _ _ h => h) (wanted_free rfl _) (fun W hW => by (go_simp; rw [IntKind.wrap_u16]; omega)) ?_
  try simp only [Act.put, List.getElem_toArray, List.getElem_cons_succ, List.getElem_cons_zero, List.setIfInBounds_toArray, List.set_cons_succ, List.set_cons_zero]
  refine wpAnyC_take 19 (.int .u16 (t2 * 256 + t3)) rfl (by kernel_rfl) (by kernel_rfl) (by kernel_rfl) (fun _ _ _ h => h) (wanted_free rfl _) (fun W hW => by go_simp) ?_
  try simp only [Act.put, List.getElem_toArray, List.getElem_cons_succ, List.getElem_cons_zero, List.setIfInBounds_toArray, List.set_cons_succ, List.set_cons_zero]
  refine wpAnyC_take 20 (.slice (some ⟨b, off, none⟩) n c) rfl (by kernel_rfl) (by kernel_rfl) (by kernel_rfl) (fun _ _ _ h => h) (wanted_free rfl _) (fun W hW => by go_simp) ?_
  try simp only [Act.put, List.getElem_toArray, List.getElem_cons_succ, List.getElem_cons_zero, List.setIfInBounds_toArray, List.set_cons_succ, List.set_cons_zero]
  refine wpAnyC_take 21 (.pointer (some ⟨b, off + 4, none⟩)) rfl (by kernel_rfl) (by kernel_rfl) (by kernel_rfl) (fun _ _ _ h => h) (wanted_free rfl _) (fun W hW => by (go_simp; intro hh; omega)) ?_
  try simp only [Act.put, List.getElem_toArray, List.getElem_cons_succ, List.getElem_cons_zero, List.setIfInBounds_toArray, List.set_cons_succ, List.set_cons_zero]
  refine wpAnyC_take 22 (.int .u8 t4) rfl (by kernel_rfl) (by kernel_rfl) (by kernel_rfl) (fun _ _ _ h => h) (wanted_free rfl _) (fun W hW => by (obtain ⟨e0, e1, e2, e3, e4, e5, e6, e7⟩ := hW; go_simp)) ?_
  try simp only [Act.put, List.getElem_toArray, List.getElem_cons_succ, List.getElem_cons_zero, List.setIfInBounds_toArray, List.set_cons_succ, List.set_cons_zero]
  refine wpAnyC_take 23 (.int .u32 t4) rfl (by kernel_rfl) (by kernel_rfl) (by kernel_rfl) (fun _ _ _ h => h) (wanted_free rfl _) (fun W hW => by (go_simp; rw [IntKind.wrap_u32]; omega)) ?_
  try simp only [Act.put, List.getElem_toArray, List.getElem_cons_succ, List.getElem_cons_zero, List.setIfInBounds_toArray, List.set_cons_succ, List.set_cons_zero]
  refine wpAnyC_take 24 (.int .u32 (t4 * 16777216)) rfl (by kernel_rfl) (by kernel_rfl) (by kernel_rfl) (fun _ _ _ h => h) (wanted_free rfl _) (fun W hW => by (go_simp; rw [IntKind.wrap_u32]; omega)) ?_
  try simp only [Act.put, List.getElem_toArray, List.getElem_cons_succ, List.getElem_cons_zero, List.setIfInBounds_toArray, List.set_cons_succ, List.set_cons_zero]
  refine wpAnyC_take 25 (.slice (some ⟨b, off, none⟩) n c) rfl (by kernel_rfl) (by kernel_rfl) (by kernel_rfl) (fun _ _ _ h => h) (wanted_free rfl _) (fun W hW => by go_simp) ?_
  try simp only [Act.put, List.getElem_toArray, List.getElem_cons_succ, List.getElem_cons_zero, List.setIfInBounds_toArray, List.set_cons_succ, List.set_cons_zero]
  refine wpAnyC_take 26 (.pointer (some ⟨b, off + 5, none⟩)) rfl (by kernel_rfl) (by kernel_rfl) (by kernel_rfl) (fun _ _ _ h => h) (wanted_free rfl _) (fun W hW => by (go_simp; intro hh; omega)) ?_
  try simp only [Act.put, List.getElem_toArray, List.getElem_cons_succ, List.getElem_cons_zero, List.setIfInBounds_toArray, List.set_cons_succ, List.set_cons_zero]
  refine wpAnyC_take 27 (.int .u8 t5) rfl (by kernel_rfl) (by kernel_rfl) (by kernel_rfl) (fun _ _ _ h => h) (wanted_free rfl _) (fun W hW => by (obtain ⟨e0, e1, e2, e3, e4, e5, e6, e7⟩ := hW; go_simp)) ?_
  try simp only [Act.put, List.getElem_toArray, List.getElem_cons_succ, List.getElem_cons_zero, List.setIfInBounds_toArray, List.set_cons_succ, List.set_cons_zero]
  refine wpAnyC_take 28 (.int .u32 t5) rfl (by kernel_rfl) (by kernel_rfl) (by kernel_rfl) (fun _ _ _ h => h) (wanted_free rfl _) (fun W hW => by (go_simp; rw [IntKind.wrap_u32]; omega)) ?_
  try simp only [Act.put, List.getElem_toArray, List.getElem_cons_succ, List.getElem_cons_zero, List.setIfInBounds_toArray, List.set_cons_succ, List.set_cons_zero]
  refine wpAnyC_take 29 (.int .u32 (t5 * 65536)) rfl (by kernel_rfl) (by kernel_rfl) (by kernel_rfl) (fun _ _ _ h => h) (wanted_free rfl _) (fun W hW => by (go_simp; rw [IntKind.wrap_u32]; omega)) ?_
  try simp only [Act.put, List.getElem_toArray, List.getElem_cons_succ, List.getElem_cons_zero, List.setIfInBounds_toArray, List.set_cons_succ, List.set_cons_zero]
  refine wpAnyC_take 30 (.int .u32 (t4 * 16777216 + t5 * 65536)) rfl (by kernel_rfl) (by kernel_rfl) (by kernel_rfl) (fun _ _ _ h => h) (wanted_free rfl _) (fun W hW => by go_simp) ?_
  try simp only [Act.put, List.getElem_toArray, List.getElem_cons_succ, List.getElem_cons_zero, List.setIfInBounds_toArray, List.set_cons_succ, List.set_cons_zero]
  refine wpAnyC_take 31 (.slice (some ⟨b, off, none⟩) n c) rfl (by kernel_rfl) (by kernel_rfl) (by kernel_rfl) (fun _ _ _ h => h) (wanted_free rfl _) (fun W hW => by go_simp) ?_
  try simp only [Act.put, List.getElem_toArray, List.getElem_cons_succ, List.getElem_cons_zero, List.setIfInBounds_toArray, List.set_cons_succ, List.set_cons_zero]
  refine wpAnyC_take 32 (.pointer (some ⟨b, off + 6, none⟩)) rfl (by kernel_rfl) (by kernel_rfl) (by kernel_rfl) (fun _ _ _ h => h) (wanted_free rfl _) (fun W hW => by (go_simp; intro hh; omega)) ?_
  try simp only [Act.put, List.getElem_toArray, List.getElem_cons_succ, List.getElem_cons_zero, List.setIfInBounds_toArray, List.set_cons_succ, List.set_cons_zero]
  refine wpAnyC_take 33 (.int .u8 t6) rfl (by kernel_rfl) (by kernel_rfl) (by kernel_rfl) (fun _ _ _ h => h) (wanted_free rfl _) (fun W hW => by (obtain ⟨e0, e1, e2, e3, e4, e5, e6, e7⟩ := hW; go_simp)) ?_
  try simp only [Act.put, List.getElem_toArray, List.getElem_cons_succ, List.getElem_cons_zero, List.setIfInBounds_toArray, List.set_cons_succ, List.set_cons_zero]
  refine wpAnyC_take 34 (.int .u32 t6) rfl (by kernel_rfl) (by kernel_rfl) (by kernel_rfl) (fun _ _ _ h => h) (wanted_free rfl _) (fun W hW => by (go_simp; rw [IntKind.wrap_u32]; omega)) ?_
  try simp only [Act.put, List.getElem_toArray, List.getElem_cons_succ, List.getElem_cons_zero, List.setIfInBounds_toArray, List.set_cons_succ, List.set_cons_zero]
  refine wpAnyC_take 35 (.int .u32 (t6 * 256)) rfl (by kernel_rfl) (by kernel_rfl) (by kernel_rfl) (fun _ _ _ h => h) (wanted_free rfl _) (fun W hW => by (go_simp; rw [IntKind.wrap_u32]; omega)) ?_
  try simp only [Act.put, List.getElem_toArray, List.getElem_cons_succ, List.getElem_cons_zero, List.setIfInBounds_toArray, List.set_cons_succ, List.set_cons_zero]
  refine wpAnyC_take 36 (.int .u32 (t4 * 16777216 + t5 * 65536 + t6 * 256)) rfl (by kernel_rfl) (by kernel_rfl) (by kernel_rfl) (fun _ _ _ h => h) (wanted_free rfl _) (fun W hW => by go_simp) ?_
  try simp only [Act.put, List.getElem_toArray, List.getElem_cons_succ, List.getElem_cons_zero, List.setIfInBounds_toArray, List.set_cons_succ, List.set_cons_zero]
  refine wpAnyC_take 37 (.slice (some ⟨b, off, none⟩) n c) rfl (by kernel_rfl) (by kernel_rfl) (by kernel_rfl) (fun _ _ _ h => h) (wanted_free rfl _) (fun W hW => by go_simp) ?_
  try simp only [Act.put, List.getElem_toArray, List.getElem_cons_succ, List.getElem_cons_zero, List.setIfInBounds_toArray, List.set_cons_succ, List.set_cons_zero]
  refine wpAnyC_take 38 (.pointer (some ⟨b, off + 7, none⟩)) rfl (by kernel_rfl) (by kernel_rfl) (by kernel_rfl) (fun _ _ _ h => h) (wanted_free rfl _) (fun W hW => by (go_simp; intro hh; omega)) ?_
  try simp only [Act.put, List.getElem_toArray, List.getElem_cons_succ, List.getElem_cons_zero, List.setIfInBounds_toArray, List.set_cons_succ, List.set_cons_zero]
  refine wpAnyC_take 39 (.int .u8 t7) rfl (by kernel_rfl) (by kernel_rfl) (by kernel_rfl) (fun _ _ _ h => h) (wanted_free rfl _) (fun W hW => by (obtain ⟨e0, e1, e2, e3, e4, e5, e6, e7⟩ := hW; go_simp)) ?_
  try simp only [Act.put, List.getElem_toArray, List.getElem_cons_succ, List.getElem_cons_zero, List.setIfInBounds_toArray, List.set_cons_succ, List.set_cons_zero]
  refine wpAnyC_take 40 (.int .u32 t7) rfl (by kernel_rfl) (by kernel_rfl) (by kernel_rfl) (fun _ _ _ h => h) (wanted_free rfl _) (fun W hW => by (go_simp; rw [IntKind.wrap_u32]; omega)) ?_
  try simp only [Act.put, List.getElem_toArray, List.getElem_cons_succ, List.getElem_cons_zero, List.setIfInBounds_toArray, List.set_cons_succ, List.set_cons_zero]
  refine wpAnyC_take 41 (.int .u32 (t4 * 16777216 + t5 * 65536 + t6 * 256 + t7)) rfl (by kernel_rfl) (by kernel_rfl) (by kernel_rfl) (fun _ _ _ h => h) (wanted_free rfl _) (fun W hW => by go_simp) ?_
  try simp only [Act.put, List.getElem_toArray, List.getElem_cons_succ, List.getElem_cons_zero, List.setIfInBounds_toArray, List.set_cons_succ, List.set_cons_zero]
  refine wpAnyC_take 42 (.agg (tupV (t0 * 256 + t1) (t2 * 256 + t3) (t4 * 16777216 + t5 * 65536 + t6 * 256 + t7))) rfl (by kernel_rfl) (by kernel_rfl) (by kernel_rfl) (fun _ _ _ h => h) (wanted_free rfl _) (fun W hW => by (unfold tupV; go_simp)) ?_
  try simp only [Act.put, List.getElem_toArray, List.getElem_cons_succ, List.getElem_cons_zero, List.setIfInBounds_toArray, List.set_cons_succ, List.set_cons_zero]
  refine wpAnyC_one 43 ⟨d0, d1, d2, d3, d4, d5, d6, d7⟩ rfl (by kernel_rfl) (wanted_free rfl _) (fun KA hKA => ?_)
  refine wp_store_bx 28 (.tmp 2) (.tmp 45) rfl w.heap.size _ _ rfl rfl hbx.out.drew rfl infoT (tup_one _ _ _) ?_
  intro x1 hX1 hg1
  refine hKA _ _ ?_
  clear hKA KA
  have hfar : Kpt (∀ p : Addr, p.block = b → x1.cell? p = (w.alloc (.cells #[.int .u16 0, .int .u16 0, .int .u32 0] 28)).cell? p) := ⟨fun p hp => World.cell?_of_block (by rw [hp]; exact hg1.block b (by simp; omega) (fun e => by injection e with e; omega))⟩
  have f0 := (hfar.out ⟨b, off, none⟩ rfl).trans d0
  have f1 := (hfar.out ⟨b, off + 1, none⟩ rfl).trans d1
  have f2 := (hfar.out ⟨b, off + 2, none⟩ rfl).trans d2
  have f3 := (hfar.out ⟨b, off + 3, none⟩ rfl).trans d3
  have f4 := (hfar.out ⟨b, off + 4, none⟩ rfl).trans d4
  have f5 := (hfar.out ⟨b, off + 5, none⟩ rfl).trans d5
  have f6 := (hfar.out ⟨b, off + 6, none⟩ rfl).trans d6
  have f7 := (hfar.out ⟨b, off + 7, none⟩ rfl).trans d7
  have hbe : Kpt (Below w.heap.size w x1) := ⟨(below_drewN ((Below.refl _ _).alloc (Nat.le_refl _) _) 1).grown hg1 (by simp) (fun q hq => by cases hq; exact Nat.le_refl _)⟩
  refine wpAnyC_done ⟨f0, f1, f2, f3, f4, f5, f6, f7⟩ (by kernel_rfl) ?_
  clear f0 f1 f2 f3 f4 f5 f6 f7 d0 d1 d2 d3 d4 d5 d6 d7 hfar hg1 o1 o2 o3 o4 o5
  go_wp2_with fail
  exact bodyPost_ret (v := .agg (tupV (t0 * 256 + t1) (t2 * 256 + t3) (t4 * 16777216 + t5 * 65536 + t6 * 256 + t7))) (by simp [results, Try.results27, asAddr, Act.put, run_res hX1 28 _ Try.underlying28 rfl infoT]) rfl ⟨rfl, hbe.out⟩
end Go.Proofs.Ytcnjnebhidfogaa
