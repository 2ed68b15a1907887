/-
  The program's Check.
-/
import Derived.Test.YtcnjnebhidfogaaGReg
namespace Go.Proofs.Ytcnjnebhidfogaa
open Go.RowKit
set_option linter.unusedVariables false
set_option linter.unusedSimpArgs false

/-- What Check tells. -/
def checkC (k p lba : Int) (b : Bk) : Int :=
  if k < 1 ∨ 3 < k ∨ p = 3 ∨ 4 < p then 0 else if passB k b.a b.r = true then 0 else if p ≠ 2 ∧ b.g ≠ (reg16 0 b.d : Int) then 4097
  else if p ≠ 4 ∧ hasB k = true ∧ b.r ≠ lba % 4294967296 then 4099 else 0

theorem cs_tup (b : Bk) (h : b.ok) : b.vals[16]? = some (.int .u16 b.g) ∧ b.vals[17]? = some (.int .u16 b.a) ∧ b.vals[18]? = some (.int .u32 b.r) := by
  have hl : (cels b.d).length = 16 := by simp [h.len]
  refine ⟨?_, ?_, ?_⟩ <;> (unfold Bk.vals Bk.cs; rw [List.getElem?_toArray, List.getElem?_append_right (by omega), hl]; rfl)
theorem bx_data {W : World} {B : Nat} (b : Bk) (h : b.ok) (hx : Bx W B b.vals) : RowAt W (some ⟨B, 0, none⟩) 16 b.d := by
  refine .inr ⟨B, 0, rfl, fun j hj => ?_⟩
  rw [Nat.zero_add, hx.cells j (by rw [Bk.size h]; omega)]
  exact vals_data b h j hj
theorem bx_tup {W : World} {B : Nat} {V : Array Value} {g a r : Int} (hx : Bx W B V) (hs : V.size = 19) (t0 : V[16]? = some (.int .u16 g)) (t1 : V[17]? = some (.int .u16 a)) (t2 : V[18]? = some (.int .u32 r)) : W.rangeAt B 16 [.int .u16 g, .int .u16 a, .int .u32 r] := by
  intro j v hv
  match j, hv with
  | 0, hv => rw [hx.cells 16 (by omega), t0]; exact hv
  | 1, hv => rw [hx.cells 17 (by omega), t1]; exact hv
  | 2, hv => rw [hx.cells 18 (by omega), t2]; exact hv
  | n + 3, hv => simp at hv

set_option maxRecDepth 100000 in
set_option maxHeartbeats 1000000 in
theorem check_1 (k p lba : Int) (b : Bk) (w : World) (hb : b.ok) (h0 : 0 ≤ k) (h1 : k ≤ 255) (p0 : 0 ≤ p) (p1 : p ≤ 255) (l0 : 0 ≤ lba) (l1 : lba ≤ 18446744073709551615)
    (hk0 : (k == 0) = true) :
    Calls Try.prog 11 #[.int .u8 k, .int .u8 p, .int .u64 lba, .agg b.vals] w fun e w' => e = .returned (.int .u16 0) ∧ Below w.heap.size w w' := by
  obtain ⟨t0, t1, t2⟩ := cs_tup b hb
  have hdat := Kpt.mk (fun W B (hx : Bx W B b.vals) => c16_at W ⟨B, 0, none⟩ 16 b.d hb.len rfl hb.byte (bx_data b hb hx))
  obtain ⟨V, hV⟩ : ∃ V, V = b.vals := ⟨_, rfl⟩
  rw [← hV] at hdat t0 t1 t2 ⊢
  have hVs : V.size = 19 := by rw [hV]; exact Bk.size hb
  have hbx := Kpt.mk (bx_new w V 33)
  have hB0 := Kpt.mk ((Below.refl w.heap.size w).alloc (Nat.le_refl _) (.cells V 33))
  have KP := Kpt.mk (fun W => passed_any k b.g b.a b.r W)
  have KH := Kpt.mk (fun W => hasRef_any k W h0 h1)
  have hR3 := Kpt.mk (bx_tup hbx.out hVs t0 t1 t2)
  obtain ⟨d, g, a, r⟩ := b
  simp only at *
  generalize (reg16 0 d : Int) = G at *
  clear hV hb h0 h1 p0 p1
  go_enter Try.func11, Try.ntmps11
  go_wp2
  go_ret
  exact ⟨rfl, hB0.out⟩

set_option maxRecDepth 100000 in
set_option maxHeartbeats 1000000 in
theorem check_2 (k p lba : Int) (b : Bk) (w : World) (hb : b.ok) (h0 : 0 ≤ k) (h1 : k ≤ 255) (p0 : 0 ≤ p) (p1 : p ≤ 255) (l0 : 0 ≤ lba) (l1 : lba ≤ 18446744073709551615)
    (hk0 : (k == 0) = false) (hk3 : 3 < k) :
    Calls Try.prog 11 #[.int .u8 k, .int .u8 p, .int .u64 lba, .agg b.vals] w fun e w' => e = .returned (.int .u16 0) ∧ Below w.heap.size w w' := by
  obtain ⟨t0, t1, t2⟩ := cs_tup b hb
  have hdat := Kpt.mk (fun W B (hx : Bx W B b.vals) => c16_at W ⟨B, 0, none⟩ 16 b.d hb.len rfl hb.byte (bx_data b hb hx))
  obtain ⟨V, hV⟩ : ∃ V, V = b.vals := ⟨_, rfl⟩
  rw [← hV] at hdat t0 t1 t2 ⊢
  have hVs : V.size = 19 := by rw [hV]; exact Bk.size hb
  have hbx := Kpt.mk (bx_new w V 33)
  have hB0 := Kpt.mk ((Below.refl w.heap.size w).alloc (Nat.le_refl _) (.cells V 33))
  have KP := Kpt.mk (fun W => passed_any k b.g b.a b.r W)
  have KH := Kpt.mk (fun W => hasRef_any k W h0 h1)
  have hR3 := Kpt.mk (bx_tup hbx.out hVs t0 t1 t2)
  obtain ⟨d, g, a, r⟩ := b
  simp only at *
  generalize (reg16 0 d : Int) = G at *
  clear hV hb h0 h1 p0 p1
  go_enter Try.func11, Try.ntmps11
  go_wp2
  go_ret
  exact ⟨rfl, hB0.out⟩

set_option maxRecDepth 100000 in
set_option maxHeartbeats 1000000 in
theorem check_3 (k p lba : Int) (b : Bk) (w : World) (hb : b.ok) (h0 : 0 ≤ k) (h1 : k ≤ 255) (p0 : 0 ≤ p) (p1 : p ≤ 255) (l0 : 0 ≤ lba) (l1 : lba ≤ 18446744073709551615)
    (hk0 : (k == 0) = false) (hk3 : ¬ 3 < k) (hp3 : (p == 3) = true) :
    Calls Try.prog 11 #[.int .u8 k, .int .u8 p, .int .u64 lba, .agg b.vals] w fun e w' => e = .returned (.int .u16 0) ∧ Below w.heap.size w w' := by
  obtain ⟨t0, t1, t2⟩ := cs_tup b hb
  have hdat := Kpt.mk (fun W B (hx : Bx W B b.vals) => c16_at W ⟨B, 0, none⟩ 16 b.d hb.len rfl hb.byte (bx_data b hb hx))
  obtain ⟨V, hV⟩ : ∃ V, V = b.vals := ⟨_, rfl⟩
  rw [← hV] at hdat t0 t1 t2 ⊢
  have hVs : V.size = 19 := by rw [hV]; exact Bk.size hb
  have hbx := Kpt.mk (bx_new w V 33)
  have hB0 := Kpt.mk ((Below.refl w.heap.size w).alloc (Nat.le_refl _) (.cells V 33))
  have KP := Kpt.mk (fun W => passed_any k b.g b.a b.r W)
  have KH := Kpt.mk (fun W => hasRef_any k W h0 h1)
  have hR3 := Kpt.mk (bx_tup hbx.out hVs t0 t1 t2)
  obtain ⟨d, g, a, r⟩ := b
  simp only at *
  generalize (reg16 0 d : Int) = G at *
  clear hV hb h0 h1 p0 p1
  go_enter Try.func11, Try.ntmps11
  go_wp2
  go_ret
  exact ⟨rfl, hB0.out⟩

set_option maxRecDepth 100000 in
set_option maxHeartbeats 1000000 in
theorem check_4 (k p lba : Int) (b : Bk) (w : World) (hb : b.ok) (h0 : 0 ≤ k) (h1 : k ≤ 255) (p0 : 0 ≤ p) (p1 : p ≤ 255) (l0 : 0 ≤ lba) (l1 : lba ≤ 18446744073709551615)
    (hk0 : (k == 0) = false) (hk3 : ¬ 3 < k) (hp3 : (p == 3) = false) (hp4 : 4 < p) :
    Calls Try.prog 11 #[.int .u8 k, .int .u8 p, .int .u64 lba, .agg b.vals] w fun e w' => e = .returned (.int .u16 0) ∧ Below w.heap.size w w' := by
  obtain ⟨t0, t1, t2⟩ := cs_tup b hb
  have hdat := Kpt.mk (fun W B (hx : Bx W B b.vals) => c16_at W ⟨B, 0, none⟩ 16 b.d hb.len rfl hb.byte (bx_data b hb hx))
  obtain ⟨V, hV⟩ : ∃ V, V = b.vals := ⟨_, rfl⟩
  rw [← hV] at hdat t0 t1 t2 ⊢
  have hVs : V.size = 19 := by rw [hV]; exact Bk.size hb
  have hbx := Kpt.mk (bx_new w V 33)
  have hB0 := Kpt.mk ((Below.refl w.heap.size w).alloc (Nat.le_refl _) (.cells V 33))
  have KP := Kpt.mk (fun W => passed_any k b.g b.a b.r W)
  have KH := Kpt.mk (fun W => hasRef_any k W h0 h1)
  have hR3 := Kpt.mk (bx_tup hbx.out hVs t0 t1 t2)
  obtain ⟨d, g, a, r⟩ := b
  simp only at *
  generalize (reg16 0 d : Int) = G at *
  clear hV hb h0 h1 p0 p1
  go_enter Try.func11, Try.ntmps11
  go_wp2
  go_ret
  exact ⟨rfl, hB0.out⟩

set_option maxRecDepth 100000 in
set_option maxHeartbeats 1000000 in
theorem check_5 (k p lba : Int) (b : Bk) (w : World) (hb : b.ok) (h0 : 0 ≤ k) (h1 : k ≤ 255) (p0 : 0 ≤ p) (p1 : p ≤ 255) (l0 : 0 ≤ lba) (l1 : lba ≤ 18446744073709551615)
    (hk0 : (k == 0) = false) (hk3 : ¬ 3 < k) (hp3 : (p == 3) = false) (hp4 : ¬ 4 < p) (hp : passB k b.a b.r = true) :
    Calls Try.prog 11 #[.int .u8 k, .int .u8 p, .int .u64 lba, .agg b.vals] w fun e w' => e = .returned (.int .u16 0) ∧ Below w.heap.size w w' := by
  obtain ⟨t0, t1, t2⟩ := cs_tup b hb
  have hdat := Kpt.mk (fun W B (hx : Bx W B b.vals) => c16_at W ⟨B, 0, none⟩ 16 b.d hb.len rfl hb.byte (bx_data b hb hx))
  obtain ⟨V, hV⟩ : ∃ V, V = b.vals := ⟨_, rfl⟩
  rw [← hV] at hdat t0 t1 t2 ⊢
  have hVs : V.size = 19 := by rw [hV]; exact Bk.size hb
  have hbx := Kpt.mk (bx_new w V 33)
  have hB0 := Kpt.mk ((Below.refl w.heap.size w).alloc (Nat.le_refl _) (.cells V 33))
  have KP := Kpt.mk (fun W => passed_any k b.g b.a b.r W)
  have KH := Kpt.mk (fun W => hasRef_any k W h0 h1)
  have hR3 := Kpt.mk (bx_tup hbx.out hVs t0 t1 t2)
  obtain ⟨d, g, a, r⟩ := b
  simp only at *
  generalize (reg16 0 d : Int) = G at *
  rw [hp] at KP
  clear hV hb h0 h1 p0 p1 hp
  go_enter Try.func11, Try.ntmps11
  go_wp2_with (first | (refine wpList_load_mid rfl 28 (.tmp 23) rfl w.heap.size 16 rfl [.int .u16 g, .int .u16 a, .int .u32 r] _ hR3.out Try.underlying28 rfl infoT ?_) | (go_at_call 25; go_must (refine (KP.out _).mono ?_; rintro e x1 ⟨rfl, hq⟩; have hX1 : Kpt (Bx x1 w.heap.size V) := ⟨hbx.out.below hq (by simp)⟩; have hx1 : Kpt (Below w.heap.size w x1) := ⟨hB0.out.trans (hq.mono (by simp <;> omega))⟩; clear hq)))
  go_ret
  exact ⟨rfl, hx1.out⟩

set_option maxRecDepth 100000 in
set_option maxHeartbeats 1000000 in
theorem check_6 (k p lba : Int) (b : Bk) (w : World) (hb : b.ok) (h0 : 0 ≤ k) (h1 : k ≤ 255) (p0 : 0 ≤ p) (p1 : p ≤ 255) (l0 : 0 ≤ lba) (l1 : lba ≤ 18446744073709551615)
    (hk0 : (k == 0) = false) (hk3 : ¬ 3 < k) (hp3 : (p == 3) = false) (hp4 : ¬ 4 < p) (hp : passB k b.a b.r = false) (hp2 : (p != 2) = true) (hg : (b.g != (reg16 0 b.d : Int)) = true) :
    Calls Try.prog 11 #[.int .u8 k, .int .u8 p, .int .u64 lba, .agg b.vals] w fun e w' => e = .returned (.int .u16 4097) ∧ Below w.heap.size w w' := by
  obtain ⟨t0, t1, t2⟩ := cs_tup b hb
  have hdat := Kpt.mk (fun W B (hx : Bx W B b.vals) => c16_at W ⟨B, 0, none⟩ 16 b.d hb.len rfl hb.byte (bx_data b hb hx))
  obtain ⟨V, hV⟩ : ∃ V, V = b.vals := ⟨_, rfl⟩
  rw [← hV] at hdat t0 t1 t2 ⊢
  have hVs : V.size = 19 := by rw [hV]; exact Bk.size hb
  have hbx := Kpt.mk (bx_new w V 33)
  have hB0 := Kpt.mk ((Below.refl w.heap.size w).alloc (Nat.le_refl _) (.cells V 33))
  have KP := Kpt.mk (fun W => passed_any k b.g b.a b.r W)
  have KH := Kpt.mk (fun W => hasRef_any k W h0 h1)
  have hR3 := Kpt.mk (bx_tup hbx.out hVs t0 t1 t2)
  obtain ⟨d, g, a, r⟩ := b
  simp only at *
  generalize (reg16 0 d : Int) = G at *
  rw [hp] at KP
  clear hV hb h0 h1 p0 p1 hp
  go_enter Try.func11, Try.ntmps11
  go_wp2_with (first | (refine wpList_load_mid rfl 28 (.tmp 23) rfl w.heap.size 16 rfl [.int .u16 g, .int .u16 a, .int .u32 r] _ hR3.out Try.underlying28 rfl infoT ?_) | (go_at_call 25; go_must (refine (KP.out _).mono ?_; rintro e x1 ⟨rfl, hq⟩; have hX1 : Kpt (Bx x1 w.heap.size V) := ⟨hbx.out.below hq (by simp)⟩; have hx1 : Kpt (Below w.heap.size w x1) := ⟨hB0.out.trans (hq.mono (by simp <;> omega))⟩; clear hq)))
  refine wp_region_any (by kernel_rfl) ?_
  refine wpAny_of_C (C := fun W => Bx W w.heap.size V) _ _ _ _ ?_
  refine wpAnyC_take 0 (.int .u8 p) rfl (by kernel_rfl) (by kernel_rfl) (by kernel_rfl) (fun _ _ _ h => h) (wanted_free rfl _) (fun W hW => by go_simp) ?_
  try simp only [Act.put, List.getElem_toArray, List.getElem_cons_succ, List.getElem_cons_zero, List.setIfInBounds_toArray, List.set_cons_succ, List.set_cons_zero]
  refine wpAnyC_take 1 (.bool true) rfl (by kernel_rfl) (by kernel_rfl) (by kernel_rfl) (fun _ _ _ h => h) (wanted_free rfl _) (fun W hW => by go_simp) ?_
  try simp only [Act.put, List.getElem_toArray, List.getElem_cons_succ, List.getElem_cons_zero, List.setIfInBounds_toArray, List.set_cons_succ, List.set_cons_zero]
  refine wpAnyC_take 2 (.bool true) rfl (by kernel_rfl) (by kernel_rfl) (by kernel_rfl) (fun _ _ _ h => h) (wanted_free rfl _) (fun W hW => by go_simp) ?_
  try simp only [Act.put, List.getElem_toArray, List.getElem_cons_succ, List.getElem_cons_zero, List.setIfInBounds_toArray, List.set_cons_succ, List.set_cons_zero]
  refine wpAnyC_take 3 (.pointer (some ⟨w.heap.size, 16, none⟩)) rfl (by kernel_rfl) (by kernel_rfl) (by kernel_rfl) (fun _ _ _ h => h) (wanted_at true rfl rfl rfl rfl) (fun W hW => by go_simp) ?_
  try simp only [Act.put, List.getElem_toArray, List.getElem_cons_succ, List.getElem_cons_zero, List.setIfInBounds_toArray, List.set_cons_succ, List.set_cons_zero]
  refine wpAnyC_take 4 (.pointer (some ⟨w.heap.size, 16, none⟩)) rfl (by kernel_rfl) (by kernel_rfl) (by kernel_rfl) (fun _ _ _ h => h) (wanted_at true rfl rfl rfl rfl) (fun W hW => by go_simp) ?_
  try simp only [Act.put, List.getElem_toArray, List.getElem_cons_succ, List.getElem_cons_zero, List.setIfInBounds_toArray, List.set_cons_succ, List.set_cons_zero]
  refine wpAnyC_take 5 (.int .u16 g) rfl (by kernel_rfl) (by kernel_rfl) (by kernel_rfl) (fun _ _ _ h => h) (wanted_at true rfl rfl rfl rfl) (fun W hW => by (have h16 : W.cell? ⟨w.heap.size, 16, none⟩ = some (.int .u16 g) := (hW.cells 16 (by omega)).trans t0); go_simp) ?_
  try simp only [Act.put, List.getElem_toArray, List.getElem_cons_succ, List.getElem_cons_zero, List.setIfInBounds_toArray, List.set_cons_succ, List.set_cons_zero]
  refine wpAnyC_take 6 (.pointer (some ⟨w.heap.size, 0, none⟩)) rfl (by kernel_rfl) (by kernel_rfl) (by kernel_rfl) (fun _ _ _ h => h) (wanted_at true rfl rfl rfl rfl) (fun W hW => by go_simp) ?_
  try simp only [Act.put, List.getElem_toArray, List.getElem_cons_succ, List.getElem_cons_zero, List.setIfInBounds_toArray, List.set_cons_succ, List.set_cons_zero]
  refine wpAnyC_take 7 (.slice (some ⟨w.heap.size, 0, none⟩) 16 16) rfl (by kernel_rfl) (by kernel_rfl) (by kernel_rfl) (fun _ _ _ h => h) (wanted_at true rfl rfl rfl rfl) (fun W hW => by (have hc0 := hW.cells 0 (by omega)); go_simp) ?_
  try simp only [Act.put, List.getElem_toArray, List.getElem_cons_succ, List.getElem_cons_zero, List.setIfInBounds_toArray, List.set_cons_succ, List.set_cons_zero]
  refine wpAnyC_one 8 (hX1.out.drew) rfl (by kernel_rfl) (wanted_at true rfl rfl rfl rfl) (fun KA hKA => ?_)
  go_simp
  refine (hdat.out _ _ hX1.out.drew).mono ?_
  rintro e x2 ⟨rfl, rfl⟩
  refine hKA _ _ ?_
  clear hKA KA
  try simp only [Act.put, List.getElem_toArray, List.getElem_cons_succ, List.getElem_cons_zero, List.setIfInBounds_toArray, List.set_cons_succ, List.set_cons_zero]
  refine wpAnyC_take 9 (.bool true) rfl (by kernel_rfl) (by kernel_rfl) (by kernel_rfl) (fun _ _ _ h => h) (wanted_at true rfl rfl rfl rfl) (fun W hW => by go_simp) ?_
  try simp only [Act.put, List.getElem_toArray, List.getElem_cons_succ, List.getElem_cons_zero, List.setIfInBounds_toArray, List.set_cons_succ, List.set_cons_zero]
  refine wpAnyC_take 10 (.bool true) rfl (by kernel_rfl) (by kernel_rfl) (by kernel_rfl) (fun _ _ _ h => h) (wanted_free rfl _) (fun W hW => by go_simp) ?_
  try simp only [Act.put, List.getElem_toArray, List.getElem_cons_succ, List.getElem_cons_zero, List.setIfInBounds_toArray, List.set_cons_succ, List.set_cons_zero]
  refine wpAnyC_take 11 (.bool true) rfl (by kernel_rfl) (by kernel_rfl) (by kernel_rfl) (fun _ _ _ h => h) (wanted_free rfl _) (fun W hW => by go_simp) ?_
  try simp only [Act.put, List.getElem_toArray, List.getElem_cons_succ, List.getElem_cons_zero, List.setIfInBounds_toArray, List.set_cons_succ, List.set_cons_zero]
  refine wpAnyC_done (hX1.out.drew) (by kernel_rfl) ?_
  have hY : Kpt (Below w.heap.size w x1.drew) := ⟨below_drewN hx1.out 1⟩
  have c18 : x1.cell? ⟨w.heap.size, 18, none⟩ = some (.int .u32 r) := (hX1.out.cells 18 (by omega)).trans t2
  go_wp2_with (go_at_call 22; go_must (refine (KH.out _).mono ?_; rintro e x3 ⟨rfl, rfl⟩))
  go_ret
  exact ⟨rfl, hY.out⟩

set_option maxRecDepth 100000 in
set_option maxHeartbeats 1000000 in
theorem check_7 (k p lba : Int) (b : Bk) (w : World) (hb : b.ok) (h0 : 0 ≤ k) (h1 : k ≤ 255) (p0 : 0 ≤ p) (p1 : p ≤ 255) (l0 : 0 ≤ lba) (l1 : lba ≤ 18446744073709551615)
    (hk0 : (k == 0) = false) (hk3 : ¬ 3 < k) (hp3 : (p == 3) = false) (hp4 : ¬ 4 < p) (hp : passB k b.a b.r = false) (hp2 : (p != 2) = true) (hg : (b.g != (reg16 0 b.d : Int)) = false) (hq4 : (p != 4) = false) :
    Calls Try.prog 11 #[.int .u8 k, .int .u8 p, .int .u64 lba, .agg b.vals] w fun e w' => e = .returned (.int .u16 0) ∧ Below w.heap.size w w' := by
  obtain ⟨t0, t1, t2⟩ := cs_tup b hb
  have hdat := Kpt.mk (fun W B (hx : Bx W B b.vals) => c16_at W ⟨B, 0, none⟩ 16 b.d hb.len rfl hb.byte (bx_data b hb hx))
  obtain ⟨V, hV⟩ : ∃ V, V = b.vals := ⟨_, rfl⟩
  rw [← hV] at hdat t0 t1 t2 ⊢
  have hVs : V.size = 19 := by rw [hV]; exact Bk.size hb
  have hbx := Kpt.mk (bx_new w V 33)
  have hB0 := Kpt.mk ((Below.refl w.heap.size w).alloc (Nat.le_refl _) (.cells V 33))
  have KP := Kpt.mk (fun W => passed_any k b.g b.a b.r W)
  have KH := Kpt.mk (fun W => hasRef_any k W h0 h1)
  have hR3 := Kpt.mk (bx_tup hbx.out hVs t0 t1 t2)
  obtain ⟨d, g, a, r⟩ := b
  simp only at *
  generalize (reg16 0 d : Int) = G at *
  rw [hp] at KP
  clear hV hb h0 h1 p0 p1 hp
  go_enter Try.func11, Try.ntmps11
  go_wp2_with (first | (refine wpList_load_mid rfl 28 (.tmp 23) rfl w.heap.size 16 rfl [.int .u16 g, .int .u16 a, .int .u32 r] _ hR3.out Try.underlying28 rfl infoT ?_) | (go_at_call 25; go_must (refine (KP.out _).mono ?_; rintro e x1 ⟨rfl, hq⟩; have hX1 : Kpt (Bx x1 w.heap.size V) := ⟨hbx.out.below hq (by simp)⟩; have hx1 : Kpt (Below w.heap.size w x1) := ⟨hB0.out.trans (hq.mono (by simp <;> omega))⟩; clear hq)))
  refine wp_region_any (by kernel_rfl) ?_
  refine wpAny_of_C (C := fun W => Bx W w.heap.size V) _ _ _ _ ?_
  refine wpAnyC_take 0 (.int .u8 p) rfl (by kernel_rfl) (by kernel_rfl) (by kernel_rfl) (fun _ _ _ h => h) (wanted_free rfl _) (fun W hW => by go_simp) ?_
  try simp only [Act.put, List.getElem_toArray, List.getElem_cons_succ, List.getElem_cons_zero, List.setIfInBounds_toArray, List.set_cons_succ, List.set_cons_zero]
  refine wpAnyC_take 1 (.bool true) rfl (by kernel_rfl) (by kernel_rfl) (by kernel_rfl) (fun _ _ _ h => h) (wanted_free rfl _) (fun W hW => by go_simp) ?_
  try simp only [Act.put, List.getElem_toArray, List.getElem_cons_succ, List.getElem_cons_zero, List.setIfInBounds_toArray, List.set_cons_succ, List.set_cons_zero]
  refine wpAnyC_take 2 (.bool true) rfl (by kernel_rfl) (by kernel_rfl) (by kernel_rfl) (fun _ _ _ h => h) (wanted_free rfl _) (fun W hW => by go_simp) ?_
  try simp only [Act.put, List.getElem_toArray, List.getElem_cons_succ, List.getElem_cons_zero, List.setIfInBounds_toArray, List.set_cons_succ, List.set_cons_zero]
  refine wpAnyC_take 3 (.pointer (some ⟨w.heap.size, 16, none⟩)) rfl (by kernel_rfl) (by kernel_rfl) (by kernel_rfl) (fun _ _ _ h => h) (wanted_at true rfl rfl rfl rfl) (fun W hW => by go_simp) ?_
  try simp only [Act.put, List.getElem_toArray, List.getElem_cons_succ, List.getElem_cons_zero, List.setIfInBounds_toArray, List.set_cons_succ, List.set_cons_zero]
  refine wpAnyC_take 4 (.pointer (some ⟨w.heap.size, 16, none⟩)) rfl (by kernel_rfl) (by kernel_rfl) (by kernel_rfl) (fun _ _ _ h => h) (wanted_at true rfl rfl rfl rfl) (fun W hW => by go_simp) ?_
  try simp only [Act.put, List.getElem_toArray, List.getElem_cons_succ, List.getElem_cons_zero, List.setIfInBounds_toArray, List.set_cons_succ, List.set_cons_zero]
  refine wpAnyC_take 5 (.int .u16 g) rfl (by kernel_rfl) (by kernel_rfl) (by kernel_rfl) (fun _ _ _ h => h) (wanted_at true rfl rfl rfl rfl) (fun W hW => by (have h16 : W.cell? ⟨w.heap.size, 16, none⟩ = some (.int .u16 g) := (hW.cells 16 (by omega)).trans t0); go_simp) ?_
  try simp only [Act.put, List.getElem_toArray, List.getElem_cons_succ, List.getElem_cons_zero, List.setIfInBounds_toArray, List.set_cons_succ, List.set_cons_zero]
  refine wpAnyC_take 6 (.pointer (some ⟨w.heap.size, 0, none⟩)) rfl (by kernel_rfl) (by kernel_rfl) (by kernel_rfl) (fun _ _ _ h => h) (wanted_at true rfl rfl rfl rfl) (fun W hW => by go_simp) ?_
  try simp only [Act.put, List.getElem_toArray, List.getElem_cons_succ, List.getElem_cons_zero, List.setIfInBounds_toArray, List.set_cons_succ, List.set_cons_zero]
  refine wpAnyC_take 7 (.slice (some ⟨w.heap.size, 0, none⟩) 16 16) rfl (by kernel_rfl) (by kernel_rfl) (by kernel_rfl) (fun _ _ _ h => h) (wanted_at true rfl rfl rfl rfl) (fun W hW => by (have hc0 := hW.cells 0 (by omega)); go_simp) ?_
  try simp only [Act.put, List.getElem_toArray, List.getElem_cons_succ, List.getElem_cons_zero, List.setIfInBounds_toArray, List.set_cons_succ, List.set_cons_zero]
  refine wpAnyC_one 8 (hX1.out.drew) rfl (by kernel_rfl) (wanted_at true rfl rfl rfl rfl) (fun KA hKA => ?_)
  go_simp
  refine (hdat.out _ _ hX1.out.drew).mono ?_
  rintro e x2 ⟨rfl, rfl⟩
  refine hKA _ _ ?_
  clear hKA KA
  try simp only [Act.put, List.getElem_toArray, List.getElem_cons_succ, List.getElem_cons_zero, List.setIfInBounds_toArray, List.set_cons_succ, List.set_cons_zero]
  refine wpAnyC_take 9 (.bool false) rfl (by kernel_rfl) (by kernel_rfl) (by kernel_rfl) (fun _ _ _ h => h) (wanted_at true rfl rfl rfl rfl) (fun W hW => by go_simp) ?_
  try simp only [Act.put, List.getElem_toArray, List.getElem_cons_succ, List.getElem_cons_zero, List.setIfInBounds_toArray, List.set_cons_succ, List.set_cons_zero]
  refine wpAnyC_take 10 (.bool false) rfl (by kernel_rfl) (by kernel_rfl) (by kernel_rfl) (fun _ _ _ h => h) (wanted_free rfl _) (fun W hW => by go_simp) ?_
  try simp only [Act.put, List.getElem_toArray, List.getElem_cons_succ, List.getElem_cons_zero, List.setIfInBounds_toArray, List.set_cons_succ, List.set_cons_zero]
  refine wpAnyC_take 11 (.bool false) rfl (by kernel_rfl) (by kernel_rfl) (by kernel_rfl) (fun _ _ _ h => h) (wanted_free rfl _) (fun W hW => by go_simp) ?_
  try simp only [Act.put, List.getElem_toArray, List.getElem_cons_succ, List.getElem_cons_zero, List.setIfInBounds_toArray, List.set_cons_succ, List.set_cons_zero]
  refine wpAnyC_done (hX1.out.drew) (by kernel_rfl) ?_
  have hY : Kpt (Below w.heap.size w x1.drew) := ⟨below_drewN hx1.out 1⟩
  have c18 : x1.cell? ⟨w.heap.size, 18, none⟩ = some (.int .u32 r) := (hX1.out.cells 18 (by omega)).trans t2
  go_wp2_with (go_at_call 22; go_must (refine (KH.out _).mono ?_; rintro e x3 ⟨rfl, rfl⟩))
  go_ret
  exact ⟨rfl, hY.out⟩

set_option maxRecDepth 100000 in
set_option maxHeartbeats 1000000 in
theorem check_8 (k p lba : Int) (b : Bk) (w : World) (hb : b.ok) (h0 : 0 ≤ k) (h1 : k ≤ 255) (p0 : 0 ≤ p) (p1 : p ≤ 255) (l0 : 0 ≤ lba) (l1 : lba ≤ 18446744073709551615)
    (hk0 : (k == 0) = false) (hk3 : ¬ 3 < k) (hp3 : (p == 3) = false) (hp4 : ¬ 4 < p) (hp : passB k b.a b.r = false) (hp2 : (p != 2) = true) (hg : (b.g != (reg16 0 b.d : Int)) = false) (hq4 : (p != 4) = true) (hh : hasB k = true) (hr : (b.r != lba % 4294967296) = true) :
    Calls Try.prog 11 #[.int .u8 k, .int .u8 p, .int .u64 lba, .agg b.vals] w fun e w' => e = .returned (.int .u16 4099) ∧ Below w.heap.size w w' := by
  obtain ⟨t0, t1, t2⟩ := cs_tup b hb
  have hdat := Kpt.mk (fun W B (hx : Bx W B b.vals) => c16_at W ⟨B, 0, none⟩ 16 b.d hb.len rfl hb.byte (bx_data b hb hx))
  obtain ⟨V, hV⟩ : ∃ V, V = b.vals := ⟨_, rfl⟩
  rw [← hV] at hdat t0 t1 t2 ⊢
  have hVs : V.size = 19 := by rw [hV]; exact Bk.size hb
  have hbx := Kpt.mk (bx_new w V 33)
  have hB0 := Kpt.mk ((Below.refl w.heap.size w).alloc (Nat.le_refl _) (.cells V 33))
  have KP := Kpt.mk (fun W => passed_any k b.g b.a b.r W)
  have KH := Kpt.mk (fun W => hasRef_any k W h0 h1)
  have hR3 := Kpt.mk (bx_tup hbx.out hVs t0 t1 t2)
  obtain ⟨d, g, a, r⟩ := b
  simp only at *
  generalize (reg16 0 d : Int) = G at *
  rw [hp] at KP
  rw [hh] at KH
  clear hV hb h0 h1 p0 p1 hp hh
  go_enter Try.func11, Try.ntmps11
  go_wp2_with (first | (refine wpList_load_mid rfl 28 (.tmp 23) rfl w.heap.size 16 rfl [.int .u16 g, .int .u16 a, .int .u32 r] _ hR3.out Try.underlying28 rfl infoT ?_) | (go_at_call 25; go_must (refine (KP.out _).mono ?_; rintro e x1 ⟨rfl, hq⟩; have hX1 : Kpt (Bx x1 w.heap.size V) := ⟨hbx.out.below hq (by simp)⟩; have hx1 : Kpt (Below w.heap.size w x1) := ⟨hB0.out.trans (hq.mono (by simp <;> omega))⟩; clear hq)))
  refine wp_region_any (by kernel_rfl) ?_
  refine wpAny_of_C (C := fun W => Bx W w.heap.size V) _ _ _ _ ?_
  refine wpAnyC_take 0 (.int .u8 p) rfl (by kernel_rfl) (by kernel_rfl) (by kernel_rfl) (fun _ _ _ h => h) (wanted_free rfl _) (fun W hW => by go_simp) ?_
  try simp only [Act.put, List.getElem_toArray, List.getElem_cons_succ, List.getElem_cons_zero, List.setIfInBounds_toArray, List.set_cons_succ, List.set_cons_zero]
  refine wpAnyC_take 1 (.bool true) rfl (by kernel_rfl) (by kernel_rfl) (by kernel_rfl) (fun _ _ _ h => h) (wanted_free rfl _) (fun W hW => by go_simp) ?_
  try simp only [Act.put, List.getElem_toArray, List.getElem_cons_succ, List.getElem_cons_zero, List.setIfInBounds_toArray, List.set_cons_succ, List.set_cons_zero]
  refine wpAnyC_take 2 (.bool true) rfl (by kernel_rfl) (by kernel_rfl) (by kernel_rfl) (fun _ _ _ h => h) (wanted_free rfl _) (fun W hW => by go_simp) ?_
  try simp only [Act.put, List.getElem_toArray, List.getElem_cons_succ, List.getElem_cons_zero, List.setIfInBounds_toArray, List.set_cons_succ, List.set_cons_zero]
  refine wpAnyC_take 3 (.pointer (some ⟨w.heap.size, 16, none⟩)) rfl (by kernel_rfl) (by kernel_rfl) (by kernel_rfl) (fun _ _ _ h => h) (wanted_at true rfl rfl rfl rfl) (fun W hW => by go_simp) ?_
  try simp only [Act.put, List.getElem_toArray, List.getElem_cons_succ, List.getElem_cons_zero, List.setIfInBounds_toArray, List.set_cons_succ, List.set_cons_zero]
  refine wpAnyC_take 4 (.pointer (some ⟨w.heap.size, 16, none⟩)) rfl (by kernel_rfl) (by kernel_rfl) (by kernel_rfl) (fun _ _ _ h => h) (wanted_at true rfl rfl rfl rfl) (fun W hW => by go_simp) ?_
  try simp only [Act.put, List.getElem_toArray, List.getElem_cons_succ, List.getElem_cons_zero, List.setIfInBounds_toArray, List.set_cons_succ, List.set_cons_zero]
  refine wpAnyC_take 5 (.int .u16 g) rfl (by kernel_rfl) (by kernel_rfl) (by kernel_rfl) (fun _ _ _ h => h) (wanted_at true rfl rfl rfl rfl) (fun W hW => by (have h16 : W.cell? ⟨w.heap.size, 16, none⟩ = some (.int .u16 g) := (hW.cells 16 (by omega)).trans t0); go_simp) ?_
  try simp only [Act.put, List.getElem_toArray, List.getElem_cons_succ, List.getElem_cons_zero, List.setIfInBounds_toArray, List.set_cons_succ, List.set_cons_zero]
  refine wpAnyC_take 6 (.pointer (some ⟨w.heap.size, 0, none⟩)) rfl (by kernel_rfl) (by kernel_rfl) (by kernel_rfl) (fun _ _ _ h => h) (wanted_at true rfl rfl rfl rfl) (fun W hW => by go_simp) ?_
  try simp only [Act.put, List.getElem_toArray, List.getElem_cons_succ, List.getElem_cons_zero, List.setIfInBounds_toArray, List.set_cons_succ, List.set_cons_zero]
  refine wpAnyC_take 7 (.slice (some ⟨w.heap.size, 0, none⟩) 16 16) rfl (by kernel_rfl) (by kernel_rfl) (by kernel_rfl) (fun _ _ _ h => h) (wanted_at true rfl rfl rfl rfl) (fun W hW => by (have hc0 := hW.cells 0 (by omega)); go_simp) ?_
  try simp only [Act.put, List.getElem_toArray, List.getElem_cons_succ, List.getElem_cons_zero, List.setIfInBounds_toArray, List.set_cons_succ, List.set_cons_zero]
  refine wpAnyC_one 8 (hX1.out.drew) rfl (by kernel_rfl) (wanted_at true rfl rfl rfl rfl) (fun KA hKA => ?_)
  go_simp
  refine (hdat.out _ _ hX1.out.drew).mono ?_
  rintro e x2 ⟨rfl, rfl⟩
  refine hKA _ _ ?_
  clear hKA KA
  try simp only [Act.put, List.getElem_toArray, List.getElem_cons_succ, List.getElem_cons_zero, List.setIfInBounds_toArray, List.set_cons_succ, List.set_cons_zero]
  refine wpAnyC_take 9 (.bool false) rfl (by kernel_rfl) (by kernel_rfl) (by kernel_rfl) (fun _ _ _ h => h) (wanted_at true rfl rfl rfl rfl) (fun W hW => by go_simp) ?_
  try simp only [Act.put, List.getElem_toArray, List.getElem_cons_succ, List.getElem_cons_zero, List.setIfInBounds_toArray, List.set_cons_succ, List.set_cons_zero]
  refine wpAnyC_take 10 (.bool false) rfl (by kernel_rfl) (by kernel_rfl) (by kernel_rfl) (fun _ _ _ h => h) (wanted_free rfl _) (fun W hW => by go_simp) ?_
  try simp only [Act.put, List.getElem_toArray, List.getElem_cons_succ, List.getElem_cons_zero, List.setIfInBounds_toArray, List.set_cons_succ, List.set_cons_zero]
  refine wpAnyC_take 11 (.bool false) rfl (by kernel_rfl) (by kernel_rfl) (by kernel_rfl) (fun _ _ _ h => h) (wanted_free rfl _) (fun W hW => by go_simp) ?_
  try simp only [Act.put, List.getElem_toArray, List.getElem_cons_succ, List.getElem_cons_zero, List.setIfInBounds_toArray, List.set_cons_succ, List.set_cons_zero]
  refine wpAnyC_done (hX1.out.drew) (by kernel_rfl) ?_
  have hY : Kpt (Below w.heap.size w x1.drew) := ⟨below_drewN hx1.out 1⟩
  have c18 : x1.cell? ⟨w.heap.size, 18, none⟩ = some (.int .u32 r) := (hX1.out.cells 18 (by omega)).trans t2
  go_wp2_with (go_at_call 22; go_must (refine (KH.out _).mono ?_; rintro e x3 ⟨rfl, rfl⟩))
  go_ret
  exact ⟨rfl, hY.out⟩

set_option maxRecDepth 100000 in
set_option maxHeartbeats 1000000 in
theorem check_9 (k p lba : Int) (b : Bk) (w : World) (hb : b.ok) (h0 : 0 ≤ k) (h1 : k ≤ 255) (p0 : 0 ≤ p) (p1 : p ≤ 255) (l0 : 0 ≤ lba) (l1 : lba ≤ 18446744073709551615)
    (hk0 : (k == 0) = false) (hk3 : ¬ 3 < k) (hp3 : (p == 3) = false) (hp4 : ¬ 4 < p) (hp : passB k b.a b.r = false) (hp2 : (p != 2) = true) (hg : (b.g != (reg16 0 b.d : Int)) = false) (hq4 : (p != 4) = true) (hh : hasB k = true) (hr : (b.r != lba % 4294967296) = false) :
    Calls Try.prog 11 #[.int .u8 k, .int .u8 p, .int .u64 lba, .agg b.vals] w fun e w' => e = .returned (.int .u16 0) ∧ Below w.heap.size w w' := by
  obtain ⟨t0, t1, t2⟩ := cs_tup b hb
  have hdat := Kpt.mk (fun W B (hx : Bx W B b.vals) => c16_at W ⟨B, 0, none⟩ 16 b.d hb.len rfl hb.byte (bx_data b hb hx))
  obtain ⟨V, hV⟩ : ∃ V, V = b.vals := ⟨_, rfl⟩
  rw [← hV] at hdat t0 t1 t2 ⊢
  have hVs : V.size = 19 := by rw [hV]; exact Bk.size hb
  have hbx := Kpt.mk (bx_new w V 33)
  have hB0 := Kpt.mk ((Below.refl w.heap.size w).alloc (Nat.le_refl _) (.cells V 33))
  have KP := Kpt.mk (fun W => passed_any k b.g b.a b.r W)
  have KH := Kpt.mk (fun W => hasRef_any k W h0 h1)
  have hR3 := Kpt.mk (bx_tup hbx.out hVs t0 t1 t2)
  obtain ⟨d, g, a, r⟩ := b
  simp only at *
  generalize (reg16 0 d : Int) = G at *
  rw [hp] at KP
  rw [hh] at KH
  clear hV hb h0 h1 p0 p1 hp hh
  go_enter Try.func11, Try.ntmps11
  go_wp2_with (first | (refine wpList_load_mid rfl 28 (.tmp 23) rfl w.heap.size 16 rfl [.int .u16 g, .int .u16 a, .int .u32 r] _ hR3.out Try.underlying28 rfl infoT ?_) | (go_at_call 25; go_must (refine (KP.out _).mono ?_; rintro e x1 ⟨rfl, hq⟩; have hX1 : Kpt (Bx x1 w.heap.size V) := ⟨hbx.out.below hq (by simp)⟩; have hx1 : Kpt (Below w.heap.size w x1) := ⟨hB0.out.trans (hq.mono (by simp <;> omega))⟩; clear hq)))
  refine wp_region_any (by kernel_rfl) ?_
  refine wpAny_of_C (C := fun W => Bx W w.heap.size V) _ _ _ _ ?_
  refine wpAnyC_take 0 (.int .u8 p) rfl (by kernel_rfl) (by kernel_rfl) (by kernel_rfl) (fun _ _ _ h => h) (wanted_free rfl _) (fun W hW => by go_simp) ?_
  try simp only [Act.put, List.getElem_toArray, List.getElem_cons_succ, List.getElem_cons_zero, List.setIfInBounds_toArray, List.set_cons_succ, List.set_cons_zero]
  refine wpAnyC_take 1 (.bool true) rfl (by kernel_rfl) (by kernel_rfl) (by kernel_rfl) (fun _ _ _ h => h) (wanted_free rfl _) (fun W hW => by go_simp) ?_
  try simp only [Act.put, List.getElem_toArray, List.getElem_cons_succ, List.getElem_cons_zero, List.setIfInBounds_toArray, List.set_cons_succ, List.set_cons_zero]
  refine wpAnyC_take 2 (.bool true) rfl (by kernel_rfl) (by kernel_rfl) (by kernel_rfl) (fun _ _ _ h => h) (wanted_free rfl _) (fun W hW => by go_simp) ?_
  try simp only [Act.put, List.getElem_toArray, List.getElem_cons_succ, List.getElem_cons_zero, List.setIfInBounds_toArray, List.set_cons_succ, List.set_cons_zero]
  refine wpAnyC_take 3 (.pointer (some ⟨w.heap.size, 16, none⟩)) rfl (by kernel_rfl) (by kernel_rfl) (by kernel_rfl) (fun _ _ _ h => h) (wanted_at true rfl rfl rfl rfl) (fun W hW => by go_simp) ?_
  try simp only [Act.put, List.getElem_toArray, List.getElem_cons_succ, List.getElem_cons_zero, List.setIfInBounds_toArray, List.set_cons_succ, List.set_cons_zero]
  refine wpAnyC_take 4 (.pointer (some ⟨w.heap.size, 16, none⟩)) rfl (by kernel_rfl) (by kernel_rfl) (by kernel_rfl) (fun _ _ _ h => h) (wanted_at true rfl rfl rfl rfl) (fun W hW => by go_simp) ?_
  try simp only [Act.put, List.getElem_toArray, List.getElem_cons_succ, List.getElem_cons_zero, List.setIfInBounds_toArray, List.set_cons_succ, List.set_cons_zero]
  refine wpAnyC_take 5 (.int .u16 g) rfl (by kernel_rfl) (by kernel_rfl) (by kernel_rfl) (fun _ _ _ h => h) (wanted_at true rfl rfl rfl rfl) (fun W hW => by (have h16 : W.cell? ⟨w.heap.size, 16, none⟩ = some (.int .u16 g) := (hW.cells 16 (by omega)).trans t0); go_simp) ?_
  try simp only [Act.put, List.getElem_toArray, List.getElem_cons_succ, List.getElem_cons_zero, List.setIfInBounds_toArray, List.set_cons_succ, List.set_cons_zero]
  refine wpAnyC_take 6 (.pointer (some ⟨w.heap.size, 0, none⟩)) rfl (by kernel_rfl) (by kernel_rfl) (by kernel_rfl) (fun _ _ _ h => h) (wanted_at true rfl rfl rfl rfl) (fun W hW => by go_simp) ?_
  try simp only [Act.put, List.getElem_toArray, List.getElem_cons_succ, List.getElem_cons_zero, List.setIfInBounds_toArray, List.set_cons_succ, List.set_cons_zero]
  refine wpAnyC_take 7 (.slice (some ⟨w.heap.size, 0, none⟩) 16 16) rfl (by kernel_rfl) (by kernel_rfl) (by kernel_rfl) (fun _ _ _ h => h) (wanted_at true rfl rfl rfl rfl) (fun W hW => by (have hc0 := hW.cells 0 (by omega)); go_simp) ?_
  try simp only [Act.put, List.getElem_toArray, List.getElem_cons_succ, List.getElem_cons_zero, List.setIfInBounds_toArray, List.set_cons_succ, List.set_cons_zero]
  refine wpAnyC_one 8 (hX1.out.drew) rfl (by kernel_rfl) (wanted_at true rfl rfl rfl rfl) (fun KA hKA => ?_)
  go_simp
  refine (hdat.out _ _ hX1.out.drew).mono ?_
  rintro e x2 ⟨rfl, rfl⟩
  refine hKA _ _ ?_
  clear hKA KA
  try simp only [Act.put, List.getElem_toArray, List.getElem_cons_succ, List.getElem_cons_zero, List.setIfInBounds_toArray, List.set_cons_succ, List.set_cons_zero]
  refine wpAnyC_take 9 (.bool false) rfl (by kernel_rfl) (by kernel_rfl) (by kernel_rfl) (fun _ _ _ h => h) (wanted_at true rfl rfl rfl rfl) (fun W hW => by go_simp) ?_
  try simp only [Act.put, List.getElem_toArray, List.getElem_cons_succ, List.getElem_cons_zero, List.setIfInBounds_toArray, List.set_cons_succ, List.set_cons_zero]
  refine wpAnyC_take 10 (.bool false) rfl (by kernel_rfl) (by kernel_rfl) (by kernel_rfl) (fun _ _ _ h => h) (wanted_free rfl _) (fun W hW => by go_simp) ?_
  try simp only [Act.put, List.getElem_toArray, List.getElem_cons_succ, List.getElem_cons_zero, List.setIfInBounds_toArray, List.set_cons_succ, List.set_cons_zero]
  refine wpAnyC_take 11 (.bool false) rfl (by kernel_rfl) (by kernel_rfl) (by kernel_rfl) (fun _ _ _ h => h) (wanted_free rfl _) (fun W hW => by go_simp) ?_
  try simp only [Act.put, List.getElem_toArray, List.getElem_cons_succ, List.getElem_cons_zero, List.setIfInBounds_toArray, List.set_cons_succ, List.set_cons_zero]
  refine wpAnyC_done (hX1.out.drew) (by kernel_rfl) ?_
  have hY : Kpt (Below w.heap.size w x1.drew) := ⟨below_drewN hx1.out 1⟩
  have c18 : x1.cell? ⟨w.heap.size, 18, none⟩ = some (.int .u32 r) := (hX1.out.cells 18 (by omega)).trans t2
  go_wp2_with (go_at_call 22; go_must (refine (KH.out _).mono ?_; rintro e x3 ⟨rfl, rfl⟩))
  go_ret
  exact ⟨rfl, hY.out⟩

set_option maxRecDepth 100000 in
set_option maxHeartbeats 1000000 in
theorem check_10 (k p lba : Int) (b : Bk) (w : World) (hb : b.ok) (h0 : 0 ≤ k) (h1 : k ≤ 255) (p0 : 0 ≤ p) (p1 : p ≤ 255) (l0 : 0 ≤ lba) (l1 : lba ≤ 18446744073709551615)
    (hk0 : (k == 0) = false) (hk3 : ¬ 3 < k) (hp3 : (p == 3) = false) (hp4 : ¬ 4 < p) (hp : passB k b.a b.r = false) (hp2 : (p != 2) = true) (hg : (b.g != (reg16 0 b.d : Int)) = false) (hq4 : (p != 4) = true) (hh : hasB k = false) :
    Calls Try.prog 11 #[.int .u8 k, .int .u8 p, .int .u64 lba, .agg b.vals] w fun e w' => e = .returned (.int .u16 0) ∧ Below w.heap.size w w' := by
  obtain ⟨t0, t1, t2⟩ := cs_tup b hb
  have hdat := Kpt.mk (fun W B (hx : Bx W B b.vals) => c16_at W ⟨B, 0, none⟩ 16 b.d hb.len rfl hb.byte (bx_data b hb hx))
  obtain ⟨V, hV⟩ : ∃ V, V = b.vals := ⟨_, rfl⟩
  rw [← hV] at hdat t0 t1 t2 ⊢
  have hVs : V.size = 19 := by rw [hV]; exact Bk.size hb
  have hbx := Kpt.mk (bx_new w V 33)
  have hB0 := Kpt.mk ((Below.refl w.heap.size w).alloc (Nat.le_refl _) (.cells V 33))
  have KP := Kpt.mk (fun W => passed_any k b.g b.a b.r W)
  have KH := Kpt.mk (fun W => hasRef_any k W h0 h1)
  have hR3 := Kpt.mk (bx_tup hbx.out hVs t0 t1 t2)
  obtain ⟨d, g, a, r⟩ := b
  simp only at *
  generalize (reg16 0 d : Int) = G at *
  rw [hp] at KP
  rw [hh] at KH
  clear hV hb h0 h1 p0 p1 hp hh
  go_enter Try.func11, Try.ntmps11
  go_wp2_with (first | (refine wpList_load_mid rfl 28 (.tmp 23) rfl w.heap.size 16 rfl [.int .u16 g, .int .u16 a, .int .u32 r] _ hR3.out Try.underlying28 rfl infoT ?_) | (go_at_call 25; go_must (refine (KP.out _).mono ?_; rintro e x1 ⟨rfl, hq⟩; have hX1 : Kpt (Bx x1 w.heap.size V) := ⟨hbx.out.below hq (by simp)⟩; have hx1 : Kpt (Below w.heap.size w x1) := ⟨hB0.out.trans (hq.mono (by simp <;> omega))⟩; clear hq)))
  refine wp_region_any (by kernel_rfl) ?_
  refine wpAny_of_C (C := fun W => Bx W w.heap.size V) _ _ _ _ ?_
  refine wpAnyC_take 0 (.int .u8 p) rfl (by kernel_rfl) (by kernel_rfl) (by kernel_rfl) (fun _ _ _ h => h) (wanted_free rfl _) (fun W hW => by go_simp) ?_
  try simp only [Act.put, List.getElem_toArray, List.getElem_cons_succ, List.getElem_cons_zero, List.setIfInBounds_toArray, List.set_cons_succ, List.set_cons_zero]
  refine wpAnyC_take 1 (.bool true) rfl (by kernel_rfl) (by kernel_rfl) (by kernel_rfl) (fun _ _ _ h => h) (wanted_free rfl _) (fun W hW => by go_simp) ?_
  try simp only [Act.put, List.getElem_toArray, List.getElem_cons_succ, List.getElem_cons_zero, List.setIfInBounds_toArray, List.set_cons_succ, List.set_cons_zero]
  refine wpAnyC_take 2 (.bool true) rfl (by kernel_rfl) (by kernel_rfl) (by kernel_rfl) (fun _ _ _ h => h) (wanted_free rfl _) (fun W hW => by go_simp) ?_
  try simp only [Act.put, List.getElem_toArray, List.getElem_cons_succ, List.getElem_cons_zero, List.setIfInBounds_toArray, List.set_cons_succ, List.set_cons_zero]
  refine wpAnyC_take 3 (.pointer (some ⟨w.heap.size, 16, none⟩)) rfl (by kernel_rfl) (by kernel_rfl) (by kernel_rfl) (fun _ _ _ h => h) (wanted_at true rfl rfl rfl rfl) (fun W hW => by go_simp) ?_
  try simp only [Act.put, List.getElem_toArray, List.getElem_cons_succ, List.getElem_cons_zero, List.setIfInBounds_toArray, List.set_cons_succ, List.set_cons_zero]
  refine wpAnyC_take 4 (.pointer (some ⟨w.heap.size, 16, none⟩)) rfl (by kernel_rfl) (by kernel_rfl) (by kernel_rfl) (fun _ _ _ h => h) (wanted_at true rfl rfl rfl rfl) (fun W hW => by go_simp) ?_
  try simp only [Act.put, List.getElem_toArray, List.getElem_cons_succ, List.getElem_cons_zero, List.setIfInBounds_toArray, List.set_cons_succ, List.set_cons_zero]
  refine wpAnyC_take 5 (.int .u16 g) rfl (by kernel_rfl) (by kernel_rfl) (by kernel_rfl) (fun _ _ _ h => h) (wanted_at true rfl rfl rfl rfl) (fun W hW => by (have h16 : W.cell? ⟨w.heap.size, 16, none⟩ = some (.int .u16 g) := (hW.cells 16 (by omega)).trans t0); go_simp) ?_
  try simp only [Act.put, List.getElem_toArray, List.getElem_cons_succ, List.getElem_cons_zero, List.setIfInBounds_toArray, List.set_cons_succ, List.set_cons_zero]
  refine wpAnyC_take 6 (.pointer (some ⟨w.heap.size, 0, none⟩)) rfl (by kernel_rfl) (by kernel_rfl) (by kernel_rfl) (fun _ _ _ h => h) (wanted_at true rfl rfl rfl rfl) (fun W hW => by go_simp) ?_
  try simp only [Act.put, List.getElem_toArray, List.getElem_cons_succ, List.getElem_cons_zero, List.setIfInBounds_toArray, List.set_cons_succ, List.set_cons_zero]
  refine wpAnyC_take 7 (.slice (some ⟨w.heap.size, 0, none⟩) 16 16) rfl (by kernel_rfl) (by kernel_rfl) (by kernel_rfl) (fun _ _ _ h => h) (wanted_at true rfl rfl rfl rfl) (fun W hW => by (have hc0 := hW.cells 0 (by omega)); go_simp) ?_
  try simp only [Act.put, List.getElem_toArray, List.getElem_cons_succ, List.getElem_cons_zero, List.setIfInBounds_toArray, List.set_cons_succ, List.set_cons_zero]
  refine wpAnyC_one 8 (hX1.out.drew) rfl (by kernel_rfl) (wanted_at true rfl rfl rfl rfl) (fun KA hKA => ?_)
  go_simp
  refine (hdat.out _ _ hX1.out.drew).mono ?_
  rintro e x2 ⟨rfl, rfl⟩
  refine hKA _ _ ?_
  clear hKA KA
  try simp only [Act.put, List.getElem_toArray, List.getElem_cons_succ, List.getElem_cons_zero, List.setIfInBounds_toArray, List.set_cons_succ, List.set_cons_zero]
  refine wpAnyC_take 9 (.bool false) rfl (by kernel_rfl) (by kernel_rfl) (by kernel_rfl) (fun _ _ _ h => h) (wanted_at true rfl rfl rfl rfl) (fun W hW => by go_simp) ?_
  try simp only [Act.put, List.getElem_toArray, List.getElem_cons_succ, List.getElem_cons_zero, List.setIfInBounds_toArray, List.set_cons_succ, List.set_cons_zero]
  refine wpAnyC_take 10 (.bool false) rfl (by kernel_rfl) (by kernel_rfl) (by kernel_rfl) (fun _ _ _ h => h) (wanted_free rfl _) (fun W hW => by go_simp) ?_
  try simp only [Act.put, List.getElem_toArray, List.getElem_cons_succ, List.getElem_cons_zero, List.setIfInBounds_toArray, List.set_cons_succ, List.set_cons_zero]
  refine wpAnyC_take 11 (.bool false) rfl (by kernel_rfl) (by kernel_rfl) (by kernel_rfl) (fun _ _ _ h => h) (wanted_free rfl _) (fun W hW => by go_simp) ?_
  try simp only [Act.put, List.getElem_toArray, List.getElem_cons_succ, List.getElem_cons_zero, List.setIfInBounds_toArray, List.set_cons_succ, List.set_cons_zero]
  refine wpAnyC_done (hX1.out.drew) (by kernel_rfl) ?_
  have hY : Kpt (Below w.heap.size w x1.drew) := ⟨below_drewN hx1.out 1⟩
  have c18 : x1.cell? ⟨w.heap.size, 18, none⟩ = some (.int .u32 r) := (hX1.out.cells 18 (by omega)).trans t2
  go_wp2_with (go_at_call 22; go_must (refine (KH.out _).mono ?_; rintro e x3 ⟨rfl, rfl⟩))
  go_ret
  exact ⟨rfl, hY.out⟩

set_option maxRecDepth 100000 in
set_option maxHeartbeats 1000000 in
theorem check_12 (k p lba : Int) (b : Bk) (w : World) (hb : b.ok) (h0 : 0 ≤ k) (h1 : k ≤ 255) (p0 : 0 ≤ p) (p1 : p ≤ 255) (l0 : 0 ≤ lba) (l1 : lba ≤ 18446744073709551615)
    (hk0 : (k == 0) = false) (hk3 : ¬ 3 < k) (hp3 : (p == 3) = false) (hp4 : ¬ 4 < p) (hp : passB k b.a b.r = false) (hp2 : (p != 2) = false) (hq4 : (p != 4) = true) (hh : hasB k = true) (hr : (b.r != lba % 4294967296) = true) :
    Calls Try.prog 11 #[.int .u8 k, .int .u8 p, .int .u64 lba, .agg b.vals] w fun e w' => e = .returned (.int .u16 4099) ∧ Below w.heap.size w w' := by
  obtain ⟨t0, t1, t2⟩ := cs_tup b hb
  have hdat := Kpt.mk (fun W B (hx : Bx W B b.vals) => c16_at W ⟨B, 0, none⟩ 16 b.d hb.len rfl hb.byte (bx_data b hb hx))
  obtain ⟨V, hV⟩ : ∃ V, V = b.vals := ⟨_, rfl⟩
  rw [← hV] at hdat t0 t1 t2 ⊢
  have hVs : V.size = 19 := by rw [hV]; exact Bk.size hb
  have hbx := Kpt.mk (bx_new w V 33)
  have hB0 := Kpt.mk ((Below.refl w.heap.size w).alloc (Nat.le_refl _) (.cells V 33))
  have KP := Kpt.mk (fun W => passed_any k b.g b.a b.r W)
  have KH := Kpt.mk (fun W => hasRef_any k W h0 h1)
  have hR3 := Kpt.mk (bx_tup hbx.out hVs t0 t1 t2)
  obtain ⟨d, g, a, r⟩ := b
  simp only at *
  generalize (reg16 0 d : Int) = G at *
  rw [hp] at KP
  rw [hh] at KH
  clear hV hb h0 h1 p0 p1 hp hh
  go_enter Try.func11, Try.ntmps11
  go_wp2_with (first | (refine wpList_load_mid rfl 28 (.tmp 23) rfl w.heap.size 16 rfl [.int .u16 g, .int .u16 a, .int .u32 r] _ hR3.out Try.underlying28 rfl infoT ?_) | (go_at_call 25; go_must (refine (KP.out _).mono ?_; rintro e x1 ⟨rfl, hq⟩; have hX1 : Kpt (Bx x1 w.heap.size V) := ⟨hbx.out.below hq (by simp)⟩; have hx1 : Kpt (Below w.heap.size w x1) := ⟨hB0.out.trans (hq.mono (by simp <;> omega))⟩; clear hq)))
  refine wp_region_any (by kernel_rfl) ?_
  refine wpAny_of_C (C := fun W => Bx W w.heap.size V) _ _ _ _ ?_
  refine wpAnyC_take 0 (.int .u8 p) rfl (by kernel_rfl) (by kernel_rfl) (by kernel_rfl) (fun _ _ _ h => h) (wanted_free rfl _) (fun W hW => by go_simp) ?_
  try simp only [Act.put, List.getElem_toArray, List.getElem_cons_succ, List.getElem_cons_zero, List.setIfInBounds_toArray, List.set_cons_succ, List.set_cons_zero]
  refine wpAnyC_take 1 (.bool false) rfl (by kernel_rfl) (by kernel_rfl) (by kernel_rfl) (fun _ _ _ h => h) (wanted_free rfl _) (fun W hW => by go_simp) ?_
  try simp only [Act.put, List.getElem_toArray, List.getElem_cons_succ, List.getElem_cons_zero, List.setIfInBounds_toArray, List.set_cons_succ, List.set_cons_zero]
  refine wpAnyC_take 2 (.bool false) rfl (by kernel_rfl) (by kernel_rfl) (by kernel_rfl) (fun _ _ _ h => h) (wanted_free rfl _) (fun W hW => by go_simp) ?_
  try simp only [Act.put, List.getElem_toArray, List.getElem_cons_succ, List.getElem_cons_zero, List.setIfInBounds_toArray, List.set_cons_succ, List.set_cons_zero]
  refine wpAnyC_skip 3 rfl (by kernel_rfl) (by kernel_rfl) (by kernel_rfl) (fun _ _ _ h => h) (wanted_no true rfl rfl rfl rfl) ?_
  try simp only [Act.put, List.getElem_toArray, List.getElem_cons_succ, List.getElem_cons_zero, List.setIfInBounds_toArray, List.set_cons_succ, List.set_cons_zero]
  refine wpAnyC_skip 4 rfl (by kernel_rfl) (by kernel_rfl) (by kernel_rfl) (fun _ _ _ h => h) (wanted_no true rfl rfl rfl rfl) ?_
  try simp only [Act.put, List.getElem_toArray, List.getElem_cons_succ, List.getElem_cons_zero, List.setIfInBounds_toArray, List.set_cons_succ, List.set_cons_zero]
  refine wpAnyC_skip 5 rfl (by kernel_rfl) (by kernel_rfl) (by kernel_rfl) (fun _ _ _ h => h) (wanted_no true rfl rfl rfl rfl) ?_
  try simp only [Act.put, List.getElem_toArray, List.getElem_cons_succ, List.getElem_cons_zero, List.setIfInBounds_toArray, List.set_cons_succ, List.set_cons_zero]
  refine wpAnyC_skip 6 rfl (by kernel_rfl) (by kernel_rfl) (by kernel_rfl) (fun _ _ _ h => h) (wanted_no true rfl rfl rfl rfl) ?_
  try simp only [Act.put, List.getElem_toArray, List.getElem_cons_succ, List.getElem_cons_zero, List.setIfInBounds_toArray, List.set_cons_succ, List.set_cons_zero]
  refine wpAnyC_skip 7 rfl (by kernel_rfl) (by kernel_rfl) (by kernel_rfl) (fun _ _ _ h => h) (wanted_no true rfl rfl rfl rfl) ?_
  try simp only [Act.put, List.getElem_toArray, List.getElem_cons_succ, List.getElem_cons_zero, List.setIfInBounds_toArray, List.set_cons_succ, List.set_cons_zero]
  refine wpAnyC_skip 8 rfl (by kernel_rfl) (by kernel_rfl) (by kernel_rfl) (fun _ _ _ h => h) (wanted_no true rfl rfl rfl rfl) ?_
  try simp only [Act.put, List.getElem_toArray, List.getElem_cons_succ, List.getElem_cons_zero, List.setIfInBounds_toArray, List.set_cons_succ, List.set_cons_zero]
  refine wpAnyC_skip 9 rfl (by kernel_rfl) (by kernel_rfl) (by kernel_rfl) (fun _ _ _ h => h) (wanted_no true rfl rfl rfl rfl) ?_
  try simp only [Act.put, List.getElem_toArray, List.getElem_cons_succ, List.getElem_cons_zero, List.setIfInBounds_toArray, List.set_cons_succ, List.set_cons_zero]
  refine wpAnyC_take 10 (.bool false) rfl (by kernel_rfl) (by kernel_rfl) (by kernel_rfl) (fun _ _ _ h => h) (wanted_free rfl _) (fun W hW => by go_simp) ?_
  try simp only [Act.put, List.getElem_toArray, List.getElem_cons_succ, List.getElem_cons_zero, List.setIfInBounds_toArray, List.set_cons_succ, List.set_cons_zero]
  refine wpAnyC_take 11 (.bool false) rfl (by kernel_rfl) (by kernel_rfl) (by kernel_rfl) (fun _ _ _ h => h) (wanted_free rfl _) (fun W hW => by go_simp) ?_
  try simp only [Act.put, List.getElem_toArray, List.getElem_cons_succ, List.getElem_cons_zero, List.setIfInBounds_toArray, List.set_cons_succ, List.set_cons_zero]
  refine wpAnyC_done (hX1.out.drew) (by kernel_rfl) ?_
  have hY : Kpt (Below w.heap.size w x1.drew) := ⟨below_drewN hx1.out 1⟩
  have c18 : x1.cell? ⟨w.heap.size, 18, none⟩ = some (.int .u32 r) := (hX1.out.cells 18 (by omega)).trans t2
  go_wp2_with (go_at_call 22; go_must (refine (KH.out _).mono ?_; rintro e x3 ⟨rfl, rfl⟩))
  go_ret
  exact ⟨rfl, hY.out⟩

set_option maxRecDepth 100000 in
set_option maxHeartbeats 1000000 in
theorem check_13 (k p lba : Int) (b : Bk) (w : World) (hb : b.ok) (h0 : 0 ≤ k) (h1 : k ≤ 255) (p0 : 0 ≤ p) (p1 : p ≤ 255) (l0 : 0 ≤ lba) (l1 : lba ≤ 18446744073709551615)
    (hk0 : (k == 0) = false) (hk3 : ¬ 3 < k) (hp3 : (p == 3) = false) (hp4 : ¬ 4 < p) (hp : passB k b.a b.r = false) (hp2 : (p != 2) = false) (hq4 : (p != 4) = true) (hh : hasB k = true) (hr : (b.r != lba % 4294967296) = false) :
    Calls Try.prog 11 #[.int .u8 k, .int .u8 p, .int .u64 lba, .agg b.vals] w fun e w' => e = .returned (.int .u16 0) ∧ Below w.heap.size w w' := by
  obtain ⟨t0, t1, t2⟩ := cs_tup b hb
  have hdat := Kpt.mk (fun W B (hx : Bx W B b.vals) => c16_at W ⟨B, 0, none⟩ 16 b.d hb.len rfl hb.byte (bx_data b hb hx))
  obtain ⟨V, hV⟩ : ∃ V, V = b.vals := ⟨_, rfl⟩
  rw [← hV] at hdat t0 t1 t2 ⊢
  have hVs : V.size = 19 := by rw [hV]; exact Bk.size hb
  have hbx := Kpt.mk (bx_new w V 33)
  have hB0 := Kpt.mk ((Below.refl w.heap.size w).alloc (Nat.le_refl _) (.cells V 33))
  have KP := Kpt.mk (fun W => passed_any k b.g b.a b.r W)
  have KH := Kpt.mk (fun W => hasRef_any k W h0 h1)
  have hR3 := Kpt.mk (bx_tup hbx.out hVs t0 t1 t2)
  obtain ⟨d, g, a, r⟩ := b
  simp only at *
  generalize (reg16 0 d : Int) = G at *
  rw [hp] at KP
  rw [hh] at KH
  clear hV hb h0 h1 p0 p1 hp hh
  go_enter Try.func11, Try.ntmps11
  go_wp2_with (first | (refine wpList_load_mid rfl 28 (.tmp 23) rfl w.heap.size 16 rfl [.int .u16 g, .int .u16 a, .int .u32 r] _ hR3.out Try.underlying28 rfl infoT ?_) | (go_at_call 25; go_must (refine (KP.out _).mono ?_; rintro e x1 ⟨rfl, hq⟩; have hX1 : Kpt (Bx x1 w.heap.size V) := ⟨hbx.out.below hq (by simp)⟩; have hx1 : Kpt (Below w.heap.size w x1) := ⟨hB0.out.trans (hq.mono (by simp <;> omega))⟩; clear hq)))
  refine wp_region_any (by kernel_rfl) ?_
  refine wpAny_of_C (C := fun W => Bx W w.heap.size V) _ _ _ _ ?_
  refine wpAnyC_take 0 (.int .u8 p) rfl (by kernel_rfl) (by kernel_rfl) (by kernel_rfl) (fun _ _ _ h => h) (wanted_free rfl _) (fun W hW => by go_simp) ?_
  try simp only [Act.put, List.getElem_toArray, List.getElem_cons_succ, List.getElem_cons_zero, List.setIfInBounds_toArray, List.set_cons_succ, List.set_cons_zero]
  refine wpAnyC_take 1 (.bool false) rfl (by kernel_rfl) (by kernel_rfl) (by kernel_rfl) (fun _ _ _ h => h) (wanted_free rfl _) (fun W hW => by go_simp) ?_
  try simp only [Act.put, List.getElem_toArray, List.getElem_cons_succ, List.getElem_cons_zero, List.setIfInBounds_toArray, List.set_cons_succ, List.set_cons_zero]
  refine wpAnyC_take 2 (.bool false) rfl (by kernel_rfl) (by kernel_rfl) (by kernel_rfl) (fun _ _ _ h => h) (wanted_free rfl _) (fun W hW => by go_simp) ?_
  try simp only [Act.put, List.getElem_toArray, List.getElem_cons_succ, List.getElem_cons_zero, List.setIfInBounds_toArray, List.set_cons_succ, List.set_cons_zero]
  refine wpAnyC_skip 3 rfl (by kernel_rfl) (by kernel_rfl) (by kernel_rfl) (fun _ _ _ h => h) (wanted_no true rfl rfl rfl rfl) ?_
  try simp only [Act.put, List.getElem_toArray, List.getElem_cons_succ, List.getElem_cons_zero, List.setIfInBounds_toArray, List.set_cons_succ, List.set_cons_zero]
  refine wpAnyC_skip 4 rfl (by kernel_rfl) (by kernel_rfl) (by kernel_rfl) (fun _ _ _ h => h) (wanted_no true rfl rfl rfl rfl) ?_
  try simp only [Act.put, List.getElem_toArray, List.getElem_cons_succ, List.getElem_cons_zero, List.setIfInBounds_toArray, List.set_cons_succ, List.set_cons_zero]
  refine wpAnyC_skip 5 rfl (by kernel_rfl) (by kernel_rfl) (by kernel_rfl) (fun _ _ _ h => h) (wanted_no true rfl rfl rfl rfl) ?_
  try simp only [Act.put, List.getElem_toArray, List.getElem_cons_succ, List.getElem_cons_zero, List.setIfInBounds_toArray, List.set_cons_succ, List.set_cons_zero]
  refine wpAnyC_skip 6 rfl (by kernel_rfl) (by kernel_rfl) (by kernel_rfl) (fun _ _ _ h => h) (wanted_no true rfl rfl rfl rfl) ?_
  try simp only [Act.put, List.getElem_toArray, List.getElem_cons_succ, List.getElem_cons_zero, List.setIfInBounds_toArray, List.set_cons_succ, List.set_cons_zero]
  refine wpAnyC_skip 7 rfl (by kernel_rfl) (by kernel_rfl) (by kernel_rfl) (fun _ _ _ h => h) (wanted_no true rfl rfl rfl rfl) ?_
  try simp only [Act.put, List.getElem_toArray, List.getElem_cons_succ, List.getElem_cons_zero, List.setIfInBounds_toArray, List.set_cons_succ, List.set_cons_zero]
  refine wpAnyC_skip 8 rfl (by kernel_rfl) (by kernel_rfl) (by kernel_rfl) (fun _ _ _ h => h) (wanted_no true rfl rfl rfl rfl) ?_
  try simp only [Act.put, List.getElem_toArray, List.getElem_cons_succ, List.getElem_cons_zero, List.setIfInBounds_toArray, List.set_cons_succ, List.set_cons_zero]
  refine wpAnyC_skip 9 rfl (by kernel_rfl) (by kernel_rfl) (by kernel_rfl) (fun _ _ _ h => h) (wanted_no true rfl rfl rfl rfl) ?_
  try simp only [Act.put, List.getElem_toArray, List.getElem_cons_succ, List.getElem_cons_zero, List.setIfInBounds_toArray, List.set_cons_succ, List.set_cons_zero]
  refine wpAnyC_take 10 (.bool false) rfl (by kernel_rfl) (by kernel_rfl) (by kernel_rfl) (fun _ _ _ h => h) (wanted_free rfl _) (fun W hW => by go_simp) ?_
  try simp only [Act.put, List.getElem_toArray, List.getElem_cons_succ, List.getElem_cons_zero, List.setIfInBounds_toArray, List.set_cons_succ, List.set_cons_zero]
  refine wpAnyC_take 11 (.bool false) rfl (by kernel_rfl) (by kernel_rfl) (by kernel_rfl) (fun _ _ _ h => h) (wanted_free rfl _) (fun W hW => by go_simp) ?_
  try simp only [Act.put, List.getElem_toArray, List.getElem_cons_succ, List.getElem_cons_zero, List.setIfInBounds_toArray, List.set_cons_succ, List.set_cons_zero]
  refine wpAnyC_done (hX1.out.drew) (by kernel_rfl) ?_
  have hY : Kpt (Below w.heap.size w x1.drew) := ⟨below_drewN hx1.out 1⟩
  have c18 : x1.cell? ⟨w.heap.size, 18, none⟩ = some (.int .u32 r) := (hX1.out.cells 18 (by omega)).trans t2
  go_wp2_with (go_at_call 22; go_must (refine (KH.out _).mono ?_; rintro e x3 ⟨rfl, rfl⟩))
  go_ret
  exact ⟨rfl, hY.out⟩

set_option maxRecDepth 100000 in
set_option maxHeartbeats 1000000 in
theorem check_14 (k p lba : Int) (b : Bk) (w : World) (hb : b.ok) (h0 : 0 ≤ k) (h1 : k ≤ 255) (p0 : 0 ≤ p) (p1 : p ≤ 255) (l0 : 0 ≤ lba) (l1 : lba ≤ 18446744073709551615)
    (hk0 : (k == 0) = false) (hk3 : ¬ 3 < k) (hp3 : (p == 3) = false) (hp4 : ¬ 4 < p) (hp : passB k b.a b.r = false) (hp2 : (p != 2) = false) (hq4 : (p != 4) = true) (hh : hasB k = false) :
    Calls Try.prog 11 #[.int .u8 k, .int .u8 p, .int .u64 lba, .agg b.vals] w fun e w' => e = .returned (.int .u16 0) ∧ Below w.heap.size w w' := by
  obtain ⟨t0, t1, t2⟩ := cs_tup b hb
  have hdat := Kpt.mk (fun W B (hx : Bx W B b.vals) => c16_at W ⟨B, 0, none⟩ 16 b.d hb.len rfl hb.byte (bx_data b hb hx))
  obtain ⟨V, hV⟩ : ∃ V, V = b.vals := ⟨_, rfl⟩
  rw [← hV] at hdat t0 t1 t2 ⊢
  have hVs : V.size = 19 := by rw [hV]; exact Bk.size hb
  have hbx := Kpt.mk (bx_new w V 33)
  have hB0 := Kpt.mk ((Below.refl w.heap.size w).alloc (Nat.le_refl _) (.cells V 33))
  have KP := Kpt.mk (fun W => passed_any k b.g b.a b.r W)
  have KH := Kpt.mk (fun W => hasRef_any k W h0 h1)
  have hR3 := Kpt.mk (bx_tup hbx.out hVs t0 t1 t2)
  obtain ⟨d, g, a, r⟩ := b
  simp only at *
  generalize (reg16 0 d : Int) = G at *
  rw [hp] at KP
  rw [hh] at KH
  clear hV hb h0 h1 p0 p1 hp hh
  go_enter Try.func11, Try.ntmps11
  go_wp2_with (first | (refine wpList_load_mid rfl 28 (.tmp 23) rfl w.heap.size 16 rfl [.int .u16 g, .int .u16 a, .int .u32 r] _ hR3.out Try.underlying28 rfl infoT ?_) | (go_at_call 25; go_must (refine (KP.out _).mono ?_; rintro e x1 ⟨rfl, hq⟩; have hX1 : Kpt (Bx x1 w.heap.size V) := ⟨hbx.out.below hq (by simp)⟩; have hx1 : Kpt (Below w.heap.size w x1) := ⟨hB0.out.trans (hq.mono (by simp <;> omega))⟩; clear hq)))
  refine wp_region_any (by kernel_rfl) ?_
  refine wpAny_of_C (C := fun W => Bx W w.heap.size V) _ _ _ _ ?_
  refine wpAnyC_take 0 (.int .u8 p) rfl (by kernel_rfl) (by kernel_rfl) (by kernel_rfl) (fun _ _ _ h => h) (wanted_free rfl _) (fun W hW => by go_simp) ?_
  try simp only [Act.put, List.getElem_toArray, List.getElem_cons_succ, List.getElem_cons_zero, List.setIfInBounds_toArray, List.set_cons_succ, List.set_cons_zero]
  refine wpAnyC_take 1 (.bool false) rfl (by kernel_rfl) (by kernel_rfl) (by kernel_rfl) (fun _ _ _ h => h) (wanted_free rfl _) (fun W hW => by go_simp) ?_
  try simp only [Act.put, List.getElem_toArray, List.getElem_cons_succ, List.getElem_cons_zero, List.setIfInBounds_toArray, List.set_cons_succ, List.set_cons_zero]
  refine wpAnyC_take 2 (.bool false) rfl (by kernel_rfl) (by kernel_rfl) (by kernel_rfl) (fun _ _ _ h => h) (wanted_free rfl _) (fun W hW => by go_simp) ?_
  try simp only [Act.put, List.getElem_toArray, List.getElem_cons_succ, List.getElem_cons_zero, List.setIfInBounds_toArray, List.set_cons_succ, List.set_cons_zero]
  refine wpAnyC_skip 3 rfl (by kernel_rfl) (by kernel_rfl) (by kernel_rfl) (fun _ _ _ h => h) (wanted_no true rfl rfl rfl rfl) ?_
  try simp only [Act.put, List.getElem_toArray, List.getElem_cons_succ, List.getElem_cons_zero, List.setIfInBounds_toArray, List.set_cons_succ, List.set_cons_zero]
  refine wpAnyC_skip 4 rfl (by kernel_rfl) (by kernel_rfl) (by kernel_rfl) (fun _ _ _ h => h) (wanted_no true rfl rfl rfl rfl) ?_
  try simp only [Act.put, List.getElem_toArray, List.getElem_cons_succ, List.getElem_cons_zero, List.setIfInBounds_toArray, List.set_cons_succ, List.set_cons_zero]
  refine wpAnyC_skip 5 rfl (by kernel_rfl) (by kernel_rfl) (by kernel_rfl) (fun _ _ _ h => h) (wanted_no true rfl rfl rfl rfl) ?_
  try simp only [Act.put, List.getElem_toArray, List.getElem_cons_succ, List.getElem_cons_zero, List.setIfInBounds_toArray, List.set_cons_succ, List.set_cons_zero]
  refine wpAnyC_skip 6 rfl (by kernel_rfl) (by kernel_rfl) (by kernel_rfl) (fun _ _ _ h => h) (wanted_no true rfl rfl rfl rfl) ?_
  try simp only [Act.put, List.getElem_toArray, List.getElem_cons_succ, List.getElem_cons_zero, List.setIfInBounds_toArray, List.set_cons_succ, List.set_cons_zero]
  refine wpAnyC_skip 7 rfl (by kernel_rfl) (by kernel_rfl) (by kernel_rfl) (fun _ _ _ h => h) (wanted_no true rfl rfl rfl rfl) ?_
  try simp only [Act.put, List.getElem_toArray, List.getElem_cons_succ, List.getElem_cons_zero, List.setIfInBounds_toArray, List.set_cons_succ, List.set_cons_zero]
  refine wpAnyC_skip 8 rfl (by kernel_rfl) (by kernel_rfl) (by kernel_rfl) (fun _ _ _ h => h) (wanted_no true rfl rfl rfl rfl) ?_
  try simp only [Act.put, List.getElem_toArray, List.getElem_cons_succ, List.getElem_cons_zero, List.setIfInBounds_toArray, List.set_cons_succ, List.set_cons_zero]
  refine wpAnyC_skip 9 rfl (by kernel_rfl) (by kernel_rfl) (by kernel_rfl) (fun _ _ _ h => h) (wanted_no true rfl rfl rfl rfl) ?_
  try simp only [Act.put, List.getElem_toArray, List.getElem_cons_succ, List.getElem_cons_zero, List.setIfInBounds_toArray, List.set_cons_succ, List.set_cons_zero]
  refine wpAnyC_take 10 (.bool false) rfl (by kernel_rfl) (by kernel_rfl) (by kernel_rfl) (fun _ _ _ h => h) (wanted_free rfl _) (fun W hW => by go_simp) ?_
  try simp only [Act.put, List.getElem_toArray, List.getElem_cons_succ, List.getElem_cons_zero, List.setIfInBounds_toArray, List.set_cons_succ, List.set_cons_zero]
  refine wpAnyC_take 11 (.bool false) rfl (by kernel_rfl) (by kernel_rfl) (by kernel_rfl) (fun _ _ _ h => h) (wanted_free rfl _) (fun W hW => by go_simp) ?_
  try simp only [Act.put, List.getElem_toArray, List.getElem_cons_succ, List.getElem_cons_zero, List.setIfInBounds_toArray, List.set_cons_succ, List.set_cons_zero]
  refine wpAnyC_done (hX1.out.drew) (by kernel_rfl) ?_
  have hY : Kpt (Below w.heap.size w x1.drew) := ⟨below_drewN hx1.out 1⟩
  have c18 : x1.cell? ⟨w.heap.size, 18, none⟩ = some (.int .u32 r) := (hX1.out.cells 18 (by omega)).trans t2
  go_wp2_with (go_at_call 22; go_must (refine (KH.out _).mono ?_; rintro e x3 ⟨rfl, rfl⟩))
  go_ret
  exact ⟨rfl, hY.out⟩

theorem check_any (k p lba : Int) (b : Bk) (w : World) (hb : b.ok) (h0 : 0 ≤ k) (h1 : k ≤ 255) (p0 : 0 ≤ p) (p1 : p ≤ 255) (l0 : 0 ≤ lba) (l1 : lba ≤ 18446744073709551615) :
    Calls Try.prog 11 #[.int .u8 k, .int .u8 p, .int .u64 lba, .agg b.vals] w fun e w' => e = .returned (.int .u16 (checkC k p lba b)) ∧ Below w.heap.size w w' := by
  by_cases c1 : k = 0
  · rw [show checkC k p lba b = 0 from by unfold checkC; rw [if_pos (by omega)]]
    exact check_1 k p lba b w hb h0 h1 p0 p1 l0 l1 (by simpa using c1)
  have d1 : (k == 0) = false := by simpa using c1
  by_cases c2 : 3 < k
  · rw [show checkC k p lba b = 0 from by unfold checkC; rw [if_pos (by omega)]]
    exact check_2 k p lba b w hb h0 h1 p0 p1 l0 l1 d1 c2
  by_cases c3 : p = 3
  · rw [show checkC k p lba b = 0 from by unfold checkC; rw [if_pos (by omega)]]
    exact check_3 k p lba b w hb h0 h1 p0 p1 l0 l1 d1 c2 (by simpa using c3)
  have d3 : (p == 3) = false := by simpa using c3
  by_cases c4 : 4 < p
  · rw [show checkC k p lba b = 0 from by unfold checkC; rw [if_pos (by omega)]]
    exact check_4 k p lba b w hb h0 h1 p0 p1 l0 l1 d1 c2 d3 c4
  have dA : ¬ (k < 1 ∨ 3 < k ∨ p = 3 ∨ 4 < p) := by omega
  cases c5 : passB k b.a b.r with
  | true =>
    rw [show checkC k p lba b = 0 from by unfold checkC; rw [if_neg dA, if_pos c5]]
    exact check_5 k p lba b w hb h0 h1 p0 p1 l0 l1 d1 c2 d3 c4 c5
  | false =>
    have dP : ¬ passB k b.a b.r = true := by simp [c5]
    by_cases c6 : p = 2
    · have d6 : (p != 2) = false := by simpa using c6
      have dG : ¬ (p ≠ 2 ∧ b.g ≠ (reg16 0 b.d : Int)) := fun h => h.1 c6
      have d7 : (p != 4) = true := by subst c6; rfl
      cases c7 : hasB k with
      | false =>
        rw [show checkC k p lba b = 0 from by unfold checkC; rw [if_neg dA, if_neg dP, if_neg dG, if_neg (by simp [c7])]]
        exact check_14 k p lba b w hb h0 h1 p0 p1 l0 l1 d1 c2 d3 c4 c5 d6 d7 c7
      | true =>
        by_cases c8 : b.r = lba % 4294967296
        · rw [show checkC k p lba b = 0 from by unfold checkC; rw [if_neg dA, if_neg dP, if_neg dG, if_neg (by simp [c8])]]
          exact check_13 k p lba b w hb h0 h1 p0 p1 l0 l1 d1 c2 d3 c4 c5 d6 d7 c7 (by simpa using c8)
        · rw [show checkC k p lba b = 4099 from by unfold checkC; rw [if_neg dA, if_neg dP, if_neg dG, if_pos ⟨by omega, c7, c8⟩]]
          exact check_12 k p lba b w hb h0 h1 p0 p1 l0 l1 d1 c2 d3 c4 c5 d6 d7 c7 (by simpa using c8)
    · have d6 : (p != 2) = true := by simpa using c6
      by_cases cg : b.g = (reg16 0 b.d : Int)
      · have dg : (b.g != (reg16 0 b.d : Int)) = false := by simpa using cg
        have dG : ¬ (p ≠ 2 ∧ b.g ≠ (reg16 0 b.d : Int)) := fun h => h.2 cg
        by_cases c9 : p = 4
        · rw [show checkC k p lba b = 0 from by unfold checkC; rw [if_neg dA, if_neg dP, if_neg dG, if_neg (by simp [c9])]]
          exact check_7 k p lba b w hb h0 h1 p0 p1 l0 l1 d1 c2 d3 c4 c5 d6 dg (by simpa using c9)
        have d7 : (p != 4) = true := by simpa using c9
        cases c7 : hasB k with
        | false =>
          rw [show checkC k p lba b = 0 from by unfold checkC; rw [if_neg dA, if_neg dP, if_neg dG, if_neg (by simp [c7])]]
          exact check_10 k p lba b w hb h0 h1 p0 p1 l0 l1 d1 c2 d3 c4 c5 d6 dg d7 c7
        | true =>
          by_cases c8 : b.r = lba % 4294967296
          · rw [show checkC k p lba b = 0 from by unfold checkC; rw [if_neg dA, if_neg dP, if_neg dG, if_neg (by simp [c8])]]
            exact check_9 k p lba b w hb h0 h1 p0 p1 l0 l1 d1 c2 d3 c4 c5 d6 dg d7 c7 (by simpa using c8)
          · rw [show checkC k p lba b = 4099 from by unfold checkC; rw [if_neg dA, if_neg dP, if_neg dG, if_pos ⟨c9, c7, c8⟩]]
            exact check_8 k p lba b w hb h0 h1 p0 p1 l0 l1 d1 c2 d3 c4 c5 d6 dg d7 c7 (by simpa using c8)
      · rw [show checkC k p lba b = 4097 from by unfold checkC; rw [if_neg dA, if_neg dP, if_pos ⟨c6, cg⟩]]
        exact check_6 k p lba b w hb h0 h1 p0 p1 l0 l1 d1 c2 d3 c4 c5 d6 (by simpa using cg)
end Go.Proofs.Ytcnjnebhidfogaa
