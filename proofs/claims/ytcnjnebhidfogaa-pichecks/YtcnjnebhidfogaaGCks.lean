/-
  PiChecks: the walk.
-/
import Derived.Test.YtcnjnebhidfogaaGRChk
namespace Go.Proofs.Ytcnjnebhidfogaa
open Go.RowKit
set_option linter.unusedVariables false
set_option linter.unusedSimpArgs false

theorem checkC_bd (k p lba : Int) (b : Bk) : 0 ≤ checkC k p lba b ∧ checkC k p lba b ≤ 65535 := by
  unfold checkC
  split <;> (try split) <;> (try split) <;> (try split) <;> omega
set_option maxRecDepth 100000 in
set_option maxHeartbeats 4000000 in
theorem checks_go (k p lba : Int) (b : Bk) (w : World) (hb : b.ok) (h0 : 0 ≤ k) (h1 : k ≤ 255) (p0 : 0 ≤ p) (p1 : p ≤ 255) (l0 : 0 ≤ lba) (l1 : lba ≤ 18446744073709551615) :
    Calls Try.prog 4 #[.int .u8 k, .int .u8 p, .int .u64 lba, .agg b.vals] w fun e w' => e = .returned (.bool true) ∧ Below w.heap.size w w' := by
  have HA := Kpt.mk awake_any
  have HM := Kpt.mk (fun W => check_any k p lba b W hb h0 h1 p0 p1 l0 l1)
  have HR := Kpt.mk (fun W => rcheck_any k p lba b W hb h0 h1 p0 p1 l0 l1)
  have HK := Kpt.mk (fun W => known_any k p W h0 p0)
  have HL := Kpt.mk (fun W => rknown_any k p W h0 p0)
  have hcb := checkC_bd k p lba b
  have vc : IntKind.i64.wrap (checkC k p lba b) = checkC k p lba b := by rw [IntKind.wrap_i64]; omega
  obtain ⟨D, hD⟩ : ∃ D, D = b.vals := ⟨_, rfl⟩
  have hDs : D.size = 19 := by rw [hD]; exact Bk.size hb
  have hin : (Try.prog.info? 33).map (·.size) = some D.size := by rw [hDs]; kernel_rfl
  have hbx := Kpt.mk (bx_new w D 33)
  rw [← hD] at HM HR ⊢
  have vk : IntKind.i64.wrap k = k := by rw [IntKind.wrap_i64]; omega
  have vp : IntKind.i64.wrap p = p := by rw [IntKind.wrap_i64]; omega
  generalize checkC k p lba b = R at *
  generalize knownB k p = KB at *
  clear hD hb
  have hB0 : Below w.heap.size w (w.alloc (.cells D 33)) := (Below.refl _ _).alloc (Nat.le_refl _) _
  replace hB0 := Kpt.mk hB0
  go_enter Try.func4, Try.ntmps4
  go_wp2_with fail
  refine wp_region_any (by kernel_rfl) ?_
  refine wpAny_of_C (C := fun W => True) _ _ _ _ ?_
  refine wpAnyC_one 0 (trivial) rfl (by kernel_rfl) (wanted_free rfl _) (fun KA hKA => ?_)
  go_simp
  refine (HA.out _).mono ?_
  rintro e x1 ⟨rfl, hb⟩
  have hx1 : Below w.heap.size w x1 := hB0.out.trans ((below_undrew hb).mono (by simp <;> omega))
  have hX1 : Bx x1 w.heap.size D := hbx.out.below (below_undrew hb) (by simp)
  clear hb
  refine hKA _ _ ?_
  clear hKA KA
  try simp only [Act.put, List.getElem_toArray, List.getElem_cons_succ, List.getElem_cons_zero, List.setIfInBounds_toArray, List.set_cons_succ, List.set_cons_zero]
  refine wpAnyC_mono (C' := fun W => Bx W w.heap.size D) (fun W h => trivial) _ _ _ _ ?_
  refine wpAnyC_take 1 (.bool true) rfl (by kernel_rfl) (by kernel_rfl) (by kernel_rfl) (fun _ _ _ h => h) (wanted_free rfl _) (fun W hW => by go_simp) ?_
  try simp only [Act.put, List.getElem_toArray, List.getElem_cons_succ, List.getElem_cons_zero, List.setIfInBounds_toArray, List.set_cons_succ, List.set_cons_zero]
  refine wpAnyC_take 2 (.int .u8 k) rfl (by kernel_rfl) (by kernel_rfl) (by kernel_rfl) (fun _ _ _ h => h) (wanted_at true rfl rfl rfl rfl) (fun W hW => by go_simp) ?_
  try simp only [Act.put, List.getElem_toArray, List.getElem_cons_succ, List.getElem_cons_zero, List.setIfInBounds_toArray, List.set_cons_succ, List.set_cons_zero]
  refine wpAnyC_take 3 (.int .u8 p) rfl (by kernel_rfl) (by kernel_rfl) (by kernel_rfl) (fun _ _ _ h => h) (wanted_at true rfl rfl rfl rfl) (fun W hW => by go_simp) ?_
  try simp only [Act.put, List.getElem_toArray, List.getElem_cons_succ, List.getElem_cons_zero, List.setIfInBounds_toArray, List.set_cons_succ, List.set_cons_zero]
  refine wpAnyC_take 4 (.int .u64 lba) rfl (by kernel_rfl) (by kernel_rfl) (by kernel_rfl) (fun _ _ _ h => h) (wanted_at true rfl rfl rfl rfl) (fun W hW => by go_simp) ?_
  try simp only [Act.put, List.getElem_toArray, List.getElem_cons_succ, List.getElem_cons_zero, List.setIfInBounds_toArray, List.set_cons_succ, List.set_cons_zero]
  refine wpAnyC_take 5 (.agg D) rfl (by kernel_rfl) (by kernel_rfl) (by kernel_rfl) (fun _ _ _ h => h) (wanted_at true rfl rfl rfl rfl) (fun W hW => exec_load_bx 33 (.tmp 7) rfl w.heap.size D rfl hW _ Try.underlying33 rfl hin) ?_
  try simp only [Act.put, List.getElem_toArray, List.getElem_cons_succ, List.getElem_cons_zero, List.setIfInBounds_toArray, List.set_cons_succ, List.set_cons_zero]
  refine wpAnyC_take 8 (.int .u8 k) rfl (by kernel_rfl) (by kernel_rfl) (by kernel_rfl) (fun _ _ _ h => h) (wanted_at true rfl rfl rfl rfl) (fun W hW => by go_simp) ?_
  try simp only [Act.put, List.getElem_toArray, List.getElem_cons_succ, List.getElem_cons_zero, List.setIfInBounds_toArray, List.set_cons_succ, List.set_cons_zero]
  refine wpAnyC_take 9 (.int .i64 k) rfl (by kernel_rfl) (by kernel_rfl) (by kernel_rfl) (fun _ _ _ h => h) (wanted_at true rfl rfl rfl rfl) (fun W hW => by (go_simp; try exact vk)) ?_
  try simp only [Act.put, List.getElem_toArray, List.getElem_cons_succ, List.getElem_cons_zero, List.setIfInBounds_toArray, List.set_cons_succ, List.set_cons_zero]
  refine wpAnyC_take 10 (.int .u8 p) rfl (by kernel_rfl) (by kernel_rfl) (by kernel_rfl) (fun _ _ _ h => h) (wanted_at true rfl rfl rfl rfl) (fun W hW => by go_simp) ?_
  try simp only [Act.put, List.getElem_toArray, List.getElem_cons_succ, List.getElem_cons_zero, List.setIfInBounds_toArray, List.set_cons_succ, List.set_cons_zero]
  refine wpAnyC_take 11 (.int .i64 p) rfl (by kernel_rfl) (by kernel_rfl) (by kernel_rfl) (fun _ _ _ h => h) (wanted_at true rfl rfl rfl rfl) (fun W hW => by (go_simp; try exact vp)) ?_
  try simp only [Act.put, List.getElem_toArray, List.getElem_cons_succ, List.getElem_cons_zero, List.setIfInBounds_toArray, List.set_cons_succ, List.set_cons_zero]
  refine wpAnyC_take 12 (.int .u64 lba) rfl (by kernel_rfl) (by kernel_rfl) (by kernel_rfl) (fun _ _ _ h => h) (wanted_at true rfl rfl rfl rfl) (fun W hW => by go_simp) ?_
  try simp only [Act.put, List.getElem_toArray, List.getElem_cons_succ, List.getElem_cons_zero, List.setIfInBounds_toArray, List.set_cons_succ, List.set_cons_zero]
  refine wpAnyC_take 13 (.agg D) rfl (by kernel_rfl) (by kernel_rfl) (by kernel_rfl) (fun _ _ _ h => h) (wanted_at true rfl rfl rfl rfl) (fun W hW => exec_load_bx 33 (.tmp 7) rfl w.heap.size D rfl hW _ Try.underlying33 rfl hin) ?_
  try simp only [Act.put, List.getElem_toArray, List.getElem_cons_succ, List.getElem_cons_zero, List.setIfInBounds_toArray, List.set_cons_succ, List.set_cons_zero]
  refine wpAnyC_one 6 (hX1) rfl (by kernel_rfl) (wanted_at true rfl rfl rfl rfl) (fun KA hKA => ?_)
  go_simp
  refine (HM.out _).mono ?_
  rintro e x2 ⟨rfl, hb⟩
  have hx2 : Below w.heap.size w x2 := hx1.trans (hb.mono hx1.size)
  have hX2 : Bx x2 w.heap.size D := hX1.below hb hX1.lt
  clear hb
  refine hKA _ _ ?_
  clear hKA KA
  try simp only [Act.put, List.getElem_toArray, List.getElem_cons_succ, List.getElem_cons_zero, List.setIfInBounds_toArray, List.set_cons_succ, List.set_cons_zero]
  refine wpAnyC_take 7 (.int .i64 R) rfl (by kernel_rfl) (by kernel_rfl) (by kernel_rfl) (fun _ _ _ h => h) (wanted_at true rfl rfl rfl rfl) (fun W hW => by (go_simp; try exact vc)) ?_
  try simp only [Act.put, List.getElem_toArray, List.getElem_cons_succ, List.getElem_cons_zero, List.setIfInBounds_toArray, List.set_cons_succ, List.set_cons_zero]
  refine wpAnyC_one 14 (hX2) rfl (by kernel_rfl) (wanted_at true rfl rfl rfl rfl) (fun KA hKA => ?_)
  go_simp
  refine (HR.out _).mono ?_
  rintro e x3 ⟨rfl, hb⟩
  have hx3 : Below w.heap.size w x3 := hx2.trans (hb.mono hx2.size)
  have hX3 : Bx x3 w.heap.size D := hX2.below hb hX2.lt
  clear hb
  refine hKA _ _ ?_
  clear hKA KA
  try simp only [Act.put, List.getElem_toArray, List.getElem_cons_succ, List.getElem_cons_zero, List.setIfInBounds_toArray, List.set_cons_succ, List.set_cons_zero]
  refine wpAnyC_take 15 (.bool true) rfl (by kernel_rfl) (by kernel_rfl) (by kernel_rfl) (fun _ _ _ h => h) (wanted_at true rfl rfl rfl rfl) (fun W hW => by go_simp) ?_
  try simp only [Act.put, List.getElem_toArray, List.getElem_cons_succ, List.getElem_cons_zero, List.setIfInBounds_toArray, List.set_cons_succ, List.set_cons_zero]
  refine wpAnyC_take 16 (.bool true) rfl (by kernel_rfl) (by kernel_rfl) (by kernel_rfl) (fun _ _ _ h => h) (wanted_free rfl _) (fun W hW => by go_simp) ?_
  try simp only [Act.put, List.getElem_toArray, List.getElem_cons_succ, List.getElem_cons_zero, List.setIfInBounds_toArray, List.set_cons_succ, List.set_cons_zero]
  refine wpAnyC_take 17 (.bool true) rfl (by kernel_rfl) (by kernel_rfl) (by kernel_rfl) (fun _ _ _ h => h) (wanted_free rfl _) (fun W hW => by go_simp) ?_
  try simp only [Act.put, List.getElem_toArray, List.getElem_cons_succ, List.getElem_cons_zero, List.setIfInBounds_toArray, List.set_cons_succ, List.set_cons_zero]
  refine wpAnyC_take 18 (.int .u8 k) rfl (by kernel_rfl) (by kernel_rfl) (by kernel_rfl) (fun _ _ _ h => h) (wanted_at true rfl rfl rfl rfl) (fun W hW => by go_simp) ?_
  try simp only [Act.put, List.getElem_toArray, List.getElem_cons_succ, List.getElem_cons_zero, List.setIfInBounds_toArray, List.set_cons_succ, List.set_cons_zero]
  refine wpAnyC_take 19 (.int .u8 p) rfl (by kernel_rfl) (by kernel_rfl) (by kernel_rfl) (fun _ _ _ h => h) (wanted_at true rfl rfl rfl rfl) (fun W hW => by go_simp) ?_
  try simp only [Act.put, List.getElem_toArray, List.getElem_cons_succ, List.getElem_cons_zero, List.setIfInBounds_toArray, List.set_cons_succ, List.set_cons_zero]
  refine wpAnyC_take 21 (.int .u8 k) rfl (by kernel_rfl) (by kernel_rfl) (by kernel_rfl) (fun _ _ _ h => h) (wanted_at true rfl rfl rfl rfl) (fun W hW => by go_simp) ?_
  try simp only [Act.put, List.getElem_toArray, List.getElem_cons_succ, List.getElem_cons_zero, List.setIfInBounds_toArray, List.set_cons_succ, List.set_cons_zero]
  refine wpAnyC_take 22 (.int .i64 k) rfl (by kernel_rfl) (by kernel_rfl) (by kernel_rfl) (fun _ _ _ h => h) (wanted_at true rfl rfl rfl rfl) (fun W hW => by (go_simp; try exact vk)) ?_
  try simp only [Act.put, List.getElem_toArray, List.getElem_cons_succ, List.getElem_cons_zero, List.setIfInBounds_toArray, List.set_cons_succ, List.set_cons_zero]
  refine wpAnyC_take 23 (.int .u8 p) rfl (by kernel_rfl) (by kernel_rfl) (by kernel_rfl) (fun _ _ _ h => h) (wanted_at true rfl rfl rfl rfl) (fun W hW => by go_simp) ?_
  try simp only [Act.put, List.getElem_toArray, List.getElem_cons_succ, List.getElem_cons_zero, List.setIfInBounds_toArray, List.set_cons_succ, List.set_cons_zero]
  refine wpAnyC_take 24 (.int .i64 p) rfl (by kernel_rfl) (by kernel_rfl) (by kernel_rfl) (fun _ _ _ h => h) (wanted_at true rfl rfl rfl rfl) (fun W hW => by (go_simp; try exact vp)) ?_
  try simp only [Act.put, List.getElem_toArray, List.getElem_cons_succ, List.getElem_cons_zero, List.setIfInBounds_toArray, List.set_cons_succ, List.set_cons_zero]
  refine wpAnyC_one 20 (hX3) rfl (by kernel_rfl) (wanted_at true rfl rfl rfl rfl) (fun KA hKA => ?_)
  go_simp
  refine (HK.out _).mono ?_
  rintro e x4 ⟨rfl, rfl⟩
  refine hKA _ _ ?_
  clear hKA KA
  try simp only [Act.put, List.getElem_toArray, List.getElem_cons_succ, List.getElem_cons_zero, List.setIfInBounds_toArray, List.set_cons_succ, List.set_cons_zero]
  refine wpAnyC_one 25 (hX3) rfl (by kernel_rfl) (wanted_at true rfl rfl rfl rfl) (fun KA hKA => ?_)
  go_simp
  refine (HL.out _).mono ?_
  rintro e x5 ⟨rfl, rfl⟩
  refine hKA _ _ ?_
  clear hKA KA
  try simp only [Act.put, List.getElem_toArray, List.getElem_cons_succ, List.getElem_cons_zero, List.setIfInBounds_toArray, List.set_cons_succ, List.set_cons_zero]
  refine wpAnyC_take 26 (.bool true) rfl (by kernel_rfl) (by kernel_rfl) (by kernel_rfl) (fun _ _ _ h => h) (wanted_at true rfl rfl rfl rfl) (fun W hW => by go_simp) ?_
  try simp only [Act.put, List.getElem_toArray, List.getElem_cons_succ, List.getElem_cons_zero, List.setIfInBounds_toArray, List.set_cons_succ, List.set_cons_zero]
  refine wpAnyC_take 27 (.bool true) rfl (by kernel_rfl) (by kernel_rfl) (by kernel_rfl) (fun _ _ _ h => h) (wanted_free rfl _) (fun W hW => by go_simp) ?_
  try simp only [Act.put, List.getElem_toArray, List.getElem_cons_succ, List.getElem_cons_zero, List.setIfInBounds_toArray, List.set_cons_succ, List.set_cons_zero]
  refine wpAnyC_take 28 (.bool true) rfl (by kernel_rfl) (by kernel_rfl) (by kernel_rfl) (fun _ _ _ h => h) (wanted_free rfl _) (fun W hW => by go_simp) ?_
  try simp only [Act.put, List.getElem_toArray, List.getElem_cons_succ, List.getElem_cons_zero, List.setIfInBounds_toArray, List.set_cons_succ, List.set_cons_zero]
  refine wpAnyC_done (hX3) (by kernel_rfl) ?_
  replace hx3 := Kpt.mk hx3
  clear hx1 hx2 hX1 hX2 hX3
  go_wp2_with fail
  go_ret
  exact ⟨rfl, hx3.out⟩
end Go.Proofs.Ytcnjnebhidfogaa
