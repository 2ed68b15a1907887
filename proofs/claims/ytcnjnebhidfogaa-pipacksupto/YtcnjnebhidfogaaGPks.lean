/-
  PiPacks: the walk.
-/
import Derived.Test.YtcnjnebhidfogaaGRUnp
namespace Go.Proofs.Ytcnjnebhidfogaa
open Go.RowKit
set_option linter.unusedVariables false
set_option linter.unusedSimpArgs false

theorem rd_below {w w' : World} {v : Value} {zs : List Int} (h : RdAt w v zs) (hb : Below w.heap.size w w') : RdAt w' v zs := by
  by_cases h0 : zs.length = 0
  · obtain ⟨a, c, e, h1, h2, h3⟩ := h
    exact ⟨a, c, e, h1, h2, .inl h0⟩
  · exact h.of_block (fun g hg => hb.block g (h.lt (by omega) hg))
/-- A row of blocks as Unpack's answer: as many, each as bl says. -/
def Ans (w : World) (v : Value) (m : Nat) (bl : Nat → Bk) : Prop := ∃ a c, v = .slice a m c ∧ Rows w a m bl
theorem Ans.below {w w' : World} {v : Value} {m : Nat} {bl : Nat → Bk} (h : Ans w v m bl) (hb : Below w.heap.size w w') : Ans w' v m bl := by
  obtain ⟨a, c, e, h⟩ := h
  exact ⟨a, c, e, h.below hb⟩
theorem ans_own {w : World} {base m : Nat} {v : Value} {c : Bool} {zs : List Int} (hb : Bytes zs) (hl : zs.length = m * sz c) (h : w.ownsRow base 33 19 v m (unL c zs m)) : Ans w v m (unB c zs) := by
  rcases id h.2 with ⟨h1, h2⟩ | ⟨g, cap, cur, h1, h2, h3, h4, h5, h6, h7⟩
  · exact ⟨none, 0, by rw [h1, h2], fun j hj => by omega⟩
  · refine ⟨some ⟨g, 0, none⟩, cap, h1, fun j hj => ⟨unB_ok c zs j m hb hl hj, g, 0, rfl, (Array.getElem?_eq_some_iff.1 h3).1, fun i u hu => ?_⟩⟩
    have := unL_range c zs m hb hl m (Nat.le_refl _) j hj i u hu
    have hi := (List.getElem?_eq_some_iff.1 hu).1
    rw [cs_len _ (unB_ok c zs j m hb hl hj)] at hi
    rw [← h7, List.getElem?_take, if_pos (by omega)] at this
    rw [Nat.zero_add]
    simp only [World.cell?, h3]
    rw [Array.getElem?_toList] at this
    simpa using this
theorem same_ans (w : World) (v1 v2 : Value) (m : Nat) (bl : Nat → Bk) (hm : m ≤ 140737488355328) (h1 : Ans w v1 m bl) (h2 : Ans w v2 m bl) : Calls Try.prog 20 #[v1, v2] w fun e w' => e = .returned (.bool true) ∧ Below w.heap.size w w' := by
  obtain ⟨a1, c1, rfl, r1⟩ := h1
  obtain ⟨a2, c2, rfl, r2⟩ := h2
  exact same_any w a1 a2 m c1 c2 bl hm r1 r2

set_option maxRecDepth 100000 in
set_option maxHeartbeats 4000000 in
theorem packs_go (v1 v2 : Value) (c ok : Bool) (w : World) (LS : List Int) (m : Nat) (bl : Nat → Bk) (hm : m ≤ 140737488355328)
    (HP0 : ∀ W, Below w.heap.size w W → Calls Try.prog 16 #[v1, .bool c] W fun e w' => ∃ v, e = .returned v ∧ RdAt w' v LS ∧ Below W.heap.size W w')
    (HQ0 : ∀ W, Below w.heap.size w W → Calls Try.prog 19 #[v1, .bool c] W fun e w' => ∃ v, e = .returned v ∧ RdAt w' v LS ∧ Below W.heap.size W w')
    (HU0 : ∀ W, Below w.heap.size w W → Calls Try.prog 17 #[v2, .bool c] W fun e w' => ∃ v, e = .returned (.tuple #[v, .bool ok]) ∧ Ans w' v m bl ∧ Below W.heap.size W w')
    (HV0 : ∀ W, Below w.heap.size w W → Calls Try.prog 18 #[v2, .bool c] W fun e w' => ∃ v, e = .returned (.tuple #[v, .bool ok]) ∧ Ans w' v m bl ∧ Below W.heap.size W w') :
    Calls Try.prog 5 #[v1, v2, .bool c] w fun e w' => e = .returned (.bool true) ∧ Below w.heap.size w w' := by
  have HA := Kpt.mk awake_any
  have HP := Kpt.mk HP0
  have HQ := Kpt.mk HQ0
  have HU := Kpt.mk HU0
  have HV := Kpt.mk HV0
  have KT : Kpt (∀ W, Calls Try.prog 15 #[.bool true] W fun e w' => e = .returned (.int .i64 24) ∧ w' = W) := ⟨fun W => size_any true W⟩
  have KF : Kpt (∀ W, Calls Try.prog 15 #[.bool false] W fun e w' => e = .returned (.int .i64 16) ∧ w' = W) := ⟨fun W => size_any false W⟩
  have HS : Kpt (∀ W v, RdAt W v LS → (convert 40 9 v).run Try.prog W = .ok (.string (strOfNums LS)) W) := ⟨fun W v h => conv_rd h⟩
  generalize strOfNums LS = SS at *
  replace hm := Kpt.mk hm
  have m0 : Kpt True := ⟨trivial⟩
  clear HP0 HQ0 HU0 HV0
  go_enter Try.func5, Try.ntmps5
  go_wp2_with (first | (go_at_call 18; go_must (refine (HV.out _ hx3.out).mono ?_; rintro e x4 ⟨vN, rfl, hN4, hz⟩; have hx4 : Kpt (Below w.heap.size w x4) := ⟨hx3.out.trans (hz.mono hx3.out.size)⟩; have hM4 : Kpt (Ans x4 vM m bl) := ⟨hM3.out.below hz⟩; have hS4 : Kpt (RdAt x4 vS LS) := ⟨rd_below hS3.out hz⟩; replace hN4 := Kpt.mk hN4; clear hz hM3 hS3)) | (go_at_call 17; go_must (refine (HU.out _ hx2.out).mono ?_; rintro e x3 ⟨vM, rfl, hM3, hz⟩; have hx3 : Kpt (Below w.heap.size w x3) := ⟨hx2.out.trans (hz.mono hx2.out.size)⟩; have hS3 : Kpt (RdAt x3 vS LS) := ⟨rd_below hS2.out hz⟩; replace hM3 := Kpt.mk hM3; clear hz hS2)) | (go_at_call 16; go_must (refine (HP.out _ hx1.out).mono ?_; rintro e x2 ⟨vS, rfl, hS2, hz⟩; have hx2 : Kpt (Below w.heap.size w x2) := ⟨hx1.out.trans (hz.mono hx1.out.size)⟩; replace hS2 := Kpt.mk hS2; clear hz)) | (go_at_call 15; have hmm := m2; go_must (refine (KT.out _).mono ?_; rintro e y2 ⟨rfl, e9⟩; subst e9; clear hmm m2)) | (go_at_call 15; have hmm := m1; go_must (refine (KF.out _).mono ?_; rintro e y1 ⟨rfl, e9⟩; subst e9; clear hmm m1; have m2 : Kpt True := ⟨trivial⟩)) | (go_at_call 8; have hmm := m0; go_must (refine (HA.out _).mono ?_; rintro e x1 ⟨rfl, hz⟩; have hx1 := Kpt.mk hz; clear hz hmm m0; have m1 : Kpt True := ⟨trivial⟩)))
  obtain ⟨cM⟩ : Kpt (Ans x4 vM m bl ∧ Ans x4 vN m bl ∧ RdAt x4 vS LS) := ⟨hM4.out, hN4.out, hS4.out⟩
  refine wp_region_any (by kernel_rfl) ?_
  refine wpAny_of_C (C := fun W => RdAt W vS LS) _ _ _ _ ?_
  refine wpAnyC_take 0 (vS) rfl (by kernel_rfl) (by kernel_rfl) (by kernel_rfl) (fun _ _ _ h => h) (wanted_free rfl _) (fun W hW => by go_simp) ?_
  try simp only [Act.put, List.getElem_toArray, List.getElem_cons_succ, List.getElem_cons_zero, List.setIfInBounds_toArray, List.set_cons_succ, List.set_cons_zero]
  refine wpAnyC_take 1 (.string SS) rfl (by kernel_rfl) (by kernel_rfl) (by kernel_rfl) (fun _ _ _ h => h) (wanted_free rfl _) (fun W hW => by exact (by have := HS.out W _ hW; go_simp)) ?_
  try simp only [Act.put, List.getElem_toArray, List.getElem_cons_succ, List.getElem_cons_zero, List.setIfInBounds_toArray, List.set_cons_succ, List.set_cons_zero]
  refine wpAnyC_take 2 (v1) rfl (by kernel_rfl) (by kernel_rfl) (by kernel_rfl) (fun _ _ _ h => h) (wanted_free rfl _) (fun W hW => by go_simp) ?_
  try simp only [Act.put, List.getElem_toArray, List.getElem_cons_succ, List.getElem_cons_zero, List.setIfInBounds_toArray, List.set_cons_succ, List.set_cons_zero]
  refine wpAnyC_take 3 (.bool c) rfl (by kernel_rfl) (by kernel_rfl) (by kernel_rfl) (fun _ _ _ h => h) (wanted_free rfl _) (fun W hW => by go_simp) ?_
  try simp only [Act.put, List.getElem_toArray, List.getElem_cons_succ, List.getElem_cons_zero, List.setIfInBounds_toArray, List.set_cons_succ, List.set_cons_zero]
  refine wpAnyC_one 4 (hS4.out.of_block (fun _ _ => rfl)) rfl (by kernel_rfl) (wanted_free rfl _) (fun KA hKA => ?_)
  go_simp
  refine (HQ.out _ (below_drewN hx4.out 1)).mono ?_
  rintro e x5 ⟨vT, rfl, hrT, hb⟩
  have hx5 : Kpt (Below w.heap.size w x5) := ⟨(below_drewN hx4.out 1).trans (hb.mono hx4.out.size)⟩
  have hbu := below_undrew hb
  have hM5 := Kpt.mk (hM4.out.below hbu)
  have hN5 := Kpt.mk (hN4.out.below hbu)
  have hS5 := rd_below hS4.out hbu
  refine hKA _ _ ?_
  clear hKA KA
  try simp only [Act.put, List.getElem_toArray, List.getElem_cons_succ, List.getElem_cons_zero, List.setIfInBounds_toArray, List.set_cons_succ, List.set_cons_zero]
  clear hb
  refine wpAnyC_mono (C' := fun W => (RdAt W vS LS ∧ RdAt W vT LS)) (fun W h => h.1) _ _ _ _ ?_
  refine wpAnyC_take 5 (.string SS) rfl (by kernel_rfl) (by kernel_rfl) (by kernel_rfl) (fun _ _ _ h => h) (wanted_free rfl _) (fun W hW => by exact (by have := HS.out W _ hW.2; go_simp)) ?_
  try simp only [Act.put, List.getElem_toArray, List.getElem_cons_succ, List.getElem_cons_zero, List.setIfInBounds_toArray, List.set_cons_succ, List.set_cons_zero]
  refine wpAnyC_take 6 (.bool true) rfl (by kernel_rfl) (by kernel_rfl) (by kernel_rfl) (fun _ _ _ h => h) (wanted_free rfl _) (fun W hW => by go_simp) ?_
  try simp only [Act.put, List.getElem_toArray, List.getElem_cons_succ, List.getElem_cons_zero, List.setIfInBounds_toArray, List.set_cons_succ, List.set_cons_zero]
  refine wpAnyC_take 7 (.bool true) rfl (by kernel_rfl) (by kernel_rfl) (by kernel_rfl) (fun _ _ _ h => h) (wanted_free rfl _) (fun W hW => by go_simp) ?_
  try simp only [Act.put, List.getElem_toArray, List.getElem_cons_succ, List.getElem_cons_zero, List.setIfInBounds_toArray, List.set_cons_succ, List.set_cons_zero]
  refine wpAnyC_take 8 (.bool ok) rfl (by kernel_rfl) (by kernel_rfl) (by kernel_rfl) (fun _ _ _ h => h) (wanted_at true rfl rfl rfl rfl) (fun W hW => by go_simp) ?_
  try simp only [Act.put, List.getElem_toArray, List.getElem_cons_succ, List.getElem_cons_zero, List.setIfInBounds_toArray, List.set_cons_succ, List.set_cons_zero]
  refine wpAnyC_take 9 (.bool ok) rfl (by kernel_rfl) (by kernel_rfl) (by kernel_rfl) (fun _ _ _ h => h) (wanted_at true rfl rfl rfl rfl) (fun W hW => by go_simp) ?_
  try simp only [Act.put, List.getElem_toArray, List.getElem_cons_succ, List.getElem_cons_zero, List.setIfInBounds_toArray, List.set_cons_succ, List.set_cons_zero]
  refine wpAnyC_take 10 (.bool true) rfl (by kernel_rfl) (by kernel_rfl) (by kernel_rfl) (fun _ _ _ h => h) (wanted_at true rfl rfl rfl rfl) (fun W hW => by go_simp) ?_
  try simp only [Act.put, List.getElem_toArray, List.getElem_cons_succ, List.getElem_cons_zero, List.setIfInBounds_toArray, List.set_cons_succ, List.set_cons_zero]
  refine wpAnyC_take 11 (.bool true) rfl (by kernel_rfl) (by kernel_rfl) (by kernel_rfl) (fun _ _ _ h => h) (wanted_free rfl _) (fun W hW => by go_simp) ?_
  try simp only [Act.put, List.getElem_toArray, List.getElem_cons_succ, List.getElem_cons_zero, List.setIfInBounds_toArray, List.set_cons_succ, List.set_cons_zero]
  refine wpAnyC_take 12 (.bool true) rfl (by kernel_rfl) (by kernel_rfl) (by kernel_rfl) (fun _ _ _ h => h) (wanted_free rfl _) (fun W hW => by go_simp) ?_
  try simp only [Act.put, List.getElem_toArray, List.getElem_cons_succ, List.getElem_cons_zero, List.setIfInBounds_toArray, List.set_cons_succ, List.set_cons_zero]
  refine wpAnyC_take 13 (vM) rfl (by kernel_rfl) (by kernel_rfl) (by kernel_rfl) (fun _ _ _ h => h) (wanted_at true rfl rfl rfl rfl) (fun W hW => by go_simp) ?_
  try simp only [Act.put, List.getElem_toArray, List.getElem_cons_succ, List.getElem_cons_zero, List.setIfInBounds_toArray, List.set_cons_succ, List.set_cons_zero]
  refine wpAnyC_take 14 (vN) rfl (by kernel_rfl) (by kernel_rfl) (by kernel_rfl) (fun _ _ _ h => h) (wanted_at true rfl rfl rfl rfl) (fun W hW => by go_simp) ?_
  try simp only [Act.put, List.getElem_toArray, List.getElem_cons_succ, List.getElem_cons_zero, List.setIfInBounds_toArray, List.set_cons_succ, List.set_cons_zero]
  refine wpAnyC_one 15 (⟨hS5, hrT⟩) rfl (by kernel_rfl) (wanted_at true rfl rfl rfl rfl) (fun KA hKA => ?_)
  go_simp
  refine (same_ans _ vM vN m bl hm.out hM5.out hN5.out).mono ?_
  rintro e x6 ⟨rfl, hb⟩
  have hx6 : Kpt (Below w.heap.size w x6) := ⟨hx5.out.trans (hb.mono hx5.out.size)⟩
  have hC6 := And.intro (rd_below hS5 hb) (rd_below hrT hb)
  refine hKA _ _ ?_
  clear hKA KA
  try simp only [Act.put, List.getElem_toArray, List.getElem_cons_succ, List.getElem_cons_zero, List.setIfInBounds_toArray, List.set_cons_succ, List.set_cons_zero]
  refine wpAnyC_take 16 (.bool true) rfl (by kernel_rfl) (by kernel_rfl) (by kernel_rfl) (fun _ _ _ h => h) (wanted_free rfl _) (fun W hW => by go_simp) ?_
  try simp only [Act.put, List.getElem_toArray, List.getElem_cons_succ, List.getElem_cons_zero, List.setIfInBounds_toArray, List.set_cons_succ, List.set_cons_zero]
  refine wpAnyC_take 17 (.bool true) rfl (by kernel_rfl) (by kernel_rfl) (by kernel_rfl) (fun _ _ _ h => h) (wanted_free rfl _) (fun W hW => by go_simp) ?_
  try simp only [Act.put, List.getElem_toArray, List.getElem_cons_succ, List.getElem_cons_zero, List.setIfInBounds_toArray, List.set_cons_succ, List.set_cons_zero]
  refine wpAnyC_done (hC6) (by kernel_rfl) ?_
  clear hC6 hb hS5 hrT hbu cM
  go_wp2_with fail
  go_ret
  exact ⟨rfl, hx6.out⟩
end Go.Proofs.Ytcnjnebhidfogaa
