/-
  login: the challenge.
-/
import Derived.Test.YtplifodddfjhdaaGreatDoorXLaA
namespace Go.Proofs.YtplifodddfjhdaaGreatDoor
open Go.RowKit
set_option linter.unusedVariables false
set_option linter.unusedSimpArgs false

/-- The text of bytes. -/
def hexS (zs : List Int) : ByteArray := strOfNums (48 :: 120 :: hexL zs)
set_option maxRecDepth 100000 in
theorem small_3 (w : World) : Calls Tryz.prog 83 #[.int .i64 3] w fun e w' => e = .returned (.string ⟨#[51]⟩) ∧ w' = w := by
  go_enter Tryz.func83, Tryz.ntmps83
  go_wp2
  go_ret
  exact ⟨by rfl, rfl⟩
set_option maxRecDepth 100000 in
theorem fint_3 (w : World) : Calls Tryz.prog 75 #[.int .i64 3, .int .i64 10] w fun e w' => e = .returned (.string ⟨#[51]⟩) ∧ w' = w := by
  go_enter Tryz.func75, Tryz.ntmps75
  go_wp2_with (go_at_call 83; go_must (refine (small_3 _).mono ?_; rintro e wx ⟨rfl, rfl⟩))
  go_ret
  exact ⟨rfl, rfl⟩
set_option maxRecDepth 100000 in
theorem iitoa_3 (w : World) : Calls Tryz.prog 67 #[.int .i64 3] w fun e w' => e = .returned (.string ⟨#[51]⟩) ∧ w' = w := by
  go_enter Tryz.func67, Tryz.ntmps67
  go_wp2_with (go_at_call 75; go_must (refine (fint_3 _).mono ?_; rintro e wx ⟨rfl, rfl⟩))
  go_ret
  exact ⟨rfl, rfl⟩
set_option maxRecDepth 100000 in
theorem itoa_3 (w : World) : Calls Tryz.prog 55 #[.int .i64 3] w fun e w' => e = .returned (.string ⟨#[51]⟩) ∧ w' = w := by
  go_enter Tryz.func55, Tryz.ntmps55
  go_wp2_with (go_at_call 67; go_must (refine (iitoa_3 _).mono ?_; rintro e wx ⟨rfl, rfl⟩))
  go_ret
  exact ⟨rfl, rfl⟩

/-- What a login tells: the number's text, the challenge. -/
structure Chl (L : Nat) (s : Lg) (I : ByteArray) (zs : List Int) (w : World) : Prop where
  i : 0 ≤ s.id ∧ s.id ≤ 255
  itoa : ∀ W, Below w.heap.size w W → Calls Tryz.prog 55 #[.int .i64 s.id] W fun e w' => e = .returned (.string I) ∧ Below W.heap.size W w'
  ch : ∃ a n c, s.ch = .slice a n c ∧ RdAt w (.slice a n c) zs ∧ n ≤ 50000000000000
  b : Bytes zs
set_option maxRecDepth 100000 in
set_option maxHeartbeats 8000000 in
theorem chal_any (L : Nat) (s : Lg) (I : ByteArray) (zs : List Int) (w : World) (hX : Bx w L s.v) (hC : Chl L s I zs w) :
    Calls Tryz.prog 47 #[.pointer (some ⟨L, 0, none⟩)] w fun e w' => ∃ g, e = .returned (.slice (some ⟨g, 0, none⟩) 3 3) ∧ w.heap.size ≤ g ∧ Bx w' g #[.string kCA, .string v5, .string kCI, .string I, .string kCC, .string (hexS zs)] ∧ Below w.heap.size w w' := by
  obtain ⟨hi, hI, ⟨a, n, c, hch, hr, hn⟩, hz⟩ := hC
  have hH : Kpt (∀ W, Below w.heap.size w W → Calls Tryz.prog 56 #[.slice a n c] W fun e w' => e = .returned (.string (hexS zs)) ∧ Below W.heap.size W w') := ⟨fun W hb => hex_any a n c zs W (hr.bel hb) hz hn⟩
  have hiw : IntKind.i64.wrap s.id = s.id := by rw [IntKind.wrap_i64]; omega
  obtain ⟨H, hHx⟩ : ∃ H, H = hexS zs := ⟨_, rfl⟩
  rw [← hHx] at hH ⊢
  have hX0 := Kpt.mk hX
  replace hI := Kpt.mk hI
  replace hch := Kpt.mk hch
  replace hiw := Kpt.mk hiw
  clear hX hr hz hHx hi hn
  unfold kCA v5 kCI kCC
  go_enter Tryz.func47, Tryz.ntmps47
  go_wp2
  refine wp_region_any (by kernel_rfl) ?_
  refine wpAny_of_C (C := fun W => Bx W L s.v) _ _ _ _ ?_
  refine wpAnyC_take 0 (.agg #[.string ⟨#[67, 72, 65, 80, 95, 65]⟩, .string ⟨#[53]⟩]) rfl (by kernel_rfl) (by kernel_rfl) (by kernel_rfl) (fun _ _ _ h => h) (wanted_free rfl _) (fun W hW => by go_simp) ?_
  try simp only [Act.put, List.getElem_toArray, List.getElem_cons_succ, List.getElem_cons_zero, List.setIfInBounds_toArray, List.set_cons_succ, List.set_cons_zero]
  refine wpAnyC_take 1 (.pointer (some ⟨L, 0, none⟩)) rfl (by kernel_rfl) (by kernel_rfl) (by kernel_rfl) (fun _ _ _ h => h) (wanted_free rfl _) (fun W hW => by go_simp) ?_
  try simp only [Act.put, List.getElem_toArray, List.getElem_cons_succ, List.getElem_cons_zero, List.setIfInBounds_toArray, List.set_cons_succ, List.set_cons_zero]
  refine wpAnyC_take 2 (.pointer (some ⟨L, 0, none⟩)) rfl (by kernel_rfl) (by kernel_rfl) (by kernel_rfl) (fun _ _ _ h => h) (wanted_free rfl _) (fun W hW => by go_simp) ?_
  try simp only [Act.put, List.getElem_toArray, List.getElem_cons_succ, List.getElem_cons_zero, List.setIfInBounds_toArray, List.set_cons_succ, List.set_cons_zero]
  refine wpAnyC_take 3 (.pointer (some ⟨L, 3, none⟩)) rfl (by kernel_rfl) (by kernel_rfl) (by kernel_rfl) (fun _ _ _ h => h) (wanted_free rfl _) (fun W hW => by go_simp) ?_
  try simp only [Act.put, List.getElem_toArray, List.getElem_cons_succ, List.getElem_cons_zero, List.setIfInBounds_toArray, List.set_cons_succ, List.set_cons_zero]
  refine wpAnyC_take 4 (.int .u8 s.id) rfl (by kernel_rfl) (by kernel_rfl) (by kernel_rfl) (fun _ _ _ h => h) (wanted_free rfl _) (fun W hW => by have h1 := hW.cells 3 (by simp [Lg.v]); simp only [Lg.v, List.getElem?_toArray, List.getElem?_cons_succ, List.getElem?_cons_zero] at h1; go_simp) ?_
  try simp only [Act.put, List.getElem_toArray, List.getElem_cons_succ, List.getElem_cons_zero, List.setIfInBounds_toArray, List.set_cons_succ, List.set_cons_zero]
  refine wpAnyC_take 5 (.int .i64 s.id) rfl (by kernel_rfl) (by kernel_rfl) (by kernel_rfl) (fun _ _ _ h => h) (wanted_free rfl _) (fun W hW => by go_simp; simp [hiw.out]) ?_
  try simp only [Act.put, List.getElem_toArray, List.getElem_cons_succ, List.getElem_cons_zero, List.setIfInBounds_toArray, List.set_cons_succ, List.set_cons_zero]
  refine wpAnyC_take 8 (.pointer (some ⟨L, 0, none⟩)) rfl (by kernel_rfl) (by kernel_rfl) (by kernel_rfl) (fun _ _ _ h => h) (wanted_free rfl _) (fun W hW => by go_simp) ?_
  try simp only [Act.put, List.getElem_toArray, List.getElem_cons_succ, List.getElem_cons_zero, List.setIfInBounds_toArray, List.set_cons_succ, List.set_cons_zero]
  refine wpAnyC_take 9 (.pointer (some ⟨L, 0, none⟩)) rfl (by kernel_rfl) (by kernel_rfl) (by kernel_rfl) (fun _ _ _ h => h) (wanted_free rfl _) (fun W hW => by go_simp) ?_
  try simp only [Act.put, List.getElem_toArray, List.getElem_cons_succ, List.getElem_cons_zero, List.setIfInBounds_toArray, List.set_cons_succ, List.set_cons_zero]
  refine wpAnyC_take 10 (.pointer (some ⟨L, 4, none⟩)) rfl (by kernel_rfl) (by kernel_rfl) (by kernel_rfl) (fun _ _ _ h => h) (wanted_free rfl _) (fun W hW => by go_simp) ?_
  try simp only [Act.put, List.getElem_toArray, List.getElem_cons_succ, List.getElem_cons_zero, List.setIfInBounds_toArray, List.set_cons_succ, List.set_cons_zero]
  refine wpAnyC_take 11 (.slice a n c) rfl (by kernel_rfl) (by kernel_rfl) (by kernel_rfl) (fun _ _ _ h => h) (wanted_free rfl _) (fun W hW => by have h1 := hW.cells 4 (by simp [Lg.v]); simp only [Lg.v, List.getElem?_toArray, List.getElem?_cons_succ, List.getElem?_cons_zero] at h1; rw [hch.out] at h1; go_simp) ?_
  try simp only [Act.put, List.getElem_toArray, List.getElem_cons_succ, List.getElem_cons_zero, List.setIfInBounds_toArray, List.set_cons_succ, List.set_cons_zero]
  refine wpAnyC_one 6 (hX0.out.drew) rfl (by kernel_rfl) (wanted_free rfl _) (fun KA hKA => ?_)
  go_simp
  refine (hI.out _ (below_drew w)).mono ?_
  rintro e w2 ⟨rfl, hb2⟩
  have hb3 : Kpt (Below w.heap.size w w2) := ⟨(below_drew w).trans (hb2.mono (Nat.le_refl _))⟩
  have hX2 := Kpt.mk (hX0.out.below hb3.out hX0.out.lt)
  clear hb2
  refine hKA _ _ ?_
  clear hKA KA
  try simp only [Act.put, List.getElem_toArray, List.getElem_cons_succ, List.getElem_cons_zero, List.setIfInBounds_toArray, List.set_cons_succ, List.set_cons_zero]
  refine wpAnyC_take 7 (.agg #[.string ⟨#[67, 72, 65, 80, 95, 73]⟩, .string I]) rfl (by kernel_rfl) (by kernel_rfl) (by kernel_rfl) (fun _ _ _ h => h) (wanted_free rfl _) (fun W hW => by go_simp) ?_
  try simp only [Act.put, List.getElem_toArray, List.getElem_cons_succ, List.getElem_cons_zero, List.setIfInBounds_toArray, List.set_cons_succ, List.set_cons_zero]
  refine wpAnyC_one 12 (hX2.out) rfl (by kernel_rfl) (wanted_free rfl _) (fun KA hKA => ?_)
  go_simp
  refine (hH.out _ hb3.out).mono ?_
  rintro e w4 ⟨rfl, hb4⟩
  have hb5 : Kpt (Below w.heap.size w w4) := ⟨hb3.out.trans (hb4.mono hb3.out.size)⟩
  have hX4 := Kpt.mk (hX2.out.below hb4 hX2.out.lt)
  clear hb4
  refine hKA _ _ ?_
  clear hKA KA
  try simp only [Act.put, List.getElem_toArray, List.getElem_cons_succ, List.getElem_cons_zero, List.setIfInBounds_toArray, List.set_cons_succ, List.set_cons_zero]
  refine wpAnyC_take 13 (.agg #[.string ⟨#[67, 72, 65, 80, 95, 67]⟩, .string H]) rfl (by kernel_rfl) (by kernel_rfl) (by kernel_rfl) (fun _ _ _ h => h) (wanted_free rfl _) (fun W hW => by go_simp) ?_
  try simp only [Act.put, List.getElem_toArray, List.getElem_cons_succ, List.getElem_cons_zero, List.setIfInBounds_toArray, List.set_cons_succ, List.set_cons_zero]
  refine wpAnyC_one 14 (hX4.out) rfl (by kernel_rfl) (wanted_free rfl _) (fun KA hKA => ?_)
  unfold Oper.wp
  rw [exec_pair3 (.tmp 3) (.tmp 10) (.tmp 16) rfl ⟨#[67, 72, 65, 80, 95, 65]⟩ ⟨#[53]⟩ ⟨#[67, 72, 65, 80, 95, 73]⟩ I ⟨#[67, 72, 65, 80, 95, 67]⟩ H rfl rfl rfl]
  refine hKA _ _ ?_
  clear hKA KA
  try simp only [Act.put, List.getElem_toArray, List.getElem_cons_succ, List.getElem_cons_zero, List.setIfInBounds_toArray, List.set_cons_succ, List.set_cons_zero]
  refine wpAnyC_take 15 (.slice (some ⟨w4.heap.size, 0, none⟩) 3 3) rfl (by kernel_rfl) (by kernel_rfl) (by kernel_rfl) (fun _ _ _ h => h) (wanted_free rfl _) (fun W hW => by go_simp) ?_
  try simp only [Act.put, List.getElem_toArray, List.getElem_cons_succ, List.getElem_cons_zero, List.setIfInBounds_toArray, List.set_cons_succ, List.set_cons_zero]
  refine wpAnyC_done (hX4.out.alloc _) (by kernel_rfl) ?_
  go_wp2
  go_ret
  exact ⟨w4.heap.size, rfl, hb5.out.size, bx_new w4 _ 41, hb5.out.alloc hb5.out.size _⟩

/-- The challenge is asked for: the sum that one wants. -/
def sumW (V : ByteArray) : Bool := (firstP [v5] (pcsS (nums V))).toList == [53]
set_option maxRecDepth 100000 in
set_option maxHeartbeats 8000000 in
theorem akey_caT (L : Nat) (s : Lg) (V rs I : ByteArray) (zs : List Int) (w : World) (hX : Bx w L s.v) (hl : V.size ≤ 281474976710656) (hm : (s.meth.toList == [67, 72, 65, 80]) = true) (hC : ∀ W, Below w.heap.size w W → Chl L { s with told := sumW V } I zs W)
    (hCg : ∀ W v, Below w.heap.size w W → Chl L { s with told := sumW V } I zs (W.setCell ⟨L, 8, none⟩ v)) :
    Calls Tryz.prog 40 #[.pointer (some ⟨L, 0, none⟩), .agg #[.string kCA, .string V], .string rs] w fun e w' => ∃ g, e = .returned (.tuple #[.slice (some ⟨g, 0, none⟩) 3 3, .bool (sumW V)]) ∧ w.heap.size ≤ g ∧ Bx w' g #[.string kCA, .string v5, .string kCI, .string I, .string kCC, .string (hexS zs)] ∧ Bx w' L { s with told := sumW V }.v ∧ w.grownBy w' (some L) := by
  have hF : Kpt (∀ (W : World) (b : Nat), Bx W b #[.string v5] → Calls Tryz.prog 45 #[.string V, .slice (some ⟨b, 0, none⟩) 1 1] W fun e w' => e = .returned (.string (firstP [v5] (pcsS (nums V)))) ∧ Below W.heap.size W w') := ⟨fun W b h => first_S V hl _ 1 1 [v5] W (st_one _ _ _ h) (by unfold maxLen; omega)⟩
  obtain ⟨t, ht⟩ : ∃ t, t = (sumW V) := ⟨_, rfl⟩
  rw [← ht] at hC hCg ⊢
  obtain ⟨y, hy⟩ : ∃ y, y = firstP [v5] (pcsS (nums V)) := ⟨_, rfl⟩
  rw [← hy] at hF
  have hyt : Kpt (t = (y.toList == [53])) := ⟨by rw [ht]; unfold sumW; rw [← hy]⟩
  have hK : Kpt (∀ W, Bx W L { s with told := t }.v → Chl L { s with told := t } I zs W → Calls Tryz.prog 47 #[.pointer (some ⟨L, 0, none⟩)] W fun e w' => ∃ g, e = .returned (.slice (some ⟨g, 0, none⟩) 3 3) ∧ W.heap.size ≤ g ∧ Bx w' g #[.string kCA, .string v5, .string kCI, .string I, .string kCC, .string (hexS zs)] ∧ Below W.heap.size W w') := ⟨fun W h1 h2 => chal_any L _ I zs W h1 h2⟩
  obtain ⟨H, hHx⟩ : ∃ H, H = hexS zs := ⟨_, rfl⟩
  rw [← hHx] at hK ⊢
  obtain ⟨M, hM⟩ : ∃ M, M = s.meth := ⟨_, rfl⟩
  rw [← hM] at hm
  have hlt := Kpt.mk hX.lt
  replace hX := Kpt.mk hX
  replace hC := Kpt.mk hC
  replace hCg := Kpt.mk hCg
  replace hM := Kpt.mk hM
  clear ht hy hHx hl
  have hset : Kpt (∀ W v, Below w.heap.size w W → w.grownBy (W.setCell ⟨L, 8, none⟩ (.bool v)) (some L) ∧ Bx (W.setCell ⟨L, 8, none⟩ (.bool v)) L { s with told := v }.v) := ⟨fun W v h => ⟨grown_tr (grown_of_below h _) (grown_setCellK W ⟨L, 8, none⟩ (.bool v)), by have := bx_setC (.bool v) (hX.out.below h hlt.out) (j := 8) (by simp [Lg.v]); simpa [Lg.v] using this⟩⟩
  unfold v5 at hF
  unfold kCA at hK ⊢
  unfold v5 kCI kCC at hK ⊢
  go_enter Tryz.func40, Tryz.ntmps40
  go_wp2_with (first
    | (go_at_call 45; go_must (refine (hF.out _ _ (bx_new w1 _ 9)).mono ?_; rintro e w3 ⟨rfl, hb3⟩; have hbq := Kpt.mk (((Below.refl w1.heap.size w1).alloc (Nat.le_refl _) (.cells #[.string ⟨#[53]⟩] 9)).trans (hb3.mono (by simp))); have hX3 := Kpt.mk (hX1.out.below hbq.out hX1.out.lt); have hb4 := Kpt.mk (hb1.out.trans (hbq.out.mono hb1.out.size)); have c8' := hX3.out.cells 8 (by simp [Lg.v]); have f8' := hX3.out.free 8; simp only [Lg.v, List.getElem?_toArray, List.getElem?_cons_succ, List.getElem?_cons_zero] at c8'; clear hb3 hbq c8 f8 k0 k1 c7))
    | (refine (?_ : wpList _ _ _ (Oper.mk _ (Op.box 41 _) _ _ _ _ :: _) _ _); go_must (refine wpList_box rfl 41 (.tmp 1) rfl #[.string ⟨#[67, 72, 65, 80, 95, 65]⟩, .string V] rfl ?_; intro B w1 hBl hBq hbe _; have hB := Kpt.mk hBq; have hb1 := Kpt.mk hbe; have hX1 := Kpt.mk (hX.out.below hbe hlt.out); have k0 := hBq.cells 0 (by simp); have k1 := hBq.cells 1 (by simp); simp only [List.getElem?_toArray, List.getElem?_cons_succ, List.getElem?_cons_zero] at k0 k1; have c7 := hX1.out.cells 7 (by simp [Lg.v]); have c8 := hX1.out.cells 8 (by simp [Lg.v]); have f8 := hX1.out.free 8; simp only [Lg.v, List.getElem?_toArray, List.getElem?_cons_succ, List.getElem?_cons_zero] at c7 c8; rw [← hM.out] at c7; clear hBl hBq hbe)))
  have hyt' := hyt.out
  subst hyt'
  obtain ⟨hg5, hX5⟩ := hset.out w3 (y.toList == [53]) hb4.out
  have hC5 := hCg.out w3 (.bool (y.toList == [53])) hb4.out
  replace hg5 := Kpt.mk hg5
  replace hX5 := Kpt.mk hX5
  replace hC5 := Kpt.mk hC5
  obtain ⟨w5, hw5⟩ : ∃ W, W = w3.setCell ⟨L, 8, none⟩ (.bool (y.toList == [53])) := ⟨_, rfl⟩
  rw [← hw5] at hg5 hX5 hC5 ⊢
  clear hw5 hset hC hCg hF
  refine wp_region_any (by kernel_rfl) ?_
  refine wpAny_of_C (C := fun W => Bx W L { s with told := y.toList == [53] }.v) _ _ _ _ ?_
  refine wpAnyC_take 0 (.pointer (some ⟨L, 0, none⟩)) rfl (by kernel_rfl) (by kernel_rfl) (by kernel_rfl) (fun _ _ _ h => h) (wanted_free rfl _) (fun W hW => by go_simp) ?_
  try simp only [Act.put, List.getElem_toArray, List.getElem_cons_succ, List.getElem_cons_zero, List.setIfInBounds_toArray, List.set_cons_succ, List.set_cons_zero]
  refine wpAnyC_take 2 (.pointer (some ⟨L, 0, none⟩)) rfl (by kernel_rfl) (by kernel_rfl) (by kernel_rfl) (fun _ _ _ h => h) (wanted_free rfl _) (fun W hW => by go_simp) ?_
  try simp only [Act.put, List.getElem_toArray, List.getElem_cons_succ, List.getElem_cons_zero, List.setIfInBounds_toArray, List.set_cons_succ, List.set_cons_zero]
  refine wpAnyC_take 3 (.pointer (some ⟨L, 0, none⟩)) rfl (by kernel_rfl) (by kernel_rfl) (by kernel_rfl) (fun _ _ _ h => h) (wanted_free rfl _) (fun W hW => by go_simp) ?_
  try simp only [Act.put, List.getElem_toArray, List.getElem_cons_succ, List.getElem_cons_zero, List.setIfInBounds_toArray, List.set_cons_succ, List.set_cons_zero]
  refine wpAnyC_take 4 (.pointer (some ⟨L, 8, none⟩)) rfl (by kernel_rfl) (by kernel_rfl) (by kernel_rfl) (fun _ _ _ h => h) (wanted_free rfl _) (fun W hW => by go_simp) ?_
  try simp only [Act.put, List.getElem_toArray, List.getElem_cons_succ, List.getElem_cons_zero, List.setIfInBounds_toArray, List.set_cons_succ, List.set_cons_zero]
  refine wpAnyC_take 5 (.bool (y.toList == [53])) rfl (by kernel_rfl) (by kernel_rfl) (by kernel_rfl) (fun _ _ _ h => h) (wanted_free rfl _) (fun W hW => by have h1 := hW.cells 8 (by simp [Lg.v]); simp only [Lg.v, List.getElem?_toArray, List.getElem?_cons_succ, List.getElem?_cons_zero] at h1; go_simp) ?_
  try simp only [Act.put, List.getElem_toArray, List.getElem_cons_succ, List.getElem_cons_zero, List.setIfInBounds_toArray, List.set_cons_succ, List.set_cons_zero]
  refine wpAnyC_one 1 (hX5.out.drew) rfl (by kernel_rfl) (wanted_free rfl _) (fun KA hKA => ?_)
  go_simp
  refine (hK.out _ hX5.out.drew ⟨hC5.out.i, fun W h => hC5.out.itoa W (below_undrew h), hC5.out.ch, hC5.out.b⟩).mono ?_
  rintro e w6 ⟨g, rfl, hg, hBg, hb6⟩
  have hb7 : Kpt (Below w5.heap.size w5 w6) := ⟨below_undrew hb6⟩
  have hX6 := Kpt.mk (hX5.out.below hb7.out hX5.out.lt)
  replace hg := Kpt.mk hg
  replace hBg := Kpt.mk hBg
  clear hb6
  refine hKA _ _ ?_
  clear hKA KA
  try simp only [Act.put, List.getElem_toArray, List.getElem_cons_succ, List.getElem_cons_zero, List.setIfInBounds_toArray, List.set_cons_succ, List.set_cons_zero]
  refine wpAnyC_take 6 (.slice (some ⟨g, 0, none⟩) 3 3) rfl (by kernel_rfl) (by kernel_rfl) (by kernel_rfl) (fun _ _ _ h => h) (wanted_free rfl _) (fun W hW => by go_simp) ?_
  try simp only [Act.put, List.getElem_toArray, List.getElem_cons_succ, List.getElem_cons_zero, List.setIfInBounds_toArray, List.set_cons_succ, List.set_cons_zero]
  refine wpAnyC_take 7 (.bool (y.toList == [53])) rfl (by kernel_rfl) (by kernel_rfl) (by kernel_rfl) (fun _ _ _ h => h) (wanted_free rfl _) (fun W hW => by go_simp) ?_
  try simp only [Act.put, List.getElem_toArray, List.getElem_cons_succ, List.getElem_cons_zero, List.setIfInBounds_toArray, List.set_cons_succ, List.set_cons_zero]
  refine wpAnyC_done hX6.out (by kernel_rfl) ?_
  go_wp2
  go_ret2
  exact ⟨g, rfl, Nat.le_trans hg5.out.size hg.out, hBg.out, hX6.out, grown_tr hg5.out (grown_of_below hb7.out _)⟩
set_option maxRecDepth 100000 in
set_option maxHeartbeats 8000000 in
theorem akey_caF (L : Nat) (s : Lg) (V rs I : ByteArray) (zs : List Int) (w : World) (hX : Bx w L s.v) (hl : V.size ≤ 281474976710656) (hm : (s.meth.toList == [67, 72, 65, 80]) = false) (hC : ∀ W, Below w.heap.size w W → Chl L { s with told := false } I zs W)
    (hCg : ∀ W v, Below w.heap.size w W → Chl L { s with told := false } I zs (W.setCell ⟨L, 8, none⟩ v)) :
    Calls Tryz.prog 40 #[.pointer (some ⟨L, 0, none⟩), .agg #[.string kCA, .string V], .string rs] w fun e w' => ∃ g, e = .returned (.tuple #[.slice (some ⟨g, 0, none⟩) 3 3, .bool (false)]) ∧ w.heap.size ≤ g ∧ Bx w' g #[.string kCA, .string v5, .string kCI, .string I, .string kCC, .string (hexS zs)] ∧ Bx w' L { s with told := false }.v ∧ w.grownBy w' (some L) := by
  have hF : Kpt (∀ (W : World) (b : Nat), Bx W b #[.string v5] → Calls Tryz.prog 45 #[.string V, .slice (some ⟨b, 0, none⟩) 1 1] W fun e w' => e = .returned (.string (firstP [v5] (pcsS (nums V)))) ∧ Below W.heap.size W w') := ⟨fun W b h => first_S V hl _ 1 1 [v5] W (st_one _ _ _ h) (by unfold maxLen; omega)⟩
  obtain ⟨t, ht⟩ : ∃ t, t = (false) := ⟨_, rfl⟩
  rw [← ht] at hC hCg ⊢
  obtain ⟨y, hy⟩ : ∃ y, y = firstP [v5] (pcsS (nums V)) := ⟨_, rfl⟩
  rw [← hy] at hF
  have hyt : Kpt (t = (false)) := ⟨by rw [ht]⟩
  have hK : Kpt (∀ W, Bx W L { s with told := t }.v → Chl L { s with told := t } I zs W → Calls Tryz.prog 47 #[.pointer (some ⟨L, 0, none⟩)] W fun e w' => ∃ g, e = .returned (.slice (some ⟨g, 0, none⟩) 3 3) ∧ W.heap.size ≤ g ∧ Bx w' g #[.string kCA, .string v5, .string kCI, .string I, .string kCC, .string (hexS zs)] ∧ Below W.heap.size W w') := ⟨fun W h1 h2 => chal_any L _ I zs W h1 h2⟩
  obtain ⟨H, hHx⟩ : ∃ H, H = hexS zs := ⟨_, rfl⟩
  rw [← hHx] at hK ⊢
  obtain ⟨M, hM⟩ : ∃ M, M = s.meth := ⟨_, rfl⟩
  rw [← hM] at hm
  have hlt := Kpt.mk hX.lt
  replace hX := Kpt.mk hX
  replace hC := Kpt.mk hC
  replace hCg := Kpt.mk hCg
  replace hM := Kpt.mk hM
  clear ht hy hHx hl
  have hset : Kpt (∀ W v, Below w.heap.size w W → w.grownBy (W.setCell ⟨L, 8, none⟩ (.bool v)) (some L) ∧ Bx (W.setCell ⟨L, 8, none⟩ (.bool v)) L { s with told := v }.v) := ⟨fun W v h => ⟨grown_tr (grown_of_below h _) (grown_setCellK W ⟨L, 8, none⟩ (.bool v)), by have := bx_setC (.bool v) (hX.out.below h hlt.out) (j := 8) (by simp [Lg.v]); simpa [Lg.v] using this⟩⟩
  unfold v5 at hF
  unfold kCA at hK ⊢
  unfold v5 kCI kCC at hK ⊢
  go_enter Tryz.func40, Tryz.ntmps40
  go_wp2_with (first
    | (refine (?_ : wpList _ _ _ (Oper.mk _ (Op.box 41 _) _ _ _ _ :: _) _ _); go_must (refine wpList_box rfl 41 (.tmp 1) rfl #[.string ⟨#[67, 72, 65, 80, 95, 65]⟩, .string V] rfl ?_; intro B w1 hBl hBq hbe _; have hB := Kpt.mk hBq; have hb1 := Kpt.mk hbe; have hX1 := Kpt.mk (hX.out.below hbe hlt.out); have k0 := hBq.cells 0 (by simp); have k1 := hBq.cells 1 (by simp); simp only [List.getElem?_toArray, List.getElem?_cons_succ, List.getElem?_cons_zero] at k0 k1; have c7 := hX1.out.cells 7 (by simp [Lg.v]); have c8 := hX1.out.cells 8 (by simp [Lg.v]); have f8 := hX1.out.free 8; simp only [Lg.v, List.getElem?_toArray, List.getElem?_cons_succ, List.getElem?_cons_zero] at c7 c8; rw [← hM.out] at c7; clear hBl hBq hbe)))
  have hyt' := hyt.out
  subst hyt'
  obtain ⟨hg5, hX5⟩ := hset.out w1 (false) hb1.out
  have hC5 := hCg.out w1 (.bool (false)) hb1.out
  replace hg5 := Kpt.mk hg5
  replace hX5 := Kpt.mk hX5
  replace hC5 := Kpt.mk hC5
  obtain ⟨w5, hw5⟩ : ∃ W, W = w1.setCell ⟨L, 8, none⟩ (.bool (false)) := ⟨_, rfl⟩
  rw [← hw5] at hg5 hX5 hC5 ⊢
  clear hw5 hset hC hCg hF
  refine wp_region_any (by kernel_rfl) ?_
  refine wpAny_of_C (C := fun W => Bx W L { s with told := false }.v) _ _ _ _ ?_
  refine wpAnyC_take 0 (.pointer (some ⟨L, 0, none⟩)) rfl (by kernel_rfl) (by kernel_rfl) (by kernel_rfl) (fun _ _ _ h => h) (wanted_free rfl _) (fun W hW => by go_simp) ?_
  try simp only [Act.put, List.getElem_toArray, List.getElem_cons_succ, List.getElem_cons_zero, List.setIfInBounds_toArray, List.set_cons_succ, List.set_cons_zero]
  refine wpAnyC_take 2 (.pointer (some ⟨L, 0, none⟩)) rfl (by kernel_rfl) (by kernel_rfl) (by kernel_rfl) (fun _ _ _ h => h) (wanted_free rfl _) (fun W hW => by go_simp) ?_
  try simp only [Act.put, List.getElem_toArray, List.getElem_cons_succ, List.getElem_cons_zero, List.setIfInBounds_toArray, List.set_cons_succ, List.set_cons_zero]
  refine wpAnyC_take 3 (.pointer (some ⟨L, 0, none⟩)) rfl (by kernel_rfl) (by kernel_rfl) (by kernel_rfl) (fun _ _ _ h => h) (wanted_free rfl _) (fun W hW => by go_simp) ?_
  try simp only [Act.put, List.getElem_toArray, List.getElem_cons_succ, List.getElem_cons_zero, List.setIfInBounds_toArray, List.set_cons_succ, List.set_cons_zero]
  refine wpAnyC_take 4 (.pointer (some ⟨L, 8, none⟩)) rfl (by kernel_rfl) (by kernel_rfl) (by kernel_rfl) (fun _ _ _ h => h) (wanted_free rfl _) (fun W hW => by go_simp) ?_
  try simp only [Act.put, List.getElem_toArray, List.getElem_cons_succ, List.getElem_cons_zero, List.setIfInBounds_toArray, List.set_cons_succ, List.set_cons_zero]
  refine wpAnyC_take 5 (.bool (false)) rfl (by kernel_rfl) (by kernel_rfl) (by kernel_rfl) (fun _ _ _ h => h) (wanted_free rfl _) (fun W hW => by have h1 := hW.cells 8 (by simp [Lg.v]); simp only [Lg.v, List.getElem?_toArray, List.getElem?_cons_succ, List.getElem?_cons_zero] at h1; go_simp) ?_
  try simp only [Act.put, List.getElem_toArray, List.getElem_cons_succ, List.getElem_cons_zero, List.setIfInBounds_toArray, List.set_cons_succ, List.set_cons_zero]
  refine wpAnyC_one 1 (hX5.out.drew) rfl (by kernel_rfl) (wanted_free rfl _) (fun KA hKA => ?_)
  go_simp
  refine (hK.out _ hX5.out.drew ⟨hC5.out.i, fun W h => hC5.out.itoa W (below_undrew h), hC5.out.ch, hC5.out.b⟩).mono ?_
  rintro e w6 ⟨g, rfl, hg, hBg, hb6⟩
  have hb7 : Kpt (Below w5.heap.size w5 w6) := ⟨below_undrew hb6⟩
  have hX6 := Kpt.mk (hX5.out.below hb7.out hX5.out.lt)
  replace hg := Kpt.mk hg
  replace hBg := Kpt.mk hBg
  clear hb6
  refine hKA _ _ ?_
  clear hKA KA
  try simp only [Act.put, List.getElem_toArray, List.getElem_cons_succ, List.getElem_cons_zero, List.setIfInBounds_toArray, List.set_cons_succ, List.set_cons_zero]
  refine wpAnyC_take 6 (.slice (some ⟨g, 0, none⟩) 3 3) rfl (by kernel_rfl) (by kernel_rfl) (by kernel_rfl) (fun _ _ _ h => h) (wanted_free rfl _) (fun W hW => by go_simp) ?_
  try simp only [Act.put, List.getElem_toArray, List.getElem_cons_succ, List.getElem_cons_zero, List.setIfInBounds_toArray, List.set_cons_succ, List.set_cons_zero]
  refine wpAnyC_take 7 (.bool (false)) rfl (by kernel_rfl) (by kernel_rfl) (by kernel_rfl) (fun _ _ _ h => h) (wanted_free rfl _) (fun W hW => by go_simp) ?_
  try simp only [Act.put, List.getElem_toArray, List.getElem_cons_succ, List.getElem_cons_zero, List.setIfInBounds_toArray, List.set_cons_succ, List.set_cons_zero]
  refine wpAnyC_done hX6.out (by kernel_rfl) ?_
  go_wp2
  go_ret2
  exact ⟨g, rfl, Nat.le_trans hg5.out.size hg.out, hBg.out, hX6.out, grown_tr hg5.out (grown_of_below hb7.out _)⟩
end Go.Proofs.YtplifodddfjhdaaGreatDoor
