/-
  The document's Load of bytes, all hold it. It is taken.
-/
import Derived.Test.YtmnoolcffkjmhaaPLdR
namespace Go.Proofs.Ytmnoolcffkjmhaa
open Go.RowKit
set_option linter.unusedVariables false
set_option linter.unusedSimpArgs false

set_option maxRecDepth 100000 in
set_option maxHeartbeats 4000000 in
theorem rl_Ae (g off m c : Nat) (Z : List Int) (w : World) (hcell0 : ∀ j, j < 5 + 9 * m → w.cell? ⟨g, off + j, none⟩ = some (.int .u8 (Z.getD j 0))) (hzl : Z.length = 5 + 9 * m) (hby0 : B.Bytes Z) (hgl : g < w.heap.size) (hc : 5 + 9 * m ≤ c ∧ c ≤ maxLen) (hok : ∀ k, k < m → Z.getD (5 + 9 * k) 0 ≤ 7) (hgd : (tbZ Z m).good) (hsv : (tbZ Z m).save = Z) (h0 : Z.getD 2 0 ≠ 0) (hty : isTy (Z.getD 2 0) = true) (hal : isAll (Z.getD 2 0) = true) (hno : 0 < (tbZ Z m).regs.length) :
    Calls Try.prog 13 #[.slice (some ⟨g, off, none⟩) (5 + 9 * m) c] w fun e w' => ∃ C y, e = .returned (.tuple #[.pointer (some ⟨C, 0, none⟩), .int .i64 0]) ∧ w.heap.size ≤ C ∧ RTab w' C (tbZ Z m) y ∧ Below w.heap.size w w' := by
  have hby := Kpt.mk hby0
  have hbyt := Kpt.mk hby0
  have hcell : ∀ W, w.grownBy W (some w.heap.size) → ∀ j, j < 5 + 9 * m → W.cell? ⟨g, off + j, none⟩ = some (.int .u8 (Z.getD j 0)) := fun W hW j hj =>
    (World.cell?_of_block (w := w) (w' := W) (a := ⟨g, off + j, none⟩) (hW.block g hgl (fun e => by simp at e; omega))).trans (hcell0 j hj)
  obtain ⟨hc1, hc2⟩ := hc
  unfold maxLen at hc2
  have hlm : (5 + 9 * m : Int) ≤ 9223372036854775807 := by omega
  have hl5 : ¬ ((5 + 9 * m : Int) < 5) := by omega
  have hl5' : (5 : Int) ≤ 5 + 9 * m := by omega
  have hlb : ((5 + 9 * m : Int) == 0) = false := by simp; omega
  have h2l : (2 : Int) < 5 + 9 * m := by omega
  have h3l : (3 : Int) < 5 + 9 * m := by omega
  have hcm : 5 + 9 * m ≤ maxLen := by unfold maxLen; omega
  have z2 := hcell w (grown_refl _ _) 2 (by omega)
  have z3 := hcell w (grown_refl _ _) 3 (by omega)
  have hmod : (5 + 9 * (m : Int) - 5) % 9 = 0 := by omega
  have hmod2 : 9 * (m : Int) % 9 = 0 := by omega
  have hr1b := hby0 2
  have hXb := hby0 3
  have hcK := Kpt.mk hcell
  clear hcell hcell0 hby0
  obtain ⟨r1, hr1⟩ : ∃ x, x = Z.getD 2 0 := ⟨_, rfl⟩
  obtain ⟨X, hX⟩ : ∃ x, x = Z.getD 3 0 := ⟨_, rfl⟩
  rw [← hr1] at z2 hr1b
  rw [← hX] at z3 hXb
  have hlt5 := Kpt.mk hzl
  replace hr1 := Kpt.mk hr1
  replace hX := Kpt.mk hX
  have hw1 : IntKind.i64.wrap r1 = r1 := by rw [IntKind.wrap_i64]; omega
  have hw2 : IntKind.i64.wrap X = X := by rw [IntKind.wrap_i64]; omega
  clear hzl
  go_enter Try.func13, Try.ntmps13
  go_wp2_with fail
  have hTS : Kpt (RTab (w.alloc (.cells #[.int .u64 0, .int .u64 0, .int .u64 0, .int .u64 0, .int .u64 0, .int .u64 0, .int .u64 0, .int .u64 0, .int .i64 r1, .int .i64 X, .int .u32 0, .bool true] 31)) w.heap.size ⟨keyF (prs (Z.drop 5) 0), r1, X, 0, true⟩ X) := ⟨⟨by simp, fun j hj => by
    simp only [prs, List.range_zero, List.map_nil, keyF, List.foldl_nil]
    obtain rfl | rfl | rfl | rfl | rfl | rfl | rfl | rfl : j = 0 ∨ j = 1 ∨ j = 2 ∨ j = 3 ∨ j = 4 ∨ j = 5 ∨ j = 6 ∨ j = 7 := by omega
    all_goals simp, by simp, by simp, by simp, by simp, fun j => by simp, fun _ _ => rfl⟩⟩
  go_loopw [5] (fun i wr => ∃ k : Nat, k ≤ m ∧ i = .int .i64 (5 + 9 * k) ∧ Kpt (RTab wr w.heap.size ⟨keyF (prs (Z.drop 5) k), r1, X, 0, true⟩ X) ∧ Kpt (w.grownBy wr (some w.heap.size))) (fun i _ => 5 + 9 * m - (intOf i).toNat)
  case atStart => exact ⟨0, by omega, rfl, hTS, ⟨grown_alloc _ _ _⟩⟩
  case round =>
    obtain ⟨k, hk, rfl, hT, hG⟩ := hrel
    by_cases hlt : k < m
    · have e1 : (5 + 9 * (k : Int)) < 5 + 9 * m := by omega
      have hb1 := hby.out (5 + 9 * k)
      have ho1 := hok k hlt
      obtain ⟨p, hp⟩ : ∃ p : Nat, Z.getD (5 + 9 * k) 0 = (p : Int) := ⟨(Z.getD (5 + 9 * k) 0).toNat, by omega⟩
      have hp8n : p < 8 := by omega
      have hcw := hcK.out wr hG.out
      have hk0 := hcw (5 + 9 * k) (by omega)
      rw [hp] at hk0
      have HN := Kpt.mk (fun q => rnum_any g off (5 + 9 * m) c (5 + 9 * k + 1) 8 Z (wr.drewN q) hcm (by omega) (by omega) (by omega) hby.out (fun j hj => hcw j hj))
      have hst : Kpt (keyF (prs (Z.drop 5) (k + 1)) = upd (keyF (prs (Z.drop 5) k)) p (B.num Z (5 + 9 * k + 1) 8)) := ⟨by
        rw [prs_succ]
        unfold keyF
        rw [List.foldl_append]
        have e2 : B.num (Z.drop 5) (9 * k + 1) 8 = B.num Z (5 + 9 * k + 1) 8 := B.num_congr _ _ _ _ 8 (fun j _ => by rw [getD_drop]; congr 1; omega)
        have e3 : (Z.drop 5).getD (9 * k) 0 = (p : Int) := by rw [getD_drop]; exact hp
        rw [e2, e3]
        simp⟩
      have hkp := hT.out.key p hp8n
      have hfp := hT.out.free p
      have hgw : g < wr.heap.size := Nat.lt_of_lt_of_le hgl hG.out.size
      have hCw := hT.out.lt
      have hp7 : (p : Int) ≤ 7 := by omega
      have hp8 : (p : Int) < 8 := by omega
      obtain ⟨y, hy⟩ : ∃ y, y = B.num Z (5 + 9 * k + 1) 8 := ⟨_, rfl⟩
      rw [← hy] at HN hst
      have hTn := Kpt.mk (fun q => (hT.out.drewN q).setKey p hp8n y)
      have hk1 : Kpt (∀ W, w.grownBy W (some w.heap.size) → W.cell? ⟨g, off + (5 + 9 * k), none⟩ = some (.int .u8 (p : Int))) := ⟨fun W hW => by
        have h := hcK.out W hW (5 + 9 * k) (by omega)
        rw [hp] at h
        exact h⟩
      have hcg : ((5 + 9 * k + 1 : Nat) : Int) = 5 + 9 * (k : Int) + 1 := by omega
      rw [hcg] at HN
      simp only at HN hk0 hkp
      generalize keyF (prs (Z.drop 5) k) p = z at *
      clear hcg hcw hy hb1 ho1 hp
      go_wp2_with fail
      refine wp_region_any (by kernel_rfl) ?_
      refine wpAny_of_C (C := fun W => w.grownBy W (some w.heap.size)) _ _ _ _ ?_
      have hlo : (0 : Int) ≤ 5 + 9 * k := by omega
      have hn5 : (5 + 9 * (k : Int)).toNat = 5 + 9 * k := by omega
      have hbd : (5 + 9 * (k : Int) + 1) ≤ 9223372036854775807 := by omega
      have hbd2 : -9223372036854775808 ≤ (5 + 9 * (k : Int) + 1) := by omega
      have hpn : ((p : Int)).toNat = p := by omega
      refine wpAnyC_take 0 (.pointer (some ⟨w.heap.size, 0, none⟩)) rfl (by kernel_rfl) (by kernel_rfl) (by kernel_rfl) (fun _ _ _ h => h) (wanted_free rfl _) (fun W hW => by go_simp) ?_
      simp only [Act.put, List.getElem_toArray, List.getElem_cons_succ, List.getElem_cons_zero, List.setIfInBounds_toArray, List.set_cons_succ, List.set_cons_zero]
      refine wpAnyC_take 1 (.slice (some ⟨g, off, none⟩) (5 + 9 * m) c) rfl (by kernel_rfl) (by kernel_rfl) (by kernel_rfl) (fun _ _ _ h => h) (wanted_free rfl _) (fun W hW => by go_simp) ?_
      simp only [Act.put, List.getElem_toArray, List.getElem_cons_succ, List.getElem_cons_zero, List.setIfInBounds_toArray, List.set_cons_succ, List.set_cons_zero]
      refine wpAnyC_take 2 (.int .i64 (5 + 9 * k)) rfl (by kernel_rfl) (by kernel_rfl) (by kernel_rfl) (fun _ _ _ h => h) (wanted_free rfl _) (fun W hW => by go_simp) ?_
      simp only [Act.put, List.getElem_toArray, List.getElem_cons_succ, List.getElem_cons_zero, List.setIfInBounds_toArray, List.set_cons_succ, List.set_cons_zero]
      refine wpAnyC_take 3 (.pointer (some ⟨g, off + (5 + 9 * k), none⟩)) rfl (by kernel_rfl) (by kernel_rfl) (by kernel_rfl) (fun _ _ _ h => h) (wanted_free rfl _) (fun W hW => by go_simp) ?_
      simp only [Act.put, List.getElem_toArray, List.getElem_cons_succ, List.getElem_cons_zero, List.setIfInBounds_toArray, List.set_cons_succ, List.set_cons_zero]
      refine wpAnyC_take 4 (.int .u8 p) rfl (by kernel_rfl) (by kernel_rfl) (by kernel_rfl) (fun _ _ _ h => h) (wanted_free rfl _) (fun W hW => by have hk0 := hk1.out W hW; go_simp) ?_
      simp only [Act.put, List.getElem_toArray, List.getElem_cons_succ, List.getElem_cons_zero, List.setIfInBounds_toArray, List.set_cons_succ, List.set_cons_zero]
      refine wpAnyC_take 5 (.slice (some ⟨g, off, none⟩) (5 + 9 * m) c) rfl (by kernel_rfl) (by kernel_rfl) (by kernel_rfl) (fun _ _ _ h => h) (wanted_free rfl _) (fun W hW => by go_simp) ?_
      simp only [Act.put, List.getElem_toArray, List.getElem_cons_succ, List.getElem_cons_zero, List.setIfInBounds_toArray, List.set_cons_succ, List.set_cons_zero]
      refine wpAnyC_take 6 (.int .i64 (5 + 9 * k)) rfl (by kernel_rfl) (by kernel_rfl) (by kernel_rfl) (fun _ _ _ h => h) (wanted_free rfl _) (fun W hW => by go_simp) ?_
      simp only [Act.put, List.getElem_toArray, List.getElem_cons_succ, List.getElem_cons_zero, List.setIfInBounds_toArray, List.set_cons_succ, List.set_cons_zero]
      refine wpAnyC_take 7 (.int .i64 (5 + 9 * k + 1)) rfl (by kernel_rfl) (by kernel_rfl) (by kernel_rfl) (fun _ _ _ h => h) (wanted_free rfl _) (fun W hW => by go_simp; rw [IntKind.wrap_i64]; omega) ?_
      simp only [Act.put, List.getElem_toArray, List.getElem_cons_succ, List.getElem_cons_zero, List.setIfInBounds_toArray, List.set_cons_succ, List.set_cons_zero]
      refine wpAnyC_take 9 (.pointer (some ⟨w.heap.size, 0, none⟩)) rfl (by kernel_rfl) (by kernel_rfl) (by kernel_rfl) (fun _ _ _ h => h) (wanted_free rfl _) (fun W hW => by go_simp) ?_
      simp only [Act.put, List.getElem_toArray, List.getElem_cons_succ, List.getElem_cons_zero, List.setIfInBounds_toArray, List.set_cons_succ, List.set_cons_zero]
      refine wpAnyC_take 10 (.pointer (some ⟨w.heap.size, 0, none⟩)) rfl (by kernel_rfl) (by kernel_rfl) (by kernel_rfl) (fun _ _ _ h => h) (wanted_free rfl _) (fun W hW => by go_simp) ?_
      simp only [Act.put, List.getElem_toArray, List.getElem_cons_succ, List.getElem_cons_zero, List.setIfInBounds_toArray, List.set_cons_succ, List.set_cons_zero]
      have hG1 : Kpt (w.grownBy (wr.drewN 1) (some w.heap.size)) := ⟨grown_trans hG.out (grown_drewN _ 1 _)⟩
      refine wpAnyC_one 8 hG1.out rfl (by kernel_rfl) (wanted_free rfl _) (fun KA hKA => ?_)
      go_simp
      refine (HN.out 1).mono ?_
      rintro e w1 ⟨rfl, rfl⟩
      refine hKA _ _ ?_
      try simp only [Act.put, List.getElem_toArray, List.getElem_cons_succ, List.getElem_cons_zero, List.setIfInBounds_toArray, List.set_cons_succ, List.set_cons_zero]
      clear hKA KA
      refine wpAnyC_take 11 (.pointer (some ⟨w.heap.size, p, none⟩)) rfl (by kernel_rfl) (by kernel_rfl) (by kernel_rfl) (fun _ _ _ h => h) (wanted_free rfl _) (fun W hW => by go_simp) ?_
      simp only [Act.put, List.getElem_toArray, List.getElem_cons_succ, List.getElem_cons_zero, List.setIfInBounds_toArray, List.set_cons_succ, List.set_cons_zero]
      refine wpAnyC_one 12 hG1.out rfl (by kernel_rfl) (wanted_free rfl _) (fun KA hKA => ?_)
      go_simp
      refine hKA _ _ ?_
      clear hKA KA
      have hG2 : Kpt (w.grownBy ((wr.drewN 1).setCell ⟨w.heap.size, p, none⟩ (.int .u64 y)) (some w.heap.size)) := ⟨grown_trans hG1.out (grown_setCell _ _ _)⟩
      have hT2 := Kpt.mk (hTn.out 1)
      refine wpAnyC_done hG2.out (by kernel_rfl) ?_
      generalize hwn : (wr.drewN 1).setCell ⟨w.heap.size, p, none⟩ (.int .u64 y) = wn at *
      clear hwn
      go_wp2
      refine ⟨⟨k + 1, by omega, by simp only [Value.int.injEq, true_and]; omega, ?_, hG2⟩, by simp only [intOf]; omega⟩
      rw [hst.out]
      exact hT2
    · have ek : m = k := by omega
      subst ek
      have hkd : (tbZ Z m).kd = r1 := hr1.out.symm
      have hho : (tbZ Z m).ho = X := hX.out.symm
      have hTe : Kpt ((⟨keyF (prs (Z.drop 5) m), r1, X, 0, true⟩ : Tb) = tbZ Z m) := ⟨by unfold tbZ; rw [hr1.out, hX.out]⟩
      rw [hTe.out] at hT
      have HTy := Kpt.mk (fun W => risTy_any r1 W)
      have HAl := Kpt.mk (fun W => risAll_any r1 W)
      have hconv := Kpt.mk (fun W (h : w.grownBy W (some w.heap.size)) => B.conv_any W (some ⟨g, off, none⟩) (5 + 9 * m) c Z hlt5.out (.inr ⟨g, off, rfl, hcK.out W h⟩))
      have c8 := hT.out.c8
      have c9 := hT.out.c9
      rw [hkd] at c8
      have hCl := hT.out.lt
      have hfr := hT.out.free 9
      have eirr : ¬ ((5 + 9 * (m : Int)) < 5 + 9 * m) := by omega
      have HK8 := Kpt.mk (fun j (hj : j < 8) => hT.out.key j hj)
      have HCt := Kpt.mk (fun W (h : RTab W w.heap.size (tbZ Z m) X) => rcount_any w.heap.size (tbZ Z m) X W h)
      clear hcK hTS hby hgl z2 z3 hlb hl5 hl5' h2l h3l hmod hmod2 hTe
      obtain ⟨sn, hsn⟩ : ∃ n, (tbZ Z m).save.length = n := ⟨_, rfl⟩
      have HSv := Kpt.mk (fun W (h : RTab W w.heap.size (tbZ Z m) X) => rsave_row _ _ _ W sn h hgd rfl hsn)
      replace hsn := Kpt.mk hsn
      obtain ⟨SB, hSB⟩ : ∃ s, s = strOfNums Z := ⟨_, rfl⟩
      rw [← hSB] at hconv
      have hSA : Kpt (SB = strOfNums (tbZ Z m).save) := ⟨by rw [hsv]; exact hSB⟩
      clear hSB hsv
      rw [← hr1.out] at h0 hty hal
      have HZ : Kpt ((tbZ Z m).kd = 0 ∨ isAll (tbZ Z m).kd = true) := ⟨.inr (by rw [hkd]; exact hal)⟩
      have hrb : (r1 == 0) = false := by simp [h0]
      obtain ⟨cn, hcn⟩ : ∃ n, n = (tbZ Z m).regs.length := ⟨_, rfl⟩
      rw [← hcn] at HCt hno
      have hcn0 : ¬ (cn : Int) = 0 := by omega
      have hcnb : ((cn : Int) == 0) = false := by simp; omega
      rw [hty] at HTy
      rw [hal] at HAl
      replace hty := Kpt.mk hty
      replace hal := Kpt.mk hal
      replace hcn := Kpt.mk hcn
      clear HK8
      go_wp2_with (first | (go_at_call 34; go_must (refine (HCt.out _ hT.out).mono ?_; rintro e wr8 ⟨rfl, hB8⟩; replace hT := Kpt.mk (hT.out.below' hB8); replace hG := Kpt.mk (grown_trans hG.out (grown_below hB8)); replace c8 := hT.out.c8; rw [hkd] at c8; replace c9 := hT.out.c9; replace hCl := hT.out.lt; replace hfr := hT.out.free 9; clear hB8)) | (go_at_call 33; go_must (refine (HAl.out _).mono ?_; rintro e wr ⟨rfl, rfl⟩)) | (go_at_call 32; go_must (refine (HTy.out _).mono ?_; rintro e wr ⟨rfl, rfl⟩)))
      obtain ⟨wr, hwr⟩ : ∃ x, x = wr8 := ⟨_, rfl⟩
      subst hwr
      refine wp_region_any (by kernel_rfl) ?_
      refine wpAny_of_C (C := fun W => ∃ q, W = wr.drewN q) _ _ _ _ ?_
      refine wpAnyC_take 0 (.pointer (some ⟨w.heap.size, 0, none⟩)) rfl (by kernel_rfl) (by kernel_rfl) (by kernel_rfl) (fun _ _ _ h => h) (wanted_free rfl _) (fun W hW => by go_simp) ?_
      simp only [Act.put, List.getElem_toArray, List.getElem_cons_succ, List.getElem_cons_zero, List.setIfInBounds_toArray, List.set_cons_succ, List.set_cons_zero]
      refine wpAnyC_take 1 (.pointer (some ⟨w.heap.size, 0, none⟩)) rfl (by kernel_rfl) (by kernel_rfl) (by kernel_rfl) (fun _ _ _ h => h) (wanted_free rfl _) (fun W hW => by go_simp) ?_
      simp only [Act.put, List.getElem_toArray, List.getElem_cons_succ, List.getElem_cons_zero, List.setIfInBounds_toArray, List.set_cons_succ, List.set_cons_zero]
      refine wpAnyC_take 2 (.pointer (some ⟨w.heap.size, 8, none⟩)) rfl (by kernel_rfl) (by kernel_rfl) (by kernel_rfl) (fun _ _ _ h => h) (wanted_free rfl _) (fun W hW => by go_simp) ?_
      simp only [Act.put, List.getElem_toArray, List.getElem_cons_succ, List.getElem_cons_zero, List.setIfInBounds_toArray, List.set_cons_succ, List.set_cons_zero]
      refine wpAnyC_take 3 (.int .i64 r1) rfl (by kernel_rfl) (by kernel_rfl) (by kernel_rfl) (fun _ _ _ h => h) (wanted_free rfl _) (fun W hW => by obtain ⟨nq, rfl⟩ := hW; go_simp) ?_
      simp only [Act.put, List.getElem_toArray, List.getElem_cons_succ, List.getElem_cons_zero, List.setIfInBounds_toArray, List.set_cons_succ, List.set_cons_zero]
      refine wpAnyC_take 4 (.bool true) rfl (by kernel_rfl) (by kernel_rfl) (by kernel_rfl) (fun _ _ _ h => h) (wanted_free rfl _) (fun W hW => by go_simp) ?_
      simp only [Act.put, List.getElem_toArray, List.getElem_cons_succ, List.getElem_cons_zero, List.setIfInBounds_toArray, List.set_cons_succ, List.set_cons_zero]
      refine wpAnyC_take 5 (.bool true) rfl (by kernel_rfl) (by kernel_rfl) (by kernel_rfl) (fun _ _ _ h => h) (wanted_free rfl _) (fun W hW => by go_simp) ?_
      simp only [Act.put, List.getElem_toArray, List.getElem_cons_succ, List.getElem_cons_zero, List.setIfInBounds_toArray, List.set_cons_succ, List.set_cons_zero]
      refine wpAnyC_take 6 (.pointer (some ⟨w.heap.size, 0, none⟩)) rfl (by kernel_rfl) (by kernel_rfl) (by kernel_rfl) (fun _ _ _ h => h) (wanted_at true rfl rfl rfl rfl) (fun W hW => by go_simp) ?_
      simp only [Act.put, List.getElem_toArray, List.getElem_cons_succ, List.getElem_cons_zero, List.setIfInBounds_toArray, List.set_cons_succ, List.set_cons_zero]
      refine wpAnyC_take 7 (.pointer (some ⟨w.heap.size, 0, none⟩)) rfl (by kernel_rfl) (by kernel_rfl) (by kernel_rfl) (fun _ _ _ h => h) (wanted_at true rfl rfl rfl rfl) (fun W hW => by go_simp) ?_
      simp only [Act.put, List.getElem_toArray, List.getElem_cons_succ, List.getElem_cons_zero, List.setIfInBounds_toArray, List.set_cons_succ, List.set_cons_zero]
      refine wpAnyC_take 8 (.pointer (some ⟨w.heap.size, 8, none⟩)) rfl (by kernel_rfl) (by kernel_rfl) (by kernel_rfl) (fun _ _ _ h => h) (wanted_at true rfl rfl rfl rfl) (fun W hW => by go_simp) ?_
      simp only [Act.put, List.getElem_toArray, List.getElem_cons_succ, List.getElem_cons_zero, List.setIfInBounds_toArray, List.set_cons_succ, List.set_cons_zero]
      refine wpAnyC_take 9 (.int .i64 r1) rfl (by kernel_rfl) (by kernel_rfl) (by kernel_rfl) (fun _ _ _ h => h) (wanted_at true rfl rfl rfl rfl) (fun W hW => by obtain ⟨nq, rfl⟩ := hW; go_simp) ?_
      simp only [Act.put, List.getElem_toArray, List.getElem_cons_succ, List.getElem_cons_zero, List.setIfInBounds_toArray, List.set_cons_succ, List.set_cons_zero]
      refine wpAnyC_one 10 ⟨1, rfl⟩ rfl (by kernel_rfl) (wanted_at true rfl rfl rfl rfl) (fun KA hKA => ?_)
      go_simp
      refine (HAl.out (wr.drewN 1)).mono ?_
      rintro e wx ⟨rfl, rfl⟩
      refine hKA _ _ ?_
      try simp only [Act.put, List.getElem_toArray, List.getElem_cons_succ, List.getElem_cons_zero, List.setIfInBounds_toArray, List.set_cons_succ, List.set_cons_zero]
      clear hKA KA
      refine wpAnyC_take 11 (.bool false) rfl (by kernel_rfl) (by kernel_rfl) (by kernel_rfl) (fun _ _ _ h => h) (wanted_at true rfl rfl rfl rfl) (fun W hW => by go_simp) ?_
      simp only [Act.put, List.getElem_toArray, List.getElem_cons_succ, List.getElem_cons_zero, List.setIfInBounds_toArray, List.set_cons_succ, List.set_cons_zero]
      refine wpAnyC_take 12 (.bool false) rfl (by kernel_rfl) (by kernel_rfl) (by kernel_rfl) (fun _ _ _ h => h) (wanted_free rfl _) (fun W hW => by go_simp) ?_
      simp only [Act.put, List.getElem_toArray, List.getElem_cons_succ, List.getElem_cons_zero, List.setIfInBounds_toArray, List.set_cons_succ, List.set_cons_zero]
      refine wpAnyC_take 13 (.bool false) rfl (by kernel_rfl) (by kernel_rfl) (by kernel_rfl) (fun _ _ _ h => h) (wanted_free rfl _) (fun W hW => by go_simp) ?_
      simp only [Act.put, List.getElem_toArray, List.getElem_cons_succ, List.getElem_cons_zero, List.setIfInBounds_toArray, List.set_cons_succ, List.set_cons_zero]
      refine wpAnyC_skip 14 rfl (by kernel_rfl) (by kernel_rfl) (by kernel_rfl) (fun _ _ _ h => h) (wanted_no true rfl rfl rfl rfl) ?_
      simp only [Act.put, List.getElem_toArray, List.getElem_cons_succ, List.getElem_cons_zero, List.setIfInBounds_toArray, List.set_cons_succ, List.set_cons_zero]
      refine wpAnyC_skip 15 rfl (by kernel_rfl) (by kernel_rfl) (by kernel_rfl) (fun _ _ _ h => h) (wanted_no true rfl rfl rfl rfl) ?_
      simp only [Act.put, List.getElem_toArray, List.getElem_cons_succ, List.getElem_cons_zero, List.setIfInBounds_toArray, List.set_cons_succ, List.set_cons_zero]
      refine wpAnyC_skip 16 rfl (by kernel_rfl) (by kernel_rfl) (by kernel_rfl) (fun _ _ _ h => h) (wanted_no true rfl rfl rfl rfl) ?_
      simp only [Act.put, List.getElem_toArray, List.getElem_cons_succ, List.getElem_cons_zero, List.setIfInBounds_toArray, List.set_cons_succ, List.set_cons_zero]
      refine wpAnyC_skip 17 rfl (by kernel_rfl) (by kernel_rfl) (by kernel_rfl) (fun _ _ _ h => h) (wanted_no true rfl rfl rfl rfl) ?_
      simp only [Act.put, List.getElem_toArray, List.getElem_cons_succ, List.getElem_cons_zero, List.setIfInBounds_toArray, List.set_cons_succ, List.set_cons_zero]
      refine wpAnyC_skip 18 rfl (by kernel_rfl) (by kernel_rfl) (by kernel_rfl) (fun _ _ _ h => h) (wanted_no true rfl rfl rfl rfl) ?_
      simp only [Act.put, List.getElem_toArray, List.getElem_cons_succ, List.getElem_cons_zero, List.setIfInBounds_toArray, List.set_cons_succ, List.set_cons_zero]
      refine wpAnyC_skip 19 rfl (by kernel_rfl) (by kernel_rfl) (by kernel_rfl) (fun _ _ _ h => h) (wanted_no true rfl rfl rfl rfl) ?_
      simp only [Act.put, List.getElem_toArray, List.getElem_cons_succ, List.getElem_cons_zero, List.setIfInBounds_toArray, List.set_cons_succ, List.set_cons_zero]
      refine wpAnyC_skip 20 rfl (by kernel_rfl) (by kernel_rfl) (by kernel_rfl) (fun _ _ _ h => h) (wanted_undef false rfl rfl rfl rfl) ?_
      simp only [Act.put, List.getElem_toArray, List.getElem_cons_succ, List.getElem_cons_zero, List.setIfInBounds_toArray, List.set_cons_succ, List.set_cons_zero]
      refine wpAnyC_skip 21 rfl (by kernel_rfl) (by kernel_rfl) (by kernel_rfl) (fun _ _ _ h => h) (wanted_undef false rfl rfl rfl rfl) ?_
      simp only [Act.put, List.getElem_toArray, List.getElem_cons_succ, List.getElem_cons_zero, List.setIfInBounds_toArray, List.set_cons_succ, List.set_cons_zero]
      refine wpAnyC_skip 22 rfl (by kernel_rfl) (by kernel_rfl) (by kernel_rfl) (fun _ _ _ h => h) (wanted_undef false rfl rfl rfl rfl) ?_
      simp only [Act.put, List.getElem_toArray, List.getElem_cons_succ, List.getElem_cons_zero, List.setIfInBounds_toArray, List.set_cons_succ, List.set_cons_zero]
      refine wpAnyC_skip 23 rfl (by kernel_rfl) (by kernel_rfl) (by kernel_rfl) (fun _ _ _ h => h) (wanted_undef false rfl rfl rfl rfl) ?_
      simp only [Act.put, List.getElem_toArray, List.getElem_cons_succ, List.getElem_cons_zero, List.setIfInBounds_toArray, List.set_cons_succ, List.set_cons_zero]
      refine wpAnyC_skip 24 rfl (by kernel_rfl) (by kernel_rfl) (by kernel_rfl) (fun _ _ _ h => h) (wanted_undef false rfl rfl rfl rfl) ?_
      simp only [Act.put, List.getElem_toArray, List.getElem_cons_succ, List.getElem_cons_zero, List.setIfInBounds_toArray, List.set_cons_succ, List.set_cons_zero]
      refine wpAnyC_skip 25 rfl (by kernel_rfl) (by kernel_rfl) (by kernel_rfl) (fun _ _ _ h => h) (wanted_undef false rfl rfl rfl rfl) ?_
      simp only [Act.put, List.getElem_toArray, List.getElem_cons_succ, List.getElem_cons_zero, List.setIfInBounds_toArray, List.set_cons_succ, List.set_cons_zero]
      refine wpAnyC_skip 26 rfl (by kernel_rfl) (by kernel_rfl) (by kernel_rfl) (fun _ _ _ h => h) (wanted_undef false rfl rfl rfl rfl) ?_
      simp only [Act.put, List.getElem_toArray, List.getElem_cons_succ, List.getElem_cons_zero, List.setIfInBounds_toArray, List.set_cons_succ, List.set_cons_zero]
      refine wpAnyC_skip 27 rfl (by kernel_rfl) (by kernel_rfl) (by kernel_rfl) (fun _ _ _ h => h) (wanted_undef false rfl rfl rfl rfl) ?_
      simp only [Act.put, List.getElem_toArray, List.getElem_cons_succ, List.getElem_cons_zero, List.setIfInBounds_toArray, List.set_cons_succ, List.set_cons_zero]
      refine wpAnyC_skip 28 rfl (by kernel_rfl) (by kernel_rfl) (by kernel_rfl) (fun _ _ _ h => h) (wanted_undef false rfl rfl rfl rfl) ?_
      simp only [Act.put, List.getElem_toArray, List.getElem_cons_succ, List.getElem_cons_zero, List.setIfInBounds_toArray, List.set_cons_succ, List.set_cons_zero]
      refine wpAnyC_skip 29 rfl (by kernel_rfl) (by kernel_rfl) (by kernel_rfl) (fun _ _ _ h => h) (wanted_undef false rfl rfl rfl rfl) ?_
      simp only [Act.put, List.getElem_toArray, List.getElem_cons_succ, List.getElem_cons_zero, List.setIfInBounds_toArray, List.set_cons_succ, List.set_cons_zero]
      refine wpAnyC_skip 30 rfl (by kernel_rfl) (by kernel_rfl) (by kernel_rfl) (fun _ _ _ h => h) (wanted_no true rfl rfl rfl rfl) ?_
      simp only [Act.put, List.getElem_toArray, List.getElem_cons_succ, List.getElem_cons_zero, List.setIfInBounds_toArray, List.set_cons_succ, List.set_cons_zero]
      refine wpAnyC_take 31 (.bool false) rfl (by kernel_rfl) (by kernel_rfl) (by kernel_rfl) (fun _ _ _ h => h) (wanted_free rfl _) (fun W hW => by go_simp) ?_
      simp only [Act.put, List.getElem_toArray, List.getElem_cons_succ, List.getElem_cons_zero, List.setIfInBounds_toArray, List.set_cons_succ, List.set_cons_zero]
      refine wpAnyC_done ⟨1, rfl⟩ (by kernel_rfl) ?_
      obtain ⟨nq, hnq⟩ : ∃ nq : Nat, nq = 1 := ⟨_, rfl⟩
      rw [show wr.drewN 1 = wr.drewN nq by rw [hnq]]
      clear hnq
      go_wp2_with fail
      refine wp_region_any (by kernel_rfl) ?_
      refine wpAny_of_C (C := fun W => w.grownBy W (some w.heap.size)) _ _ _ _ ?_
      refine wpAnyC_take 0 (.pointer (some ⟨w.heap.size, 0, none⟩)) rfl (by kernel_rfl) (by kernel_rfl) (by kernel_rfl) (fun _ _ _ h => h) (wanted_free rfl _) (fun W hW => by go_simp) ?_
      simp only [Act.put, List.getElem_toArray, List.getElem_cons_succ, List.getElem_cons_zero, List.setIfInBounds_toArray, List.set_cons_succ, List.set_cons_zero]
      refine wpAnyC_take 3 (.slice (some ⟨g, off, none⟩) (5 + 9 * m) c) rfl (by kernel_rfl) (by kernel_rfl) (by kernel_rfl) (fun _ _ _ h => h) (wanted_free rfl _) (fun W hW => by go_simp) ?_
      simp only [Act.put, List.getElem_toArray, List.getElem_cons_succ, List.getElem_cons_zero, List.setIfInBounds_toArray, List.set_cons_succ, List.set_cons_zero]
      refine wpAnyC_take 4 (.string SB) rfl (by kernel_rfl) (by kernel_rfl) (by kernel_rfl) (fun _ _ _ h => h) (wanted_free rfl _) (fun W hW => by have hcv := hconv.out W hW; go_simp) ?_
      simp only [Act.put, List.getElem_toArray, List.getElem_cons_succ, List.getElem_cons_zero, List.setIfInBounds_toArray, List.set_cons_succ, List.set_cons_zero]
      have hT1 := Kpt.mk ((hT.out.drewN nq).drewN 1)
      have hG1 : Kpt (w.grownBy ((wr.drewN nq).drewN 1) (some w.heap.size)) := ⟨grown_trans (grown_trans hG.out (grown_drewN _ nq _)) (grown_drewN _ 1 _)⟩
      refine wpAnyC_one 1 hG1.out rfl (by kernel_rfl) (wanted_free rfl _) (fun KA hKA => ?_)
      go_simp
      refine (HSv.out _ hT1.out).mono ?_
      rintro e w5 ⟨g5, c5, rfl, hR5, hB5, hc5, hg5⟩
      have hG5 : Kpt (w.grownBy w5 (some w.heap.size)) := ⟨grown_trans hG1.out (grown_below hB5)⟩
      have hT5 := Kpt.mk (hT1.out.below' hB5)
      have hcv : (convert 39 9 (.slice (some ⟨g5, 0, none⟩) sn c5)).run Try.prog w5 = .ok (.string SB) w5 := by rw [hSA.out]; exact B.conv_any w5 _ _ c5 _ hsn.out hR5
      have c8 := hT5.out.c8
      have c9 := hT5.out.c9
      rw [hkd] at c8
      have hCl := hT5.out.lt
      have hfr := hT5.out.free 9
      clear hT hG hT1 hG1 hR5 hB5 HSv hconv
      refine hKA _ _ ?_
      try simp only [Act.put, List.getElem_toArray, List.getElem_cons_succ, List.getElem_cons_zero, List.setIfInBounds_toArray, List.set_cons_succ, List.set_cons_zero]
      clear hKA KA
      refine wpAnyC_one 2 hG5.out rfl (by kernel_rfl) (wanted_free rfl _) (fun KA hKA => ?_)
      go_simp
      refine hKA _ _ ?_
      clear hKA KA
      try simp only [Act.put, List.getElem_toArray, List.getElem_cons_succ, List.getElem_cons_zero, List.setIfInBounds_toArray, List.set_cons_succ, List.set_cons_zero]
      refine wpAnyC_take 5 (.bool false) rfl (by kernel_rfl) (by kernel_rfl) (by kernel_rfl) (fun _ _ _ h => h) (wanted_free rfl _) (fun W hW => by go_simp) ?_
      simp only [Act.put, List.getElem_toArray, List.getElem_cons_succ, List.getElem_cons_zero, List.setIfInBounds_toArray, List.set_cons_succ, List.set_cons_zero]
      refine wpAnyC_done hG5.out (by kernel_rfl) ?_
      clear hcv
      go_wp2_with (go_at_call 33; go_must (refine (HAl.out _).mono ?_; rintro e w5 ⟨rfl, rfl⟩))
      go_ret2
      exact ⟨w.heap.size, 0, rfl, Nat.le_refl _, hT5.out.setH 0 HZ.out, below_of_grown (grown_trans hG5.out (grown_setCell _ _ _))⟩
end Go.Proofs.Ytmnoolcffkjmhaa
