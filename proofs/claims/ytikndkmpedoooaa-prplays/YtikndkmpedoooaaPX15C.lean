/-
  The document's Load of what was saved: the whole.
-/
import Derived.Test.YtikndkmpedoooaaPX14
namespace Go.Proofs.Ytikndkmpedoooaa
open Go.RowKit
set_option linter.unusedVariables false
set_option linter.unusedSimpArgs false

set_option maxRecDepth 100000 in
set_option maxHeartbeats 1500000 in
theorem rload_backC (t : Tb) (hg : t.good) (hcs : Kpt (t.again.kd ≠ 0 ∧ isAll t.again.kd = false)) (g n c : Nat) (w : World) (hn : t.save.length = n) (hR : B.RowAt w (some ⟨g, 0, none⟩) n t.save) (hgl : g < w.heap.size) (hc : n ≤ c ∧ c ≤ maxLen) :
    Calls Try.prog 13 #[.slice (some ⟨g, 0, none⟩) n c] w fun e w' => ∃ C y, e = .returned (.tuple #[.pointer (some ⟨C, 0, none⟩), .int .i64 0]) ∧ w.heap.size ≤ C ∧ RTab w' C t.again y ∧ Below w.heap.size w w' := by
  obtain ⟨_, h2, h3, h4, h5, _, _⟩ := load_save t hg
  have hlen := save_len t
  obtain ⟨m, hm⟩ : ∃ m, m = t.regs.length := ⟨_, rfl⟩
  have hn' : n = 5 + 9 * m := by omega
  subst hn'
  have hm8 : m ≤ 8 := by rw [hm]; exact regs_len t
  have hby := Kpt.mk (save_bytes t hg)
  have hcell : ∀ W, w.grownBy W (some w.heap.size) → ∀ j, j < 5 + 9 * m → W.cell? ⟨g, 0 + j, none⟩ = some (.int .u8 (t.save.getD j 0)) := fun W hW j hj => by
    rcases hR with e | ⟨b, off, e, hc⟩
    · omega
    · cases e
      exact (World.cell?_of_block (w := w) (w' := W) (a := ⟨g, 0 + j, none⟩) (hW.block g hgl (fun e => by simp at e; omega))).trans (hc j hj)
  have hbody : Kpt (∀ k r, t.regs[k]? = some r → t.save.getD (5 + 9 * k) 0 = r.1 ∧ B.num t.save (5 + 9 * k + 1) 8 = r.2) := ⟨fun k r hr => by
    have hgd : ∀ j, t.save.getD (5 + j) 0 = (bodyB t.regs).getD j 0 := fun j => by
      rw [← h5, List.getD_eq_getElem?_getD, List.getD_eq_getElem?_getD, List.getElem?_drop]
    obtain ⟨q, hq, e, _⟩ := regs_at hr
    refine ⟨by rw [hgd]; exact body_nx t.regs k r hr, ?_⟩
    rw [← body_ky t.regs k r hr (by rw [e]; exact hg.kr q hq)]
    exact B.num_congr _ _ _ _ 8 (fun j _ => by rw [show 5 + 9 * k + 1 + j = 5 + (9 * k + 1 + j) by omega]; exact hgd _)⟩
  have hlm : (5 + 9 * m : Int) ≤ 9223372036854775807 := by omega
  have hl5 : ¬ ((5 + 9 * m : Int) < 5) := by omega
  have hl5' : (5 : Int) ≤ 5 + 9 * m := by omega
  have hlb : ((5 + 9 * m : Int) == 0) = false := by simp; omega
  have h2l : (2 : Int) < 5 + 9 * m := by omega
  have h3l : (3 : Int) < 5 + 9 * m := by omega
  obtain ⟨w0, hw0⟩ : ∃ w0, w0 = rnewW w := ⟨_, rfl⟩
  have hT0 := Kpt.mk (rtab_new w)
  have hcm : 5 + 9 * m ≤ maxLen := by unfold maxLen; omega
  have z2 := hcell w (grown_refl _ _) 2 (by omega)
  have z3 := hcell w (grown_refl _ _) 3 (by omega)
  have hmod : (5 + 9 * (m : Int) - 5) % 9 = 0 := by omega
  have hmod2 : 9 * (m : Int) % 9 = 0 := by omega
  have hu2 := res_u8 t hg
  rw [h3] at z2
  rw [h4] at z3
  have hcK := Kpt.mk hcell
  have hrK := Kpt.mk hR
  clear hcell hR h2 h3 h4 h5 hw0
  have hXb : 0 ≤ (if t.res.2 = -1 then 255 else t.res.2) ∧ (if t.res.2 = -1 then 255 else t.res.2) ≤ 255 := by
    rcases res_cases t hg with ⟨h0, e⟩ | ⟨h0, h1, e⟩ | ⟨h0, h1, e, a, b, c⟩
    · rw [e]; simp
    · rw [e]; simp
    · rw [e]; simp only; split <;> omega
  generalize hX : (if t.res.2 = -1 then 255 else t.res.2) = X at *
  generalize hr1 : t.res.1 = r1 at *
  simp only [Nat.zero_add] at z2 z3
  replace hX := Kpt.mk hX
  replace hr1 := Kpt.mk hr1
  replace hm := Kpt.mk hm
  replace hn := Kpt.mk hn
  replace hg := Kpt.mk hg
  clear hlen w0
  go_enter Try.func13, Try.ntmps13
  go_wp2_with fail
  have hTS : Kpt (RTab (w.alloc (.cells #[.int .u64 0, .int .u64 0, .int .u64 0, .int .u64 0, .int .u64 0, .int .u64 0, .int .u64 0, .int .u64 0, .int .i64 r1, .int .i64 X, .int .u32 0, .bool true] 31)) w.heap.size ⟨keyF (t.regs.take 0), r1, X, 0, true⟩ X) := ⟨⟨by simp, fun j hj => by
    simp only [List.take_zero, keyF, List.foldl_nil]
    obtain rfl | rfl | rfl | rfl | rfl | rfl | rfl | rfl : j = 0 ∨ j = 1 ∨ j = 2 ∨ j = 3 ∨ j = 4 ∨ j = 5 ∨ j = 6 ∨ j = 7 := by omega
    all_goals simp, by simp, by simp, by simp, by simp, fun j => by simp, fun _ _ => rfl⟩⟩
  go_loopw [5] (fun i wr => ∃ k : Nat, k ≤ m ∧ i = .int .i64 (5 + 9 * k) ∧ Kpt (RTab wr w.heap.size ⟨keyF (t.regs.take k), r1, X, 0, true⟩ X) ∧ Kpt (w.grownBy wr (some w.heap.size))) (fun i _ => 5 + 9 * m - (intOf i).toNat)
  case atStart => exact ⟨0, by omega, rfl, hTS, ⟨grown_alloc _ _ _⟩⟩
  case round =>
    obtain ⟨k, hk, rfl, hT, hG⟩ := hrel
    by_cases hlt : k < m
    · have e1 : (5 + 9 * (k : Int)) < 5 + 9 * m := by omega
      have hkz : k < t.regs.length := by rw [← hm.out]; exact hlt
      obtain ⟨r, hr⟩ : ∃ r, t.regs[k]? = some r := ⟨_, List.getElem?_eq_getElem hkz⟩
      obtain ⟨p, hp, hrp, _⟩ := regs_at hr
      obtain ⟨b1, b2⟩ := hbody.out k r hr
      have hcw := hcK.out wr hG.out
      have hk0 := hcw (5 + 9 * k) (by omega)
      rw [b1] at hk0
      have HN := Kpt.mk (fun q => rnum_any g 0 (5 + 9 * m) c (5 + 9 * k + 1) 8 t.save (wr.drewN q) hcm (by omega) (by omega) (by omega) hby.out (fun j hj => hcw j hj))
      rw [b2] at HN
      subst hrp
      have hst := Kpt.mk (keyF_step t.regs k p (t.ks p) hr)
      simp only [Nat.zero_add] at hk0
      have hkp := hT.out.key p hp
      have hfp := hT.out.free p
      have hgw : g < wr.heap.size := Nat.lt_of_lt_of_le hgl hG.out.size
      have hCw := hT.out.lt
      have hp7 : (p : Int) ≤ 7 := by omega
      have hp8 : (p : Int) < 8 := by omega
      have hTn := Kpt.mk (fun q => (hT.out.drewN q).setKey p hp (t.ks p))
      have hk1 : Kpt (∀ W, w.grownBy W (some w.heap.size) → W.cell? ⟨g, 5 + 9 * k, none⟩ = some (.int .u8 (p : Int))) := ⟨fun W hW => by
        have h := hcK.out W hW (5 + 9 * k) (by omega)
        rw [b1] at h
        simpa only [Nat.zero_add] using h⟩
      have hcg : ((5 + 9 * k + 1 : Nat) : Int) = 5 + 9 * (k : Int) + 1 := by omega
      rw [hcg] at HN
      simp only at HN hk0 hkp
      clear hcs
      generalize t.ks p = y at *
      generalize keyF (t.regs.take k) p = z at *
      clear hcg hcw hr b1 b2
      go_wp2_with fail
      refine wp_region_any (by kernel_rfl) ?_
      refine wpAny_of_C (C := fun W => w.grownBy W (some w.heap.size)) _ _ _ _ ?_
      have hlo : (0 : Int) ≤ 5 + 9 * k := by omega
      have hn5 : (5 + 9 * (k : Int)).toNat = 5 + 9 * k := by omega
      have hbd : (5 + 9 * (k : Int) + 1) ≤ 9223372036854775807 := by omega
      have hbd2 : -9223372036854775808 ≤ (5 + 9 * (k : Int) + 1) := by omega
      have hpn : ((p : Int)).toNat = p := by omega
      refine wpAnyC_take 0 (.pointer (some ⟨w.heap.size, 0, none⟩)) rfl (by kernel_rfl) (by kernel_rfl) (by kernel_rfl) (fun _ _ _ h => h) (wanted_free rfl _) (fun W hW => by go_simp) ?_
      simp only [Act.put, List.getElem_toArray, List.getElem_cons_succ, List.getElem_cons_zero, List.setIfInBounds_toArray, List.set_cons_succ, List.set_cons_zero]
      refine wpAnyC_take 1 (.slice (some ⟨g, 0, none⟩) (5 + 9 * m) c) rfl (by kernel_rfl) (by kernel_rfl) (by kernel_rfl) (fun _ _ _ h => h) (wanted_free rfl _) (fun W hW => by go_simp) ?_
      simp only [Act.put, List.getElem_toArray, List.getElem_cons_succ, List.getElem_cons_zero, List.setIfInBounds_toArray, List.set_cons_succ, List.set_cons_zero]
      refine wpAnyC_take 2 (.int .i64 (5 + 9 * k)) rfl (by kernel_rfl) (by kernel_rfl) (by kernel_rfl) (fun _ _ _ h => h) (wanted_free rfl _) (fun W hW => by go_simp) ?_
      simp only [Act.put, List.getElem_toArray, List.getElem_cons_succ, List.getElem_cons_zero, List.setIfInBounds_toArray, List.set_cons_succ, List.set_cons_zero]
      refine wpAnyC_take 3 (.pointer (some ⟨g, 5 + 9 * k, none⟩)) rfl (by kernel_rfl) (by kernel_rfl) (by kernel_rfl) (fun _ _ _ h => h) (wanted_free rfl _) (fun W hW => by go_simp) ?_
      simp only [Act.put, List.getElem_toArray, List.getElem_cons_succ, List.getElem_cons_zero, List.setIfInBounds_toArray, List.set_cons_succ, List.set_cons_zero]
      refine wpAnyC_take 4 (.int .u8 p) rfl (by kernel_rfl) (by kernel_rfl) (by kernel_rfl) (fun _ _ _ h => h) (wanted_free rfl _) (fun W hW => by have hk0 := hk1.out W hW; go_simp) ?_
      simp only [Act.put, List.getElem_toArray, List.getElem_cons_succ, List.getElem_cons_zero, List.setIfInBounds_toArray, List.set_cons_succ, List.set_cons_zero]
      refine wpAnyC_take 5 (.slice (some ⟨g, 0, none⟩) (5 + 9 * m) c) rfl (by kernel_rfl) (by kernel_rfl) (by kernel_rfl) (fun _ _ _ h => h) (wanted_free rfl _) (fun W hW => by go_simp) ?_
      simp only [Act.put, List.getElem_toArray, List.getElem_cons_succ, List.getElem_cons_zero, List.setIfInBounds_toArray, List.set_cons_succ, List.set_cons_zero]
      refine wpAnyC_take 6 (.int .i64 (5 + 9 * k)) rfl (by kernel_rfl) (by kernel_rfl) (by kernel_rfl) (fun _ _ _ h => h) (wanted_free rfl _) (fun W hW => by go_simp) ?_
      simp only [Act.put, List.getElem_toArray, List.getElem_cons_succ, List.getElem_cons_zero, List.setIfInBounds_toArray, List.set_cons_succ, List.set_cons_zero]
      refine wpAnyC_take 7 (.int .i64 (5 + 9 * k + 1)) rfl (by kernel_rfl) (by kernel_rfl) (by kernel_rfl) (fun _ _ _ h => h) (wanted_free rfl _) (fun W hW => by go_simp; rw [IntKind.wrap_i64]; omega) ?_
      simp only [Act.put, List.getElem_toArray, List.getElem_cons_succ, List.getElem_cons_zero, List.setIfInBounds_toArray, List.set_cons_succ, List.set_cons_zero]
      refine wpAnyC_take 9 (.pointer (some ⟨w.heap.size, 0, none⟩)) rfl (by kernel_rfl) (by kernel_rfl) (by kernel_rfl) (fun _ _ _ h => h) (wanted_free rfl _) (fun W hW => by go_simp) ?_
      simp only [Act.put, List.getElem_toArray, List.getElem_cons_succ, List.getElem_cons_zero, List.setIfInBounds_toArray, List.set_cons_succ, List.set_cons_zero]
      refine wpAnyC_take 10 (.pointer (some ⟨w.heap.size, 0, none⟩)) rfl (by kernel_rfl) (by kernel_rfl) (by kernel_rfl) (fun _ _ _ h => h) (wanted_free rfl _) (fun W hW => by go_simp) ?_
      simp only [Act.put, List.getElem_toArray, List.getElem_cons_succ, List.getElem_cons_zero, List.setIfInBounds_toArray, List.set_cons_succ, List.set_cons_zero]
      have hG1 : Kpt (w.grownBy (wr.drewN 1) (some w.heap.size)) := ⟨grown_trans hG.out (grown_drewN _ 1 _)⟩
      refine wpAnyC_one 8 hG1.out rfl (by kernel_rfl) (wanted_free rfl _) (fun KA hKA => ?_)
      go_simp
      refine (HN.out 1).mono ?_
      rintro e w1 ⟨rfl, rfl⟩
      refine hKA _ _ ?_
      try simp only [Act.put, List.getElem_toArray, List.getElem_cons_succ, List.getElem_cons_zero, List.setIfInBounds_toArray, List.set_cons_succ, List.set_cons_zero]
      clear hKA KA
      refine wpAnyC_take 11 (.pointer (some ⟨w.heap.size, p, none⟩)) rfl (by kernel_rfl) (by kernel_rfl) (by kernel_rfl) (fun _ _ _ h => h) (wanted_free rfl _) (fun W hW => by go_simp) ?_
      simp only [Act.put, List.getElem_toArray, List.getElem_cons_succ, List.getElem_cons_zero, List.setIfInBounds_toArray, List.set_cons_succ, List.set_cons_zero]
      refine wpAnyC_one 12 hG1.out rfl (by kernel_rfl) (wanted_free rfl _) (fun KA hKA => ?_)
      go_simp
      refine hKA _ _ ?_
      clear hKA KA
      have hG2 : Kpt (w.grownBy ((wr.drewN 1).setCell ⟨w.heap.size, p, none⟩ (.int .u64 y)) (some w.heap.size)) := ⟨grown_trans hG1.out (grown_setCell _ _ _)⟩
      have hT2 := Kpt.mk (hTn.out 1)
      refine wpAnyC_done hG2.out (by kernel_rfl) ?_
      generalize hwn : (wr.drewN 1).setCell ⟨w.heap.size, p, none⟩ (.int .u64 y) = wn at *
      clear hwn
      go_wp2
      refine ⟨⟨k + 1, by omega, by simp only [Value.int.injEq, true_and]; omega, ?_, hG2⟩, by simp only [intOf]; omega⟩
      rw [hst.out]
      exact hT2
    · have ek : m = k := by omega
      subst ek
      have hag : Kpt ((⟨keyF (t.regs.take m), r1, X, 0, true⟩ : Tb) = t.again) := ⟨by
        rw [List.take_of_length_le (by rw [← hm.out]; exact Nat.le_refl _)]
        unfold Tb.again
        rw [hr1.out, hX.out]⟩
      rw [hag.out] at hT
      clear hag
      have hkd : t.again.kd = r1 := hr1.out
      have hho : t.again.ho = X := hX.out
      have hag2 := Kpt.mk (again_good t hg.out)
      have hsv := Kpt.mk (again_save t hg.out)
      have h3 := res_cases t.again hag2.out
      have hty := hag2.out.ty
      have hal8 := hag2.out.all
      rw [hkd, hho] at h3
      rw [hkd] at hty hal8
      have HTy := Kpt.mk (fun W => risTy_any r1 W)
      have HAl := Kpt.mk (fun W => risAll_any r1 W)
      have HSv := Kpt.mk (fun W (h : RTab W w.heap.size t.again X) => rsave_row _ _ _ W (5 + 9 * m) h hag2.out rfl (by rw [hsv.out]; exact hn.out))
      rw [hsv.out] at HSv
      have hconv := Kpt.mk (fun W (h : w.grownBy W (some w.heap.size)) => B.conv_any W (some ⟨g, 0, none⟩) (5 + 9 * m) c t.save hn.out (.inr ⟨g, 0, rfl, hcK.out W h⟩))
      have c8 := hT.out.c8
      have c9 := hT.out.c9
      rw [hkd] at c8
      have hCl := hT.out.lt
      have hfr := hT.out.free 9
      have eirr : ¬ ((5 + 9 * (m : Int)) < 5 + 9 * m) := by omega
      have HK8 := Kpt.mk (fun j (hj : j < 8) => hT.out.key j hj)
      clear hcK hT0 hTS hbody hby hgl z2 z3 hlb hl5 hl5' h2l h3l hmod hmod2
      have hcs := hcs.out
      rw [hkd] at hcs
      rcases h3 with ⟨h0, _⟩ | ⟨h0, h1, _⟩ | ⟨h0, h1, _, a, b, d⟩
      · exact absurd h0 hcs.1
      · rw [hcs.2] at h1; cases h1
      · obtain ⟨x, rfl⟩ : ∃ x : Nat, X = (x : Int) := ⟨X.toNat, by omega⟩
        have hx8 : x < 8 := by omega
        have hx7 : ¬ (7 : Int) < x := by omega
        have hx77 : (x : Int) ≤ 7 := by omega
        have hky := HK8.out x hx8
        rw [Int.toNat_natCast] at d
        generalize t.again.ks x = z at hky d
        have hzb : (z == 0) = false := by simp [d]
        have hrb : (r1 == 0) = false := by simp [h0]
        have ht1 : isTy r1 = true := by rcases hty with e | e
                                        · exact absurd e h0
                                        · exact e
        rw [ht1] at HTy
        rw [h1] at HAl
        replace h1 := Kpt.mk h1
        clear hcs hty hal8 HK8 ht1
        go_wp2_with (first | (go_at_call 33; go_must (refine (HAl.out _).mono ?_; rintro e wr ⟨rfl, rfl⟩)) | (go_at_call 32; go_must (refine (HTy.out _).mono ?_; rintro e wr ⟨rfl, rfl⟩)))
        go_quiet ((go_at_call 33; exact Calls.quiet_of_same (HAl.out _)))
        go_wp2_with fail
        refine wp_region_any (by kernel_rfl) ?_
        refine wpAny_of_C (C := fun W => w.grownBy W (some w.heap.size)) _ _ _ _ ?_
        refine wpAnyC_take 0 (.pointer (some ⟨w.heap.size, 0, none⟩)) rfl (by kernel_rfl) (by kernel_rfl) (by kernel_rfl) (fun _ _ _ h => h) (wanted_free rfl _) (fun W hW => by go_simp) ?_
        simp only [Act.put, List.getElem_toArray, List.getElem_cons_succ, List.getElem_cons_zero, List.setIfInBounds_toArray, List.set_cons_succ, List.set_cons_zero]
        refine wpAnyC_take 3 (.slice (some ⟨g, 0, none⟩) (5 + 9 * m) c) rfl (by kernel_rfl) (by kernel_rfl) (by kernel_rfl) (fun _ _ _ h => h) (wanted_free rfl _) (fun W hW => by go_simp) ?_
        simp only [Act.put, List.getElem_toArray, List.getElem_cons_succ, List.getElem_cons_zero, List.setIfInBounds_toArray, List.set_cons_succ, List.set_cons_zero]
        refine wpAnyC_take 4 (.string (strOfNums t.save)) rfl (by kernel_rfl) (by kernel_rfl) (by kernel_rfl) (fun _ _ _ h => h) (wanted_free rfl _) (fun W hW => by have hcv := hconv.out W hW; go_simp) ?_
        simp only [Act.put, List.getElem_toArray, List.getElem_cons_succ, List.getElem_cons_zero, List.setIfInBounds_toArray, List.set_cons_succ, List.set_cons_zero]
        have hT1 := Kpt.mk ((hT.out.drewN nq).drewN 1)
        have hG1 : Kpt (w.grownBy ((wr.drewN nq).drewN 1) (some w.heap.size)) := ⟨grown_trans (grown_trans hG.out (grown_drewN _ nq _)) (grown_drewN _ 1 _)⟩
        refine wpAnyC_one 1 hG1.out rfl (by kernel_rfl) (wanted_free rfl _) (fun KA hKA => ?_)
        go_simp
        refine (HSv.out _ hT1.out).mono ?_
        rintro e w5 ⟨g5, c5, rfl, hR5, hB5, hc5, hg5⟩
        have hG5 : Kpt (w.grownBy w5 (some w.heap.size)) := ⟨grown_trans hG1.out (grown_below hB5)⟩
        have hT5 := Kpt.mk (hT1.out.below' hB5)
        have hcv : (convert 39 9 (.slice (some ⟨g5, 0, none⟩) (5 + 9 * m) c5)).run Try.prog w5 = .ok (.string (strOfNums t.save)) w5 := B.conv_any w5 _ _ c5 t.save hn.out hR5
        have c8 := hT5.out.c8
        have c9 := hT5.out.c9
        rw [hkd] at c8
        have hCl := hT5.out.lt
        have hfr := hT5.out.free 9
        clear hT hG hT1 hG1 hR5 hB5 HSv hconv
        refine hKA _ _ ?_
        try simp only [Act.put, List.getElem_toArray, List.getElem_cons_succ, List.getElem_cons_zero, List.setIfInBounds_toArray, List.set_cons_succ, List.set_cons_zero]
        clear hKA KA
        refine wpAnyC_one 2 hG5.out rfl (by kernel_rfl) (wanted_free rfl _) (fun KA hKA => ?_)
        go_simp
        refine hKA _ _ ?_
        clear hKA KA
        try simp only [Act.put, List.getElem_toArray, List.getElem_cons_succ, List.getElem_cons_zero, List.setIfInBounds_toArray, List.set_cons_succ, List.set_cons_zero]
        refine wpAnyC_take 5 (.bool false) rfl (by kernel_rfl) (by kernel_rfl) (by kernel_rfl) (fun _ _ _ h => h) (wanted_free rfl _) (fun W hW => by go_simp) ?_
        simp only [Act.put, List.getElem_toArray, List.getElem_cons_succ, List.getElem_cons_zero, List.setIfInBounds_toArray, List.set_cons_succ, List.set_cons_zero]
        refine wpAnyC_done hG5.out (by kernel_rfl) ?_
        clear hcv
        go_wp2_with (go_at_call 33; go_must (refine (HAl.out _).mono ?_; rintro e w5 ⟨rfl, rfl⟩))
        go_ret2
        exact ⟨w.heap.size, _, rfl, Nat.le_refl _, hT5.out, below_of_grown hG5.out⟩
end Go.Proofs.Ytikndkmpedoooaa
