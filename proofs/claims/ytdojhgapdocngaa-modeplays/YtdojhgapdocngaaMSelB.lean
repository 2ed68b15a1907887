/-
  The contract of readPage.
-/
import Derived.Test.YtdojhgapdocngaaMLen
namespace Go.Proofs.Ytdojhgapdocngaa
open Go.RowKit
set_option linter.unusedVariables false
set_option linter.unusedSimpArgs false

theorem Bx.drewN {w : World} {b : Nat} {cs : Array Value} (h : Bx w b cs) (n : Nat) : Bx (w.drewN n) b cs := ⟨h.lt, h.cells, h.free⟩
def pageRes (b o c : Nat) (r : List Int) : Option Sn → Value
  | none => .tuple #[.slice (some ⟨b, o, none⟩) (layB (r.getD 0 0) allV).length c, .agg noS.vals, .bool true]
  | some s => .tuple #[.slice none 0 0, .agg s.vals, .bool false]

set_option maxHeartbeats 1000000 in
theorem rpage_other (b off n c k : Nat) (r : List Int) (w : World) (hr : Cl w b (off + k) r) (hn : n = k + r.length) (h1 : 1 ≤ r.length) (hnc : n ≤ c) (hmx : c ≤ maxLen) (hb : b < w.heap.size) (h8 : ¬ r.getD 0 0 = 8) (h10 : ¬ r.getD 0 0 = 10) :
    Calls Try.prog 25 #[.slice (some ⟨b, off, none⟩) n c, .int .i64 k] w fun e w' => e = .returned (pageRes b (off + k) (c - k) r (pageE r k)) ∧ Below w.heap.size w w' := by
  unfold maxLen at hmx
  have hE : pageE r k = some (faultS k (-1)) := by unfold pageE; rw [if_pos ⟨h8, h10⟩]
  rw [hE]
  have q0 := hr 0 (by omega)
  rw [Nat.add_zero] at q0
  obtain ⟨x0, hx0⟩ : ∃ x, x = r.getD 0 0 := ⟨_, rfl⟩
  rw [← hx0] at q0 h8 h10
  have hkc : ¬ c = k := by omega
  have e1 : (k : Int) ≤ n := by omega
  have e2 : (0 : Int) < (n : Int) - k := by omega
  have e3 : 0 < n - k := by omega
  have hd1 : (x0 != 8) = true := by simp [h8]
  have hd2 : (x0 != 10) = true := by simp [h10]
  clear hx0 hE hn h8 h10 hr
  go_enter Try.func25, Try.ntmps25
  go_wp2_with (first
    | (refine wpList_store_bx rfl 42 (.tmp 5) (.tmp 25) rfl _ _ (faultS k (-1)).vals rfl rfl hx.out rfl infoS (Sn.vals_one _) rfl ?_; intro w3 hx3 hg3; replace hx3 := Kpt.mk hx3; replace hg3 := Kpt.mk hg3; clear hx)
    | (go_at_call 31; refine (fault_any _ _ _).mono ?_; rintro e w2 ⟨rfl, hb2⟩; have hx := Kpt.mk ((bx_new w zeroS 42).below hb2 (by simp)); replace hb2 := Kpt.mk hb2))
  obtain ⟨c0, c1, c2, c3, c4, c5, c6, c7⟩ := bx_sn hx3.out
  refine bodyPost_ret (v := pageRes b (off + k) (c - k) r (some (faultS k (-1)))) (by simp [results, Try.results25, go_sem, c0, c1, c2, c3, c4, c5, c6, c7, Sn.vals, pageRes]) rfl ⟨rfl, (((Below.refl _ _).alloc (Nat.le_refl _) _).trans (hb2.out.mono (by simp))).grown hg3.out (by have := hb2.out.size; simp at this; omega) (fun k hk => by cases hk; exact Nat.le_refl _)⟩

set_option maxRecDepth 100000 in
set_option maxHeartbeats 3000000 in
theorem rpage_8 (b off n c k : Nat) (r : List Int) (w : World) (hr : Cl w b (off + k) r) (hn : n = k + r.length) (h1 : 1 ≤ r.length) (hnc : n ≤ c) (hmx : c ≤ maxLen) (hb : b < w.heap.size) (hby : ∀ j, 0 ≤ r.getD j 0 ∧ r.getD j 0 ≤ 255) (h8 : r.getD 0 0 = 8) :
    Calls Try.prog 25 #[.slice (some ⟨b, off, none⟩) n c, .int .i64 k] w fun e w' => e = .returned (pageRes b (off + k) (c - k) r (pageE r k)) ∧ Below w.heap.size w w' := by
  unfold maxLen at hmx
  obtain ⟨M, hM⟩ : ∃ M, M = layB 8 allV := ⟨_, rfl⟩
  have hMl : M.length = 20 := by rw [hM]; rfl
  have hM1 : M.getD 1 0 = 18 := by rw [hM]; rfl
  have hMb : ∀ j, 0 ≤ M.getD j 0 ∧ M.getD j 0 ≤ 255 := by
    intro j
    by_cases hj : j < 20
    · have key : ∀ i : Fin 20, 0 ≤ (layB 8 allV).getD i.val 0 ∧ (layB 8 allV).getD i.val 0 ≤ 255 := by decide
      rw [hM]; exact key ⟨j, hj⟩
    · rw [List.getD_eq_getElem?_getD, List.getElem?_eq_none (by rw [hMl]; omega)]; simp
  have hE : Kpt (pageE r k = if r.length < 2 then some shortS else if r.getD 1 0 ≠ 18 then some (faultS ((k : Int) + 1) (-1)) else if r.length < 20 then some shortS else (pbad r M 18 2).map fun x => faultS ((k : Int) + x.1) (x.2.toNat.log2 : Nat)) := ⟨by
    unfold pageE
    rw [h8, ← hM, hMl, hM1, if_neg (by decide)]⟩
  have hpr : Kpt (∀ o, pageRes b (off + k) (c - k) r o = match o with | none => .tuple #[.slice (some ⟨b, off + k, none⟩) 20 (c - k), .agg noS.vals, .bool true] | some s => .tuple #[.slice none 0 0, .agg s.vals, .bool false]) := ⟨fun o => by
    cases o with
    | none => unfold pageRes; rw [h8]; rfl
    | some s => rfl⟩
  have HE := Kpt.mk every_any
  have HL := Kpt.mk (lay_8 allV)
  rw [show cels (cachL allV) = cels M from by rw [hM]; rfl] at HL
  simp only [Vs.vals, allV] at HE HL
  have q0 := hr 0 (by omega)
  rw [Nat.add_zero, h8] at q0
  have hkc : ¬ c = k := by omega
  have e1 : (k : Int) ≤ n := by omega
  have e2 : (0 : Int) < (n : Int) - k := by omega
  have e3 : 0 < n - k := by omega
  obtain ⟨l, hl⟩ : ∃ l, l = n - k := ⟨_, rfl⟩
  have hlr : r.length = l := by omega
  rw [hlr] at hE
  replace hMl := Kpt.mk hMl
  replace hlr := Kpt.mk hlr
  have hrK := Kpt.mk hr
  have hnK := Kpt.mk hn
  have hM1K := Kpt.mk hM1
  clear h8 hM hM1 hr hn
  go_enter Try.func25, Try.ntmps25
  go_wp2_with fail
  obtain ⟨w1, hw1⟩ : ∃ w1, w1 = w.alloc (.cells #[.int .u8 0, .int .u16 0, .int .u64 0, .bool false, .int .i64 0, .int .i64 0, .bool false, .bool false] 42) := ⟨_, rfl⟩
  have hbx1 : Bx w1 w.heap.size zeroS := by rw [hw1]; exact bx_new w zeroS 42
  have hbe1 : Below w.heap.size w w1 := by rw [hw1]; exact (Below.refl _ _).alloc (Nat.le_refl _) _
  have hs1 : w1.heap.size = w.heap.size + 1 := by rw [hw1]; simp
  have z0 : w1.cell? ⟨b, off + k, none⟩ = some (.int .u8 8) := (hbe1.cell (p := ⟨b, off + k, none⟩) hb).trans q0
  try rw [← hw1]
  clear hw1 q0
  try rw [← hl]
  refine wp_region_any (by kernel_rfl) ?_
  refine wpAny_of_C (C := fun W => W.cell? ⟨b, off + k, none⟩ = some (.int .u8 8)) _ _ _ _ ?_
  refine wpAnyC_take 0 (.slice (some ⟨b, off + k, none⟩) l (c - k)) rfl (by kernel_rfl) (by kernel_rfl) (by kernel_rfl) (fun _ _ _ h => h) (wanted_free rfl _) (fun W hW => by go_simp) ?_
  simp only [Act.put, List.getElem_toArray, List.getElem_cons_succ, List.getElem_cons_zero, List.setIfInBounds_toArray, List.set_cons_succ, List.set_cons_zero]
  refine wpAnyC_take 1 (.pointer (some ⟨b, off + k, none⟩)) rfl (by kernel_rfl) (by kernel_rfl) (by kernel_rfl) (fun _ _ _ h => h) (wanted_free rfl _) (fun W hW => by go_simp) ?_
  simp only [Act.put, List.getElem_toArray, List.getElem_cons_succ, List.getElem_cons_zero, List.setIfInBounds_toArray, List.set_cons_succ, List.set_cons_zero]
  refine wpAnyC_take 2 (.int .u8 8) rfl (by kernel_rfl) (by kernel_rfl) (by kernel_rfl) (fun _ _ _ h => h) (wanted_free rfl _) (fun W hW => by go_simp) ?_
  simp only [Act.put, List.getElem_toArray, List.getElem_cons_succ, List.getElem_cons_zero, List.setIfInBounds_toArray, List.set_cons_succ, List.set_cons_zero]
  refine wpAnyC_one 3 z0 rfl (by kernel_rfl) (wanted_free rfl _) (fun KA hKA => ?_)
  go_simp
  refine (HE.out _).mono ?_
  rintro e w2 ⟨rfl, hb2⟩
  replace hb2 := below_undrew hb2
  have hbl1 : b < w1.heap.size := by omega
  have y0 := (hb2.cell (p := ⟨b, off + k, none⟩) hbl1).trans z0
  refine hKA _ _ ?_
  clear hKA KA
  try simp only [Act.put, List.getElem_toArray, List.getElem_cons_succ, List.getElem_cons_zero, List.setIfInBounds_toArray, List.set_cons_succ, List.set_cons_zero]
  refine wpAnyC_one 4 y0 rfl (by kernel_rfl) (wanted_free rfl _) (fun KA hKA => ?_)
  go_simp
  refine (HL.out _).mono ?_
  rintro e w3 ⟨g, kc, rfl, hg, ho, hb3⟩
  have hb13 : Below w1.heap.size w1 w3 := hb2.trans (hb3.mono hb2.size)
  have x0' := (hb13.cell (p := ⟨b, off + k, none⟩) hbl1).trans z0
  refine hKA _ _ ?_
  clear hKA KA
  try simp only [Act.put, List.getElem_toArray, List.getElem_cons_succ, List.getElem_cons_zero, List.setIfInBounds_toArray, List.set_cons_succ, List.set_cons_zero]
  refine wpAnyC_take 5 (.slice (some ⟨g, 0, none⟩) 20 kc) rfl (by kernel_rfl) (by kernel_rfl) (by kernel_rfl) (fun _ _ _ h => h) (wanted_free rfl _) (fun W hW => by go_simp) ?_
  simp only [Act.put, List.getElem_toArray, List.getElem_cons_succ, List.getElem_cons_zero, List.setIfInBounds_toArray, List.set_cons_succ, List.set_cons_zero]
  refine wpAnyC_done x0' (by kernel_rfl) ?_
  have hbx2 : Kpt (Bx w3 w.heap.size zeroS) := ⟨hbx1.below hb13 (by omega)⟩
  have hbe2 : Kpt (Below w.heap.size w w3) := ⟨hbe1.trans (hb13.mono (by omega))⟩
  have hlt2 : w.heap.size < w3.heap.size := hbx2.out.lt
  have hrc : Kpt (Cl w3 b (off + k) r) := ⟨fun j hj => (hbe2.out.cell (p := ⟨b, off + k + j, none⟩) hb).trans (hrK.out j hj)⟩
  have hmc : Kpt (∀ i, i < 20 → w3.cell? ⟨g, i, none⟩ = some (.int .u8 (M.getD i 0))) := ⟨fun i hi => own_facts ho i hi⟩
  clear z0 y0 x0' hb2 hb3 hb13 ho hg hbx1 hbe1 hs1 hbl1 HE HL hrK
  by_cases hl2 : l < 2
  · have hfin : Kpt (pageE r k = some shortS) := ⟨by rw [hE.out, if_pos hl2]⟩
    have e4 : (l : Int) < 2 := by omega
    clear hE hrc hmc
    go_wp2_with (first
      | (refine wpList_store_bx rfl 42 (.tmp 5) (.tmp 35) rfl _ _ shortS.vals rfl rfl hx.out rfl infoS (Sn.vals_one _) rfl ?_; intro w5 hx3 hg3; replace hx3 := Kpt.mk hx3; replace hg3 := Kpt.mk hg3; clear hx)
      | (go_at_call 30; refine (short_any _).mono ?_; rintro e w4 ⟨rfl, hb4⟩; have hx : Kpt (Bx w4 w.heap.size zeroS) := ⟨by first | exact hbx2.out.below hb4 hlt2 | exact (hbx2.out.drewN _).below hb4 hlt2 | exact (hbx3.out).below hb4 hlt3⟩; have hbw : Kpt (Below w.heap.size w w4) := ⟨by first | exact hbe2.out.trans (hb4.mono hbe2.out.size) | exact (below_drewN hbe2.out _).trans (hb4.mono hbe2.out.size) | exact hbe3.out.trans (hb4.mono hbe3.out.size)⟩; clear hb4))
    obtain ⟨c0, c1, c2, c3, c4, c5, c6, c7⟩ := bx_sn hx3.out
    refine bodyPost_ret (v := pageRes b (off + k) (c - k) r (some shortS)) (by simp [results, Try.results25, go_sem, c0, c1, c2, c3, c4, c5, c6, c7, Sn.vals, pageRes]) rfl ⟨by rw [hfin.out], hbw.out.grown hg3.out hbw.out.size (fun q hq => by cases hq; exact Nat.le_refl _)⟩

  have e4 : ¬ (l : Int) < 2 := by omega
  have q1 := hrc.out 1 (by rw [hlr.out]; omega)
  have n1 := hmc.out 1 (by decide)
  rw [hM1K.out] at n1
  obtain ⟨x1, hx1⟩ : ∃ x, x = r.getD 1 0 := ⟨_, rfl⟩
  rw [← hx1] at q1
  by_cases h11 : x1 = 18
  case neg =>
    have hfin : Kpt (pageE r k = some (faultS ((k : Int) + 1) (-1))) := ⟨by rw [hE.out, if_neg hl2, if_pos (by rw [← hx1]; exact h11)]⟩
    have hd : (x1 != 18) = true := by simp [h11]
    have ek : Kpt ((k : Int) + 1 < 9223372036854775807) := ⟨by have := hnK.out; omega⟩
    clear hE hrc hmc hx1 h11 hby hMb
    go_wp2_with fail
    go_quiet (fail)
    have ek := ek.out
    go_wp2_with (first
      | (refine wpList_store_bx rfl 42 (.tmp 5) (.tmp 46) rfl _ _ (faultS ((k : Int) + 1) (-1)).vals rfl rfl hx.out rfl infoS (Sn.vals_one _) rfl ?_; intro w5 hx3 hg3; replace hx3 := Kpt.mk hx3; replace hg3 := Kpt.mk hg3; clear hx)
      | (go_at_call 31; refine (fault_any _ _ _).mono ?_; rintro e w4 ⟨rfl, hb4⟩; have hx : Kpt (Bx w4 w.heap.size zeroS) := ⟨by first | exact hbx2.out.below hb4 hlt2 | exact (hbx2.out.drewN _).below hb4 hlt2 | exact (hbx3.out).below hb4 hlt3⟩; have hbw : Kpt (Below w.heap.size w w4) := ⟨by first | exact hbe2.out.trans (hb4.mono hbe2.out.size) | exact (below_drewN hbe2.out _).trans (hb4.mono hbe2.out.size) | exact hbe3.out.trans (hb4.mono hbe3.out.size)⟩; clear hb4))
    obtain ⟨c0, c1, c2, c3, c4, c5, c6, c7⟩ := bx_sn hx3.out
    refine bodyPost_ret (v := pageRes b (off + k) (c - k) r (some (faultS ((k : Int) + 1) (-1)))) (by simp [results, Try.results25, go_sem, c0, c1, c2, c3, c4, c5, c6, c7, Sn.vals, pageRes]) rfl ⟨by rw [hfin.out], hbw.out.grown hg3.out hbw.out.size (fun q hq => by cases hq; exact Nat.le_refl _)⟩

  subst h11
  by_cases hl3 : l < 20
  · have hfin : Kpt (pageE r k = some shortS) := ⟨by rw [hE.out, if_neg hl2, if_neg (by rw [← hx1]; simp), if_pos hl3]⟩
    have e5 : (l : Int) < 20 := by omega
    clear hE hrc hmc hx1 hby hMb
    go_wp2_with fail
    go_quiet (fail)
    go_wp2_with (first
      | (refine wpList_store_bx rfl 42 (.tmp 5) (.tmp 53) rfl _ _ shortS.vals rfl rfl hx.out rfl infoS (Sn.vals_one _) rfl ?_; intro w5 hx3 hg3; replace hx3 := Kpt.mk hx3; replace hg3 := Kpt.mk hg3; clear hx)
      | (go_at_call 30; refine (short_any _).mono ?_; rintro e w4 ⟨rfl, hb4⟩; have hx : Kpt (Bx w4 w.heap.size zeroS) := ⟨by first | exact hbx2.out.below hb4 hlt2 | exact (hbx2.out.drewN _).below hb4 hlt2 | exact (hbx3.out).below hb4 hlt3⟩; have hbw : Kpt (Below w.heap.size w w4) := ⟨by first | exact hbe2.out.trans (hb4.mono hbe2.out.size) | exact (below_drewN hbe2.out _).trans (hb4.mono hbe2.out.size) | exact hbe3.out.trans (hb4.mono hbe3.out.size)⟩; clear hb4))
    obtain ⟨c0, c1, c2, c3, c4, c5, c6, c7⟩ := bx_sn hx3.out
    refine bodyPost_ret (v := pageRes b (off + k) (c - k) r (some shortS)) (by simp [results, Try.results25, go_sem, c0, c1, c2, c3, c4, c5, c6, c7, Sn.vals, pageRes]) rfl ⟨by rw [hfin.out], hbw.out.grown hg3.out hbw.out.size (fun q hq => by cases hq; exact Nat.le_refl _)⟩

  have e5 : ¬ (l : Int) < 20 := by omega
  have hE2 : Kpt (pageE r k = (pbad r M 18 2).map fun x => faultS ((k : Int) + x.1) (x.2.toNat.log2 : Nat)) := ⟨by rw [hE.out, if_neg hl2, if_neg (by rw [← hx1]; simp), if_neg hl3]⟩
  replace hby := Kpt.mk hby
  replace hMb := Kpt.mk hMb
  clear hE hx1
  go_wp2_with fail
  go_quiet (fail)
  go_wp2_with fail
  go_loopw [9] (fun t wr => ∃ i : Nat, 2 ≤ i ∧ i ≤ 20 ∧ t = .int .i64 i ∧ Kpt (pbad r M 18 2 = pbad r M (20 - i) i) ∧ Kpt (∃ q, wr = w3.drewN q)) (fun t _ => 20 - (intOf t).toNat)
  case atStart => exact ⟨2, by omega, by omega, rfl, ⟨rfl⟩, ⟨⟨_, rfl⟩⟩⟩
  case round =>
    obtain ⟨i, hi1, hi2, rfl, hh, hq⟩ := hrel
    obtain ⟨q, hq'⟩ := hq.out
    clear q1 n1
    have hbx3 : Kpt (Bx wr w.heap.size zeroS) := ⟨by rw [hq']; exact hbx2.out.drewN q⟩
    have hbe3 : Kpt (Below w.heap.size w wr) := ⟨by rw [hq']; exact below_drewN hbe2.out q⟩
    have hlt3 : w.heap.size < wr.heap.size := hbx3.out.lt
    by_cases hlt : i < 20
    · have e6 : (i : Int) < 20 := by omega
      have e7 : (i : Int) < l := by omega
      have ca : wr.cell? ⟨b, off + k + i, none⟩ = some (.int .u8 (r.getD i 0)) := by rw [hq']; exact hrc.out i (by rw [hlr.out]; omega)
      have cb : wr.cell? ⟨g, i, none⟩ = some (.int .u8 (M.getD i 0)) := by rw [hq']; exact hmc.out i hlt
      have hstep : 20 - i = (20 - (i + 1)) + 1 := by omega
      have hbd := andNot_bd _ _ (hby.out i) (hMb.out i)
      have hst : pbad r M (20 - i) i = if Go.bits .andNot .u8 (r.getD i 0) (M.getD i 0) = 0 then pbad r M (20 - (i + 1)) (i + 1) else some (i, Go.bits .andNot .u8 (r.getD i 0) (M.getD i 0)) := by rw [hstep, pbad]
      obtain ⟨x, hx⟩ : ∃ x, x = r.getD i 0 := ⟨_, rfl⟩
      obtain ⟨y, hy⟩ : ∃ y, y = M.getD i 0 := ⟨_, rfl⟩
      rw [← hx] at ca hbd hst
      rw [← hy] at cb hbd hst
      obtain ⟨z, hz⟩ : ∃ z, z = Go.bits .andNot .u8 x y := ⟨_, rfl⟩
      rw [← hz] at hbd hst
      have hzz : Go.bits .andNot .u8 x y = z := hz.symm
      clear hx hy hz hstep hq'
      by_cases hz0 : z = 0
      · have hnext : Kpt (pbad r M 18 2 = pbad r M (20 - (i + 1)) (i + 1)) := ⟨by rw [hh.out, hst, if_pos hz0]⟩
        subst hz0
        clear hst hh hbd
        go_wp2_with fail
        go_quiet (fail)
        go_wp2
        go_roundw
        case rel => exact ⟨i + 1, by omega, by omega, by go_num, hnext, ⟨by obtain ⟨q, hq'⟩ := hq.out; exact ⟨_, by rw [hq', World.drewN_drewN]⟩⟩⟩
        case measure => simp [intOf]; omega
      · have hfin : Kpt (pageE r k = some (faultS ((k : Int) + i) (z.toNat.log2 : Nat))) := ⟨by rw [hE2.out, hh.out, hst, if_neg hz0]; rfl⟩
        have hpos : 0 < z := by omega
        have hle : z ≤ 255 := hbd.2
        have hlog := log2_bd z hpos hle
        have hd : (z != 0) = true := by simp [hz0]
        have eki : (k : Int) + i < 9223372036854775807 := by have := hnK.out; have := hlr.out; omega
        clear hst hh hbd hz0 hE2
        go_wp2_with fail
        go_quiet (fail)
        go_wp2_with (first
          | (refine wpList_store_bx rfl 42 (.tmp 5) (.tmp 77) rfl _ _ (faultS ((k : Int) + i) (z.toNat.log2 : Nat)).vals rfl rfl hx.out rfl infoS (Sn.vals_one _) rfl ?_; intro w5 hx3 hg3; replace hx3 := Kpt.mk hx3; replace hg3 := Kpt.mk hg3; clear hx)
          | (go_at_call 32; refine (len8_log _ _ hpos hle).mono ?_; rintro e w' ⟨rfl, rfl⟩)
          | (go_at_call 31; refine (fault_any _ _ _).mono ?_; rintro e w4 ⟨rfl, hb4⟩; have hx : Kpt (Bx w4 w.heap.size zeroS) := ⟨by first | exact (hbx3.out.drewN _).below hb4 hlt3 | exact hbx2.out.below hb4 hlt2 | exact (hbx2.out.drewN _).below hb4 hlt2 | exact (hbx3.out).below hb4 hlt3⟩; have hbw : Kpt (Below w.heap.size w w4) := ⟨by first | exact (below_drewN hbe3.out _).trans (hb4.mono hbe3.out.size) | exact hbe2.out.trans (hb4.mono hbe2.out.size) | exact (below_drewN hbe2.out _).trans (hb4.mono hbe2.out.size) | exact hbe3.out.trans (hb4.mono hbe3.out.size)⟩; clear hb4))
        obtain ⟨c0, c1, c2, c3, c4, c5, c6, c7⟩ := bx_sn hx3.out
        refine bodyPost_ret (v := pageRes b (off + k) (c - k) r (some (faultS ((k : Int) + i) (z.toNat.log2 : Nat)))) (by simp [results, Try.results25, go_sem, c0, c1, c2, c3, c4, c5, c6, c7, Sn.vals, pageRes]) rfl ⟨by rw [hfin.out], hbw.out.grown hg3.out hbw.out.size (fun q hq => by cases hq; exact Nat.le_refl _)⟩

    · obtain rfl : i = 20 := by omega
      have hfin : Kpt (pageE r k = none) := ⟨by rw [hE2.out, hh.out]; rfl⟩
      have hx := hbx3
      clear hh hE2 hrc hmc hq'
      go_wp2_with (refine wpList_store_bx rfl 42 (.tmp 5) (.tmp 82) rfl _ _ zeroS rfl rfl hx.out rfl infoS (Sn.vals_one noS) rfl ?_; intro w5 hx3 hg3; replace hx3 := Kpt.mk hx3; replace hg3 := Kpt.mk hg3; clear hx)
      obtain ⟨c0, c1, c2, c3, c4, c5, c6, c7⟩ := bx_sn (s := noS) hx3.out
      refine bodyPost_ret (v := .tuple #[.slice (some ⟨b, off + k, none⟩) 20 (c - k), .agg noS.vals, .bool true]) (by simp [results, Try.results25, go_sem, c0, c1, c2, c3, c4, c5, c6, c7, Sn.vals]) rfl ⟨by rw [hfin.out, hpr.out], hbe3.out.grown hg3.out hbe3.out.size (fun q hq => by cases hq; exact Nat.le_refl _)⟩

set_option maxRecDepth 100000 in
set_option maxHeartbeats 3000000 in
theorem rpage_10 (b off n c k : Nat) (r : List Int) (w : World) (hr : Cl w b (off + k) r) (hn : n = k + r.length) (h1 : 1 ≤ r.length) (hnc : n ≤ c) (hmx : c ≤ maxLen) (hb : b < w.heap.size) (hby : ∀ j, 0 ≤ r.getD j 0 ∧ r.getD j 0 ≤ 255) (h8 : r.getD 0 0 = 10) :
    Calls Try.prog 25 #[.slice (some ⟨b, off, none⟩) n c, .int .i64 k] w fun e w' => e = .returned (pageRes b (off + k) (c - k) r (pageE r k)) ∧ Below w.heap.size w w' := by
  unfold maxLen at hmx
  obtain ⟨M, hM⟩ : ∃ M, M = layB 10 allV := ⟨_, rfl⟩
  have hMl : M.length = 12 := by rw [hM]; rfl
  have hM1 : M.getD 1 0 = 10 := by rw [hM]; rfl
  have hMb : ∀ j, 0 ≤ M.getD j 0 ∧ M.getD j 0 ≤ 255 := by
    intro j
    by_cases hj : j < 12
    · have key : ∀ i : Fin 12, 0 ≤ (layB 10 allV).getD i.val 0 ∧ (layB 10 allV).getD i.val 0 ≤ 255 := by decide
      rw [hM]; exact key ⟨j, hj⟩
    · rw [List.getD_eq_getElem?_getD, List.getElem?_eq_none (by rw [hMl]; omega)]; simp
  have hE : Kpt (pageE r k = if r.length < 2 then some shortS else if r.getD 1 0 ≠ 10 then some (faultS ((k : Int) + 1) (-1)) else if r.length < 12 then some shortS else (pbad r M 10 2).map fun x => faultS ((k : Int) + x.1) (x.2.toNat.log2 : Nat)) := ⟨by
    unfold pageE
    rw [h8, ← hM, hMl, hM1, if_neg (by decide)]⟩
  have hpr : Kpt (∀ o, pageRes b (off + k) (c - k) r o = match o with | none => .tuple #[.slice (some ⟨b, off + k, none⟩) 12 (c - k), .agg noS.vals, .bool true] | some s => .tuple #[.slice none 0 0, .agg s.vals, .bool false]) := ⟨fun o => by
    cases o with
    | none => unfold pageRes; rw [h8]; rfl
    | some s => rfl⟩
  have HE := Kpt.mk every_any
  have HL := Kpt.mk (lay_10 allV)
  rw [show cels (ctlL allV) = cels M from by rw [hM]; rfl] at HL
  simp only [Vs.vals, allV] at HE HL
  have q0 := hr 0 (by omega)
  rw [Nat.add_zero, h8] at q0
  have hkc : ¬ c = k := by omega
  have e1 : (k : Int) ≤ n := by omega
  have e2 : (0 : Int) < (n : Int) - k := by omega
  have e3 : 0 < n - k := by omega
  obtain ⟨l, hl⟩ : ∃ l, l = n - k := ⟨_, rfl⟩
  have hlr : r.length = l := by omega
  rw [hlr] at hE
  replace hMl := Kpt.mk hMl
  replace hlr := Kpt.mk hlr
  have hrK := Kpt.mk hr
  have hnK := Kpt.mk hn
  have hM1K := Kpt.mk hM1
  clear h8 hM hM1 hr hn
  go_enter Try.func25, Try.ntmps25
  go_wp2_with fail
  obtain ⟨w1, hw1⟩ : ∃ w1, w1 = w.alloc (.cells #[.int .u8 0, .int .u16 0, .int .u64 0, .bool false, .int .i64 0, .int .i64 0, .bool false, .bool false] 42) := ⟨_, rfl⟩
  have hbx1 : Bx w1 w.heap.size zeroS := by rw [hw1]; exact bx_new w zeroS 42
  have hbe1 : Below w.heap.size w w1 := by rw [hw1]; exact (Below.refl _ _).alloc (Nat.le_refl _) _
  have hs1 : w1.heap.size = w.heap.size + 1 := by rw [hw1]; simp
  have z0 : w1.cell? ⟨b, off + k, none⟩ = some (.int .u8 10) := (hbe1.cell (p := ⟨b, off + k, none⟩) hb).trans q0
  try rw [← hw1]
  clear hw1 q0
  try rw [← hl]
  refine wp_region_any (by kernel_rfl) ?_
  refine wpAny_of_C (C := fun W => W.cell? ⟨b, off + k, none⟩ = some (.int .u8 10)) _ _ _ _ ?_
  refine wpAnyC_take 0 (.slice (some ⟨b, off + k, none⟩) l (c - k)) rfl (by kernel_rfl) (by kernel_rfl) (by kernel_rfl) (fun _ _ _ h => h) (wanted_free rfl _) (fun W hW => by go_simp) ?_
  simp only [Act.put, List.getElem_toArray, List.getElem_cons_succ, List.getElem_cons_zero, List.setIfInBounds_toArray, List.set_cons_succ, List.set_cons_zero]
  refine wpAnyC_take 1 (.pointer (some ⟨b, off + k, none⟩)) rfl (by kernel_rfl) (by kernel_rfl) (by kernel_rfl) (fun _ _ _ h => h) (wanted_free rfl _) (fun W hW => by go_simp) ?_
  simp only [Act.put, List.getElem_toArray, List.getElem_cons_succ, List.getElem_cons_zero, List.setIfInBounds_toArray, List.set_cons_succ, List.set_cons_zero]
  refine wpAnyC_take 2 (.int .u8 10) rfl (by kernel_rfl) (by kernel_rfl) (by kernel_rfl) (fun _ _ _ h => h) (wanted_free rfl _) (fun W hW => by go_simp) ?_
  simp only [Act.put, List.getElem_toArray, List.getElem_cons_succ, List.getElem_cons_zero, List.setIfInBounds_toArray, List.set_cons_succ, List.set_cons_zero]
  refine wpAnyC_one 3 z0 rfl (by kernel_rfl) (wanted_free rfl _) (fun KA hKA => ?_)
  go_simp
  refine (HE.out _).mono ?_
  rintro e w2 ⟨rfl, hb2⟩
  replace hb2 := below_undrew hb2
  have hbl1 : b < w1.heap.size := by omega
  have y0 := (hb2.cell (p := ⟨b, off + k, none⟩) hbl1).trans z0
  refine hKA _ _ ?_
  clear hKA KA
  try simp only [Act.put, List.getElem_toArray, List.getElem_cons_succ, List.getElem_cons_zero, List.setIfInBounds_toArray, List.set_cons_succ, List.set_cons_zero]
  refine wpAnyC_one 4 y0 rfl (by kernel_rfl) (wanted_free rfl _) (fun KA hKA => ?_)
  go_simp
  refine (HL.out _).mono ?_
  rintro e w3 ⟨g, kc, rfl, hg, ho, hb3⟩
  have hb13 : Below w1.heap.size w1 w3 := hb2.trans (hb3.mono hb2.size)
  have x0' := (hb13.cell (p := ⟨b, off + k, none⟩) hbl1).trans z0
  refine hKA _ _ ?_
  clear hKA KA
  try simp only [Act.put, List.getElem_toArray, List.getElem_cons_succ, List.getElem_cons_zero, List.setIfInBounds_toArray, List.set_cons_succ, List.set_cons_zero]
  refine wpAnyC_take 5 (.slice (some ⟨g, 0, none⟩) 12 kc) rfl (by kernel_rfl) (by kernel_rfl) (by kernel_rfl) (fun _ _ _ h => h) (wanted_free rfl _) (fun W hW => by go_simp) ?_
  simp only [Act.put, List.getElem_toArray, List.getElem_cons_succ, List.getElem_cons_zero, List.setIfInBounds_toArray, List.set_cons_succ, List.set_cons_zero]
  refine wpAnyC_done x0' (by kernel_rfl) ?_
  have hbx2 : Kpt (Bx w3 w.heap.size zeroS) := ⟨hbx1.below hb13 (by omega)⟩
  have hbe2 : Kpt (Below w.heap.size w w3) := ⟨hbe1.trans (hb13.mono (by omega))⟩
  have hlt2 : w.heap.size < w3.heap.size := hbx2.out.lt
  have hrc : Kpt (Cl w3 b (off + k) r) := ⟨fun j hj => (hbe2.out.cell (p := ⟨b, off + k + j, none⟩) hb).trans (hrK.out j hj)⟩
  have hmc : Kpt (∀ i, i < 12 → w3.cell? ⟨g, i, none⟩ = some (.int .u8 (M.getD i 0))) := ⟨fun i hi => own_facts ho i hi⟩
  clear z0 y0 x0' hb2 hb3 hb13 ho hg hbx1 hbe1 hs1 hbl1 HE HL hrK
  by_cases hl2 : l < 2
  · have hfin : Kpt (pageE r k = some shortS) := ⟨by rw [hE.out, if_pos hl2]⟩
    have e4 : (l : Int) < 2 := by omega
    clear hE hrc hmc
    go_wp2_with (first
      | (refine wpList_store_bx rfl 42 (.tmp 5) (.tmp 35) rfl _ _ shortS.vals rfl rfl hx.out rfl infoS (Sn.vals_one _) rfl ?_; intro w5 hx3 hg3; replace hx3 := Kpt.mk hx3; replace hg3 := Kpt.mk hg3; clear hx)
      | (go_at_call 30; refine (short_any _).mono ?_; rintro e w4 ⟨rfl, hb4⟩; have hx : Kpt (Bx w4 w.heap.size zeroS) := ⟨by first | exact hbx2.out.below hb4 hlt2 | exact (hbx2.out.drewN _).below hb4 hlt2 | exact (hbx3.out).below hb4 hlt3⟩; have hbw : Kpt (Below w.heap.size w w4) := ⟨by first | exact hbe2.out.trans (hb4.mono hbe2.out.size) | exact (below_drewN hbe2.out _).trans (hb4.mono hbe2.out.size) | exact hbe3.out.trans (hb4.mono hbe3.out.size)⟩; clear hb4))
    obtain ⟨c0, c1, c2, c3, c4, c5, c6, c7⟩ := bx_sn hx3.out
    refine bodyPost_ret (v := pageRes b (off + k) (c - k) r (some shortS)) (by simp [results, Try.results25, go_sem, c0, c1, c2, c3, c4, c5, c6, c7, Sn.vals, pageRes]) rfl ⟨by rw [hfin.out], hbw.out.grown hg3.out hbw.out.size (fun q hq => by cases hq; exact Nat.le_refl _)⟩

  have e4 : ¬ (l : Int) < 2 := by omega
  have q1 := hrc.out 1 (by rw [hlr.out]; omega)
  have n1 := hmc.out 1 (by decide)
  rw [hM1K.out] at n1
  obtain ⟨x1, hx1⟩ : ∃ x, x = r.getD 1 0 := ⟨_, rfl⟩
  rw [← hx1] at q1
  by_cases h11 : x1 = 10
  case neg =>
    have hfin : Kpt (pageE r k = some (faultS ((k : Int) + 1) (-1))) := ⟨by rw [hE.out, if_neg hl2, if_pos (by rw [← hx1]; exact h11)]⟩
    have hd : (x1 != 10) = true := by simp [h11]
    have ek : Kpt ((k : Int) + 1 < 9223372036854775807) := ⟨by have := hnK.out; omega⟩
    clear hE hrc hmc hx1 h11 hby hMb
    go_wp2_with fail
    go_quiet (fail)
    have ek := ek.out
    go_wp2_with (first
      | (refine wpList_store_bx rfl 42 (.tmp 5) (.tmp 46) rfl _ _ (faultS ((k : Int) + 1) (-1)).vals rfl rfl hx.out rfl infoS (Sn.vals_one _) rfl ?_; intro w5 hx3 hg3; replace hx3 := Kpt.mk hx3; replace hg3 := Kpt.mk hg3; clear hx)
      | (go_at_call 31; refine (fault_any _ _ _).mono ?_; rintro e w4 ⟨rfl, hb4⟩; have hx : Kpt (Bx w4 w.heap.size zeroS) := ⟨by first | exact hbx2.out.below hb4 hlt2 | exact (hbx2.out.drewN _).below hb4 hlt2 | exact (hbx3.out).below hb4 hlt3⟩; have hbw : Kpt (Below w.heap.size w w4) := ⟨by first | exact hbe2.out.trans (hb4.mono hbe2.out.size) | exact (below_drewN hbe2.out _).trans (hb4.mono hbe2.out.size) | exact hbe3.out.trans (hb4.mono hbe3.out.size)⟩; clear hb4))
    obtain ⟨c0, c1, c2, c3, c4, c5, c6, c7⟩ := bx_sn hx3.out
    refine bodyPost_ret (v := pageRes b (off + k) (c - k) r (some (faultS ((k : Int) + 1) (-1)))) (by simp [results, Try.results25, go_sem, c0, c1, c2, c3, c4, c5, c6, c7, Sn.vals, pageRes]) rfl ⟨by rw [hfin.out], hbw.out.grown hg3.out hbw.out.size (fun q hq => by cases hq; exact Nat.le_refl _)⟩

  subst h11
  by_cases hl3 : l < 12
  · have hfin : Kpt (pageE r k = some shortS) := ⟨by rw [hE.out, if_neg hl2, if_neg (by rw [← hx1]; simp), if_pos hl3]⟩
    have e5 : (l : Int) < 12 := by omega
    clear hE hrc hmc hx1 hby hMb
    go_wp2_with fail
    go_quiet (fail)
    go_wp2_with (first
      | (refine wpList_store_bx rfl 42 (.tmp 5) (.tmp 53) rfl _ _ shortS.vals rfl rfl hx.out rfl infoS (Sn.vals_one _) rfl ?_; intro w5 hx3 hg3; replace hx3 := Kpt.mk hx3; replace hg3 := Kpt.mk hg3; clear hx)
      | (go_at_call 30; refine (short_any _).mono ?_; rintro e w4 ⟨rfl, hb4⟩; have hx : Kpt (Bx w4 w.heap.size zeroS) := ⟨by first | exact hbx2.out.below hb4 hlt2 | exact (hbx2.out.drewN _).below hb4 hlt2 | exact (hbx3.out).below hb4 hlt3⟩; have hbw : Kpt (Below w.heap.size w w4) := ⟨by first | exact hbe2.out.trans (hb4.mono hbe2.out.size) | exact (below_drewN hbe2.out _).trans (hb4.mono hbe2.out.size) | exact hbe3.out.trans (hb4.mono hbe3.out.size)⟩; clear hb4))
    obtain ⟨c0, c1, c2, c3, c4, c5, c6, c7⟩ := bx_sn hx3.out
    refine bodyPost_ret (v := pageRes b (off + k) (c - k) r (some shortS)) (by simp [results, Try.results25, go_sem, c0, c1, c2, c3, c4, c5, c6, c7, Sn.vals, pageRes]) rfl ⟨by rw [hfin.out], hbw.out.grown hg3.out hbw.out.size (fun q hq => by cases hq; exact Nat.le_refl _)⟩

  have e5 : ¬ (l : Int) < 12 := by omega
  have hE2 : Kpt (pageE r k = (pbad r M 10 2).map fun x => faultS ((k : Int) + x.1) (x.2.toNat.log2 : Nat)) := ⟨by rw [hE.out, if_neg hl2, if_neg (by rw [← hx1]; simp), if_neg hl3]⟩
  replace hby := Kpt.mk hby
  replace hMb := Kpt.mk hMb
  clear hE hx1
  go_wp2_with fail
  go_quiet (fail)
  go_wp2_with fail
  go_loopw [9] (fun t wr => ∃ i : Nat, 2 ≤ i ∧ i ≤ 12 ∧ t = .int .i64 i ∧ Kpt (pbad r M 10 2 = pbad r M (12 - i) i) ∧ Kpt (∃ q, wr = w3.drewN q)) (fun t _ => 12 - (intOf t).toNat)
  case atStart => exact ⟨2, by omega, by omega, rfl, ⟨rfl⟩, ⟨⟨_, rfl⟩⟩⟩
  case round =>
    obtain ⟨i, hi1, hi2, rfl, hh, hq⟩ := hrel
    obtain ⟨q, hq'⟩ := hq.out
    clear q1 n1
    have hbx3 : Kpt (Bx wr w.heap.size zeroS) := ⟨by rw [hq']; exact hbx2.out.drewN q⟩
    have hbe3 : Kpt (Below w.heap.size w wr) := ⟨by rw [hq']; exact below_drewN hbe2.out q⟩
    have hlt3 : w.heap.size < wr.heap.size := hbx3.out.lt
    by_cases hlt : i < 12
    · have e6 : (i : Int) < 12 := by omega
      have e7 : (i : Int) < l := by omega
      have ca : wr.cell? ⟨b, off + k + i, none⟩ = some (.int .u8 (r.getD i 0)) := by rw [hq']; exact hrc.out i (by rw [hlr.out]; omega)
      have cb : wr.cell? ⟨g, i, none⟩ = some (.int .u8 (M.getD i 0)) := by rw [hq']; exact hmc.out i hlt
      have hstep : 12 - i = (12 - (i + 1)) + 1 := by omega
      have hbd := andNot_bd _ _ (hby.out i) (hMb.out i)
      have hst : pbad r M (12 - i) i = if Go.bits .andNot .u8 (r.getD i 0) (M.getD i 0) = 0 then pbad r M (12 - (i + 1)) (i + 1) else some (i, Go.bits .andNot .u8 (r.getD i 0) (M.getD i 0)) := by rw [hstep, pbad]
      obtain ⟨x, hx⟩ : ∃ x, x = r.getD i 0 := ⟨_, rfl⟩
      obtain ⟨y, hy⟩ : ∃ y, y = M.getD i 0 := ⟨_, rfl⟩
      rw [← hx] at ca hbd hst
      rw [← hy] at cb hbd hst
      obtain ⟨z, hz⟩ : ∃ z, z = Go.bits .andNot .u8 x y := ⟨_, rfl⟩
      rw [← hz] at hbd hst
      have hzz : Go.bits .andNot .u8 x y = z := hz.symm
      clear hx hy hz hstep hq'
      by_cases hz0 : z = 0
      · have hnext : Kpt (pbad r M 10 2 = pbad r M (12 - (i + 1)) (i + 1)) := ⟨by rw [hh.out, hst, if_pos hz0]⟩
        subst hz0
        clear hst hh hbd
        go_wp2_with fail
        go_quiet (fail)
        go_wp2
        go_roundw
        case rel => exact ⟨i + 1, by omega, by omega, by go_num, hnext, ⟨by obtain ⟨q, hq'⟩ := hq.out; exact ⟨_, by rw [hq', World.drewN_drewN]⟩⟩⟩
        case measure => simp [intOf]; omega
      · have hfin : Kpt (pageE r k = some (faultS ((k : Int) + i) (z.toNat.log2 : Nat))) := ⟨by rw [hE2.out, hh.out, hst, if_neg hz0]; rfl⟩
        have hpos : 0 < z := by omega
        have hle : z ≤ 255 := hbd.2
        have hlog := log2_bd z hpos hle
        have hd : (z != 0) = true := by simp [hz0]
        have eki : (k : Int) + i < 9223372036854775807 := by have := hnK.out; have := hlr.out; omega
        clear hst hh hbd hz0 hE2
        go_wp2_with fail
        go_quiet (fail)
        go_wp2_with (first
          | (refine wpList_store_bx rfl 42 (.tmp 5) (.tmp 77) rfl _ _ (faultS ((k : Int) + i) (z.toNat.log2 : Nat)).vals rfl rfl hx.out rfl infoS (Sn.vals_one _) rfl ?_; intro w5 hx3 hg3; replace hx3 := Kpt.mk hx3; replace hg3 := Kpt.mk hg3; clear hx)
          | (go_at_call 32; refine (len8_log _ _ hpos hle).mono ?_; rintro e w' ⟨rfl, rfl⟩)
          | (go_at_call 31; refine (fault_any _ _ _).mono ?_; rintro e w4 ⟨rfl, hb4⟩; have hx : Kpt (Bx w4 w.heap.size zeroS) := ⟨by first | exact (hbx3.out.drewN _).below hb4 hlt3 | exact hbx2.out.below hb4 hlt2 | exact (hbx2.out.drewN _).below hb4 hlt2 | exact (hbx3.out).below hb4 hlt3⟩; have hbw : Kpt (Below w.heap.size w w4) := ⟨by first | exact (below_drewN hbe3.out _).trans (hb4.mono hbe3.out.size) | exact hbe2.out.trans (hb4.mono hbe2.out.size) | exact (below_drewN hbe2.out _).trans (hb4.mono hbe2.out.size) | exact hbe3.out.trans (hb4.mono hbe3.out.size)⟩; clear hb4))
        obtain ⟨c0, c1, c2, c3, c4, c5, c6, c7⟩ := bx_sn hx3.out
        refine bodyPost_ret (v := pageRes b (off + k) (c - k) r (some (faultS ((k : Int) + i) (z.toNat.log2 : Nat)))) (by simp [results, Try.results25, go_sem, c0, c1, c2, c3, c4, c5, c6, c7, Sn.vals, pageRes]) rfl ⟨by rw [hfin.out], hbw.out.grown hg3.out hbw.out.size (fun q hq => by cases hq; exact Nat.le_refl _)⟩

    · obtain rfl : i = 12 := by omega
      have hfin : Kpt (pageE r k = none) := ⟨by rw [hE2.out, hh.out]; rfl⟩
      have hx := hbx3
      clear hh hE2 hrc hmc hq'
      go_wp2_with (refine wpList_store_bx rfl 42 (.tmp 5) (.tmp 82) rfl _ _ zeroS rfl rfl hx.out rfl infoS (Sn.vals_one noS) rfl ?_; intro w5 hx3 hg3; replace hx3 := Kpt.mk hx3; replace hg3 := Kpt.mk hg3; clear hx)
      obtain ⟨c0, c1, c2, c3, c4, c5, c6, c7⟩ := bx_sn (s := noS) hx3.out
      refine bodyPost_ret (v := .tuple #[.slice (some ⟨b, off + k, none⟩) 12 (c - k), .agg noS.vals, .bool true]) (by simp [results, Try.results25, go_sem, c0, c1, c2, c3, c4, c5, c6, c7, Sn.vals]) rfl ⟨by rw [hfin.out, hpr.out], hbe3.out.grown hg3.out hbe3.out.size (fun q hq => by cases hq; exact Nat.le_refl _)⟩
end Go.Proofs.Ytdojhgapdocngaa
