/-
  The document's Select.
-/
import Derived.Test.YtdojhgapdocngaaMRSelP
namespace Go.Proofs.Ytdojhgapdocngaa
open Go.RowKit
set_option linter.unusedVariables false
set_option linter.unusedSimpArgs false
set_option maxRecDepth 100000 in
set_option maxHeartbeats 8000000 in
theorem rsel_f (bP b off k : Nat) (n s : Vs) (c : Cm) (p : List Int) (w : World) (hP : RPg w bP n s) (hp : Cl w b off p) (h1 : 1 ≤ p.length) (hnc : p.length ≤ k) (hmx : k ≤ maxLen) (hb_ : b < w.heap.size) (hby : ∀ j, 0 ≤ p.getD j 0 ∧ p.getD j 0 ≤ 255) (hne : b ≠ bP) (hlg : c.lg = false) :
    Calls Try.prog 13 #[.pointer (some ⟨bP, 0, none⟩), .agg c.vals, .slice (some ⟨b, off, none⟩) p.length k] w fun e w' => SelP bP n s c.sv (readL n false p) w e w' := by
  unfold maxLen at hmx
  have hcl : Kpt (∀ W, Below w.heap.size w W → ∀ j, j < p.length → W.cell? ⟨b, off + j, none⟩ = some (.int .u8 (p.getD j 0))) := ⟨fun W h j hj => (h.cell (p := ⟨b, off + j, none⟩) hb_).trans (hp j hj)⟩
  have HP8 := Kpt.mk (fun W => dpage_8 allV W)
  have HP10 := Kpt.mk (fun W => dpage_10 allV W)
  rw [show vB allV = 7 from rfl] at HP8 HP10
  have hE : Kpt (headE false p = if p.length < 4 then some shortS else (hbad p 2 4 0).map fun (i : Nat) => faultS (i : Int) (-1)) := ⟨rfl⟩
  have hRs : Kpt (∀ sn, headE false p = some sn → readL n false p = (n, some sn)) := ⟨fun sn h => by unfold readL; rw [h]⟩
  have hRg : Kpt (headE false p = none → readL n false p = rdL (p.length + 1) n p 4) := ⟨fun h => by unfold readL; rw [h]; rfl⟩
  obtain ⟨R, hR⟩ : ∃ R, R = readL n false p := ⟨_, rfl⟩
  rw [← hR] at hRs hRg ⊢
  obtain ⟨nn, hn⟩ : ∃ m, m = p.length := ⟨_, rfl⟩
  rw [← hn] at hcl hE hRg h1 hnc ⊢
  replace hn := Kpt.mk hn
  replace hby := Kpt.mk hby
  have OP := Kpt.mk (rp_bx hP)
  obtain ⟨xn, hxn⟩ : ∃ x, x = vB n := ⟨_, rfl⟩
  obtain ⟨xs, hxs⟩ : ∃ x, x = vB s := ⟨_, rfl⟩
  rw [← hxn, ← hxs] at OP
  replace hxn := Kpt.mk hxn
  replace hxs := Kpt.mk hxs
  have cP0 := rp_c0 OP.out
  have cP1 := rp_c1 OP.out
  have hPl : bP < w.heap.size := hP.lt
  have hnn : ((nn : Int) == 0) = false := beq_eq_false_iff_ne.mpr (by omega)
  clear hR hP hp
  have hb := Kpt.mk (Below.refl w.heap.size w)
  go_enter Try.func13, Try.ntmps13
  go_upto_region 9 with (first
      | (have hm := m3; refine wpList_store_bx rfl 42 _ _ rfl bH _ shortS.vals rfl rfl OH.out rfl infoS (Sn.vals_one shortS) rfl ?_; intro w4 hX_ hg_; replace OP := Kpt.mk (OP.out.grown hg_ (by simp; omega)); replace OC := Kpt.mk (OC.out.grown hg_ (by simp; omega)); replace OS := Kpt.mk (OS.out.grown hg_ (by simp; omega)); replace hb := Kpt.mk (hb.out.trans (bel_own hg_ hb.out.size lH.out)); replace OH := Kpt.mk hX_; replace cP0 := rp_c0 OP.out; replace cP1 := rp_c1 OP.out; replace c1 := cm_c1 OC.out; replace c11 := cm_c11 OC.out; clear hX_ hg_; clear hm m3; have m4 : Kpt True := ⟨trivial⟩)
      | (have hm := m2; refine wpList_var rfl 42 rfl zeroS zeroSi ?_; intro bH w_H hl_ hX_ h_; have q_P_H : bP < bH := Nat.lt_of_lt_of_le OP.out.lt hl_; have q_C_H : bC < bH := Nat.lt_of_lt_of_le OC.out.lt hl_; have q_S_H : bS < bH := Nat.lt_of_lt_of_le OS.out.lt hl_; have lH := Kpt.mk (Nat.le_trans hb.out.size hl_); replace OP := Kpt.mk (OP.out.below h_ OP.out.lt); replace OC := Kpt.mk (OC.out.below h_ OC.out.lt); replace OS := Kpt.mk (OS.out.below h_ OS.out.lt); replace hb := Kpt.mk (hb.out.trans (h_.mono hb.out.size)); replace cP0 := rp_c0 OP.out; replace cP1 := rp_c1 OP.out; replace c1 := cm_c1 OC.out; replace c11 := cm_c11 OC.out; have OH := Kpt.mk hX_; clear hl_ hX_ h_; clear hm m2; have m3 : Kpt True := ⟨trivial⟩)
      | (have hm := m1; refine wpList_var rfl 42 rfl zeroS zeroSi ?_; intro bS w_S hl_ hX_ h_; have q_P_S : bP < bS := Nat.lt_of_lt_of_le OP.out.lt hl_; have q_C_S : bC < bS := Nat.lt_of_lt_of_le OC.out.lt hl_; have lS := Kpt.mk (Nat.le_trans hb.out.size hl_); replace OP := Kpt.mk (OP.out.below h_ OP.out.lt); replace OC := Kpt.mk (OC.out.below h_ OC.out.lt); replace hb := Kpt.mk (hb.out.trans (h_.mono hb.out.size)); replace cP0 := rp_c0 OP.out; replace cP1 := rp_c1 OP.out; replace c1 := cm_c1 OC.out; replace c11 := cm_c11 OC.out; have OS := Kpt.mk hX_; clear hl_ hX_ h_; clear hm m1; have m2 : Kpt True := ⟨trivial⟩)
      | (refine wpList_box rfl 36 _ rfl c.vals rfl ?_; intro bC w_C hl_ hX_ h_ _; have q_P_C : bP < bC := Nat.lt_of_lt_of_le OP.out.lt hl_; have lC := Kpt.mk (Nat.le_trans hb.out.size hl_); replace OP := Kpt.mk (OP.out.below h_ OP.out.lt); replace hb := Kpt.mk (hb.out.trans (h_.mono hb.out.size)); replace cP0 := rp_c0 OP.out; replace cP1 := rp_c1 OP.out; have OC := Kpt.mk hX_; have c1 := cm_c1 OC.out; have c11 := cm_c11 OC.out; clear hl_ hX_ h_; have m1 : Kpt True := ⟨trivial⟩)
      | fail)
  by_cases hs : nn < 4
  · have hsI : (nn : Int) < 4 := by omega
    have hRb : Kpt (R = (n, some shortS)) := ⟨hRs.out _ (by rw [hE.out, if_pos hs])⟩
    go_upto_region 10 with fail
    refine wp_region_any (by kernel_rfl) ?_
    refine wpAny_of_C (C := fun W => Bx W bH shortS.vals) _ _ _ _ ?_
    replace OP := Kpt.mk OP.out.drew
    replace OC := Kpt.mk OC.out.drew
    replace OS := Kpt.mk OS.out.drew
    replace OH := Kpt.mk OH.out.drew
    replace hb := Kpt.mk (bel_drw hb.out)
    obtain ⟨W0, hW0⟩ : ∃ W, W = w4.drew := ⟨_, rfl⟩
    rw [← hW0] at OP OC OS OH hb
    refine wpAnyC_world hW0 ?_
    clear hW0
    refine wpAnyC_take 0 (.agg shortS.vals) rfl (by kernel_rfl) (by kernel_rfl) (by kernel_rfl) (fun _ _ _ h => h) (wanted_free rfl _) (fun W hW => exec_load_bx 42 _ rfl bH shortS.vals rfl hW _ Try.underlying42 rfl infoS) ?_
    try simp only [Act.put, List.getElem_toArray, List.getElem_cons_succ, List.getElem_cons_zero, List.setIfInBounds_toArray, List.set_cons_succ, List.set_cons_zero]
    refine wpAnyC_take 1 (.bool false) rfl (by kernel_rfl) (by kernel_rfl) (by kernel_rfl) (fun _ _ _ h => h) (wanted_free rfl _) (fun W hW => by go_simp) ?_
    try simp only [Act.put, List.getElem_toArray, List.getElem_cons_succ, List.getElem_cons_zero, List.setIfInBounds_toArray, List.set_cons_succ, List.set_cons_zero]
    refine wpAnyC_one 2 OH.out rfl (by kernel_rfl) (wanted_free rfl _) (fun KA hKA => ?_)
    refine wp_store_bx 42 _ _ rfl bS zeroS shortS.vals rfl rfl OS.out rfl infoS (Sn.vals_one _) ?_
    intro w7 hX_ hg_
    replace OH := Kpt.mk (OH.out.grown hg_ (by simp; omega))
    replace hb := Kpt.mk (hb.out.trans (bel_own hg_ hb.out.size lS.out))
    replace OS := Kpt.mk hX_
    clear hX_ hg_
    refine hKA _ _ ?_
    clear hKA KA
    try simp only [Act.put, List.getElem_toArray, List.getElem_cons_succ, List.getElem_cons_zero, List.setIfInBounds_toArray, List.set_cons_succ, List.set_cons_zero]
    refine wpAnyC_take 3 (.bool false) rfl (by kernel_rfl) (by kernel_rfl) (by kernel_rfl) (fun _ _ _ h => h) (wanted_free rfl _) (fun W hW => by go_simp) ?_
    try simp only [Act.put, List.getElem_toArray, List.getElem_cons_succ, List.getElem_cons_zero, List.setIfInBounds_toArray, List.set_cons_succ, List.set_cons_zero]
    refine wpAnyC_done OH.out (by kernel_rfl) ?_
    go_wp2_with fail
    refine bodyPost_ret (v := .tuple #[.bool false, .agg shortS.vals, .bool false]) (by simp [results, Try.results13, asAddr, Act.put, resS_run (s := shortS) OS.out]) rfl (SelP.bad hRb.out hb.out)
  · have hsI : ¬ (nn : Int) < 4 := by omega
    go_wp2
    go_loop [12] (fun t => ∃ q : Nat, q ≤ 4 ∧ Kpt (hbad p 2 4 0 = hbad p 2 (4 - q) q) ∧ t = .int .i64 q) (fun t => 4 - (intOf t).toNat)
    case atStart => exact ⟨0, by omega, ⟨rfl⟩, rfl⟩
    case round =>
      obtain ⟨q, hq, hh, rfl⟩ := hrel
      by_cases hlt : q < 4
      · have e1 : (q : Int) < 4 := by omega
        have e2 : (q : Int) < nn := by omega
        have ck := hcl.out _ hb.out q (by omega)
        have hstep : Kpt (4 - q = (4 - (q + 1)) + 1) := ⟨by omega⟩
        obtain ⟨x, hx0⟩ : ∃ x, x = p.getD q 0 := ⟨_, rfl⟩
        rw [← hx0] at ck
        replace hx0 := Kpt.mk hx0
        by_cases hx : x = 0
        · have hnext : Kpt (hbad p 2 4 0 = hbad p 2 (4 - (q + 1)) (q + 1)) := ⟨by rw [hh.out, hstep.out, hbad, if_neg (fun h => h.2 (by rw [← hx0.out]; exact hx))]⟩
          subst hx
          clear hh hstep hx0
          go_wp2
          go_round
          case rel => exact ⟨q + 1, by omega, hnext, by go_num⟩
          case measure => simp [intOf]; omega
        · have hx' : (x != 0) = true := by simp [hx]
          by_cases hf : q = 2
          · have hnext : Kpt (hbad p 2 4 0 = hbad p 2 (4 - (q + 1)) (q + 1)) := ⟨by rw [hh.out, hstep.out, hbad, if_neg (fun h => h.1 hf)]⟩
            subst hf
            clear hh hstep hx0
            go_wp2
            go_round
            case rel => exact ⟨_, by omega, hnext, by go_num⟩
            case measure => simp [intOf]
          · have hf' : ((q : Int) != 2) = true := by simp; omega
            have hRb : Kpt (R = (n, some (faultS (q : Int) (-1)))) := ⟨hRs.out _ (by rw [hE.out, if_neg hs, hh.out, hstep.out, hbad, if_pos ⟨hf, by rw [← hx0.out]; exact hx⟩]; rfl)⟩
            clear hh hstep hx0 hx hf
            obtain ⟨SV, hSVe⟩ : ∃ v, v = (faultS (q : Int) (-1)).vals := ⟨_, rfl⟩
            have hSV1 : Kpt (SV.all (·.oneCell') = true) := ⟨by rw [hSVe]; exact Sn.vals_one _⟩
            have hSVs : Kpt (SV.size = zeroS.size) := ⟨by rw [hSVe]; rfl⟩
            have hSV : Kpt ((Try.prog.info? 42).map (·.size) = some SV.size) := ⟨by rw [hSVe]; exact infoS⟩
            have hrs : Kpt (∀ W B, Bx W B SV → (loadVar 42 ⟨B, 0, none⟩).run Try.prog W = .ok (.agg SV) W) := ⟨fun W B hB => by rw [hSVe] at hB ⊢; exact resS_run hB⟩
            have HF : Kpt (∀ W, Calls Try.prog 19 #[.int .u16 9728, .int .i64 (q : Int), .int .i64 (-1), .bool false] W fun e w' => e = .returned (.agg SV) ∧ Below W.heap.size W w') := ⟨fun W => by rw [hSVe]; exact rf_any _ _ W⟩
            replace hSVe := Kpt.mk hSVe
            go_wp2_with (first
                | (have hm := m5; refine wpList_store_bx rfl 42 _ _ rfl bS _ SV rfl rfl OS.out hSVs.out hSV.out hSV1.out rfl ?_; intro w6 hX_ hg_; replace OP := Kpt.mk (OP.out.grown hg_ (by simp; omega)); replace OC := Kpt.mk (OC.out.grown hg_ (by simp; omega)); replace OH := Kpt.mk (OH.out.grown hg_ (by simp; omega)); replace hb := Kpt.mk (hb.out.trans (bel_own hg_ hb.out.size lS.out)); replace OS := Kpt.mk hX_; replace cP0 := rp_c0 OP.out; replace cP1 := rp_c1 OP.out; replace c1 := cm_c1 OC.out; replace c11 := cm_c11 OC.out; clear hX_ hg_; clear hm m5; have m6 : Kpt True := ⟨trivial⟩)
                | (go_at_call 19; have hm := m4; go_must (refine (HF.out _).mono ?_; rintro e w_ ⟨rfl, h_⟩; replace OP := Kpt.mk (OP.out.below h_ OP.out.lt); replace OC := Kpt.mk (OC.out.below h_ OC.out.lt); replace OS := Kpt.mk (OS.out.below h_ OS.out.lt); replace OH := Kpt.mk (OH.out.below h_ OH.out.lt); replace hb := Kpt.mk (hb.out.trans (h_.mono hb.out.size)); replace cP0 := rp_c0 OP.out; replace cP1 := rp_c1 OP.out; replace c1 := cm_c1 OC.out; replace c11 := cm_c11 OC.out; clear h_; clear hm m4; have m5 : Kpt True := ⟨trivial⟩))
                | fail)
            refine bodyPost_ret (v := .tuple #[.bool false, .agg SV, .bool false]) (by simp [results, Try.results13, asAddr, Act.put, hrs.out _ _ OS.out]) rfl (by rw [hSVe.out]; exact SelP.bad hRb.out hb.out)
      · have hqe : q = 4 := by omega
        have hR0 : Kpt (R = rdL (nn + 1) n p 4) := ⟨hRg.out (by rw [hE.out, if_neg hs, hh.out, hqe]; rfl)⟩
        subst hqe
        clear hh hlt hq hE hRs hRg
        go_wp2_with fail
        go_loopw [13, 14] (fun t13 t14 wr => ∃ (q : Nat) (v : Vs) (xv : Int), t13 = .int .i64 xv ∧ t14 = .int .i64 q ∧ Kpt (xv = vB v) ∧ Kpt (Bx wr bC c.vals) ∧ Kpt (Bx wr bS zeroS) ∧ Kpt (Bx wr bH shortS.vals) ∧ Kpt (Bx wr bP #[.int .i64 xn, .int .i64 xs]) ∧ Kpt (Below w.heap.size w wr) ∧ Kpt (∃ f, R = rdL f v p q ∧ nn < q + f)) (fun _ t14 _ => nn - (intOf t14).toNat)
        case atStart => exact ⟨4, n, xn, rfl, rfl, hxn, OC, OS, OH, OP, hb, ⟨nn + 1, hR0.out, by omega⟩⟩
        case round =>
          clear hR0 OC OS OH OP hb c1 c11 cP0 cP1
          obtain ⟨q, v, xv, rfl, rfl, hxv, OC, OS, OH, OP, hb, hI⟩ := hrel
          have c1 := cm_c1 OC.out
          have c11 := cm_c11 OC.out
          have cP0 := rp_c0 OP.out
          have cP1 := rp_c1 OP.out
          by_cases hgo : q < nn
          · have e2 : (q : Int) < nn := by omega
            obtain ⟨f, hI1, hI2⟩ := hI.out
            obtain ⟨f', rfl⟩ : ∃ f', f = f' + 1 := ⟨f - 1, by omega⟩
            have ck := hcl.out _ hb.out q hgo
            obtain ⟨x, hx0⟩ : ∃ x, x = p.getD q 0 := ⟨_, rfl⟩
            rw [← hx0] at ck
            replace hx0 := Kpt.mk hx0
            have hBad : Kpt (∀ sn, pageE (p.drop q) q = some sn → R = (v, some sn)) := ⟨fun sn h => by rw [hI1]; exact rd_bad (by have := hn.out; omega) h⟩
            have hGood : Kpt (pageE (p.drop q) q = none → R = rdL f' (withV v (p.drop q)) p (q + plen (p.drop q)) ∧ nn < q + f' + 1) := ⟨fun h => ⟨by rw [hI1]; exact rd_good (by have := hn.out; omega) h, by omega⟩⟩
            clear hI hI1
            by_cases h8 : x = 8
            · subst h8
              have hpe : Kpt (pageE (p.drop q) q = if (p.drop q).length < 2 then some shortS else if p.getD (q + 1) 0 ≠ 18 then some (faultS (q + 1) (-1)) else if (p.drop q).length < 20 then some shortS else (pbad (p.drop q) (cachL allV) 18 2).map fun x => faultS (q + x.1) (x.2.toNat.log2 : Nat)) := ⟨pe_eq hx0.out.symm (by decide) (layB8 _) rfl rfl⟩
              have hdl : Kpt ((p.drop q).length = nn - q) := ⟨by rw [List.length_drop, ← hn.out]⟩
              go_upto_region 22 with (first
                  | (go_at_call 20; have hm := m4; go_must (refine (HP8.out _).mono ?_; rintro e wg ⟨g, rfl, hg_, ho_, h_⟩; have q_P_g : bP < g := Nat.lt_of_lt_of_le OP.out.lt hg_; have HM := Kpt.mk (fun j (hj : j < 20) => own_facts ho_ j hj); replace OP := Kpt.mk (OP.out.below h_ OP.out.lt); replace OC := Kpt.mk (OC.out.below h_ OC.out.lt); replace OS := Kpt.mk (OS.out.below h_ OS.out.lt); replace OH := Kpt.mk (OH.out.below h_ OH.out.lt); replace hb := Kpt.mk (hb.out.trans (h_.mono hb.out.size)); replace cP0 := rp_c0 OP.out; replace cP1 := rp_c1 OP.out; replace c1 := cm_c1 OC.out; replace c11 := cm_c11 OC.out; clear hg_ ho_ h_; clear hm m4; have m5 : Kpt True := ⟨trivial⟩))
                  | fail)
              have ck' := hcl.out _ hb.out q hgo
              rw [← hx0.out] at ck'
              replace ck := ck'
              clear ck'
              obtain ⟨z1, hz1⟩ : ∃ z : Nat, (q : Int) + 1 = z := ⟨q + 1, by omega⟩
              have hz1N : Kpt (z1 = q + 1) := ⟨by omega⟩
              by_cases hl2 : z1 = nn
              · have hb1 : ((z1 : Int) == nn) = true := by simp; omega
                have hRb : Kpt (R = (v, some shortS)) := ⟨hBad.out _ (by rw [hpe.out, hdl.out, if_pos (by omega)])⟩
                clear hBad hGood hpe HM
                go_upto_region 23 with fail
                refine wp_region_any (by kernel_rfl) ?_
                refine wpAny_of_C (C := fun W => Bx W bH shortS.vals) _ _ _ _ ?_
                replace OP := Kpt.mk OP.out.drew
                replace OC := Kpt.mk OC.out.drew
                replace OS := Kpt.mk OS.out.drew
                replace OH := Kpt.mk OH.out.drew
                replace hb := Kpt.mk (bel_drw hb.out)
                obtain ⟨W0, hW0⟩ : ∃ W, W = wg.drew := ⟨_, rfl⟩
                rw [← hW0] at OP OC OS OH hb
                refine wpAnyC_world hW0 ?_
                clear hW0
                refine wpAnyC_take 0 (.agg shortS.vals) rfl (by kernel_rfl) (by kernel_rfl) (by kernel_rfl) (fun _ _ _ h => h) (wanted_free rfl _) (fun W hW => exec_load_bx 42 _ rfl bH shortS.vals rfl hW _ Try.underlying42 rfl infoS) ?_
                try simp only [Act.put, List.getElem_toArray, List.getElem_cons_succ, List.getElem_cons_zero, List.setIfInBounds_toArray, List.set_cons_succ, List.set_cons_zero]
                refine wpAnyC_take 1 (.bool false) rfl (by kernel_rfl) (by kernel_rfl) (by kernel_rfl) (fun _ _ _ h => h) (wanted_free rfl _) (fun W hW => by go_simp) ?_
                try simp only [Act.put, List.getElem_toArray, List.getElem_cons_succ, List.getElem_cons_zero, List.setIfInBounds_toArray, List.set_cons_succ, List.set_cons_zero]
                refine wpAnyC_one 2 OH.out rfl (by kernel_rfl) (wanted_free rfl _) (fun KA hKA => ?_)
                refine wp_store_bx 42 _ _ rfl bS zeroS shortS.vals rfl rfl OS.out rfl infoS (Sn.vals_one _) ?_
                intro w7 hX_ hg_
                replace OH := Kpt.mk (OH.out.grown hg_ (by simp; omega))
                replace hb := Kpt.mk (hb.out.trans (bel_own hg_ hb.out.size lS.out))
                replace OS := Kpt.mk hX_
                clear hX_ hg_
                refine hKA _ _ ?_
                clear hKA KA
                try simp only [Act.put, List.getElem_toArray, List.getElem_cons_succ, List.getElem_cons_zero, List.setIfInBounds_toArray, List.set_cons_succ, List.set_cons_zero]
                refine wpAnyC_take 3 (.bool false) rfl (by kernel_rfl) (by kernel_rfl) (by kernel_rfl) (fun _ _ _ h => h) (wanted_free rfl _) (fun W hW => by go_simp) ?_
                try simp only [Act.put, List.getElem_toArray, List.getElem_cons_succ, List.getElem_cons_zero, List.setIfInBounds_toArray, List.set_cons_succ, List.set_cons_zero]
                refine wpAnyC_done OH.out (by kernel_rfl) ?_
                go_wp2_with fail
                refine bodyPost_ret (v := .tuple #[.bool false, .agg shortS.vals, .bool false]) (by simp [results, Try.results13, asAddr, Act.put, resS_run (s := shortS) OS.out]) rfl (SelP.bad hRb.out hb.out)
              · have hb1 : ((z1 : Int) == nn) = false := beq_eq_false_iff_ne.mpr (by omega)
                have e3 : (z1 : Int) < nn := by omega
                have ck1 := hcl.out _ hb.out z1 (by omega)
                have cm1 := HM.out 1 (by decide)
                rw [show (cachL allV).getD 1 0 = 18 from rfl] at cm1
                obtain ⟨x1, hx1⟩ : ∃ x, x = p.getD z1 0 := ⟨_, rfl⟩
                rw [← hx1] at ck1
                rw [hz1N.out] at hx1
                replace hx1 := Kpt.mk hx1
                by_cases hxm : x1 = 18
                · subst hxm
                  obtain ⟨d, hd⟩ : ∃ z : Nat, (nn : Int) - q = z := ⟨nn - q, by omega⟩
                  have hdN : Kpt (d = nn - q) := ⟨by omega⟩
                  by_cases hdM : d < 20
                  · have hdI : (d : Int) < 20 := by omega
                    have hRb : Kpt (R = (v, some shortS)) := ⟨hBad.out _ (by rw [hpe.out, hdl.out, if_neg (by omega), if_neg (by rw [← hx1.out]; simp), if_pos (by omega)])⟩
                    clear hBad hGood hpe HM
                    go_upto_region 24 with fail
                    go_quiet (fail)
                    replace OP := Kpt.mk (OP.out.drewN nq)
                    replace OC := Kpt.mk (OC.out.drewN nq)
                    replace OS := Kpt.mk (OS.out.drewN nq)
                    replace OH := Kpt.mk (OH.out.drewN nq)
                    replace hb := Kpt.mk (bel_drwN (q := nq) hb.out)
                    obtain ⟨wq, hwq⟩ : ∃ W, W = wg.drewN nq := ⟨_, rfl⟩
                    rw [← hwq] at OP OC OS OH hb ⊢
                    clear hwq
                    replace c1 := cm_c1 OC.out
                    replace c11 := cm_c11 OC.out
                    replace cP0 := rp_c0 OP.out
                    replace cP1 := rp_c1 OP.out
                    go_upto_region 27 with fail
                    refine wp_region_any (by kernel_rfl) ?_
                    refine wpAny_of_C (C := fun W => Bx W bH shortS.vals) _ _ _ _ ?_
                    replace OP := Kpt.mk OP.out.drew
                    replace OC := Kpt.mk OC.out.drew
                    replace OS := Kpt.mk OS.out.drew
                    replace OH := Kpt.mk OH.out.drew
                    replace hb := Kpt.mk (bel_drw hb.out)
                    obtain ⟨W0, hW0⟩ : ∃ W, W = wq.drew := ⟨_, rfl⟩
                    rw [← hW0] at OP OC OS OH hb
                    refine wpAnyC_world hW0 ?_
                    clear hW0
                    refine wpAnyC_take 0 (.agg shortS.vals) rfl (by kernel_rfl) (by kernel_rfl) (by kernel_rfl) (fun _ _ _ h => h) (wanted_free rfl _) (fun W hW => exec_load_bx 42 _ rfl bH shortS.vals rfl hW _ Try.underlying42 rfl infoS) ?_
                    try simp only [Act.put, List.getElem_toArray, List.getElem_cons_succ, List.getElem_cons_zero, List.setIfInBounds_toArray, List.set_cons_succ, List.set_cons_zero]
                    refine wpAnyC_take 1 (.bool false) rfl (by kernel_rfl) (by kernel_rfl) (by kernel_rfl) (fun _ _ _ h => h) (wanted_free rfl _) (fun W hW => by go_simp) ?_
                    try simp only [Act.put, List.getElem_toArray, List.getElem_cons_succ, List.getElem_cons_zero, List.setIfInBounds_toArray, List.set_cons_succ, List.set_cons_zero]
                    refine wpAnyC_one 2 OH.out rfl (by kernel_rfl) (wanted_free rfl _) (fun KA hKA => ?_)
                    refine wp_store_bx 42 _ _ rfl bS zeroS shortS.vals rfl rfl OS.out rfl infoS (Sn.vals_one _) ?_
                    intro w7 hX_ hg_
                    replace OH := Kpt.mk (OH.out.grown hg_ (by simp; omega))
                    replace hb := Kpt.mk (hb.out.trans (bel_own hg_ hb.out.size lS.out))
                    replace OS := Kpt.mk hX_
                    clear hX_ hg_
                    refine hKA _ _ ?_
                    clear hKA KA
                    try simp only [Act.put, List.getElem_toArray, List.getElem_cons_succ, List.getElem_cons_zero, List.setIfInBounds_toArray, List.set_cons_succ, List.set_cons_zero]
                    refine wpAnyC_take 3 (.bool false) rfl (by kernel_rfl) (by kernel_rfl) (by kernel_rfl) (fun _ _ _ h => h) (wanted_free rfl _) (fun W hW => by go_simp) ?_
                    try simp only [Act.put, List.getElem_toArray, List.getElem_cons_succ, List.getElem_cons_zero, List.setIfInBounds_toArray, List.set_cons_succ, List.set_cons_zero]
                    refine wpAnyC_done OH.out (by kernel_rfl) ?_
                    go_wp2_with fail
                    refine bodyPost_ret (v := .tuple #[.bool false, .agg shortS.vals, .bool false]) (by simp [results, Try.results13, asAddr, Act.put, resS_run (s := shortS) OS.out]) rfl (SelP.bad hRb.out hb.out)
                  · have hdI : ¬ (d : Int) < 20 := by omega
                    have hpb : Kpt (pageE (p.drop q) q = (pbad (p.drop q) (cachL allV) 18 2).map fun x => faultS (q + x.1) (x.2.toNat.log2 : Nat)) := ⟨by rw [hpe.out, hdl.out, if_neg (by omega), if_neg (by rw [← hx1.out]; simp), if_neg (by omega)]⟩
                    clear hpe
                    go_upto_region 24 with fail
                    go_quiet (fail)
                    replace OP := Kpt.mk (OP.out.drewN nq)
                    replace OC := Kpt.mk (OC.out.drewN nq)
                    replace OS := Kpt.mk (OS.out.drewN nq)
                    replace OH := Kpt.mk (OH.out.drewN nq)
                    replace hb := Kpt.mk (bel_drwN (q := nq) hb.out)
                    obtain ⟨wq, hwq⟩ : ∃ W, W = wg.drewN nq := ⟨_, rfl⟩
                    rw [← hwq] at OP OC OS OH hb ⊢
                    have HM2 : Kpt (∀ j, j < 20 → (wg.drewN nq).cell? ⟨g, j, none⟩ = some (.int .u8 ((cachL allV).getD j 0))) := ⟨HM.out⟩
                    rw [← hwq] at HM2
                    clear HM
                    have HM := HM2
                    clear HM2
                    have ck9 := hcl.out _ hb.out q hgo
                    rw [← hx0.out] at ck9
                    replace ck := ck9
                    clear ck9
                    clear hwq
                    replace c1 := cm_c1 OC.out
                    replace c11 := cm_c11 OC.out
                    replace cP0 := rp_c0 OP.out
                    replace cP1 := rp_c1 OP.out
                    go_wp2
                    clear ck1 cm1
                    go_loop [16] (fun t => ∃ i : Nat, 2 ≤ i ∧ i ≤ 20 ∧ Kpt (pbad (p.drop q) (cachL allV) 18 2 = pbad (p.drop q) (cachL allV) (20 - i) i) ∧ t = .int .i64 i) (fun t => 20 - (intOf t).toNat)
                    case atStart => exact ⟨2, by omega, by omega, ⟨rfl⟩, rfl⟩
                    case round =>
                      obtain ⟨i, hi2, hiM, hpi, rfl⟩ := hrel
                      by_cases hlt : i < 20
                      · have ei : (i : Int) < 20 := by omega
                        obtain ⟨z, hz⟩ : ∃ z : Nat, (q : Int) + i = z := ⟨q + i, by omega⟩
                        have hzN : Kpt (z = q + i) := ⟨by omega⟩
                        have ez : (z : Int) < nn := by have := hdN.out; omega
                        have cy := hcl.out _ hb.out z (by have := hdN.out; omega)
                        have cm := HM.out i hlt
                        have hyb := hby.out z
                        have hmk : Kpt (isM ((cachL allV).getD i 0)) := ⟨by have := mask_8 (i - 2); rwa [show i - 2 + 2 = i from by omega] at this⟩
                        obtain ⟨y, hy⟩ : ∃ y, y = p.getD z 0 := ⟨_, rfl⟩
                        obtain ⟨m, hm⟩ : ∃ m, m = (cachL allV).getD i 0 := ⟨_, rfl⟩
                        rw [← hy] at cy hyb
                        rw [← hm] at cm hmk
                        have hyK := Kpt.mk hyb
                        obtain ⟨Y, hY⟩ : ∃ Y, Y = Go.bits .andNot .u8 y m := ⟨_, rfl⟩
                        have hYe : Kpt (Y = Go.bits .andNot .u8 ((p.drop q).getD i 0) ((cachL allV).getD i 0)) := ⟨by rw [getDd, ← hzN.out, ← hy, ← hm]; exact hY⟩
                        have hYb : Kpt (0 ≤ Y ∧ Y ≤ 255) := ⟨by rw [hY]; exact andn_at hyb hmk.out⟩
                        have hbit : Kpt (∀ k, k < 8 → dbit Y k = ((Go.bits .and .u8 (y / 2 ^ k) 1 == 1) && (Go.bits .and .u8 (m / 2 ^ k) 1 == 0))) := ⟨fun k hk => by rw [hY]; exact bit_at hyK.out hmk.out k hk⟩
                        have hms : m = 0 ∨ m = 4 ∨ m = 8 := hmk.out
                        clear hy hm hY hyK
                        replace hms := Kpt.mk hms
                        go_wp2
                        go_loop [17] (fun t => ∃ kb : Int, -1 ≤ kb ∧ kb ≤ 7 ∧ Kpt (dbad Y 8 = dbad Y (kb + 1).toNat) ∧ t = .int .i64 kb) (fun t => (intOf t + 1).toNat)
                        case atStart => exact ⟨7, by omega, by omega, ⟨rfl⟩, rfl⟩
                        case round =>
                          obtain ⟨kb, hk1, hk7, hdb, rfl⟩ := hrel
                          by_cases hk0 : 0 ≤ kb
                          · obtain ⟨kn, rfl⟩ : ∃ kn : Nat, kb = kn := ⟨kb.toNat, by omega⟩
                            have hk8 : kn < 8 := by omega
                            have hbk := hbit.out kn hk8
                            have hk9 : ((kn : Int) + 1).toNat = kn + 1 := by omega
                            have hk10 : ((kn : Int) - 1 + 1).toNat = kn := by omega
                            rw [hk9] at hdb
                            obtain ⟨Ab, hAb⟩ : ∃ t, (Go.bits .and .u8 (y / 2 ^ kn) 1 == 1) = t := ⟨_, rfl⟩
                            obtain ⟨Bb, hBb⟩ : ∃ t, (Go.bits .and .u8 (m / 2 ^ kn) 1 == 0) = t := ⟨_, rfl⟩
                            rw [hAb, hBb] at hbk
                            replace hbk := Kpt.mk hbk
                            clear hk9
                            cases Ab
                            · have hdn : Kpt (dbad Y 8 = dbad Y ((kn : Int) - 1 + 1).toNat) := ⟨by rw [hdb.out, hk10, dbad, if_neg (by rw [hbk.out]; simp)]⟩
                              clear hk10 hdb hbk hBb hbit
                              go_wp2
                              go_round
                              case rel => exact ⟨(kn : Int) - 1, by omega, by omega, hdn, by go_num⟩
                              case measure => simp [intOf] <;> omega
                            · cases Bb
                              · have hdn : Kpt (dbad Y 8 = dbad Y ((kn : Int) - 1 + 1).toNat) := ⟨by rw [hdb.out, hk10, dbad, if_neg (by rw [hbk.out]; simp)]⟩
                                clear hk10 hdb hbk hbit
                                have hAp : Go.bits .and .u8 (y / 2 ^ kn) 1 = 1 := by simpa using hAb
                                go_wp2
                                go_round
                                case rel => exact ⟨(kn : Int) - 1, by omega, by omega, hdn, by go_num⟩
                                case measure => simp [intOf] <;> omega
                              · have hd8 : dbad Y 8 = some kn := by rw [hdb.out, dbad, if_pos (by rw [hbk.out]; rfl)]
                                have hY0 : Y ≠ 0 ∧ Y.toNat.log2 = kn := by
                                  rw [dbad_at hYb.out] at hd8
                                  split at hd8
                                  · cases hd8
                                  · rename_i h0; exact ⟨h0, by injection hd8⟩
                                have hRb : Kpt (R = (v, some (faultS (z : Int) (kn : Int)))) := ⟨hBad.out _ (by
                                  rw [hpb.out, hpi.out, show 20 - i = (20 - (i + 1)) + 1 from by omega, pbad_no (by rw [← hYe.out]; exact hY0.1), ← hYe.out]
                                  show some (faultS ((q : Int) + (i : Nat)) ((Y.toNat.log2 : Nat) : Int)) = _
                                  rw [hY0.2, hz])⟩
                                have hAp : Go.bits .and .u8 (y / 2 ^ kn) 1 = 1 := by simpa using hAb
                                have hBp : Go.bits .and .u8 (m / 2 ^ kn) 1 = 0 := by simpa using hBb
                                clear hk10 hdb hbk hbit hd8 hY0 hBad hGood hpb hpi hYe hYb
                                obtain ⟨SV, hSVe⟩ : ∃ v, v = (faultS (z : Int) (kn : Int)).vals := ⟨_, rfl⟩
                                have hSV1 : Kpt (SV.all (·.oneCell') = true) := ⟨by rw [hSVe]; exact Sn.vals_one _⟩
                                have hSVs : Kpt (SV.size = zeroS.size) := ⟨by rw [hSVe]; rfl⟩
                                have hSV : Kpt ((Try.prog.info? 42).map (·.size) = some SV.size) := ⟨by rw [hSVe]; exact infoS⟩
                                have hrs : Kpt (∀ W B, Bx W B SV → (loadVar 42 ⟨B, 0, none⟩).run Try.prog W = .ok (.agg SV) W) := ⟨fun W B hB => by rw [hSVe] at hB ⊢; exact resS_run hB⟩
                                have HF : Kpt (∀ W, Calls Try.prog 19 #[.int .u16 9728, .int .i64 (z : Int), .int .i64 (kn : Int), .bool false] W fun e w' => e = .returned (.agg SV) ∧ Below W.heap.size W w') := ⟨fun W => by rw [hSVe]; exact rf_any _ _ W⟩
                                replace hSVe := Kpt.mk hSVe
                                go_wp2_with (first
                                    | (have hm := m6; refine wpList_store_bx rfl 42 _ _ rfl bS _ SV rfl rfl OS.out hSVs.out hSV.out hSV1.out rfl ?_; intro w7 hX_ hg_; replace OP := Kpt.mk (OP.out.grown hg_ (by simp; omega)); replace OC := Kpt.mk (OC.out.grown hg_ (by simp; omega)); replace OH := Kpt.mk (OH.out.grown hg_ (by simp; omega)); replace hb := Kpt.mk (hb.out.trans (bel_own hg_ hb.out.size lS.out)); replace OS := Kpt.mk hX_; replace cP0 := rp_c0 OP.out; replace cP1 := rp_c1 OP.out; replace c1 := cm_c1 OC.out; replace c11 := cm_c11 OC.out; clear hX_ hg_; clear hm m6; have m7 : Kpt True := ⟨trivial⟩)
                                    | (go_at_call 19; have hm := m5; go_must (refine (HF.out _).mono ?_; rintro e w_ ⟨rfl, h_⟩; replace OP := Kpt.mk (OP.out.below h_ OP.out.lt); replace OC := Kpt.mk (OC.out.below h_ OC.out.lt); replace OS := Kpt.mk (OS.out.below h_ OS.out.lt); replace OH := Kpt.mk (OH.out.below h_ OH.out.lt); replace hb := Kpt.mk (hb.out.trans (h_.mono hb.out.size)); replace cP0 := rp_c0 OP.out; replace cP1 := rp_c1 OP.out; replace c1 := cm_c1 OC.out; replace c11 := cm_c11 OC.out; clear h_; clear hm m5; have m6 : Kpt True := ⟨trivial⟩))
                                    | fail)
                                refine bodyPost_ret (v := .tuple #[.bool false, .agg SV, .bool false]) (by simp [results, Try.results13, asAddr, Act.put, hrs.out _ _ OS.out]) rfl (by rw [hSVe.out]; exact SelP.bad hRb.out hb.out)
                          · have hkm : kb = -1 := by omega
                            have hY0 : Y = 0 := by
                              have h := hdb.out
                              rw [hkm, dbad_at hYb.out] at h
                              by_cases hc : Y = 0
                              · exact hc
                              · rw [if_neg hc] at h; cases h
                            have hpn : Kpt (pbad (p.drop q) (cachL allV) 18 2 = pbad (p.drop q) (cachL allV) (20 - (i + 1)) (i + 1)) := ⟨by rw [hpi.out, show 20 - i = (20 - (i + 1)) + 1 from by omega, pbad_go (by rw [← hYe.out]; exact hY0)]⟩
                            subst hkm
                            clear hdb hbit hYe hYb hpi hY0
                            go_wp2
                            go_round
                            case rel => exact ⟨i + 1, by omega, by omega, hpn, by go_num⟩
                            case measure => simp [intOf] <;> omega
                      · have hie : i = 20 := by omega
                        have hpn : pbad (p.drop q) (cachL allV) 18 2 = none := by rw [hpi.out, hie]; rfl
                        have hpg : pageE (p.drop q) q = none := by rw [hpb.out, hpn]; rfl
                        have hall := fun j (h1 : 2 ≤ j) (h2 : j < 2 + 18) => pbad_all hpn j h1 h2
                        obtain ⟨hR1, hR2⟩ := hGood.out hpg
                        have hpl : plen (p.drop q) = 20 := by unfold plen; rw [getDd, Nat.add_zero, ← hx0.out]; rfl
                        rw [hpl] at hR1
                        subst hie
                        obtain ⟨z2, hz2⟩ : ∃ t : Nat, (q : Int) + 2 = t := ⟨q + 2, by omega⟩
                        have hz2N : z2 = q + 2 := by omega
                        have ez2 : (z2 : Int) < nn := by have := hdN.out; omega
                        have cy2 := hcl.out _ hb.out z2 (by omega)
                        have hyb2 := hby.out z2
                        obtain ⟨z9, hz9⟩ : ∃ t : Nat, (q : Int) + 20 = t := ⟨q + 20, by omega⟩
                        have hz9N : z9 = q + 20 := by omega
                        have hxb := vB_bd v
                        rw [← hxv.out] at hxb
                        have hs2 := (set_at hyb2).1 (by have h := hall 2 (by omega) (by omega); rw [getDd, ← hz2N] at h; exact h)
                        obtain ⟨y2, hy2⟩ : ∃ t, t = p.getD z2 0 := ⟨_, rfl⟩
                        rw [← hy2] at cy2 hyb2 hs2
                        obtain ⟨V2, hV2⟩ : ∃ t, t = withV v (p.drop q) := ⟨_, rfl⟩
                        rw [← hV2] at hR1
                        have hxw : Kpt (xv / 2 * 2 + y2 / 4 = vB V2) := ⟨by rw [hs2, hxv.out, val_8, hV2]; unfold withV; rw [getDd, Nat.add_zero, ← hx0.out, if_pos rfl, getDd, ← hz2N, ← hy2]⟩
                        obtain ⟨xw, hxe⟩ : ∃ t, xv / 2 * 2 + y2 / 4 = t := ⟨_, rfl⟩
                        rw [hxe] at hxw
                        have hIn : Kpt (∃ f, R = rdL f V2 p z9 ∧ nn < z9 + f) := ⟨f', by rw [hz9N]; exact hR1, by omega⟩
                        clear hs2 hy2 hV2 hR1 hR2 hpl hpg hpn hall hpi hpb hBad hGood HM hz2N hz9N
                        replace hxv := hxv
                        go_wp2
                        go_roundw
                        case rel => exact ⟨z9, V2, xw, rfl, rfl, hxw, OC, OS, OH, OP, hb, hIn⟩
                        case measure => simp [intOf]; omega
                · have hxb : (x1 != 18) = true := by simp [hxm]
                  have hRb : Kpt (R = (v, some (faultS (z1 : Int) (-1)))) := ⟨hBad.out _ (by rw [hpe.out, hdl.out, if_neg (by omega), if_pos (by rw [← hx1.out]; exact hxm), hz1])⟩
                  clear hBad hGood hpe HM
                  go_upto_region 24 with fail
                  go_quiet (fail)
                  replace OP := Kpt.mk (OP.out.drewN nq)
                  replace OC := Kpt.mk (OC.out.drewN nq)
                  replace OS := Kpt.mk (OS.out.drewN nq)
                  replace OH := Kpt.mk (OH.out.drewN nq)
                  replace hb := Kpt.mk (bel_drwN (q := nq) hb.out)
                  obtain ⟨wq, hwq⟩ : ∃ W, W = wg.drewN nq := ⟨_, rfl⟩
                  rw [← hwq] at OP OC OS OH hb ⊢
                  clear hwq
                  replace c1 := cm_c1 OC.out
                  replace c11 := cm_c11 OC.out
                  replace cP0 := rp_c0 OP.out
                  replace cP1 := rp_c1 OP.out
                  obtain ⟨SV, hSVe⟩ : ∃ v, v = (faultS (z1 : Int) (-1)).vals := ⟨_, rfl⟩
                  have hSV1 : Kpt (SV.all (·.oneCell') = true) := ⟨by rw [hSVe]; exact Sn.vals_one _⟩
                  have hSVs : Kpt (SV.size = zeroS.size) := ⟨by rw [hSVe]; rfl⟩
                  have hSV : Kpt ((Try.prog.info? 42).map (·.size) = some SV.size) := ⟨by rw [hSVe]; exact infoS⟩
                  have hrs : Kpt (∀ W B, Bx W B SV → (loadVar 42 ⟨B, 0, none⟩).run Try.prog W = .ok (.agg SV) W) := ⟨fun W B hB => by rw [hSVe] at hB ⊢; exact resS_run hB⟩
                  have HF : Kpt (∀ W, Calls Try.prog 19 #[.int .u16 9728, .int .i64 (z1 : Int), .int .i64 (-1), .bool false] W fun e w' => e = .returned (.agg SV) ∧ Below W.heap.size W w') := ⟨fun W => by rw [hSVe]; exact rf_any _ _ W⟩
                  replace hSVe := Kpt.mk hSVe
                  go_wp2_with (first
                      | (have hm := m6; refine wpList_store_bx rfl 42 _ _ rfl bS _ SV rfl rfl OS.out hSVs.out hSV.out hSV1.out rfl ?_; intro w7 hX_ hg_; replace OP := Kpt.mk (OP.out.grown hg_ (by simp; omega)); replace OC := Kpt.mk (OC.out.grown hg_ (by simp; omega)); replace OH := Kpt.mk (OH.out.grown hg_ (by simp; omega)); replace hb := Kpt.mk (hb.out.trans (bel_own hg_ hb.out.size lS.out)); replace OS := Kpt.mk hX_; replace cP0 := rp_c0 OP.out; replace cP1 := rp_c1 OP.out; replace c1 := cm_c1 OC.out; replace c11 := cm_c11 OC.out; clear hX_ hg_; clear hm m6; have m7 : Kpt True := ⟨trivial⟩)
                      | (go_at_call 19; have hm := m5; go_must (refine (HF.out _).mono ?_; rintro e w_ ⟨rfl, h_⟩; replace OP := Kpt.mk (OP.out.below h_ OP.out.lt); replace OC := Kpt.mk (OC.out.below h_ OC.out.lt); replace OS := Kpt.mk (OS.out.below h_ OS.out.lt); replace OH := Kpt.mk (OH.out.below h_ OH.out.lt); replace hb := Kpt.mk (hb.out.trans (h_.mono hb.out.size)); replace cP0 := rp_c0 OP.out; replace cP1 := rp_c1 OP.out; replace c1 := cm_c1 OC.out; replace c11 := cm_c11 OC.out; clear h_; clear hm m5; have m6 : Kpt True := ⟨trivial⟩))
                      | fail)
                  refine bodyPost_ret (v := .tuple #[.bool false, .agg SV, .bool false]) (by simp [results, Try.results13, asAddr, Act.put, hrs.out _ _ OS.out]) rfl (by rw [hSVe.out]; exact SelP.bad hRb.out hb.out)
            · by_cases h10 : x = 10
              · subst h10
                have hpe : Kpt (pageE (p.drop q) q = if (p.drop q).length < 2 then some shortS else if p.getD (q + 1) 0 ≠ 10 then some (faultS (q + 1) (-1)) else if (p.drop q).length < 12 then some shortS else (pbad (p.drop q) (ctlL allV) 10 2).map fun x => faultS (q + x.1) (x.2.toNat.log2 : Nat)) := ⟨pe_eq hx0.out.symm (by decide) (layB10 _) rfl rfl⟩
                have hdl : Kpt ((p.drop q).length = nn - q) := ⟨by rw [List.length_drop, ← hn.out]⟩
                go_upto_region 22 with (first
                    | (go_at_call 20; have hm := m4; go_must (refine (HP10.out _).mono ?_; rintro e wg ⟨g, rfl, hg_, ho_, h_⟩; have q_P_g : bP < g := Nat.lt_of_lt_of_le OP.out.lt hg_; have HM := Kpt.mk (fun j (hj : j < 12) => own_facts ho_ j hj); replace OP := Kpt.mk (OP.out.below h_ OP.out.lt); replace OC := Kpt.mk (OC.out.below h_ OC.out.lt); replace OS := Kpt.mk (OS.out.below h_ OS.out.lt); replace OH := Kpt.mk (OH.out.below h_ OH.out.lt); replace hb := Kpt.mk (hb.out.trans (h_.mono hb.out.size)); replace cP0 := rp_c0 OP.out; replace cP1 := rp_c1 OP.out; replace c1 := cm_c1 OC.out; replace c11 := cm_c11 OC.out; clear hg_ ho_ h_; clear hm m4; have m5 : Kpt True := ⟨trivial⟩))
                    | fail)
                have ck' := hcl.out _ hb.out q hgo
                rw [← hx0.out] at ck'
                replace ck := ck'
                clear ck'
                obtain ⟨z1, hz1⟩ : ∃ z : Nat, (q : Int) + 1 = z := ⟨q + 1, by omega⟩
                have hz1N : Kpt (z1 = q + 1) := ⟨by omega⟩
                by_cases hl2 : z1 = nn
                · have hb1 : ((z1 : Int) == nn) = true := by simp; omega
                  have hRb : Kpt (R = (v, some shortS)) := ⟨hBad.out _ (by rw [hpe.out, hdl.out, if_pos (by omega)])⟩
                  clear hBad hGood hpe HM
                  go_upto_region 23 with fail
                  refine wp_region_any (by kernel_rfl) ?_
                  refine wpAny_of_C (C := fun W => Bx W bH shortS.vals) _ _ _ _ ?_
                  replace OP := Kpt.mk OP.out.drew
                  replace OC := Kpt.mk OC.out.drew
                  replace OS := Kpt.mk OS.out.drew
                  replace OH := Kpt.mk OH.out.drew
                  replace hb := Kpt.mk (bel_drw hb.out)
                  obtain ⟨W0, hW0⟩ : ∃ W, W = wg.drew := ⟨_, rfl⟩
                  rw [← hW0] at OP OC OS OH hb
                  refine wpAnyC_world hW0 ?_
                  clear hW0
                  refine wpAnyC_take 0 (.agg shortS.vals) rfl (by kernel_rfl) (by kernel_rfl) (by kernel_rfl) (fun _ _ _ h => h) (wanted_free rfl _) (fun W hW => exec_load_bx 42 _ rfl bH shortS.vals rfl hW _ Try.underlying42 rfl infoS) ?_
                  try simp only [Act.put, List.getElem_toArray, List.getElem_cons_succ, List.getElem_cons_zero, List.setIfInBounds_toArray, List.set_cons_succ, List.set_cons_zero]
                  refine wpAnyC_take 1 (.bool false) rfl (by kernel_rfl) (by kernel_rfl) (by kernel_rfl) (fun _ _ _ h => h) (wanted_free rfl _) (fun W hW => by go_simp) ?_
                  try simp only [Act.put, List.getElem_toArray, List.getElem_cons_succ, List.getElem_cons_zero, List.setIfInBounds_toArray, List.set_cons_succ, List.set_cons_zero]
                  refine wpAnyC_one 2 OH.out rfl (by kernel_rfl) (wanted_free rfl _) (fun KA hKA => ?_)
                  refine wp_store_bx 42 _ _ rfl bS zeroS shortS.vals rfl rfl OS.out rfl infoS (Sn.vals_one _) ?_
                  intro w7 hX_ hg_
                  replace OH := Kpt.mk (OH.out.grown hg_ (by simp; omega))
                  replace hb := Kpt.mk (hb.out.trans (bel_own hg_ hb.out.size lS.out))
                  replace OS := Kpt.mk hX_
                  clear hX_ hg_
                  refine hKA _ _ ?_
                  clear hKA KA
                  try simp only [Act.put, List.getElem_toArray, List.getElem_cons_succ, List.getElem_cons_zero, List.setIfInBounds_toArray, List.set_cons_succ, List.set_cons_zero]
                  refine wpAnyC_take 3 (.bool false) rfl (by kernel_rfl) (by kernel_rfl) (by kernel_rfl) (fun _ _ _ h => h) (wanted_free rfl _) (fun W hW => by go_simp) ?_
                  try simp only [Act.put, List.getElem_toArray, List.getElem_cons_succ, List.getElem_cons_zero, List.setIfInBounds_toArray, List.set_cons_succ, List.set_cons_zero]
                  refine wpAnyC_done OH.out (by kernel_rfl) ?_
                  go_wp2_with fail
                  refine bodyPost_ret (v := .tuple #[.bool false, .agg shortS.vals, .bool false]) (by simp [results, Try.results13, asAddr, Act.put, resS_run (s := shortS) OS.out]) rfl (SelP.bad hRb.out hb.out)
                · have hb1 : ((z1 : Int) == nn) = false := beq_eq_false_iff_ne.mpr (by omega)
                  have e3 : (z1 : Int) < nn := by omega
                  have ck1 := hcl.out _ hb.out z1 (by omega)
                  have cm1 := HM.out 1 (by decide)
                  rw [show (ctlL allV).getD 1 0 = 10 from rfl] at cm1
                  obtain ⟨x1, hx1⟩ : ∃ x, x = p.getD z1 0 := ⟨_, rfl⟩
                  rw [← hx1] at ck1
                  rw [hz1N.out] at hx1
                  replace hx1 := Kpt.mk hx1
                  by_cases hxm : x1 = 10
                  · subst hxm
                    obtain ⟨d, hd⟩ : ∃ z : Nat, (nn : Int) - q = z := ⟨nn - q, by omega⟩
                    have hdN : Kpt (d = nn - q) := ⟨by omega⟩
                    by_cases hdM : d < 12
                    · have hdI : (d : Int) < 12 := by omega
                      have hRb : Kpt (R = (v, some shortS)) := ⟨hBad.out _ (by rw [hpe.out, hdl.out, if_neg (by omega), if_neg (by rw [← hx1.out]; simp), if_pos (by omega)])⟩
                      clear hBad hGood hpe HM
                      go_upto_region 24 with fail
                      go_quiet (fail)
                      replace OP := Kpt.mk (OP.out.drewN nq)
                      replace OC := Kpt.mk (OC.out.drewN nq)
                      replace OS := Kpt.mk (OS.out.drewN nq)
                      replace OH := Kpt.mk (OH.out.drewN nq)
                      replace hb := Kpt.mk (bel_drwN (q := nq) hb.out)
                      obtain ⟨wq, hwq⟩ : ∃ W, W = wg.drewN nq := ⟨_, rfl⟩
                      rw [← hwq] at OP OC OS OH hb ⊢
                      clear hwq
                      replace c1 := cm_c1 OC.out
                      replace c11 := cm_c11 OC.out
                      replace cP0 := rp_c0 OP.out
                      replace cP1 := rp_c1 OP.out
                      go_upto_region 27 with fail
                      refine wp_region_any (by kernel_rfl) ?_
                      refine wpAny_of_C (C := fun W => Bx W bH shortS.vals) _ _ _ _ ?_
                      replace OP := Kpt.mk OP.out.drew
                      replace OC := Kpt.mk OC.out.drew
                      replace OS := Kpt.mk OS.out.drew
                      replace OH := Kpt.mk OH.out.drew
                      replace hb := Kpt.mk (bel_drw hb.out)
                      obtain ⟨W0, hW0⟩ : ∃ W, W = wq.drew := ⟨_, rfl⟩
                      rw [← hW0] at OP OC OS OH hb
                      refine wpAnyC_world hW0 ?_
                      clear hW0
                      refine wpAnyC_take 0 (.agg shortS.vals) rfl (by kernel_rfl) (by kernel_rfl) (by kernel_rfl) (fun _ _ _ h => h) (wanted_free rfl _) (fun W hW => exec_load_bx 42 _ rfl bH shortS.vals rfl hW _ Try.underlying42 rfl infoS) ?_
                      try simp only [Act.put, List.getElem_toArray, List.getElem_cons_succ, List.getElem_cons_zero, List.setIfInBounds_toArray, List.set_cons_succ, List.set_cons_zero]
                      refine wpAnyC_take 1 (.bool false) rfl (by kernel_rfl) (by kernel_rfl) (by kernel_rfl) (fun _ _ _ h => h) (wanted_free rfl _) (fun W hW => by go_simp) ?_
                      try simp only [Act.put, List.getElem_toArray, List.getElem_cons_succ, List.getElem_cons_zero, List.setIfInBounds_toArray, List.set_cons_succ, List.set_cons_zero]
                      refine wpAnyC_one 2 OH.out rfl (by kernel_rfl) (wanted_free rfl _) (fun KA hKA => ?_)
                      refine wp_store_bx 42 _ _ rfl bS zeroS shortS.vals rfl rfl OS.out rfl infoS (Sn.vals_one _) ?_
                      intro w7 hX_ hg_
                      replace OH := Kpt.mk (OH.out.grown hg_ (by simp; omega))
                      replace hb := Kpt.mk (hb.out.trans (bel_own hg_ hb.out.size lS.out))
                      replace OS := Kpt.mk hX_
                      clear hX_ hg_
                      refine hKA _ _ ?_
                      clear hKA KA
                      try simp only [Act.put, List.getElem_toArray, List.getElem_cons_succ, List.getElem_cons_zero, List.setIfInBounds_toArray, List.set_cons_succ, List.set_cons_zero]
                      refine wpAnyC_take 3 (.bool false) rfl (by kernel_rfl) (by kernel_rfl) (by kernel_rfl) (fun _ _ _ h => h) (wanted_free rfl _) (fun W hW => by go_simp) ?_
                      try simp only [Act.put, List.getElem_toArray, List.getElem_cons_succ, List.getElem_cons_zero, List.setIfInBounds_toArray, List.set_cons_succ, List.set_cons_zero]
                      refine wpAnyC_done OH.out (by kernel_rfl) ?_
                      go_wp2_with fail
                      refine bodyPost_ret (v := .tuple #[.bool false, .agg shortS.vals, .bool false]) (by simp [results, Try.results13, asAddr, Act.put, resS_run (s := shortS) OS.out]) rfl (SelP.bad hRb.out hb.out)
                    · have hdI : ¬ (d : Int) < 12 := by omega
                      have hpb : Kpt (pageE (p.drop q) q = (pbad (p.drop q) (ctlL allV) 10 2).map fun x => faultS (q + x.1) (x.2.toNat.log2 : Nat)) := ⟨by rw [hpe.out, hdl.out, if_neg (by omega), if_neg (by rw [← hx1.out]; simp), if_neg (by omega)]⟩
                      clear hpe
                      go_upto_region 24 with fail
                      go_quiet (fail)
                      replace OP := Kpt.mk (OP.out.drewN nq)
                      replace OC := Kpt.mk (OC.out.drewN nq)
                      replace OS := Kpt.mk (OS.out.drewN nq)
                      replace OH := Kpt.mk (OH.out.drewN nq)
                      replace hb := Kpt.mk (bel_drwN (q := nq) hb.out)
                      obtain ⟨wq, hwq⟩ : ∃ W, W = wg.drewN nq := ⟨_, rfl⟩
                      rw [← hwq] at OP OC OS OH hb ⊢
                      have HM2 : Kpt (∀ j, j < 12 → (wg.drewN nq).cell? ⟨g, j, none⟩ = some (.int .u8 ((ctlL allV).getD j 0))) := ⟨HM.out⟩
                      rw [← hwq] at HM2
                      clear HM
                      have HM := HM2
                      clear HM2
                      have ck9 := hcl.out _ hb.out q hgo
                      rw [← hx0.out] at ck9
                      replace ck := ck9
                      clear ck9
                      clear hwq
                      replace c1 := cm_c1 OC.out
                      replace c11 := cm_c11 OC.out
                      replace cP0 := rp_c0 OP.out
                      replace cP1 := rp_c1 OP.out
                      go_wp2
                      clear ck1 cm1
                      go_loop [16] (fun t => ∃ i : Nat, 2 ≤ i ∧ i ≤ 12 ∧ Kpt (pbad (p.drop q) (ctlL allV) 10 2 = pbad (p.drop q) (ctlL allV) (12 - i) i) ∧ t = .int .i64 i) (fun t => 12 - (intOf t).toNat)
                      case atStart => exact ⟨2, by omega, by omega, ⟨rfl⟩, rfl⟩
                      case round =>
                        obtain ⟨i, hi2, hiM, hpi, rfl⟩ := hrel
                        by_cases hlt : i < 12
                        · have ei : (i : Int) < 12 := by omega
                          obtain ⟨z, hz⟩ : ∃ z : Nat, (q : Int) + i = z := ⟨q + i, by omega⟩
                          have hzN : Kpt (z = q + i) := ⟨by omega⟩
                          have ez : (z : Int) < nn := by have := hdN.out; omega
                          have cy := hcl.out _ hb.out z (by have := hdN.out; omega)
                          have cm := HM.out i hlt
                          have hyb := hby.out z
                          have hmk : Kpt (isM ((ctlL allV).getD i 0)) := ⟨by have := mask_10 (i - 2); rwa [show i - 2 + 2 = i from by omega] at this⟩
                          obtain ⟨y, hy⟩ : ∃ y, y = p.getD z 0 := ⟨_, rfl⟩
                          obtain ⟨m, hm⟩ : ∃ m, m = (ctlL allV).getD i 0 := ⟨_, rfl⟩
                          rw [← hy] at cy hyb
                          rw [← hm] at cm hmk
                          have hyK := Kpt.mk hyb
                          obtain ⟨Y, hY⟩ : ∃ Y, Y = Go.bits .andNot .u8 y m := ⟨_, rfl⟩
                          have hYe : Kpt (Y = Go.bits .andNot .u8 ((p.drop q).getD i 0) ((ctlL allV).getD i 0)) := ⟨by rw [getDd, ← hzN.out, ← hy, ← hm]; exact hY⟩
                          have hYb : Kpt (0 ≤ Y ∧ Y ≤ 255) := ⟨by rw [hY]; exact andn_at hyb hmk.out⟩
                          have hbit : Kpt (∀ k, k < 8 → dbit Y k = ((Go.bits .and .u8 (y / 2 ^ k) 1 == 1) && (Go.bits .and .u8 (m / 2 ^ k) 1 == 0))) := ⟨fun k hk => by rw [hY]; exact bit_at hyK.out hmk.out k hk⟩
                          have hms : m = 0 ∨ m = 4 ∨ m = 8 := hmk.out
                          clear hy hm hY hyK
                          replace hms := Kpt.mk hms
                          go_wp2
                          go_loop [17] (fun t => ∃ kb : Int, -1 ≤ kb ∧ kb ≤ 7 ∧ Kpt (dbad Y 8 = dbad Y (kb + 1).toNat) ∧ t = .int .i64 kb) (fun t => (intOf t + 1).toNat)
                          case atStart => exact ⟨7, by omega, by omega, ⟨rfl⟩, rfl⟩
                          case round =>
                            obtain ⟨kb, hk1, hk7, hdb, rfl⟩ := hrel
                            by_cases hk0 : 0 ≤ kb
                            · obtain ⟨kn, rfl⟩ : ∃ kn : Nat, kb = kn := ⟨kb.toNat, by omega⟩
                              have hk8 : kn < 8 := by omega
                              have hbk := hbit.out kn hk8
                              have hk9 : ((kn : Int) + 1).toNat = kn + 1 := by omega
                              have hk10 : ((kn : Int) - 1 + 1).toNat = kn := by omega
                              rw [hk9] at hdb
                              obtain ⟨Ab, hAb⟩ : ∃ t, (Go.bits .and .u8 (y / 2 ^ kn) 1 == 1) = t := ⟨_, rfl⟩
                              obtain ⟨Bb, hBb⟩ : ∃ t, (Go.bits .and .u8 (m / 2 ^ kn) 1 == 0) = t := ⟨_, rfl⟩
                              rw [hAb, hBb] at hbk
                              replace hbk := Kpt.mk hbk
                              clear hk9
                              cases Ab
                              · have hdn : Kpt (dbad Y 8 = dbad Y ((kn : Int) - 1 + 1).toNat) := ⟨by rw [hdb.out, hk10, dbad, if_neg (by rw [hbk.out]; simp)]⟩
                                clear hk10 hdb hbk hBb hbit
                                go_wp2
                                go_round
                                case rel => exact ⟨(kn : Int) - 1, by omega, by omega, hdn, by go_num⟩
                                case measure => simp [intOf] <;> omega
                              · cases Bb
                                · have hdn : Kpt (dbad Y 8 = dbad Y ((kn : Int) - 1 + 1).toNat) := ⟨by rw [hdb.out, hk10, dbad, if_neg (by rw [hbk.out]; simp)]⟩
                                  clear hk10 hdb hbk hbit
                                  have hAp : Go.bits .and .u8 (y / 2 ^ kn) 1 = 1 := by simpa using hAb
                                  go_wp2
                                  go_round
                                  case rel => exact ⟨(kn : Int) - 1, by omega, by omega, hdn, by go_num⟩
                                  case measure => simp [intOf] <;> omega
                                · have hd8 : dbad Y 8 = some kn := by rw [hdb.out, dbad, if_pos (by rw [hbk.out]; rfl)]
                                  have hY0 : Y ≠ 0 ∧ Y.toNat.log2 = kn := by
                                    rw [dbad_at hYb.out] at hd8
                                    split at hd8
                                    · cases hd8
                                    · rename_i h0; exact ⟨h0, by injection hd8⟩
                                  have hRb : Kpt (R = (v, some (faultS (z : Int) (kn : Int)))) := ⟨hBad.out _ (by
                                    rw [hpb.out, hpi.out, show 12 - i = (12 - (i + 1)) + 1 from by omega, pbad_no (by rw [← hYe.out]; exact hY0.1), ← hYe.out]
                                    show some (faultS ((q : Int) + (i : Nat)) ((Y.toNat.log2 : Nat) : Int)) = _
                                    rw [hY0.2, hz])⟩
                                  have hAp : Go.bits .and .u8 (y / 2 ^ kn) 1 = 1 := by simpa using hAb
                                  have hBp : Go.bits .and .u8 (m / 2 ^ kn) 1 = 0 := by simpa using hBb
                                  clear hk10 hdb hbk hbit hd8 hY0 hBad hGood hpb hpi hYe hYb
                                  obtain ⟨SV, hSVe⟩ : ∃ v, v = (faultS (z : Int) (kn : Int)).vals := ⟨_, rfl⟩
                                  have hSV1 : Kpt (SV.all (·.oneCell') = true) := ⟨by rw [hSVe]; exact Sn.vals_one _⟩
                                  have hSVs : Kpt (SV.size = zeroS.size) := ⟨by rw [hSVe]; rfl⟩
                                  have hSV : Kpt ((Try.prog.info? 42).map (·.size) = some SV.size) := ⟨by rw [hSVe]; exact infoS⟩
                                  have hrs : Kpt (∀ W B, Bx W B SV → (loadVar 42 ⟨B, 0, none⟩).run Try.prog W = .ok (.agg SV) W) := ⟨fun W B hB => by rw [hSVe] at hB ⊢; exact resS_run hB⟩
                                  have HF : Kpt (∀ W, Calls Try.prog 19 #[.int .u16 9728, .int .i64 (z : Int), .int .i64 (kn : Int), .bool false] W fun e w' => e = .returned (.agg SV) ∧ Below W.heap.size W w') := ⟨fun W => by rw [hSVe]; exact rf_any _ _ W⟩
                                  replace hSVe := Kpt.mk hSVe
                                  go_wp2_with (first
                                      | (have hm := m6; refine wpList_store_bx rfl 42 _ _ rfl bS _ SV rfl rfl OS.out hSVs.out hSV.out hSV1.out rfl ?_; intro w7 hX_ hg_; replace OP := Kpt.mk (OP.out.grown hg_ (by simp; omega)); replace OC := Kpt.mk (OC.out.grown hg_ (by simp; omega)); replace OH := Kpt.mk (OH.out.grown hg_ (by simp; omega)); replace hb := Kpt.mk (hb.out.trans (bel_own hg_ hb.out.size lS.out)); replace OS := Kpt.mk hX_; replace cP0 := rp_c0 OP.out; replace cP1 := rp_c1 OP.out; replace c1 := cm_c1 OC.out; replace c11 := cm_c11 OC.out; clear hX_ hg_; clear hm m6; have m7 : Kpt True := ⟨trivial⟩)
                                      | (go_at_call 19; have hm := m5; go_must (refine (HF.out _).mono ?_; rintro e w_ ⟨rfl, h_⟩; replace OP := Kpt.mk (OP.out.below h_ OP.out.lt); replace OC := Kpt.mk (OC.out.below h_ OC.out.lt); replace OS := Kpt.mk (OS.out.below h_ OS.out.lt); replace OH := Kpt.mk (OH.out.below h_ OH.out.lt); replace hb := Kpt.mk (hb.out.trans (h_.mono hb.out.size)); replace cP0 := rp_c0 OP.out; replace cP1 := rp_c1 OP.out; replace c1 := cm_c1 OC.out; replace c11 := cm_c11 OC.out; clear h_; clear hm m5; have m6 : Kpt True := ⟨trivial⟩))
                                      | fail)
                                  refine bodyPost_ret (v := .tuple #[.bool false, .agg SV, .bool false]) (by simp [results, Try.results13, asAddr, Act.put, hrs.out _ _ OS.out]) rfl (by rw [hSVe.out]; exact SelP.bad hRb.out hb.out)
                            · have hkm : kb = -1 := by omega
                              have hY0 : Y = 0 := by
                                have h := hdb.out
                                rw [hkm, dbad_at hYb.out] at h
                                by_cases hc : Y = 0
                                · exact hc
                                · rw [if_neg hc] at h; cases h
                              have hpn : Kpt (pbad (p.drop q) (ctlL allV) 10 2 = pbad (p.drop q) (ctlL allV) (12 - (i + 1)) (i + 1)) := ⟨by rw [hpi.out, show 12 - i = (12 - (i + 1)) + 1 from by omega, pbad_go (by rw [← hYe.out]; exact hY0)]⟩
                              subst hkm
                              clear hdb hbit hYe hYb hpi hY0
                              go_wp2
                              go_round
                              case rel => exact ⟨i + 1, by omega, by omega, hpn, by go_num⟩
                              case measure => simp [intOf] <;> omega
                        · have hie : i = 12 := by omega
                          have hpn : pbad (p.drop q) (ctlL allV) 10 2 = none := by rw [hpi.out, hie]; rfl
                          have hpg : pageE (p.drop q) q = none := by rw [hpb.out, hpn]; rfl
                          have hall := fun j (h1 : 2 ≤ j) (h2 : j < 2 + 10) => pbad_all hpn j h1 h2
                          obtain ⟨hR1, hR2⟩ := hGood.out hpg
                          have hpl : plen (p.drop q) = 12 := by unfold plen; rw [getDd, Nat.add_zero, ← hx0.out]; rfl
                          rw [hpl] at hR1
                          subst hie
                          obtain ⟨z2, hz2⟩ : ∃ t : Nat, (q : Int) + 2 = t := ⟨q + 2, by omega⟩
                          have hz2N : z2 = q + 2 := by omega
                          have ez2 : (z2 : Int) < nn := by have := hdN.out; omega
                          have cy2 := hcl.out _ hb.out z2 (by omega)
                          have hyb2 := hby.out z2
                          obtain ⟨z9, hz9⟩ : ∃ t : Nat, (q : Int) + 12 = t := ⟨q + 12, by omega⟩
                          have hz9N : z9 = q + 12 := by omega
                          have hxb := vB_bd v
                          rw [← hxv.out] at hxb
                          have hs2 := (set_at hyb2).1 (by have h := hall 2 (by omega) (by omega); rw [getDd, ← hz2N] at h; exact h)
                          obtain ⟨y2, hy2⟩ : ∃ t, t = p.getD z2 0 := ⟨_, rfl⟩
                          rw [← hy2] at cy2 hyb2 hs2
                          obtain ⟨V2, hV2⟩ : ∃ t, t = withV v (p.drop q) := ⟨_, rfl⟩
                          rw [← hV2] at hR1
                          obtain ⟨z4, hz4⟩ : ∃ t : Nat, (q : Int) + 4 = t := ⟨q + 4, by omega⟩
                          have hz4N : z4 = q + 4 := by omega
                          have ez4 : (z4 : Int) < nn := by have := hdN.out; omega
                          have cy4 := hcl.out _ hb.out z4 (by omega)
                          have hyb4 := hby.out z4
                          have hs4 := (set_at hyb4).2 (by have h := hall 4 (by omega) (by omega); rw [getDd, ← hz4N] at h; exact h)
                          obtain ⟨y4, hy4⟩ : ∃ t, t = p.getD z4 0 := ⟨_, rfl⟩
                          rw [← hy4] at cy4 hyb4 hs4
                          have hxw : Kpt (xv % 2 + y2 / 4 * 2 + y4 / 8 * 4 = vB V2) := ⟨by rw [hs2, hs4, hxv.out, val_10, hV2]; unfold withV; rw [getDd, Nat.add_zero, ← hx0.out, if_neg (by decide), getDd, getDd, ← hz2N, ← hz4N, ← hy2, ← hy4]⟩
                          obtain ⟨xw, hxe⟩ : ∃ t, xv % 2 + y2 / 4 * 2 + y4 / 8 * 4 = t := ⟨_, rfl⟩
                          rw [hxe] at hxw
                          have hIn : Kpt (∃ f, R = rdL f V2 p z9 ∧ nn < z9 + f) := ⟨f', by rw [hz9N]; exact hR1, by omega⟩
                          clear hs2 hs4 hy2 hy4 hV2 hR1 hR2 hpl hpg hpn hall hpi hpb hBad hGood HM hz2N hz4N hz9N
                          go_upto_region 38 with fail
                          go_quiet (fail)
                          replace OP := Kpt.mk (OP.out.drewN nq)
                          replace OC := Kpt.mk (OC.out.drewN nq)
                          replace OS := Kpt.mk (OS.out.drewN nq)
                          replace OH := Kpt.mk (OH.out.drewN nq)
                          replace hb := Kpt.mk (bel_drwN (q := nq) hb.out)
                          obtain ⟨wz, hwz⟩ : ∃ W, W = wq.drewN nq := ⟨_, rfl⟩
                          rw [← hwz] at OP OC OS OH hb ⊢
                          clear hwz
                          replace c1 := cm_c1 OC.out
                          replace c11 := cm_c11 OC.out
                          replace cP0 := rp_c0 OP.out
                          replace cP1 := rp_c1 OP.out
                          go_wp2
                          go_roundw
                          case rel => exact ⟨z9, V2, xw, rfl, rfl, hxw, OC, OS, OH, OP, hb, hIn⟩
                          case measure => simp [intOf]; omega
                  · have hxb : (x1 != 10) = true := by simp [hxm]
                    have hRb : Kpt (R = (v, some (faultS (z1 : Int) (-1)))) := ⟨hBad.out _ (by rw [hpe.out, hdl.out, if_neg (by omega), if_pos (by rw [← hx1.out]; exact hxm), hz1])⟩
                    clear hBad hGood hpe HM
                    go_upto_region 24 with fail
                    go_quiet (fail)
                    replace OP := Kpt.mk (OP.out.drewN nq)
                    replace OC := Kpt.mk (OC.out.drewN nq)
                    replace OS := Kpt.mk (OS.out.drewN nq)
                    replace OH := Kpt.mk (OH.out.drewN nq)
                    replace hb := Kpt.mk (bel_drwN (q := nq) hb.out)
                    obtain ⟨wq, hwq⟩ : ∃ W, W = wg.drewN nq := ⟨_, rfl⟩
                    rw [← hwq] at OP OC OS OH hb ⊢
                    clear hwq
                    replace c1 := cm_c1 OC.out
                    replace c11 := cm_c11 OC.out
                    replace cP0 := rp_c0 OP.out
                    replace cP1 := rp_c1 OP.out
                    obtain ⟨SV, hSVe⟩ : ∃ v, v = (faultS (z1 : Int) (-1)).vals := ⟨_, rfl⟩
                    have hSV1 : Kpt (SV.all (·.oneCell') = true) := ⟨by rw [hSVe]; exact Sn.vals_one _⟩
                    have hSVs : Kpt (SV.size = zeroS.size) := ⟨by rw [hSVe]; rfl⟩
                    have hSV : Kpt ((Try.prog.info? 42).map (·.size) = some SV.size) := ⟨by rw [hSVe]; exact infoS⟩
                    have hrs : Kpt (∀ W B, Bx W B SV → (loadVar 42 ⟨B, 0, none⟩).run Try.prog W = .ok (.agg SV) W) := ⟨fun W B hB => by rw [hSVe] at hB ⊢; exact resS_run hB⟩
                    have HF : Kpt (∀ W, Calls Try.prog 19 #[.int .u16 9728, .int .i64 (z1 : Int), .int .i64 (-1), .bool false] W fun e w' => e = .returned (.agg SV) ∧ Below W.heap.size W w') := ⟨fun W => by rw [hSVe]; exact rf_any _ _ W⟩
                    replace hSVe := Kpt.mk hSVe
                    go_wp2_with (first
                        | (have hm := m6; refine wpList_store_bx rfl 42 _ _ rfl bS _ SV rfl rfl OS.out hSVs.out hSV.out hSV1.out rfl ?_; intro w7 hX_ hg_; replace OP := Kpt.mk (OP.out.grown hg_ (by simp; omega)); replace OC := Kpt.mk (OC.out.grown hg_ (by simp; omega)); replace OH := Kpt.mk (OH.out.grown hg_ (by simp; omega)); replace hb := Kpt.mk (hb.out.trans (bel_own hg_ hb.out.size lS.out)); replace OS := Kpt.mk hX_; replace cP0 := rp_c0 OP.out; replace cP1 := rp_c1 OP.out; replace c1 := cm_c1 OC.out; replace c11 := cm_c11 OC.out; clear hX_ hg_; clear hm m6; have m7 : Kpt True := ⟨trivial⟩)
                        | (go_at_call 19; have hm := m5; go_must (refine (HF.out _).mono ?_; rintro e w_ ⟨rfl, h_⟩; replace OP := Kpt.mk (OP.out.below h_ OP.out.lt); replace OC := Kpt.mk (OC.out.below h_ OC.out.lt); replace OS := Kpt.mk (OS.out.below h_ OS.out.lt); replace OH := Kpt.mk (OH.out.below h_ OH.out.lt); replace hb := Kpt.mk (hb.out.trans (h_.mono hb.out.size)); replace cP0 := rp_c0 OP.out; replace cP1 := rp_c1 OP.out; replace c1 := cm_c1 OC.out; replace c11 := cm_c11 OC.out; clear h_; clear hm m5; have m6 : Kpt True := ⟨trivial⟩))
                        | fail)
                    refine bodyPost_ret (v := .tuple #[.bool false, .agg SV, .bool false]) (by simp [results, Try.results13, asAddr, Act.put, hrs.out _ _ OS.out]) rfl (by rw [hSVe.out]; exact SelP.bad hRb.out hb.out)
              · have k8 : (x != 8) = true := by simp [h8]
                have k10 : (x != 10) = true := by simp [h10]
                have hRb : Kpt (R = (v, some (faultS (q : Int) (-1)))) := ⟨hBad.out _ (pe_kind ⟨by rw [← hx0.out]; exact h8, by rw [← hx0.out]; exact h10⟩)⟩
                clear hBad hGood
                obtain ⟨SV, hSVe⟩ : ∃ v, v = (faultS (q : Int) (-1)).vals := ⟨_, rfl⟩
                have hSV1 : Kpt (SV.all (·.oneCell') = true) := ⟨by rw [hSVe]; exact Sn.vals_one _⟩
                have hSVs : Kpt (SV.size = zeroS.size) := ⟨by rw [hSVe]; rfl⟩
                have hSV : Kpt ((Try.prog.info? 42).map (·.size) = some SV.size) := ⟨by rw [hSVe]; exact infoS⟩
                have hrs : Kpt (∀ W B, Bx W B SV → (loadVar 42 ⟨B, 0, none⟩).run Try.prog W = .ok (.agg SV) W) := ⟨fun W B hB => by rw [hSVe] at hB ⊢; exact resS_run hB⟩
                have HF : Kpt (∀ W, Calls Try.prog 19 #[.int .u16 9728, .int .i64 (q : Int), .int .i64 (-1), .bool false] W fun e w' => e = .returned (.agg SV) ∧ Below W.heap.size W w') := ⟨fun W => by rw [hSVe]; exact rf_any _ _ W⟩
                replace hSVe := Kpt.mk hSVe
                go_wp2_with (first
                    | (have hm := m5; refine wpList_store_bx rfl 42 _ _ rfl bS _ SV rfl rfl OS.out hSVs.out hSV.out hSV1.out rfl ?_; intro w6 hX_ hg_; replace OP := Kpt.mk (OP.out.grown hg_ (by simp; omega)); replace OC := Kpt.mk (OC.out.grown hg_ (by simp; omega)); replace OH := Kpt.mk (OH.out.grown hg_ (by simp; omega)); replace hb := Kpt.mk (hb.out.trans (bel_own hg_ hb.out.size lS.out)); replace OS := Kpt.mk hX_; replace cP0 := rp_c0 OP.out; replace cP1 := rp_c1 OP.out; replace c1 := cm_c1 OC.out; replace c11 := cm_c11 OC.out; clear hX_ hg_; clear hm m5; have m6 : Kpt True := ⟨trivial⟩)
                    | (go_at_call 19; have hm := m4; go_must (refine (HF.out _).mono ?_; rintro e w_ ⟨rfl, h_⟩; replace OP := Kpt.mk (OP.out.below h_ OP.out.lt); replace OC := Kpt.mk (OC.out.below h_ OC.out.lt); replace OS := Kpt.mk (OS.out.below h_ OS.out.lt); replace OH := Kpt.mk (OH.out.below h_ OH.out.lt); replace hb := Kpt.mk (hb.out.trans (h_.mono hb.out.size)); replace cP0 := rp_c0 OP.out; replace cP1 := rp_c1 OP.out; replace c1 := cm_c1 OC.out; replace c11 := cm_c11 OC.out; clear h_; clear hm m4; have m5 : Kpt True := ⟨trivial⟩))
                    | fail)
                refine bodyPost_ret (v := .tuple #[.bool false, .agg SV, .bool false]) (by simp [results, Try.results13, asAddr, Act.put, hrs.out _ _ OS.out]) rfl (by rw [hSVe.out]; exact SelP.bad hRb.out hb.out)
          · have hfin : Kpt (R = (v, none)) := ⟨by obtain ⟨f, h1, h2⟩ := hI.out; rw [h1]; exact rdL_end f v p q (by have := hn.out; omega)⟩
            have hgoI : ¬ (q : Int) < nn := by omega
            obtain ⟨qb, hqb⟩ : ∃ z, (xv != xn) = z := ⟨_, rfl⟩
            have hqN : Kpt (qb = neV v n) := ⟨by rw [← hqb, hxv.out, hxn.out, vB_ne]⟩
            have hG : Kpt (w.grownBy wr (some bP)) := ⟨grown_of_below hb.out⟩
            clear hI hgo
            cases hsv : c.sv
            · go_wp2_with (first
                | (have hm := m5; refine wpList_store_bx rfl 42 _ _ rfl bS _ noS.vals rfl rfl OS.out rfl infoS (Sn.vals_one noS) rfl ?_; intro w_s hX_ hg_; replace OP := Kpt.mk (OP.out.grown hg_ (by simp; omega)); replace hG := Kpt.mk (grown_then hG.out hg_ (.inr lS.out)); replace OS := Kpt.mk hX_; clear hX_ hg_; clear hm m5; have m6 : Kpt True := ⟨trivial⟩)
                | (have hm := m4; refine wpList_store_cell rfl rfl bP 0 #[.int .i64 xn, .int .i64 xs] (.int .i64 xv) rfl rfl rfl OP.out (show 0 < 2 by decide) info3s rfl ?_; intro w_0 hX_ hg_; have OP2 : Kpt (Bx w_0 bP #[.int .i64 xv, .int .i64 xs]) := ⟨hX_⟩; replace OC := Kpt.mk (OC.out.grown hg_ (by simp; omega)); replace OS := Kpt.mk (OS.out.grown hg_ (by simp; omega)); replace hG := Kpt.mk (grown_then hG.out hg_ (.inl rfl)); replace c1 := cm_c1 OC.out; replace c11 := cm_c11 OC.out; clear hX_ hg_ OP cP0 cP1; have OP := OP2; clear OP2; have cP0 := rp_c0 OP.out; have cP1 := rp_c1 OP.out; clear hm m4; have m5 : Kpt True := ⟨trivial⟩)
                | fail)
              have hPf : RPg _ bP v (if false = true then v else s) := bx_rp (by rw [if_neg (by simp), ← hxv.out, ← hxs.out]; exact OP.out)
              refine bodyPost_ret (v := .tuple #[.bool qb, .agg noS.vals, .bool true]) (by simp [results, Try.results13, asAddr, Act.put, resS_run (s := noS) OS.out]) rfl (by rw [hqN.out]; exact SelP.good hfin.out hPf hG.out)
            · go_wp2_with (first
                | (have hm := m6; refine wpList_store_bx rfl 42 _ _ rfl bS _ noS.vals rfl rfl OS.out rfl infoS (Sn.vals_one noS) rfl ?_; intro w_s hX_ hg_; replace OP := Kpt.mk (OP.out.grown hg_ (by simp; omega)); replace hG := Kpt.mk (grown_then hG.out hg_ (.inr lS.out)); replace OS := Kpt.mk hX_; clear hX_ hg_; clear hm m6; have m7 : Kpt True := ⟨trivial⟩)
                | (have hm := m5; refine wpList_store_cell rfl rfl bP 1 #[.int .i64 xv, .int .i64 xs] (.int .i64 xv) rfl rfl rfl OP.out (show 1 < 2 by decide) info3s rfl ?_; intro w_1 hX_ hg_; have OP2 : Kpt (Bx w_1 bP #[.int .i64 xv, .int .i64 xv]) := ⟨hX_⟩; replace OC := Kpt.mk (OC.out.grown hg_ (by simp; omega)); replace OS := Kpt.mk (OS.out.grown hg_ (by simp; omega)); replace hG := Kpt.mk (grown_then hG.out hg_ (.inl rfl)); replace c1 := cm_c1 OC.out; replace c11 := cm_c11 OC.out; clear hX_ hg_ OP cP0 cP1; have OP := OP2; clear OP2; have cP0 := rp_c0 OP.out; have cP1 := rp_c1 OP.out; clear hm m5; have m6 : Kpt True := ⟨trivial⟩)
                | (have hm := m4; refine wpList_store_cell rfl rfl bP 0 #[.int .i64 xn, .int .i64 xs] (.int .i64 xv) rfl rfl rfl OP.out (show 0 < 2 by decide) info3s rfl ?_; intro w_0 hX_ hg_; have OP2 : Kpt (Bx w_0 bP #[.int .i64 xv, .int .i64 xs]) := ⟨hX_⟩; replace OC := Kpt.mk (OC.out.grown hg_ (by simp; omega)); replace OS := Kpt.mk (OS.out.grown hg_ (by simp; omega)); replace hG := Kpt.mk (grown_then hG.out hg_ (.inl rfl)); replace c1 := cm_c1 OC.out; replace c11 := cm_c11 OC.out; clear hX_ hg_ OP cP0 cP1; have OP := OP2; clear OP2; have cP0 := rp_c0 OP.out; have cP1 := rp_c1 OP.out; clear hm m4; have m5 : Kpt True := ⟨trivial⟩)
                | fail)
              have hPf : RPg _ bP v (if true = true then v else s) := bx_rp (by rw [if_pos rfl, ← hxv.out]; exact OP.out)
              refine bodyPost_ret (v := .tuple #[.bool qb, .agg noS.vals, .bool true]) (by simp [results, Try.results13, asAddr, Act.put, resS_run (s := noS) OS.out]) rfl (by rw [hqN.out]; exact SelP.good hfin.out hPf hG.out)
end Go.Proofs.Ytdojhgapdocngaa
