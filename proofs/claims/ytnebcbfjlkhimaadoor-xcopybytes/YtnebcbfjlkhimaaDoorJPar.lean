/-
  Parse of a head that is right.
-/
import Derived.Test.YtnebcbfjlkhimaaDoorJPara
namespace Go.Proofs.YtnebcbfjlkhimaaDoor
open Go.RowKit
set_option linter.unusedVariables false
set_option linter.unusedSimpArgs false
set_option maxRecDepth 100000 in
set_option maxHeartbeats 8000000 in
theorem par_ok (b off len cap : Nat) (zs : List Int) (w : World) (hl : len ≤ 140737488351232) (hcap : len ≤ cap) (hz : zs.length = len) (hb_ : Bytes zs) (hc : Cs w b off len zs) (h0 : headX zs = none) :
    Calls Tryd.prog 7 #[.slice (some ⟨b, off, none⟩) len cap] w fun e w' => ∃ u s, e = .returned (.tuple #[.agg (lsV u s), .agg (parseX zs).s.vals, .bool (parseX zs).ok]) ∧ Prd 50 w w' u s (parseX zs) := by
  have hlm : len ≤ maxLen := by unfold maxLen; omega
  have hsz := head_sz hb_ h0
  have hHb : Kpt (∀ W, Below w.heap.size w W → Calls Tryd.prog 13 #[.slice (some ⟨b, off, none⟩) len cap] W fun e w' => e = .returned (.tuple #[.agg noS.vals, .bool true]) ∧ Below W.heap.size W w') := ⟨fun W hb => by
    have := head_any b off len cap zs W hl hz hb_ (hc.below hb hc.1)
    rw [h0] at this
    exact this⟩
  have N2 : Kpt (∀ W, Below w.heap.size w W → Calls Tryd.prog 14 #[.slice (some ⟨b, off, none⟩) len cap, .int .i64 2, .int .i64 2] W fun e w' => e = .returned (.int .i64 (num zs 2 2)) ∧ w' = W) := ⟨fun W hb => count_any b off len cap 2 2 zs W hlm (by decide) (by decide) (by omega) hb_ (hc.below hb hc.1)⟩
  have hUb : Kpt (∀ A f : Nat, A + 32 ≤ len → unitF zs A = some f → ∀ W, Below w.heap.size w W → Calls Tryd.prog 15 #[.slice (some ⟨b, off, none⟩) len cap, .int .i64 A] W fun e w' => e = .returned (.tuple #[.string ⟨#[]⟩, .agg (paS (f : Int)).vals, .bool false]) ∧ Below W.heap.size W w') := ⟨fun A f hA hf W hb => unit_bad b off len cap A zs W hl hcap hz hb_ (hc.below hb hc.1) hA f hf⟩
  have hUg : Kpt (∀ A : Nat, A + 32 ≤ len → unitF zs A = none → ∀ W, Below w.heap.size w W → Calls Tryd.prog 15 #[.slice (some ⟨b, off, none⟩) len cap, .int .i64 A] W fun e w' => e = .returned (.tuple #[.string (strOfNums (ser zs A)), .agg noS.vals, .bool true]) ∧ Below W.heap.size W w') := ⟨fun A hA hf W hb => unit_good b off len cap A zs W hl hcap hz hb_ (hc.below hb hc.1) hA hf⟩
  have hSb : Kpt (∀ (A f : Nat) (ua : Option Addr) (n uc : Nat) (s : Value), n ≤ maxLen → A + 28 ≤ len → segF zs n A = some f → ∀ W, Below w.heap.size w W → Calls Tryd.prog 16 #[.agg (lsV (.slice ua n uc) s), .slice (some ⟨b, off, none⟩) len cap, .int .i64 A] W fun e w' => e = .returned (.tuple #[.agg zeroG, .agg (paS (f : Int)).vals, .bool false]) ∧ Below W.heap.size W w') := ⟨fun A f ua n uc s hn hA hf W hb => sgf_bad b off len cap A zs ua n uc s W hl hcap hz hb_ (hc.below hb hc.1) hA hn f hf⟩
  have hSg : Kpt (∀ (A : Nat) (ua : Option Addr) (n uc : Nat) (s : Value), n ≤ maxLen → A + 28 ≤ len → segF zs n A = none → ∀ W, Below w.heap.size w W → Calls Tryd.prog 16 #[.agg (lsV (.slice ua n uc) s), .slice (some ⟨b, off, none⟩) len cap, .int .i64 A] W fun e w' => e = .returned (.tuple #[.agg (sg zs A).vals, .agg noS.vals, .bool true]) ∧ Below W.heap.size W w') := ⟨fun A ua n uc s hn hA hf W hb => sgf_good b off len cap A zs ua n uc s W hl hcap hz hb_ (hc.below hb hc.1) hA hn hf⟩
  have hXu : Kpt (∀ k f, k < units zs → (∀ j, j < k → unitF zs (16 + 32 * j) = none) → unitF zs (16 + 32 * k) = some f → parseX zs = ⟨[], [], paS f, false⟩) := ⟨fun k f hk hn hf => parse_uf h0 hk hn hf⟩
  have hXs : Kpt ((∀ j, j < units zs → unitF zs (16 + 32 * j) = none) → ∀ k f, k < segs zs → (∀ j, j < k → segF zs (units zs) (16 + 32 * units zs + 28 * j) = none) → segF zs (units zs) (16 + 32 * units zs + 28 * k) = some f → parseX zs = ⟨[], [], paS f, false⟩) := ⟨fun hu k f hk hn hf => parse_sf h0 hu hk hn hf⟩
  have hXo : Kpt ((∀ j, j < units zs → unitF zs (16 + 32 * j) = none) → (∀ j, j < segs zs → segF zs (units zs) (16 + 32 * units zs + 28 * j) = none) → parseX zs = ⟨unitsX zs (units zs), segsX zs (16 + 32 * units zs) (segs zs), noS, true⟩) := ⟨fun hu hs => parse_yes h0 hu hs⟩
  rw [hz] at hsz
  obtain ⟨U, hU⟩ : ∃ n, n = units zs := ⟨_, rfl⟩
  obtain ⟨G, hG⟩ : ∃ n, n = segs zs := ⟨_, rfl⟩
  rw [← hU] at hsz hXu hXs hXo
  rw [← hG] at hsz hXs hXo
  obtain ⟨u2, hu2⟩ : ∃ x, x = num zs 2 2 := ⟨_, rfl⟩
  rw [← hu2] at N2 hsz
  obtain ⟨hs1, hs2, hU8, hG8, hlen⟩ := hsz
  obtain ⟨Mm, hM⟩ : ∃ k : Nat, (16 : Int) + u2 = k := ⟨16 + 32 * U, by omega⟩
  have eM : Kpt (Mm = 16 + 32 * U) := ⟨by omega⟩
  have hMl : Mm ≤ len := by omega
  have hMb : Mm ≤ 272 := by omega
  have hlI : ((len : Int) == 0) = false := beq_eq_false_iff_ne.mpr (by omega)
  replace hlen := Kpt.mk hlen
  replace hs1 := Kpt.mk hs1
  clear hU hG hu2 hs2 hc hb_ hz h0
  have hb := Kpt.mk (Below.refl w.heap.size w)
  go_enter Tryd.func7, Tryd.ntmps7
  go_wp2_with (first
      | (go_at_call 14; have hm := m6; go_must (refine (N2.out _ hb.out).mono ?_; rintro e w_ ⟨rfl, rfl⟩; clear hm m6; have m7 : Kpt True := ⟨trivial⟩))
      | (have hm := m5; refine wpList_var rfl 27 rfl zeroL zeroLi ?_; intro bl w_l hl_ hX_ h_; have q_L_l : bL < bl := Nat.lt_of_lt_of_le OL.out.lt hl_; have q_S_l : bS < bl := Nat.lt_of_lt_of_le OS.out.lt hl_; have q_f_l : bf < bl := Nat.lt_of_lt_of_le Of.out.lt hl_; have ll := Kpt.mk (Nat.le_trans hb.out.size hl_); replace OL := Kpt.mk (OL.out.below h_ OL.out.lt); replace OS := Kpt.mk (OS.out.below h_ OS.out.lt); replace Of := Kpt.mk (Of.out.below h_ Of.out.lt); replace hb := Kpt.mk (hb.out.trans (h_.mono hb.out.size)); have Ol := Kpt.mk hX_; clear hl_ hX_ h_; clear hm m5; have m6 : Kpt True := ⟨trivial⟩)
      | (have hm := m4; refine wpList_store_bx rfl 31 _ _ rfl bf _ noS.vals rfl rfl Of.out rfl infoS (Sn.vals_one noS) rfl ?_; intro w5 hX_ hg_; replace OL := Kpt.mk (OL.out.grown hg_ (by simp; omega)); replace OS := Kpt.mk (OS.out.grown hg_ (by simp; omega)); replace hb := Kpt.mk (hb.out.trans (bel_own hg_ hb.out.size lf.out)); replace Of := Kpt.mk hX_; clear hX_ hg_; clear hm m4; have m5 : Kpt True := ⟨trivial⟩)
      | (have hm := m3; refine wpList_var rfl 31 rfl zeroS zeroSi ?_; intro bf w_f hl_ hX_ h_; have q_L_f : bL < bf := Nat.lt_of_lt_of_le OL.out.lt hl_; have q_S_f : bS < bf := Nat.lt_of_lt_of_le OS.out.lt hl_; have lf := Kpt.mk (Nat.le_trans hb.out.size hl_); replace OL := Kpt.mk (OL.out.below h_ OL.out.lt); replace OS := Kpt.mk (OS.out.below h_ OS.out.lt); replace hb := Kpt.mk (hb.out.trans (h_.mono hb.out.size)); have Of := Kpt.mk hX_; clear hl_ hX_ h_; clear hm m3; have m4 : Kpt True := ⟨trivial⟩)
      | (go_at_call 13; have hm := m2; go_must (refine (hHb.out _ hb.out).mono ?_; rintro e w_ ⟨rfl, h_⟩; replace OL := Kpt.mk (OL.out.below h_ OL.out.lt); replace OS := Kpt.mk (OS.out.below h_ OS.out.lt); replace hb := Kpt.mk (hb.out.trans (h_.mono hb.out.size)); clear h_; clear hm m2; have m3 : Kpt True := ⟨trivial⟩))
      | (have hm := m1; refine wpList_var rfl 31 rfl zeroS zeroSi ?_; intro bS w_S hl_ hX_ h_; have q_L_S : bL < bS := Nat.lt_of_lt_of_le OL.out.lt hl_; have lS := Kpt.mk (Nat.le_trans hb.out.size hl_); replace OL := Kpt.mk (OL.out.below h_ OL.out.lt); replace hb := Kpt.mk (hb.out.trans (h_.mono hb.out.size)); have OS := Kpt.mk hX_; clear hl_ hX_ h_; clear hm m1; have m2 : Kpt True := ⟨trivial⟩)
      | (refine wpList_var rfl 27 rfl zeroL zeroLi ?_; intro bL w_L hl_ hX_ h_; have lL := Kpt.mk (Nat.le_trans hb.out.size hl_); replace hb := Kpt.mk (hb.out.trans (h_.mono hb.out.size)); have OL := Kpt.mk hX_; clear hl_ hX_ h_; have m1 : Kpt True := ⟨trivial⟩)
      | fail)
  have hP := Kpt.mk (Pt.start (T := 50) hb.out ll.out Ol.out)
  clear hHb N2 Of hb Ol
  go_loopw [9] (fun t9 wr => ∃ (k A un uc : Nat) (ua : Option Addr) (us : List (Array Value)), k ≤ U ∧ t9 = .int .i64 A ∧ Kpt (A = 16 + 32 * k) ∧ Kpt (us = (unitsX zs k).map uZ) ∧ us.length = k ∧ Kpt (Pt 50 w wr bl (.slice ua un uc) (.slice none 0 0) (.slice ua un uc) (.slice none 0 0) us []) ∧ Kpt (Bx wr bL zeroL) ∧ Kpt (Bx wr bS zeroS) ∧ Kpt (∀ j, j < k → unitF zs (16 + 32 * j) = none)) (fun t9 _ => 300 - (intOf t9).toNat)
  case atStart => exact ⟨0, 16, 0, 0, none, [], by omega, rfl, ⟨rfl⟩, ⟨rfl⟩, rfl, hP, OL, OS, ⟨fun j hj => by omega⟩⟩
  case round =>
    clear hP OL OS
    obtain ⟨k, A, un, uc, ua, us, hk, rfl, eA, hus, husl, hP, OL, OS, hno⟩ := hrel
    have cl0 := ls_c0 hP.out.bx
    have cl1 := ls_c1 hP.out.bx
    obtain ⟨A2, hA2⟩ : ∃ n : Nat, (A : Int) + 32 = n := ⟨A + 32, by omega⟩
    by_cases hkU : k < U
    · have hAl : A + 32 ≤ len := by have := eA.out; have := hlen.out; omega
      have hAM : A < Mm := by have := eA.out; have := eM.out; omega
      have hAMI : (A : Int) < Mm := by omega
      cases hf : unitF zs A with
      | some f =>
        have hXf : Kpt (parseX zs = ⟨[], [], paS f, false⟩) := ⟨hXu.out k f hkU hno.out (by rw [← eA.out]; exact hf)⟩
        have hR := Kpt.mk (hUb.out A f hAl hf)
        clear hUb hUg hSb hSg hXu hXs hXo hf hno hus
        obtain ⟨SV, hSVe⟩ : ∃ v, v = (paS (f : Int)).vals := ⟨_, rfl⟩
        have hSV1 : Kpt (SV.all (·.oneCell') = true) := ⟨by rw [hSVe]; exact Sn.vals_one _⟩
        have hSVs : Kpt (SV.size = zeroS.size) := ⟨by rw [hSVe]; rfl⟩
        have hSV : Kpt ((Tryd.prog.info? 31).map (·.size) = some SV.size) := ⟨by rw [hSVe]; exact infoS⟩
        have hrs : Kpt (∀ W B, Bx W B SV → (loadVar 31 ⟨B, 0, none⟩).run Tryd.prog W = .ok (.agg SV) W) := ⟨fun W B hB => by rw [hSVe] at hB ⊢; exact resS_run hB⟩
        rw [← hSVe] at hR
        replace hSVe := Kpt.mk hSVe
        go_upto_region 13 with (first
          | (have hm := m2; refine wpList_store_bx rfl 31 _ _ rfl bf zeroS SV rfl rfl Of.out hSVs.out hSV.out hSV1.out rfl ?_; intro w3 hX_ hg_; replace hB := Kpt.mk (hB.out.trans (bel_own hg_ hB.out.size lf.out)); replace Of := Kpt.mk hX_; clear hX_ hg_; replace hP := Kpt.mk (hP.out.below hB.out); replace cl0 := ls_c0 hP.out.bx; replace cl1 := ls_c1 hP.out.bx; replace OL := Kpt.mk (OL.out.below hB.out OL.out.lt); replace OS := Kpt.mk (OS.out.below hB.out OS.out.lt); clear hB; clear hm m2; have m3 : Kpt True := ⟨trivial⟩)
          | (have hm := m1; refine wpList_var rfl 31 rfl zeroS zeroSi ?_; intro bf w2 hl_ hX_ h_; have lf := Kpt.mk hl_; have hB := Kpt.mk h_; have q_L_f : bL < bf := Nat.lt_of_lt_of_le OL.out.lt hl_; have q_S_f : bS < bf := Nat.lt_of_lt_of_le OS.out.lt hl_; have Of := Kpt.mk hX_; clear hl_ hX_ h_; clear hm m1; have m2 : Kpt True := ⟨trivial⟩)
          | (go_at_call 15; go_must (refine (hR.out _ hP.out.bel).mono ?_; rintro e w1 ⟨rfl, h_⟩; replace hP := Kpt.mk (hP.out.below h_); replace cl0 := ls_c0 hP.out.bx; replace cl1 := ls_c1 hP.out.bx; replace OL := Kpt.mk (OL.out.below h_ OL.out.lt); replace OS := Kpt.mk (OS.out.below h_ OS.out.lt); clear h_; have m1 : Kpt True := ⟨trivial⟩))
          | fail)
        refine wp_region_any (by kernel_rfl) ?_
        refine wpAny_of_C (C := fun W => Bx W bf SV) _ _ _ _ ?_
        replace Of := Kpt.mk Of.out.drew
        replace OL := Kpt.mk OL.out.drew
        replace OS := Kpt.mk OS.out.drew
        replace hP := Kpt.mk hP.out.drew
        obtain ⟨W0, hW0⟩ : ∃ W, W = w3.drew := ⟨_, rfl⟩
        rw [← hW0] at Of OL OS hP
        refine wpAnyC_world hW0 ?_
        clear hW0
        refine wpAnyC_take 0 (.agg zeroL) rfl (by kernel_rfl) (by kernel_rfl) (by kernel_rfl) (fun _ _ _ h => h) (wanted_free rfl _) (fun W hW => by kernel_rfl) ?_
        try simp only [Act.put, List.getElem_toArray, List.getElem_cons_succ, List.getElem_cons_zero, List.setIfInBounds_toArray, List.set_cons_succ, List.set_cons_zero]
        refine wpAnyC_take 1 (.agg SV) rfl (by kernel_rfl) (by kernel_rfl) (by kernel_rfl) (fun _ _ _ h => h) (wanted_free rfl _) (fun W hW => exec_load_bx 31 _ rfl bf SV rfl hW _ Tryd.underlying31 rfl hSV.out) ?_
        try simp only [Act.put, List.getElem_toArray, List.getElem_cons_succ, List.getElem_cons_zero, List.setIfInBounds_toArray, List.set_cons_succ, List.set_cons_zero]
        refine wpAnyC_one 2 Of.out rfl (by kernel_rfl) (wanted_free rfl _) (fun KA hKA => ?_)
        refine wp_store_bx 27 _ _ rfl bL zeroL zeroL rfl rfl OL.out rfl infoL zeroL_one ?_
        intro w7 hX_ hg_
        replace OS := Kpt.mk (OS.out.grown hg_ (by simp; omega))
        replace Of := Kpt.mk (Of.out.grown hg_ (by simp; omega))
        replace hP := Kpt.mk (hP.out.oth hg_ lL.out (by omega))
        replace OL := Kpt.mk hX_
        clear hX_ hg_
        refine hKA _ _ ?_
        clear hKA KA
        try simp only [Act.put, List.getElem_toArray, List.getElem_cons_succ, List.getElem_cons_zero, List.setIfInBounds_toArray, List.set_cons_succ, List.set_cons_zero]
        refine wpAnyC_one 3 Of.out rfl (by kernel_rfl) (wanted_free rfl _) (fun KA hKA => ?_)
        refine wp_store_bx 31 _ _ rfl bS zeroS SV rfl rfl OS.out hSVs.out hSV.out hSV1.out ?_
        intro w8 hX_ hg_
        replace OL := Kpt.mk (OL.out.grown hg_ (by simp; omega))
        replace Of := Kpt.mk (Of.out.grown hg_ (by simp; omega))
        replace hP := Kpt.mk (hP.out.oth hg_ lS.out (by omega))
        replace OS := Kpt.mk hX_
        clear hX_ hg_
        refine hKA _ _ ?_
        clear hKA KA
        try simp only [Act.put, List.getElem_toArray, List.getElem_cons_succ, List.getElem_cons_zero, List.setIfInBounds_toArray, List.set_cons_succ, List.set_cons_zero]
        refine wpAnyC_one 4 Of.out rfl (by kernel_rfl) (wanted_free rfl _) (fun KA hKA => ?_)
        go_simp
        refine hKA _ _ ?_
        clear hKA KA
        try simp only [Act.put, List.getElem_toArray, List.getElem_cons_succ, List.getElem_cons_zero, List.setIfInBounds_toArray, List.set_cons_succ, List.set_cons_zero]
        refine wpAnyC_done Of.out (by kernel_rfl) ?_
        go_wp2_with fail
        refine bodyPost_ret (v := .tuple #[.agg zeroL, .agg SV, .bool false]) (by simp [results, Tryd.results7, asAddr, Act.put, hrs.out _ _ OS.out, resL_run (u := .slice none 0 0) (s := .slice none 0 0) OL.out, zL_eq]) rfl ⟨.slice none 0 0, .slice none 0 0, by rw [hXf.out, hSVe.out]; rfl, by rw [hXf.out]; exact Prd.none hP.out.bel _ _⟩
      | none =>
        have hR := Kpt.mk (hUg.out A hAl hf)
        obtain ⟨SR, hSR⟩ : ∃ x, x = strOfNums (ser zs A) := ⟨_, rfl⟩
        rw [← hSR] at hR
        have hno2 : Kpt (∀ j, j < k + 1 → unitF zs (16 + 32 * j) = none) := ⟨fun j hj => by
          by_cases e : j = k
          · subst e; rw [← eA.out]; exact hf
          · exact hno.out j (by omega)⟩
        have hus2 : Kpt (us ++ [#[Value.string SR]] = (unitsX zs (k + 1)).map uZ) := ⟨by rw [unitsX_succ, List.map_append, ← hus.out, ← eA.out, hSR]; rfl⟩
        have husl2 : Kpt ((us ++ [#[Value.string SR]]).length = k + 1) := ⟨by rw [List.length_append, husl]; rfl⟩
        clear hUb hUg hSb hSg hXu hXs hXo hf hno hus hSR
        go_wp2_with (first
          | (have hm := m5; refine wpList_store_cell rfl rfl bl 0 (lsV (.slice ua un uc) (.slice none 0 0)) (.slice va vn vc) rfl rfl rfl hP.out.bx (by simp [lsV]) one24 rfl ?_; intro w6 hX_ hg_; replace OL := Kpt.mk (OL.out.grown hg_ (fun e => by injection e with e; omega)); replace OS := Kpt.mk (OS.out.grown hg_ (fun e => by injection e with e; omega)); replace hP := Kpt.mk (hP.out.st (d0 := (.slice va vn vc)) (d1 := (.slice none 0 0)) hX_ hg_); replace cl0 := ls_c0 hP.out.bx; replace cl1 := ls_c1 hP.out.bx; clear hX_ hg_; clear hm m5; have m6 : Kpt True := ⟨trivial⟩)
          | (have hm := m4; refine wpList_append_row rfl 24 9 1 16 _ Tryd.underlying24 infoU rfl (by decide) (by decide) _ _ rfl (.slice ua un uc) (.slice (some ⟨bz, 0, none⟩) 1 1) us [#[Value.string SR]] rfl rfl hP.out.ur (Oz.out.one ⟨rfl, by simp [Value.oneCell']⟩) (by simp) (by simp only [List.length_singleton]; omega) ?_; intro v5 w5 ho_ hg_ hor_; obtain ⟨va, vc, hv_, _⟩ := ho_.out.shape; obtain ⟨vn, hvn⟩ : ∃ n, n = (us ++ [#[Value.string SR]]).length := ⟨_, rfl⟩; rw [← hvn] at hv_; subst hv_; clear hvn; replace OL := Kpt.mk (OL.out.grown hg_.out (fun e => by have := hP.out.nu _ e; omega)); replace OS := Kpt.mk (OS.out.grown hg_.out (fun e => by have := hP.out.nu _ e; omega)); replace hP := Kpt.mk (hP.out.appU ho_.out hg_.out hor_.out); replace cl0 := ls_c0 hP.out.bx; replace cl1 := ls_c1 hP.out.bx; clear ho_ hg_ hor_ Oz; clear hm m4; have m5 : Kpt True := ⟨trivial⟩)
          | (have hm := m3; refine wpList_build1 rfl 24 9 1 16 _ Tryd.underlying24 infoU (by decide) (by decide) _ rfl (.string SR) #[Value.string SR] rfl rfl rfl ?_; intro bz w4 hz_ hX_ h_ _; replace hP := Kpt.mk (hP.out.below h_); replace cl0 := ls_c0 hP.out.bx; replace cl1 := ls_c1 hP.out.bx; replace OL := Kpt.mk (OL.out.below h_ OL.out.lt); replace OS := Kpt.mk (OS.out.below h_ OS.out.lt); have Oz := Kpt.mk hX_; clear hz_ hX_ h_; clear hm m3; have m4 : Kpt True := ⟨trivial⟩)
          | (have hm := m2; refine wpList_store_bx rfl 31 _ _ rfl bf zeroS noS.vals rfl rfl Of.out rfl infoS (Sn.vals_one noS) rfl ?_; intro w3 hX_ hg_; replace hB := Kpt.mk (hB.out.trans (bel_own hg_ hB.out.size lf.out)); replace Of := Kpt.mk hX_; clear hX_ hg_; replace hP := Kpt.mk (hP.out.below hB.out); replace cl0 := ls_c0 hP.out.bx; replace cl1 := ls_c1 hP.out.bx; replace OL := Kpt.mk (OL.out.below hB.out OL.out.lt); replace OS := Kpt.mk (OS.out.below hB.out OS.out.lt); clear hB; clear hm m2; have m3 : Kpt True := ⟨trivial⟩)
          | (have hm := m1; refine wpList_var rfl 31 rfl zeroS zeroSi ?_; intro bf w2 hl_ hX_ h_; have lf := Kpt.mk hl_; have hB := Kpt.mk h_; have q_L_f : bL < bf := Nat.lt_of_lt_of_le OL.out.lt hl_; have q_S_f : bS < bf := Nat.lt_of_lt_of_le OS.out.lt hl_; have Of := Kpt.mk hX_; clear hl_ hX_ h_; clear hm m1; have m2 : Kpt True := ⟨trivial⟩)
          | (go_at_call 15; go_must (refine (hR.out _ hP.out.bel).mono ?_; rintro e w1 ⟨rfl, h_⟩; replace hP := Kpt.mk (hP.out.below h_); replace cl0 := ls_c0 hP.out.bx; replace cl1 := ls_c1 hP.out.bx; replace OL := Kpt.mk (OL.out.below h_ OL.out.lt); replace OS := Kpt.mk (OS.out.below h_ OS.out.lt); clear h_; have m1 : Kpt True := ⟨trivial⟩))
          | fail)
        go_roundw
        case rel => exact ⟨k + 1, A2, vn, vc, va, us ++ [#[Value.string SR]], by omega, rfl, ⟨by have := eA.out; omega⟩, hus2, husl2.out, hP, OL, OS, hno2⟩
        case measure => simp [intOf]; omega
    · obtain rfl : k = U := by omega
      clear hkU hk hUb hUg hXu
      have hAM : A = Mm := by have := eA.out; have := eM.out; omega
      subst hAM
      have hul := hP.out.ulen
      have hun : Kpt (un = k) := ⟨by omega⟩
      have hunm : un ≤ maxLen := by unfold maxLen; omega
      clear hul eA hA2
      go_wp2
      go_loopw [13] (fun t13 wr => ∃ (q B sn sc : Nat) (sa : Option Addr) (ss : List (Array Value)), q ≤ G ∧ t13 = .int .i64 B ∧ Kpt (B = 16 + 32 * k + 28 * q) ∧ Kpt (ss = (segsX zs (16 + 32 * k) q).map Sg.vals) ∧ ss.length = q ∧ Kpt (Pt 50 w wr bl (.slice ua un uc) (.slice sa sn sc) (.slice ua un uc) (.slice sa sn sc) us ss) ∧ Kpt (Bx wr bL zeroL) ∧ Kpt (Bx wr bS zeroS) ∧ Kpt (∀ j, j < q → segF zs k (16 + 32 * k + 28 * j) = none)) (fun t13 _ => 1000 - (intOf t13).toNat)
      case atStart => exact ⟨0, A, 0, 0, none, [], by omega, rfl, ⟨by have := eM.out; omega⟩, ⟨rfl⟩, rfl, hP, OL, OS, ⟨fun j hj => by omega⟩⟩
      case round =>
        clear hP OL OS cl0 cl1
        obtain ⟨q, B, sn, sc, sa, ss, hq, rfl, eB, hss, hssl, hP, OL, OS, hns⟩ := hrel
        have cl0 := ls_c0 hP.out.bx
        have cl1 := ls_c1 hP.out.bx
        obtain ⟨B2, hB2⟩ : ∃ n : Nat, (B : Int) + 28 = n := ⟨B + 28, by omega⟩
        by_cases hqG : q < G
        · have hBl : B + 28 ≤ len := by have := eB.out; have := hlen.out; omega
          have hBlI : (B : Int) < len := by omega
          have hBb : B ≤ 600 := by have := eB.out; omega
          cases hf : segF zs k B with
          | some f =>
            have hXf : Kpt (parseX zs = ⟨[], [], paS f, false⟩) := ⟨hXs.out hno.out q f hqG hns.out (by rw [← eB.out]; exact hf)⟩
            have hR := Kpt.mk (hSb.out B f ua un uc (.slice sa sn sc) hunm hBl (by rw [hun.out]; exact hf))
            clear hSb hSg hXs hXo hf hno hus hns hss
            obtain ⟨SV, hSVe⟩ : ∃ v, v = (paS (f : Int)).vals := ⟨_, rfl⟩
            have hSV1 : Kpt (SV.all (·.oneCell') = true) := ⟨by rw [hSVe]; exact Sn.vals_one _⟩
            have hSVs : Kpt (SV.size = zeroS.size) := ⟨by rw [hSVe]; rfl⟩
            have hSV : Kpt ((Tryd.prog.info? 31).map (·.size) = some SV.size) := ⟨by rw [hSVe]; exact infoS⟩
            have hrs : Kpt (∀ W B, Bx W B SV → (loadVar 31 ⟨B, 0, none⟩).run Tryd.prog W = .ok (.agg SV) W) := ⟨fun W B hB => by rw [hSVe] at hB ⊢; exact resS_run hB⟩
            rw [← hSVe] at hR
            replace hSVe := Kpt.mk hSVe
            go_upto_region 20 with (first
              | (have hm := m4; refine wpList_store_bx rfl 31 _ _ rfl bf zeroS SV rfl rfl Of.out hSVs.out hSV.out hSV1.out rfl ?_; intro w5 hX_ hg_; replace hB := Kpt.mk (hB.out.trans (bel_own hg_ hB.out.size lf.out)); replace Of := Kpt.mk hX_; clear hX_ hg_; replace hP := Kpt.mk (hP.out.below hB.out); replace cl0 := ls_c0 hP.out.bx; replace cl1 := ls_c1 hP.out.bx; replace OL := Kpt.mk (OL.out.below hB.out OL.out.lt); replace OS := Kpt.mk (OS.out.below hB.out OS.out.lt); clear hB; clear hm m4; have m5 : Kpt True := ⟨trivial⟩)
              | (have hm := m3; refine wpList_store_bx rfl 50 _ _ rfl bg zeroG zeroG rfl rfl Og.out rfl infoG (Sg.vals_one ⟨0, 0, 0, 0, 0⟩) rfl ?_; intro w4 hX_ hg_; replace hB := Kpt.mk (hB.out.trans (bel_own hg_ hB.out.size lg.out)); replace Of := Kpt.mk (Of.out.grown hg_ (by simp; omega)); replace Og := Kpt.mk hX_; clear hX_ hg_; clear hm m3; have m4 : Kpt True := ⟨trivial⟩)
              | (have hm := m2; refine wpList_var rfl 31 rfl zeroS zeroSi ?_; intro bf w3 hl_ hX_ h_; have lf := Kpt.mk (Nat.le_trans hB.out.size hl_); have hB0 := hB; replace hB := Kpt.mk (hB.out.trans (h_.mono hB.out.size)); have q_L_f : bL < bf := Nat.lt_of_lt_of_le OL.out.lt (Nat.le_trans hB0.out.size hl_); have q_S_f : bS < bf := Nat.lt_of_lt_of_le OS.out.lt (Nat.le_trans hB0.out.size hl_); clear hB0; replace Og := Kpt.mk (Og.out.below h_ Og.out.lt); have q_g_f : bg < bf := Nat.lt_of_lt_of_le OgL.out hl_; have Of := Kpt.mk hX_; clear hl_ hX_ h_; clear hm m2; have m3 : Kpt True := ⟨trivial⟩)
              | (have hm := m1; refine wpList_var rfl 50 rfl zeroG zeroGi ?_; intro bg w2 hl_ hX_ h_; have lg := Kpt.mk hl_; have hB := Kpt.mk h_; have q_L_g : bL < bg := Nat.lt_of_lt_of_le OL.out.lt hl_; have q_S_g : bS < bg := Nat.lt_of_lt_of_le OS.out.lt hl_; have Og := Kpt.mk hX_; have OgL := Kpt.mk hX_.lt; clear hl_ hX_ h_; clear hm m1; have m2 : Kpt True := ⟨trivial⟩)
              | (go_at_call 16; go_must (refine (hR.out _ hP.out.bel).mono ?_; rintro e w1 ⟨rfl, h_⟩; replace hP := Kpt.mk (hP.out.below h_); replace cl0 := ls_c0 hP.out.bx; replace cl1 := ls_c1 hP.out.bx; replace OL := Kpt.mk (OL.out.below h_ OL.out.lt); replace OS := Kpt.mk (OS.out.below h_ OS.out.lt); clear h_; have m1 : Kpt True := ⟨trivial⟩))
              | (refine wpList_load_bx rfl 27 _ rfl bl (lsV (.slice ua un uc) (.slice sa sn sc)) rfl hP.out.bx _ Tryd.underlying27 rfl infoL ?_)
              | fail)
            refine wp_region_any (by kernel_rfl) ?_
            refine wpAny_of_C (C := fun W => Bx W bf SV) _ _ _ _ ?_
            replace Of := Kpt.mk Of.out.drew
            replace OL := Kpt.mk OL.out.drew
            replace OS := Kpt.mk OS.out.drew
            replace hP := Kpt.mk hP.out.drew
            obtain ⟨W0, hW0⟩ : ∃ W, W = w5.drew := ⟨_, rfl⟩
            rw [← hW0] at Of OL OS hP
            refine wpAnyC_world hW0 ?_
            clear hW0
            refine wpAnyC_take 0 (.agg zeroL) rfl (by kernel_rfl) (by kernel_rfl) (by kernel_rfl) (fun _ _ _ h => h) (wanted_free rfl _) (fun W hW => by kernel_rfl) ?_
            try simp only [Act.put, List.getElem_toArray, List.getElem_cons_succ, List.getElem_cons_zero, List.setIfInBounds_toArray, List.set_cons_succ, List.set_cons_zero]
            refine wpAnyC_take 1 (.agg SV) rfl (by kernel_rfl) (by kernel_rfl) (by kernel_rfl) (fun _ _ _ h => h) (wanted_free rfl _) (fun W hW => exec_load_bx 31 _ rfl bf SV rfl hW _ Tryd.underlying31 rfl hSV.out) ?_
            try simp only [Act.put, List.getElem_toArray, List.getElem_cons_succ, List.getElem_cons_zero, List.setIfInBounds_toArray, List.set_cons_succ, List.set_cons_zero]
            refine wpAnyC_one 2 Of.out rfl (by kernel_rfl) (wanted_free rfl _) (fun KA hKA => ?_)
            refine wp_store_bx 27 _ _ rfl bL zeroL zeroL rfl rfl OL.out rfl infoL zeroL_one ?_
            intro w7 hX_ hg_
            replace OS := Kpt.mk (OS.out.grown hg_ (by simp; omega))
            replace Of := Kpt.mk (Of.out.grown hg_ (by simp; omega))
            replace hP := Kpt.mk (hP.out.oth hg_ lL.out (by omega))
            replace OL := Kpt.mk hX_
            clear hX_ hg_
            refine hKA _ _ ?_
            clear hKA KA
            try simp only [Act.put, List.getElem_toArray, List.getElem_cons_succ, List.getElem_cons_zero, List.setIfInBounds_toArray, List.set_cons_succ, List.set_cons_zero]
            refine wpAnyC_one 3 Of.out rfl (by kernel_rfl) (wanted_free rfl _) (fun KA hKA => ?_)
            refine wp_store_bx 31 _ _ rfl bS zeroS SV rfl rfl OS.out hSVs.out hSV.out hSV1.out ?_
            intro w8 hX_ hg_
            replace OL := Kpt.mk (OL.out.grown hg_ (by simp; omega))
            replace Of := Kpt.mk (Of.out.grown hg_ (by simp; omega))
            replace hP := Kpt.mk (hP.out.oth hg_ lS.out (by omega))
            replace OS := Kpt.mk hX_
            clear hX_ hg_
            refine hKA _ _ ?_
            clear hKA KA
            try simp only [Act.put, List.getElem_toArray, List.getElem_cons_succ, List.getElem_cons_zero, List.setIfInBounds_toArray, List.set_cons_succ, List.set_cons_zero]
            refine wpAnyC_one 4 Of.out rfl (by kernel_rfl) (wanted_free rfl _) (fun KA hKA => ?_)
            go_simp
            refine hKA _ _ ?_
            clear hKA KA
            try simp only [Act.put, List.getElem_toArray, List.getElem_cons_succ, List.getElem_cons_zero, List.setIfInBounds_toArray, List.set_cons_succ, List.set_cons_zero]
            refine wpAnyC_done Of.out (by kernel_rfl) ?_
            go_wp2_with fail
            refine bodyPost_ret (v := .tuple #[.agg zeroL, .agg SV, .bool false]) (by simp [results, Tryd.results7, asAddr, Act.put, hrs.out _ _ OS.out, resL_run (u := .slice none 0 0) (s := .slice none 0 0) OL.out, zL_eq]) rfl ⟨.slice none 0 0, .slice none 0 0, by rw [hXf.out, hSVe.out]; rfl, by rw [hXf.out]; exact Prd.none hP.out.bel _ _⟩
          | none =>
            have hR := Kpt.mk (hSg.out B ua un uc (.slice sa sn sc) hunm hBl (by rw [hun.out]; exact hf))
            obtain ⟨GV, hGV⟩ : ∃ x, x = (sg zs B).vals := ⟨_, rfl⟩
            rw [← hGV] at hR
            have hG1 : Kpt (GV.all (·.oneCell') = true) := ⟨by rw [hGV]; exact Sg.vals_one _⟩
            have hGs : Kpt (GV.size = 5) := ⟨by rw [hGV]; rfl⟩
            have hGi : Kpt ((Tryd.prog.info? 50).map (·.size) = some GV.size) := ⟨by rw [hGV]; exact infoG⟩
            have hns2 : Kpt (∀ j, j < q + 1 → segF zs k (16 + 32 * k + 28 * j) = none) := ⟨fun j hj => by
              by_cases e : j = q
              · subst e; rw [← eB.out]; exact hf
              · exact hns.out j (by omega)⟩
            have hss2 : Kpt (ss ++ [GV] = (segsX zs (16 + 32 * k) (q + 1)).map Sg.vals) := ⟨by rw [segsX_succ, List.map_append, ← hss.out, ← eB.out, hGV]; rfl⟩
            have hssl2 : Kpt ((ss ++ [GV]).length = q + 1) := ⟨by rw [List.length_append, hssl]; rfl⟩
            replace hus := hus
            clear hSb hSg hXs hXo hf hno hus hns hss hGV
            go_wp2_with (first
              | (have hm := m7; refine wpList_store_cell rfl rfl bl 1 (lsV (.slice ua un uc) (.slice sa sn sc)) (.slice va vn vc) rfl rfl rfl hP.out.bx (by simp [lsV]) oneG rfl ?_; intro w8 hX_ hg_; replace OL := Kpt.mk (OL.out.grown hg_ (fun e => by injection e with e; omega)); replace OS := Kpt.mk (OS.out.grown hg_ (fun e => by injection e with e; omega)); replace hP := Kpt.mk (hP.out.st (d0 := (.slice ua un uc)) (d1 := (.slice va vn vc)) hX_ hg_); replace cl0 := ls_c0 hP.out.bx; replace cl1 := ls_c1 hP.out.bx; clear hX_ hg_; clear hm m7; have m8 : Kpt True := ⟨trivial⟩)
              | (have hm := m6; refine wpList_append_row rfl 25 50 5 40 _ Tryd.underlying25 infoGb rfl (by decide) (by decide) _ _ rfl (.slice sa sn sc) (.slice (some ⟨bz, 0, none⟩) 1 1) ss [GV] rfl rfl hP.out.sr (Oz.out.one ⟨hGs.out, hG1.out⟩) (by simp) (by simp only [List.length_singleton]; omega) ?_; intro v5 w7 ho_ hg_ hor_; obtain ⟨va, vc, hv_, _⟩ := ho_.out.shape; obtain ⟨vn, hvn⟩ : ∃ n, n = (ss ++ [GV]).length := ⟨_, rfl⟩; rw [← hvn] at hv_; subst hv_; clear hvn; replace OL := Kpt.mk (OL.out.grown hg_.out (fun e => by have := hP.out.ns _ e; omega)); replace OS := Kpt.mk (OS.out.grown hg_.out (fun e => by have := hP.out.ns _ e; omega)); replace hP := Kpt.mk (hP.out.appS ho_.out hg_.out hor_.out); replace cl0 := ls_c0 hP.out.bx; replace cl1 := ls_c1 hP.out.bx; clear ho_ hg_ hor_ Oz; clear hm m6; have m7 : Kpt True := ⟨trivial⟩)
              | (have hm := m5; refine wpList_build1 rfl 25 50 5 40 _ Tryd.underlying25 infoGb (by decide) (by decide) _ rfl (.agg GV) GV hGs.out rfl rfl ?_; intro bz w6 hz_ hX_ h_ _; replace hP := Kpt.mk (hP.out.below h_); replace cl0 := ls_c0 hP.out.bx; replace cl1 := ls_c1 hP.out.bx; replace OL := Kpt.mk (OL.out.below h_ OL.out.lt); replace OS := Kpt.mk (OS.out.below h_ OS.out.lt); have Oz := Kpt.mk hX_; clear hz_ hX_ h_; clear hm m5; have m6 : Kpt True := ⟨trivial⟩)
              | (refine wpList_load_bx rfl 50 _ rfl bg GV rfl Og.out _ Tryd.underlying50 rfl hGi.out ?_)
              | (have hm := m4; refine wpList_store_bx rfl 31 _ _ rfl bf zeroS noS.vals rfl rfl Of.out rfl infoS (Sn.vals_one noS) rfl ?_; intro w5 hX_ hg_; replace hB := Kpt.mk (hB.out.trans (bel_own hg_ hB.out.size lf.out)); replace Og := Kpt.mk (Og.out.grown hg_ (by simp; omega)); replace Of := Kpt.mk hX_; clear hX_ hg_; replace hP := Kpt.mk (hP.out.below hB.out); replace cl0 := ls_c0 hP.out.bx; replace cl1 := ls_c1 hP.out.bx; replace OL := Kpt.mk (OL.out.below hB.out OL.out.lt); replace OS := Kpt.mk (OS.out.below hB.out OS.out.lt); clear hB; clear hm m4; have m5 : Kpt True := ⟨trivial⟩)
              | (have hm := m3; refine wpList_store_bx rfl 50 _ _ rfl bg zeroG GV rfl rfl Og.out hGs.out hGi.out hG1.out rfl ?_; intro w4 hX_ hg_; replace hB := Kpt.mk (hB.out.trans (bel_own hg_ hB.out.size lg.out)); replace Of := Kpt.mk (Of.out.grown hg_ (by simp; omega)); replace Og := Kpt.mk hX_; clear hX_ hg_; clear hm m3; have m4 : Kpt True := ⟨trivial⟩)
              | (have hm := m2; refine wpList_var rfl 31 rfl zeroS zeroSi ?_; intro bf w3 hl_ hX_ h_; have lf := Kpt.mk (Nat.le_trans hB.out.size hl_); have hB0 := hB; replace hB := Kpt.mk (hB.out.trans (h_.mono hB.out.size)); have q_L_f : bL < bf := Nat.lt_of_lt_of_le OL.out.lt (Nat.le_trans hB0.out.size hl_); have q_S_f : bS < bf := Nat.lt_of_lt_of_le OS.out.lt (Nat.le_trans hB0.out.size hl_); clear hB0; replace Og := Kpt.mk (Og.out.below h_ Og.out.lt); have q_g_f : bg < bf := Nat.lt_of_lt_of_le OgL.out hl_; have Of := Kpt.mk hX_; clear hl_ hX_ h_; clear hm m2; have m3 : Kpt True := ⟨trivial⟩)
              | (have hm := m1; refine wpList_var rfl 50 rfl zeroG zeroGi ?_; intro bg w2 hl_ hX_ h_; have lg := Kpt.mk hl_; have hB := Kpt.mk h_; have q_L_g : bL < bg := Nat.lt_of_lt_of_le OL.out.lt hl_; have q_S_g : bS < bg := Nat.lt_of_lt_of_le OS.out.lt hl_; have Og := Kpt.mk hX_; have OgL := Kpt.mk hX_.lt; clear hl_ hX_ h_; clear hm m1; have m2 : Kpt True := ⟨trivial⟩)
              | (go_at_call 16; go_must (refine (hR.out _ hP.out.bel).mono ?_; rintro e w1 ⟨rfl, h_⟩; replace hP := Kpt.mk (hP.out.below h_); replace cl0 := ls_c0 hP.out.bx; replace cl1 := ls_c1 hP.out.bx; replace OL := Kpt.mk (OL.out.below h_ OL.out.lt); replace OS := Kpt.mk (OS.out.below h_ OS.out.lt); clear h_; have m1 : Kpt True := ⟨trivial⟩))
              | (refine wpList_load_bx rfl 27 _ rfl bl (lsV (.slice ua un uc) (.slice sa sn sc)) rfl hP.out.bx _ Tryd.underlying27 rfl infoL ?_)
              | fail)
            go_roundw
            case rel => exact ⟨q + 1, B2, vn, vc, va, ss ++ [GV], by omega, rfl, ⟨by have := eB.out; omega⟩, hss2, hssl2.out, hP, OL, OS, hns2⟩
            case measure => simp [intOf]; omega
        · obtain rfl : q = G := by omega
          have hXf : Kpt (parseX zs = ⟨unitsX zs k, segsX zs (16 + 32 * k) q, noS, true⟩) := ⟨hXo.out hno.out hns.out⟩
          have hBe : Kpt (B = len) := ⟨by have := eB.out; have := hlen.out; omega⟩
          have hBI : ¬ (B : Int) < len := by have := hBe.out; omega
          clear hqG hq hSb hSg hXs hXo hno hns hB2
          go_wp2_with (first
            | (have hm := m1; refine wpList_store_bx rfl 31 _ _ rfl bS zeroS noS.vals rfl rfl OS.out rfl infoS (Sn.vals_one noS) rfl ?_; intro w2 hX_ hg_; replace hP := Kpt.mk (hP.out.oth hg_ lS.out (by omega)); replace OL := Kpt.mk (OL.out.grown hg_ (by simp; omega)); replace OS := Kpt.mk hX_; clear hX_ hg_; clear hm m1; have m2 : Kpt True := ⟨trivial⟩)
            | (refine wpList_store_bx rfl 27 _ _ rfl bL zeroL (lsV (.slice ua un uc) (.slice sa sn sc)) rfl rfl OL.out rfl infoL (lsV_one rfl rfl) rfl ?_; intro w1 hX_ hg_; replace hP := Kpt.mk (hP.out.oth hg_ lL.out (by omega)); replace OS := Kpt.mk (OS.out.grown hg_ (by simp; omega)); replace OL := Kpt.mk hX_; clear hX_ hg_; have m1 : Kpt True := ⟨trivial⟩)
            | (refine wpList_load_bx rfl 27 _ rfl bl (lsV (.slice ua un uc) (.slice sa sn sc)) rfl hP.out.bx _ Tryd.underlying27 rfl infoL ?_)
            | fail)
          refine bodyPost_ret (v := .tuple #[.agg (lsV (.slice ua un uc) (.slice sa sn sc)), .agg noS.vals, .bool true]) (by simp [results, Tryd.results7, asAddr, Act.put, resS_run (s := noS) OS.out, resL_run OL.out]) rfl ⟨.slice ua un uc, .slice sa sn sc, by rw [hXf.out], hP.out.prd (by rw [hXf.out]; exact hus.out) (by rw [hXf.out]; exact hss.out)⟩
end Go.Proofs.YtnebcbfjlkhimaaDoor
