/-
  Parse of a head that is right, as the document has it.
-/
import Derived.Test.YtnebcbfjlkhimaaDoorJRpa
namespace Go.Proofs.YtnebcbfjlkhimaaDoor
open Go.RowKit
set_option linter.unusedVariables false
set_option linter.unusedSimpArgs false
/-- The front of a unit's descriptor, in a block. -/
structure Fro (W : World) (b : Nat) : Prop where
  lt : b < W.heap.size
  cells : ∀ i : Nat, i < 8 → W.cell? ⟨b, i, none⟩ = some (.int .u8 (front.getD i 0))
theorem Fro.below {w w' : World} {b n : Nat} (h : Fro w b) (hb : Below n w w') (hn : b < n) : Fro w' b :=
  ⟨Nat.lt_of_lt_of_le h.lt hb.size, fun i hi => (World.cell?_of_block (w := w) (a := ⟨b, i, none⟩) (hb.block b hn)).trans (h.cells i hi)⟩
theorem Fro.grown {w w' : World} {b : Nat} {row : Option Nat} (h : Fro w b) (hg : w.grownBy w' row) (hn : row ≠ some b) : Fro w' b :=
  ⟨Nat.lt_of_lt_of_le h.lt hg.size, fun i hi => (far_cell hg ⟨b, i, none⟩ h.lt hn).trans (h.cells i hi)⟩
theorem unitF_e8 {zs : List Int} {a : Nat} (h : ∀ j, j < 8 → zs.getD (a + j) 0 = front.getD j 0) : unitF zs a = if zs.getD (a + 28) 0 ≠ 0 then some (a + 28) else if num zs (a + 29) 3 ≠ 16 then some (a + 29) else none := by
  unfold unitF
  rw [frF_all h 8 (Nat.le_refl _)]
theorem unitF_fr {zs : List Int} {a i : Nat} (hi : i < 8) (h : ∀ j, j < i → zs.getD (a + j) 0 = front.getD j 0) (hx : zs.getD (a + i) 0 ≠ front.getD i 0) : unitF zs a = some (a + i) := by
  unfold unitF
  rw [frF_at hi h hx 8 (by omega) (Nat.le_refl _)]
set_option maxRecDepth 100000 in
set_option maxHeartbeats 8000000 in
theorem rpar_ok (b off len cap : Nat) (zs : List Int) (w : World) (hl : len ≤ 140737488351232) (hcap : len ≤ cap) (hz : zs.length = len) (hb_ : Bytes zs) (hc : Cs w b off len zs) (h0 : headX zs = none) :
    Calls Tryd.prog 8 #[.slice (some ⟨b, off, none⟩) len cap] w fun e w' => ∃ u s, e = .returned (.tuple #[.agg (lsV u s), .agg (parseX zs).s.vals, .bool (parseX zs).ok]) ∧ Prd 61 w w' u s (parseX zs) := by
  have hlm : len ≤ maxLen := by unfold maxLen; omega
  have hsz := head_sz hb_ h0
  have hSf := Kpt.mk (fun f W => rfault_any f W)
  have hHb : Kpt (∀ W, Below w.heap.size w W → Calls Tryd.prog 17 #[.slice (some ⟨b, off, none⟩) len cap] W fun e w' => e = .returned (.tuple #[.agg noS.vals, .bool true]) ∧ Below W.heap.size W w') := ⟨fun W hb => by
    have := rhead_any b off len cap zs W hl hz hb_ (hc.below hb hc.1)
    rw [h0] at this
    exact this⟩
  have hNb : Kpt (∀ (i k : Nat), 1 ≤ k → k ≤ 8 → i + k ≤ len → ∀ W, Below w.heap.size w W → Calls Tryd.prog 18 #[.slice (some ⟨b, off, none⟩) len cap, .int .i64 i, .int .i64 k] W fun e w' => e = .returned (.int .u64 (num zs i k)) ∧ w' = W) := ⟨fun i k h1 h2 h3 W hb => rnum_any b off len cap i k zs W hlm h1 h2 h3 hb_ (hc.below hb hc.1)⟩
  have N2 : Kpt (∀ W, Below w.heap.size w W → Calls Tryd.prog 18 #[.slice (some ⟨b, off, none⟩) len cap, .int .i64 2, .int .i64 2] W fun e w' => e = .returned (.int .u64 (num zs 2 2)) ∧ w' = W) := ⟨fun W hb => hNb.out 2 2 (by decide) (by decide) (by have := (head_none h0).1; omega) W hb⟩
  have hCe : Kpt (∀ W, Below w.heap.size w W → ∀ j, j < len → W.cell? ⟨b, off + j, none⟩ = some (.int .u8 (zs.getD j 0))) := ⟨fun W hb => (hc.below hb hc.1).2⟩
  have hUn : Kpt (∀ A : Nat, A + 32 ≤ len → ∀ W, Below w.heap.size w W → Calls Tryd.prog 20 #[.slice (some ⟨b, off + (A + 8), none⟩) 20 (cap - (A + 8))] W fun e w' => e = .returned (.string (strOfNums (ser zs A))) ∧ w' = W) := ⟨fun A hA W hb => by
    have h1 := hc.below hb hc.1
    have h2 : Cs W b (off + (A + 8)) 20 (serL zs A) := ⟨h1.1, fun j hj => by
      rw [Nat.add_assoc, h1.2 (A + 8 + j) (by omega)]
      unfold serL
      rw [getD_drop' _ _ _ _ hj]⟩
    exact rtrim_any b (off + (A + 8)) 20 (cap - (A + 8)) (serL zs A) W (by decide) (by omega) (ser_at (by omega)) h2⟩
  have hXu : Kpt (∀ k f, k < units zs → (∀ j, j < k → unitF zs (16 + 32 * j) = none) → unitF zs (16 + 32 * k) = some f → parseX zs = ⟨[], [], paS f, false⟩) := ⟨fun k f hk hn hf => parse_uf h0 hk hn hf⟩
  have hXs : Kpt ((∀ j, j < units zs → unitF zs (16 + 32 * j) = none) → ∀ k f, k < segs zs → (∀ j, j < k → segF zs (units zs) (16 + 32 * units zs + 28 * j) = none) → segF zs (units zs) (16 + 32 * units zs + 28 * k) = some f → parseX zs = ⟨[], [], paS f, false⟩) := ⟨fun hu k f hk hn hf => parse_sf h0 hu hk hn hf⟩
  have hXo : Kpt ((∀ j, j < units zs → unitF zs (16 + 32 * j) = none) → (∀ j, j < segs zs → segF zs (units zs) (16 + 32 * units zs + 28 * j) = none) → parseX zs = ⟨unitsX zs (units zs), segsX zs (16 + 32 * units zs) (segs zs), noS, true⟩) := ⟨fun hu hs => parse_yes h0 hu hs⟩
  have hN2 : Kpt (∀ i, 0 ≤ num zs i 2 ∧ num zs i 2 < 65536) := ⟨num2_bd zs hb_⟩
  have hN3 : Kpt (∀ i, 0 ≤ num zs i 3 ∧ num zs i 3 < 16777216) := ⟨num3_bd zs hb_⟩
  have hN4 : Kpt (∀ i, 0 ≤ num zs i 4 ∧ num zs i 4 < 4294967296) := ⟨num4_bd zs hb_⟩
  have hN8 : Kpt (∀ i, 0 ≤ num zs i 8 ∧ num zs i 8 < 18446744073709551616) := ⟨num8_bd zs hb_⟩
  have hu2b := num2_bd zs hb_ 2
  rw [hz] at hsz
  obtain ⟨U, hU⟩ : ∃ n, n = units zs := ⟨_, rfl⟩
  obtain ⟨G, hG⟩ : ∃ n, n = segs zs := ⟨_, rfl⟩
  rw [← hU] at hsz hXu hXs hXo
  rw [← hG] at hsz hXs hXo
  obtain ⟨u2, hu2⟩ : ∃ x, x = num zs 2 2 := ⟨_, rfl⟩
  rw [← hu2] at N2 hsz hu2b
  obtain ⟨hs1, hs2, hU8, hG8, hlen⟩ := hsz
  have hw2 : IntKind.i64.wrap u2 = u2 := by rw [IntKind.wrap_i64]; omega
  obtain ⟨Mm, hM⟩ : ∃ k : Nat, (16 : Int) + u2 = k := ⟨16 + 32 * U, by omega⟩
  have eM : Kpt (Mm = 16 + 32 * U) := ⟨by omega⟩
  have hMl : Mm ≤ len := by omega
  have hMb : Mm ≤ 272 := by omega
  have hlI : ((len : Int) == 0) = false := beq_eq_false_iff_ne.mpr (by omega)
  replace hlen := Kpt.mk hlen
  replace hs1 := Kpt.mk hs1
  clear hU hG hu2 hs2 hc hb_ hz h0
  have hb := Kpt.mk (Below.refl w.heap.size w)
  go_enter Tryd.func8, Tryd.ntmps8
  go_wp2_with (first
      | (have hm := m8; refine (?_ : wpList _ _ _ (Oper.mk _ (Op.buildSlice _ _ _) _ _ _ _ :: _) _ _); refine wpList_built rfl 8 front (by kernel_rfl) rfl (by decide) ?_; intro br w9 hlr_ hor_ h_; have q_l_r : bl < br := Nat.lt_of_lt_of_le Ol.out.lt hlr_; replace OL := Kpt.mk (OL.out.below h_ OL.out.lt); replace OS := Kpt.mk (OS.out.below h_ OS.out.lt); replace Ol := Kpt.mk (Ol.out.below h_ Ol.out.lt); replace Of := Kpt.mk (Of.out.below h_ Of.out.lt); replace hb := Kpt.mk (hb.out.trans (h_.mono hb.out.size)); have hF := Kpt.mk (Fro.mk (World.ownsRow.lt hor_ br rfl).2 (fun i hi => own_facts hor_ i hi)); clear hlr_ hor_ h_; clear hm m8; have m9 : Kpt True := ⟨trivial⟩)
      | (go_at_call 18; have hm := m7; go_must (refine (N2.out _ hb.out).mono ?_; rintro e w_ ⟨rfl, rfl⟩; clear hm m7; have m8 : Kpt True := ⟨trivial⟩))
      | (have hm := m6; refine wpList_store_bx rfl 31 _ _ rfl bf _ noS.vals rfl rfl Of.out rfl infoS (Sn.vals_one noS) rfl ?_; intro w7 hX_ hg_; replace OL := Kpt.mk (OL.out.grown hg_ (by simp; omega)); replace OS := Kpt.mk (OS.out.grown hg_ (by simp; omega)); replace Ol := Kpt.mk (Ol.out.grown hg_ (by simp; omega)); replace hb := Kpt.mk (hb.out.trans (bel_own hg_ hb.out.size lf.out)); replace Of := Kpt.mk hX_; clear hX_ hg_; clear hm m6; have m7 : Kpt True := ⟨trivial⟩)
      | (have hm := m5; refine wpList_var rfl 31 rfl zeroS zeroSi ?_; intro bf w_f hl_ hX_ h_; have q_L_f : bL < bf := Nat.lt_of_lt_of_le OL.out.lt hl_; have q_S_f : bS < bf := Nat.lt_of_lt_of_le OS.out.lt hl_; have q_l_f : bl < bf := Nat.lt_of_lt_of_le Ol.out.lt hl_; have lf := Kpt.mk (Nat.le_trans hb.out.size hl_); replace OL := Kpt.mk (OL.out.below h_ OL.out.lt); replace OS := Kpt.mk (OS.out.below h_ OS.out.lt); replace Ol := Kpt.mk (Ol.out.below h_ Ol.out.lt); replace hb := Kpt.mk (hb.out.trans (h_.mono hb.out.size)); have Of := Kpt.mk hX_; clear hl_ hX_ h_; clear hm m5; have m6 : Kpt True := ⟨trivial⟩)
      | (go_at_call 17; have hm := m4; go_must (refine (hHb.out _ hb.out).mono ?_; rintro e w_ ⟨rfl, h_⟩; replace OL := Kpt.mk (OL.out.below h_ OL.out.lt); replace OS := Kpt.mk (OS.out.below h_ OS.out.lt); replace Ol := Kpt.mk (Ol.out.below h_ Ol.out.lt); replace hb := Kpt.mk (hb.out.trans (h_.mono hb.out.size)); clear h_; clear hm m4; have m5 : Kpt True := ⟨trivial⟩))
      | (have hm := m3; refine wpList_store_bx rfl 36 _ _ rfl bl _ zeroL rfl rfl Ol.out rfl infoRL zeroL_one rfl ?_; intro w4 hX_ hg_; replace OL := Kpt.mk (OL.out.grown hg_ (by simp; omega)); replace OS := Kpt.mk (OS.out.grown hg_ (by simp; omega)); replace hb := Kpt.mk (hb.out.trans (bel_own hg_ hb.out.size ll.out)); replace Ol := Kpt.mk hX_; clear hX_ hg_; clear hm m3; have m4 : Kpt True := ⟨trivial⟩)
      | (have hm := m2; refine wpList_var rfl 36 rfl zeroL zeroRLi ?_; intro bl w_l hl_ hX_ h_; have q_L_l : bL < bl := Nat.lt_of_lt_of_le OL.out.lt hl_; have q_S_l : bS < bl := Nat.lt_of_lt_of_le OS.out.lt hl_; have ll := Kpt.mk (Nat.le_trans hb.out.size hl_); replace OL := Kpt.mk (OL.out.below h_ OL.out.lt); replace OS := Kpt.mk (OS.out.below h_ OS.out.lt); replace hb := Kpt.mk (hb.out.trans (h_.mono hb.out.size)); have Ol := Kpt.mk hX_; clear hl_ hX_ h_; clear hm m2; have m3 : Kpt True := ⟨trivial⟩)
      | (have hm := m1; refine wpList_var rfl 31 rfl zeroS zeroSi ?_; intro bS w_S hl_ hX_ h_; have q_L_S : bL < bS := Nat.lt_of_lt_of_le OL.out.lt hl_; have lS := Kpt.mk (Nat.le_trans hb.out.size hl_); replace OL := Kpt.mk (OL.out.below h_ OL.out.lt); replace hb := Kpt.mk (hb.out.trans (h_.mono hb.out.size)); have OS := Kpt.mk hX_; clear hl_ hX_ h_; clear hm m1; have m2 : Kpt True := ⟨trivial⟩)
      | (refine wpList_var rfl 36 rfl zeroL zeroRLi ?_; intro bL w_L hl_ hX_ h_; have lL := Kpt.mk (Nat.le_trans hb.out.size hl_); replace hb := Kpt.mk (hb.out.trans (h_.mono hb.out.size)); have OL := Kpt.mk hX_; clear hl_ hX_ h_; have m1 : Kpt True := ⟨trivial⟩)
      | fail)
  have hP := Kpt.mk (Pt.start (T := 61) hb.out ll.out Ol.out)
  clear hHb N2 Of hb Ol
  go_loopw [10] (fun t10 wr => ∃ (k A un uc : Nat) (ua : Option Addr) (us : List (Array Value)), k ≤ U ∧ t10 = .int .i64 A ∧ Kpt (A = 16 + 32 * k) ∧ Kpt (us = (unitsX zs k).map uZ) ∧ us.length = k ∧ Kpt (Pt 61 w wr bl (.slice ua un uc) (.slice none 0 0) (.slice ua un uc) (.slice none 0 0) us []) ∧ Kpt (∀ g, (Value.slice ua un uc).ownBlock = some g → br < g) ∧ Kpt (Fro wr br) ∧ Kpt (Bx wr bL zeroL) ∧ Kpt (Bx wr bS zeroS) ∧ Kpt (∀ j, j < k → unitF zs (16 + 32 * j) = none)) (fun t10 _ => 300 - (intOf t10).toNat)
  case atStart => exact ⟨0, 16, 0, 0, none, [], by omega, rfl, ⟨rfl⟩, ⟨rfl⟩, rfl, hP, ⟨fun g e => by cases e⟩, hF, OL, OS, ⟨fun j hj => by omega⟩⟩
  case round =>
    clear hP OL OS hF
    obtain ⟨k, A, un, uc, ua, us, hk, rfl, eA, hus, husl, hP, hnr, hF, OL, OS, hno⟩ := hrel
    have cl0 := ls_c0 hP.out.bx
    have cl1 := ls_c1 hP.out.bx
    obtain ⟨A2, hA2⟩ : ∃ n : Nat, (A : Int) + 32 = n := ⟨A + 32, by omega⟩
    by_cases hkU : k < U
    · have hAl : A + 32 ≤ len := by have := eA.out; have := hlen.out; omega
      have hAb : A ≤ 300 := by have := eA.out; omega
      have hAM : A < Mm := by have := eA.out; have := eM.out; omega
      have hAMI : (A : Int) < Mm := by omega
      have hXk : Kpt (∀ f, unitF zs A = some f → parseX zs = ⟨[], [], paS f, false⟩) := ⟨fun f hf => hXu.out k f hkU hno.out (by rw [← eA.out]; exact hf)⟩
      go_wp2
      go_loopw [11] (fun t11 wi => ∃ i : Nat, i ≤ 8 ∧ t11 = .int .i64 i ∧ Kpt (∀ j, j < i → zs.getD (A + j) 0 = front.getD j 0) ∧ Kpt (Below wr.heap.size wr wi)) (fun t11 _ => 8 - (intOf t11).toNat)
      case atStart => exact ⟨0, by decide, rfl, ⟨fun j hj => by omega⟩, ⟨Below.refl _ _⟩⟩
      case round =>
        obtain ⟨i, hi, rfl, hfr, hwi⟩ := hrel
        have hwi0 := hwi
        replace hP := Kpt.mk (hP.out.below hwi.out)
        replace cl0 := ls_c0 hP.out.bx
        replace cl1 := ls_c1 hP.out.bx
        replace OL := Kpt.mk (OL.out.below hwi.out OL.out.lt)
        replace OS := Kpt.mk (OS.out.below hwi.out OS.out.lt)
        replace hF := Kpt.mk (hF.out.below hwi.out hF.out.1)
        clear hwi
        by_cases hi8 : i < 8
        · have hiI : (i : Int) < 8 := by omega
          obtain ⟨k1, hk1⟩ : ∃ n : Nat, (A : Int) + i = n := ⟨A + i, by omega⟩
          have ek1 : Kpt (k1 = A + i) := ⟨by omega⟩
          have hk1l : k1 < len := by omega
          have hx := hCe.out _ hP.out.bel k1 hk1l
          have hy := hF.out.cells i hi8
          obtain ⟨x, hxx⟩ : ∃ x, x = zs.getD k1 0 := ⟨_, rfl⟩
          obtain ⟨y, hyy⟩ : ∃ y, y = front.getD i 0 := ⟨_, rfl⟩
          rw [← hxx] at hx
          rw [← hyy] at hy
          by_cases hxy : x = y
          · subst hxy
            have hfr2 : Kpt (∀ j, j < i + 1 → zs.getD (A + j) 0 = front.getD j 0) := ⟨fun j hj => by
              by_cases e : j = i
              · subst e; rw [← ek1.out, ← hxx, hyy]
              · exact hfr.out j (by omega)⟩
            clear hfr hxx hyy ek1
            go_wp2_with (first | (go_region) | fail)
            go_roundw
            case rel => exact ⟨i + 1, by omega, by go_num, hfr2, ⟨hwi0.out.trans ((below_drew _).mono hwi0.out.size)⟩⟩
            case measure => simp [intOf]; omega
          · have hqb : (x == y) = false := beq_eq_false_iff_ne.mpr hxy
            have hXf : Kpt (parseX zs = ⟨[], [], paS k1, false⟩) := ⟨hXk.out k1 (by rw [ek1.out]; exact unitF_fr hi8 hfr.out (by rw [← ek1.out, ← hxx, ← hyy]; exact hxy))⟩
            clear hfr hxx hyy ek1 hUn hXu hXs hXo hNb hXk hno hus
            go_upto_region 16 with (first | (go_region) | fail)
            replace hP := Kpt.mk (hP.out.below (below_drew _))
            replace cl0 := ls_c0 hP.out.bx
            replace cl1 := ls_c1 hP.out.bx
            replace OL := Kpt.mk (OL.out.below (below_drew _) OL.out.lt)
            replace OS := Kpt.mk (OS.out.below (below_drew _) OS.out.lt)
            replace hF := Kpt.mk (hF.out.below (below_drew _) hF.out.1)
            obtain ⟨W1, hW1⟩ : ∃ W, W = wr.drew := ⟨_, rfl⟩
            rw [← hW1] at hP OL OS hF cl0 cl1
            rw [← hW1]
            clear hW1 hx hy hwi0
            go_wp2_with (first
              | (have hm := m2; refine wpList_store_bx rfl 31 _ _ rfl bS zeroS (paS ((k1 : Int))).vals rfl rfl OS.out rfl infoS (Sn.vals_one _) rfl ?_; intro w3 hX_ hg_; replace hP := Kpt.mk (hP.out.oth hg_ lS.out (by omega)); replace OL := Kpt.mk (OL.out.grown hg_ (by simp; omega)); replace OS := Kpt.mk hX_; clear hX_ hg_; clear hm m2; have m3 : Kpt True := ⟨trivial⟩)
              | (have hm := m1; refine wpList_store_bx rfl 36 _ _ rfl bL zeroL zeroL rfl rfl OL.out rfl infoRL zeroL_one rfl ?_; intro w2 hX_ hg_; replace hP := Kpt.mk (hP.out.oth hg_ lL.out (by omega)); replace OS := Kpt.mk (OS.out.grown hg_ (by simp; omega)); replace OL := Kpt.mk hX_; clear hX_ hg_; clear hm m1; have m2 : Kpt True := ⟨trivial⟩)
              | (go_at_call 19; go_must (refine (hSf.out _ _).mono ?_; rintro e w1 ⟨rfl, h_⟩; replace hP := Kpt.mk (hP.out.below h_); replace cl0 := ls_c0 hP.out.bx; replace cl1 := ls_c1 hP.out.bx; replace OL := Kpt.mk (OL.out.below h_ OL.out.lt); replace OS := Kpt.mk (OS.out.below h_ OS.out.lt); clear h_; have m1 : Kpt True := ⟨trivial⟩))
              | fail)
            refine bodyPost_ret (v := .tuple #[.agg zeroL, .agg (paS ((k1 : Int))).vals, .bool false]) (by simp [results, Tryd.results8, asAddr, Act.put, resS_run OS.out, resRL_run (u := .slice none 0 0) (s := .slice none 0 0) OL.out, zL_eq]) rfl ⟨.slice none 0 0, .slice none 0 0, by rw [hXf.out]; rfl, by rw [hXf.out]; exact Prd.none hP.out.bel _ _⟩
        · obtain rfl : i = 8 := by omega
          have hiI : ¬ (8 : Int) < 8 := by decide
          clear hwi0
          rw [show ((8 : Nat) : Int) = 8 from rfl]
          have h8 := unitF_e8 hfr.out
          obtain ⟨k28, hk28⟩ : ∃ n : Nat, (A : Int) + 28 = n := ⟨A + 28, by omega⟩
          obtain ⟨k29, hk29⟩ : ∃ n : Nat, (A : Int) + 29 = n := ⟨A + 29, by omega⟩
          obtain ⟨k8, hk8⟩ : ∃ n : Nat, (A : Int) + 8 = n := ⟨A + 8, by omega⟩
          have e28 : A + 28 = k28 := by omega
          have e29 : A + 29 = k29 := by omega
          have e8 : A + 8 = k8 := by omega
          rw [e28, e29] at h8
          have hk28l : k28 < len := by omega
          have hx := hCe.out _ hP.out.bel k28 hk28l
          have N29 : Kpt (∀ W, Below w.heap.size w W → Calls Tryd.prog 18 #[.slice (some ⟨b, off, none⟩) len cap, .int .i64 k29, .int .i64 3] W fun e w' => e = .returned (.int .u64 (num zs k29 3)) ∧ w' = W) := ⟨fun W hb => hNb.out k29 3 (by decide) (by decide) (by omega) W hb⟩
          have hd29 := hN3.out k29
          obtain ⟨x, hxx⟩ : ∃ x, x = zs.getD k28 0 := ⟨_, rfl⟩
          rw [← hxx] at hx h8
          obtain ⟨n29, hn29⟩ : ∃ x, x = num zs k29 3 := ⟨_, rfl⟩
          rw [← hn29] at N29 hd29 h8
          clear hxx hn29 hfr hi hi8
          by_cases hx0 : x = 0
          · subst hx0
            rw [if_neg (by simp)] at h8
            by_cases h16 : n29 = 16
            · subst h16
              rw [if_neg (by simp)] at h8
              have hR := Kpt.mk (hUn.out A hAl)
              rw [e8] at hR
              obtain ⟨SR, hSR⟩ : ∃ x, x = strOfNums (ser zs A) := ⟨_, rfl⟩
              rw [← hSR] at hR
              have hno2 : Kpt (∀ j, j < k + 1 → unitF zs (16 + 32 * j) = none) := ⟨fun j hj => by
                by_cases e : j = k
                · subst e; rw [← eA.out]; exact h8
                · exact hno.out j (by omega)⟩
              have hus2 : Kpt (us ++ [#[Value.string SR]] = (unitsX zs (k + 1)).map uZ) := ⟨by rw [unitsX_succ, List.map_append, ← hus.out, ← eA.out, hSR]; rfl⟩
              have husl2 : Kpt ((us ++ [#[Value.string SR]]).length = k + 1) := ⟨by rw [List.length_append, husl]; rfl⟩
              have hk20 : (k8 : Int) + 20 = k28 := by omega
              have hne : ¬ cap = k8 := by omega
              have hk8l : k8 ≤ k28 := by omega
              have hk28c : k28 ≤ cap := by omega
              have hk28m : k28 ≤ len := by omega
              have hR2 : Kpt (∀ W, Below w.heap.size w W → Calls Tryd.prog 20 #[.slice (some ⟨b, off + k8, none⟩) (k28 - k8) (cap - k8)] W fun e w' => e = .returned (.string SR) ∧ w' = W) := ⟨by rw [show k28 - k8 = 20 by omega]; exact hR.out⟩
              clear hUn hXu hXs hXo hNb hXk hno hus hSR h8 hR e8 e28 e29 hSf
              go_upto_region 21 with (first
                | (go_at_call 18; go_must (refine (N29.out _ hP.out.bel).mono ?_; rintro e w_ ⟨rfl, rfl⟩))
                | fail)
              refine wp_region_any (by kernel_rfl) ?_
              refine wpAny_of_C (C := fun W => True) _ _ _ _ ?_
              have hw8 : IntKind.i64.wrap (k8 : Int) = k8 := by rw [IntKind.wrap_i64]; omega
              have hw28 : IntKind.i64.wrap (k28 : Int) = k28 := by rw [IntKind.wrap_i64]; omega
              replace hP := Kpt.mk (hP.out.below (below_drew _))
              replace cl0 := ls_c0 hP.out.bx
              replace cl1 := ls_c1 hP.out.bx
              replace OL := Kpt.mk (OL.out.below (below_drew _) OL.out.lt)
              replace OS := Kpt.mk (OS.out.below (below_drew _) OS.out.lt)
              replace hF := Kpt.mk (hF.out.below (below_drew _) hF.out.1)
              obtain ⟨W0, hW0⟩ : ∃ W, W = w_.drew := ⟨_, rfl⟩
              rw [← hW0] at hP OL OS hF cl0 cl1
              refine wpAnyC_world hW0 ?_
              clear hW0 hx
              refine wpAnyC_take 0 (.pointer (some ⟨bl, 0, none⟩)) rfl (by kernel_rfl) (by kernel_rfl) (by kernel_rfl) (fun _ _ _ h => h) (wanted_free rfl _) (fun W hW => by go_simp) ?_
              try simp only [Act.put, List.getElem_toArray, List.getElem_cons_succ, List.getElem_cons_zero, List.setIfInBounds_toArray, List.set_cons_succ, List.set_cons_zero]
              refine wpAnyC_take 2 (.slice (some ⟨b, off, none⟩) len cap) rfl (by kernel_rfl) (by kernel_rfl) (by kernel_rfl) (fun _ _ _ h => h) (wanted_free rfl _) (fun W hW => by go_simp) ?_
              try simp only [Act.put, List.getElem_toArray, List.getElem_cons_succ, List.getElem_cons_zero, List.setIfInBounds_toArray, List.set_cons_succ, List.set_cons_zero]
              refine wpAnyC_take 3 (.int .i64 A) rfl (by kernel_rfl) (by kernel_rfl) (by kernel_rfl) (fun _ _ _ h => h) (wanted_free rfl _) (fun W hW => by go_simp) ?_
              try simp only [Act.put, List.getElem_toArray, List.getElem_cons_succ, List.getElem_cons_zero, List.setIfInBounds_toArray, List.set_cons_succ, List.set_cons_zero]
              refine wpAnyC_take 4 (.int .i64 k8) rfl (by kernel_rfl) (by kernel_rfl) (by kernel_rfl) (fun _ _ _ h => h) (wanted_free rfl _) (fun W hW => by go_simp) ?_
              try simp only [Act.put, List.getElem_toArray, List.getElem_cons_succ, List.getElem_cons_zero, List.setIfInBounds_toArray, List.set_cons_succ, List.set_cons_zero]
              refine wpAnyC_take 5 (.int .i64 A) rfl (by kernel_rfl) (by kernel_rfl) (by kernel_rfl) (fun _ _ _ h => h) (wanted_free rfl _) (fun W hW => by go_simp) ?_
              try simp only [Act.put, List.getElem_toArray, List.getElem_cons_succ, List.getElem_cons_zero, List.setIfInBounds_toArray, List.set_cons_succ, List.set_cons_zero]
              refine wpAnyC_take 6 (.int .i64 k28) rfl (by kernel_rfl) (by kernel_rfl) (by kernel_rfl) (fun _ _ _ h => h) (wanted_free rfl _) (fun W hW => by go_simp) ?_
              try simp only [Act.put, List.getElem_toArray, List.getElem_cons_succ, List.getElem_cons_zero, List.setIfInBounds_toArray, List.set_cons_succ, List.set_cons_zero]
              refine wpAnyC_take 7 (.slice (some ⟨b, off + k8, none⟩) (k28 - k8) (cap - k8)) rfl (by kernel_rfl) (by kernel_rfl) (by kernel_rfl) (fun _ _ _ h => h) (wanted_free rfl _) (fun W hW => by go_simp) ?_
              try simp only [Act.put, List.getElem_toArray, List.getElem_cons_succ, List.getElem_cons_zero, List.setIfInBounds_toArray, List.set_cons_succ, List.set_cons_zero]
              refine wpAnyC_two 1 8 trivial rfl rfl (by kernel_rfl) (wanted_free rfl _) (wanted_free rfl _) (fun KA hKA => ?_) (fun KA hKA => ?_)
              · go_simp
                refine hKA _ _ ?_
                clear hKA KA
                try simp only [Act.put, List.getElem_toArray, List.getElem_cons_succ, List.getElem_cons_zero, List.setIfInBounds_toArray, List.set_cons_succ, List.set_cons_zero]
                refine wpAnyC_one 8 trivial rfl (by kernel_rfl) (wanted_free rfl _) (fun KA hKA => ?_)
                go_simp
                refine (hR2.out _ hP.out.bel).mono ?_
                rintro e w_ ⟨rfl, rfl⟩
                refine hKA _ _ ?_
                clear hKA KA
                try simp only [Act.put, List.getElem_toArray, List.getElem_cons_succ, List.getElem_cons_zero, List.setIfInBounds_toArray, List.set_cons_succ, List.set_cons_zero]
                refine wpAnyC_one 9 trivial rfl (by kernel_rfl) (wanted_free rfl _) (fun KA hKA => ?_)
                unfold Oper.wp
                rw [exec_build1 24 9 1 16 _ Tryd.underlying24 infoU (by decide) (by decide) _ rfl (.string SR) #[Value.string SR] rfl rfl rfl]
                refine hKA _ (World.alloc _ (.cells #[Value.string SR] 9)) ?_
                clear hKA KA
                obtain ⟨bz, hbz⟩ : ∃ n, n = w_.heap.size := ⟨_, rfl⟩
                obtain ⟨W4, hW4⟩ : ∃ W, W = w_.alloc (.cells #[Value.string SR] 9) := ⟨_, rfl⟩
                have Oz : Kpt (Bx W4 bz #[Value.string SR]) := ⟨by rw [hW4, hbz]; exact bx_new _ _ _⟩
                have h4 : Below w_.heap.size w_ W4 := by rw [hW4]; exact (Below.refl _ _).alloc (Nat.le_refl _) _
                rw [← hW4, ← hbz]
                clear hW4 hbz
                replace hP := Kpt.mk (hP.out.below h4)
                replace cl0 := ls_c0 hP.out.bx
                replace cl1 := ls_c1 hP.out.bx
                replace OL := Kpt.mk (OL.out.below h4 OL.out.lt)
                replace OS := Kpt.mk (OS.out.below h4 OS.out.lt)
                replace hF := Kpt.mk (hF.out.below h4 hF.out.1)
                clear h4
                try simp only [Act.put, List.getElem_toArray, List.getElem_cons_succ, List.getElem_cons_zero, List.setIfInBounds_toArray, List.set_cons_succ, List.set_cons_zero]
                refine wpAnyC_one 10 trivial rfl (by kernel_rfl) (wanted_free rfl _) (fun KA hKA => ?_)
                refine wp_append_row 24 9 1 16 _ Tryd.underlying24 infoU rfl (by decide) (by decide) _ _ rfl (.slice ua un uc) (.slice (some ⟨bz, 0, none⟩) 1 1) us [#[Value.string SR]] rfl rfl hP.out.ur (Oz.out.one ⟨rfl, by simp [Value.oneCell']⟩) (by simp) (by simp only [List.length_singleton]; omega) ?_
                intro v5 W5 ho_ hg_ hor_
                obtain ⟨va, vc, hv_, _⟩ := ho_.shape
                obtain ⟨vn, hvn⟩ : ∃ n, n = (us ++ [#[Value.string SR]]).length := ⟨_, rfl⟩
                rw [← hvn] at hv_
                subst hv_
                clear hvn
                have hnr2 : Kpt (∀ g, (Value.slice va vn vc).ownBlock = some g → br < g) := ⟨fun g hg => by
                  rcases hor_ with e | e
                  · exact hnr.out g (e ▸ hg)
                  · rw [e] at hg; injection hg with hg; have := hF.out.lt; omega⟩
                replace OL := Kpt.mk (OL.out.grown hg_ (fun e => by have := hP.out.nu _ e; omega))
                replace OS := Kpt.mk (OS.out.grown hg_ (fun e => by have := hP.out.nu _ e; omega))
                replace hF := Kpt.mk (hF.out.grown hg_ (fun e => by have := hnr.out _ e; omega))
                replace hP := Kpt.mk (hP.out.appU ho_ hg_ hor_)
                replace cl0 := ls_c0 hP.out.bx
                replace cl1 := ls_c1 hP.out.bx
                clear ho_ hg_ hor_ Oz
                refine hKA _ _ ?_
                clear hKA KA
                try simp only [Act.put, List.getElem_toArray, List.getElem_cons_succ, List.getElem_cons_zero, List.setIfInBounds_toArray, List.set_cons_succ, List.set_cons_zero]
                refine wpAnyC_take 11 (.pointer (some ⟨bl, 0, none⟩)) rfl (by kernel_rfl) (by kernel_rfl) (by kernel_rfl) (fun _ _ _ h => h) (wanted_free rfl _) (fun W hW => by go_simp) ?_
                try simp only [Act.put, List.getElem_toArray, List.getElem_cons_succ, List.getElem_cons_zero, List.setIfInBounds_toArray, List.set_cons_succ, List.set_cons_zero]
                refine wpAnyC_one 12 trivial rfl (by kernel_rfl) (wanted_free rfl _) (fun KA hKA => ?_)
                refine wp_store_cell (ty := 24) rfl (b := bl) (j := 0) (cs := lsV (.slice ua un uc) (.slice none 0 0)) (v := .slice va vn vc) rfl rfl rfl hP.out.bx (by simp [lsV]) one24 ?_
                intro W6 hX_ hg_
                replace OL := Kpt.mk (OL.out.grown hg_ (fun e => by injection e with e; omega))
                replace OS := Kpt.mk (OS.out.grown hg_ (fun e => by injection e with e; omega))
                replace hF := Kpt.mk (hF.out.grown hg_ (fun e => by injection e with e; omega))
                replace hP := Kpt.mk (hP.out.st (d0 := .slice va vn vc) (d1 := .slice none 0 0) hX_ hg_)
                clear hX_ hg_ cl0 cl1
                refine hKA _ _ ?_
                clear hKA KA
                try simp only [Act.put, List.getElem_toArray, List.getElem_cons_succ, List.getElem_cons_zero, List.setIfInBounds_toArray, List.set_cons_succ, List.set_cons_zero]
                refine wpAnyC_done trivial (by kernel_rfl) ?_
                go_wp2_with fail
                go_roundw
                case rel => exact ⟨k + 1, A2, vn, vc, va, us ++ [#[Value.string SR]], by omega, rfl, ⟨by have := eA.out; omega⟩, hus2, husl2.out, hP, hnr2, hF, OL, OS, hno2⟩
                case measure => simp [intOf]; omega
              · go_simp
                refine (hR2.out _ hP.out.bel).mono ?_
                rintro e w_ ⟨rfl, rfl⟩
                refine hKA _ _ ?_
                clear hKA KA
                try simp only [Act.put, List.getElem_toArray, List.getElem_cons_succ, List.getElem_cons_zero, List.setIfInBounds_toArray, List.set_cons_succ, List.set_cons_zero]
                refine wpAnyC_two 1 9 trivial rfl rfl (by kernel_rfl) (wanted_free rfl _) (wanted_free rfl _) (fun KA hKA => ?_) (fun KA hKA => ?_)
                · go_simp
                  refine hKA _ _ ?_
                  clear hKA KA
                  try simp only [Act.put, List.getElem_toArray, List.getElem_cons_succ, List.getElem_cons_zero, List.setIfInBounds_toArray, List.set_cons_succ, List.set_cons_zero]
                  refine wpAnyC_one 9 trivial rfl (by kernel_rfl) (wanted_free rfl _) (fun KA hKA => ?_)
                  unfold Oper.wp
                  rw [exec_build1 24 9 1 16 _ Tryd.underlying24 infoU (by decide) (by decide) _ rfl (.string SR) #[Value.string SR] rfl rfl rfl]
                  refine hKA _ (World.alloc _ (.cells #[Value.string SR] 9)) ?_
                  clear hKA KA
                  obtain ⟨bz, hbz⟩ : ∃ n, n = w_.heap.size := ⟨_, rfl⟩
                  obtain ⟨W4, hW4⟩ : ∃ W, W = w_.alloc (.cells #[Value.string SR] 9) := ⟨_, rfl⟩
                  have Oz : Kpt (Bx W4 bz #[Value.string SR]) := ⟨by rw [hW4, hbz]; exact bx_new _ _ _⟩
                  have h4 : Below w_.heap.size w_ W4 := by rw [hW4]; exact (Below.refl _ _).alloc (Nat.le_refl _) _
                  rw [← hW4, ← hbz]
                  clear hW4 hbz
                  replace hP := Kpt.mk (hP.out.below h4)
                  replace cl0 := ls_c0 hP.out.bx
                  replace cl1 := ls_c1 hP.out.bx
                  replace OL := Kpt.mk (OL.out.below h4 OL.out.lt)
                  replace OS := Kpt.mk (OS.out.below h4 OS.out.lt)
                  replace hF := Kpt.mk (hF.out.below h4 hF.out.1)
                  clear h4
                  try simp only [Act.put, List.getElem_toArray, List.getElem_cons_succ, List.getElem_cons_zero, List.setIfInBounds_toArray, List.set_cons_succ, List.set_cons_zero]
                  refine wpAnyC_one 10 trivial rfl (by kernel_rfl) (wanted_free rfl _) (fun KA hKA => ?_)
                  refine wp_append_row 24 9 1 16 _ Tryd.underlying24 infoU rfl (by decide) (by decide) _ _ rfl (.slice ua un uc) (.slice (some ⟨bz, 0, none⟩) 1 1) us [#[Value.string SR]] rfl rfl hP.out.ur (Oz.out.one ⟨rfl, by simp [Value.oneCell']⟩) (by simp) (by simp only [List.length_singleton]; omega) ?_
                  intro v5 W5 ho_ hg_ hor_
                  obtain ⟨va, vc, hv_, _⟩ := ho_.shape
                  obtain ⟨vn, hvn⟩ : ∃ n, n = (us ++ [#[Value.string SR]]).length := ⟨_, rfl⟩
                  rw [← hvn] at hv_
                  subst hv_
                  clear hvn
                  have hnr2 : Kpt (∀ g, (Value.slice va vn vc).ownBlock = some g → br < g) := ⟨fun g hg => by
                    rcases hor_ with e | e
                    · exact hnr.out g (e ▸ hg)
                    · rw [e] at hg; injection hg with hg; have := hF.out.lt; omega⟩
                  replace OL := Kpt.mk (OL.out.grown hg_ (fun e => by have := hP.out.nu _ e; omega))
                  replace OS := Kpt.mk (OS.out.grown hg_ (fun e => by have := hP.out.nu _ e; omega))
                  replace hF := Kpt.mk (hF.out.grown hg_ (fun e => by have := hnr.out _ e; omega))
                  replace hP := Kpt.mk (hP.out.appU ho_ hg_ hor_)
                  replace cl0 := ls_c0 hP.out.bx
                  replace cl1 := ls_c1 hP.out.bx
                  clear ho_ hg_ hor_ Oz
                  refine hKA _ _ ?_
                  clear hKA KA
                  try simp only [Act.put, List.getElem_toArray, List.getElem_cons_succ, List.getElem_cons_zero, List.setIfInBounds_toArray, List.set_cons_succ, List.set_cons_zero]
                  refine wpAnyC_take 11 (.pointer (some ⟨bl, 0, none⟩)) rfl (by kernel_rfl) (by kernel_rfl) (by kernel_rfl) (fun _ _ _ h => h) (wanted_free rfl _) (fun W hW => by go_simp) ?_
                  try simp only [Act.put, List.getElem_toArray, List.getElem_cons_succ, List.getElem_cons_zero, List.setIfInBounds_toArray, List.set_cons_succ, List.set_cons_zero]
                  refine wpAnyC_one 12 trivial rfl (by kernel_rfl) (wanted_free rfl _) (fun KA hKA => ?_)
                  refine wp_store_cell (ty := 24) rfl (b := bl) (j := 0) (cs := lsV (.slice ua un uc) (.slice none 0 0)) (v := .slice va vn vc) rfl rfl rfl hP.out.bx (by simp [lsV]) one24 ?_
                  intro W6 hX_ hg_
                  replace OL := Kpt.mk (OL.out.grown hg_ (fun e => by injection e with e; omega))
                  replace OS := Kpt.mk (OS.out.grown hg_ (fun e => by injection e with e; omega))
                  replace hF := Kpt.mk (hF.out.grown hg_ (fun e => by injection e with e; omega))
                  replace hP := Kpt.mk (hP.out.st (d0 := .slice va vn vc) (d1 := .slice none 0 0) hX_ hg_)
                  clear hX_ hg_ cl0 cl1
                  refine hKA _ _ ?_
                  clear hKA KA
                  try simp only [Act.put, List.getElem_toArray, List.getElem_cons_succ, List.getElem_cons_zero, List.setIfInBounds_toArray, List.set_cons_succ, List.set_cons_zero]
                  refine wpAnyC_done trivial (by kernel_rfl) ?_
                  go_wp2_with fail
                  go_roundw
                  case rel => exact ⟨k + 1, A2, vn, vc, va, us ++ [#[Value.string SR]], by omega, rfl, ⟨by have := eA.out; omega⟩, hus2, husl2.out, hP, hnr2, hF, OL, OS, hno2⟩
                  case measure => simp [intOf]; omega
                · unfold Oper.wp
                  rw [exec_build1 24 9 1 16 _ Tryd.underlying24 infoU (by decide) (by decide) _ rfl (.string SR) #[Value.string SR] rfl rfl rfl]
                  refine hKA _ (World.alloc _ (.cells #[Value.string SR] 9)) ?_
                  clear hKA KA
                  obtain ⟨bz, hbz⟩ : ∃ n, n = w_.heap.size := ⟨_, rfl⟩
                  obtain ⟨W4, hW4⟩ : ∃ W, W = w_.alloc (.cells #[Value.string SR] 9) := ⟨_, rfl⟩
                  have Oz : Kpt (Bx W4 bz #[Value.string SR]) := ⟨by rw [hW4, hbz]; exact bx_new _ _ _⟩
                  have h4 : Below w_.heap.size w_ W4 := by rw [hW4]; exact (Below.refl _ _).alloc (Nat.le_refl _) _
                  rw [← hW4, ← hbz]
                  clear hW4 hbz
                  replace hP := Kpt.mk (hP.out.below h4)
                  replace cl0 := ls_c0 hP.out.bx
                  replace cl1 := ls_c1 hP.out.bx
                  replace OL := Kpt.mk (OL.out.below h4 OL.out.lt)
                  replace OS := Kpt.mk (OS.out.below h4 OS.out.lt)
                  replace hF := Kpt.mk (hF.out.below h4 hF.out.1)
                  clear h4
                  try simp only [Act.put, List.getElem_toArray, List.getElem_cons_succ, List.getElem_cons_zero, List.setIfInBounds_toArray, List.set_cons_succ, List.set_cons_zero]
                  refine wpAnyC_one 1 trivial rfl (by kernel_rfl) (wanted_free rfl _) (fun KA hKA => ?_)
                  go_simp
                  refine hKA _ _ ?_
                  clear hKA KA
                  try simp only [Act.put, List.getElem_toArray, List.getElem_cons_succ, List.getElem_cons_zero, List.setIfInBounds_toArray, List.set_cons_succ, List.set_cons_zero]
                  refine wpAnyC_one 10 trivial rfl (by kernel_rfl) (wanted_free rfl _) (fun KA hKA => ?_)
                  refine wp_append_row 24 9 1 16 _ Tryd.underlying24 infoU rfl (by decide) (by decide) _ _ rfl (.slice ua un uc) (.slice (some ⟨bz, 0, none⟩) 1 1) us [#[Value.string SR]] rfl rfl hP.out.ur (Oz.out.one ⟨rfl, by simp [Value.oneCell']⟩) (by simp) (by simp only [List.length_singleton]; omega) ?_
                  intro v5 W5 ho_ hg_ hor_
                  obtain ⟨va, vc, hv_, _⟩ := ho_.shape
                  obtain ⟨vn, hvn⟩ : ∃ n, n = (us ++ [#[Value.string SR]]).length := ⟨_, rfl⟩
                  rw [← hvn] at hv_
                  subst hv_
                  clear hvn
                  have hnr2 : Kpt (∀ g, (Value.slice va vn vc).ownBlock = some g → br < g) := ⟨fun g hg => by
                    rcases hor_ with e | e
                    · exact hnr.out g (e ▸ hg)
                    · rw [e] at hg; injection hg with hg; have := hF.out.lt; omega⟩
                  replace OL := Kpt.mk (OL.out.grown hg_ (fun e => by have := hP.out.nu _ e; omega))
                  replace OS := Kpt.mk (OS.out.grown hg_ (fun e => by have := hP.out.nu _ e; omega))
                  replace hF := Kpt.mk (hF.out.grown hg_ (fun e => by have := hnr.out _ e; omega))
                  replace hP := Kpt.mk (hP.out.appU ho_ hg_ hor_)
                  replace cl0 := ls_c0 hP.out.bx
                  replace cl1 := ls_c1 hP.out.bx
                  clear ho_ hg_ hor_ Oz
                  refine hKA _ _ ?_
                  clear hKA KA
                  try simp only [Act.put, List.getElem_toArray, List.getElem_cons_succ, List.getElem_cons_zero, List.setIfInBounds_toArray, List.set_cons_succ, List.set_cons_zero]
                  refine wpAnyC_take 11 (.pointer (some ⟨bl, 0, none⟩)) rfl (by kernel_rfl) (by kernel_rfl) (by kernel_rfl) (fun _ _ _ h => h) (wanted_free rfl _) (fun W hW => by go_simp) ?_
                  try simp only [Act.put, List.getElem_toArray, List.getElem_cons_succ, List.getElem_cons_zero, List.setIfInBounds_toArray, List.set_cons_succ, List.set_cons_zero]
                  refine wpAnyC_one 12 trivial rfl (by kernel_rfl) (wanted_free rfl _) (fun KA hKA => ?_)
                  refine wp_store_cell (ty := 24) rfl (b := bl) (j := 0) (cs := lsV (.slice ua un uc) (.slice none 0 0)) (v := .slice va vn vc) rfl rfl rfl hP.out.bx (by simp [lsV]) one24 ?_
                  intro W6 hX_ hg_
                  replace OL := Kpt.mk (OL.out.grown hg_ (fun e => by injection e with e; omega))
                  replace OS := Kpt.mk (OS.out.grown hg_ (fun e => by injection e with e; omega))
                  replace hF := Kpt.mk (hF.out.grown hg_ (fun e => by injection e with e; omega))
                  replace hP := Kpt.mk (hP.out.st (d0 := .slice va vn vc) (d1 := .slice none 0 0) hX_ hg_)
                  clear hX_ hg_ cl0 cl1
                  refine hKA _ _ ?_
                  clear hKA KA
                  try simp only [Act.put, List.getElem_toArray, List.getElem_cons_succ, List.getElem_cons_zero, List.setIfInBounds_toArray, List.set_cons_succ, List.set_cons_zero]
                  refine wpAnyC_done trivial (by kernel_rfl) ?_
                  go_wp2_with fail
                  go_roundw
                  case rel => exact ⟨k + 1, A2, vn, vc, va, us ++ [#[Value.string SR]], by omega, rfl, ⟨by have := eA.out; omega⟩, hus2, husl2.out, hP, hnr2, hF, OL, OS, hno2⟩
                  case measure => simp [intOf]; omega
            · have h16b : (n29 == 16) = false := beq_eq_false_iff_ne.mpr h16
              have hXf : Kpt (parseX zs = ⟨[], [], paS k29, false⟩) := ⟨hXk.out k29 (by rw [h8, if_pos h16])⟩
              clear hUn hXu hXs hXo hNb hXk hno hus h8 h16 hF
              go_wp2_with (first
                | (have hm := m3; refine wpList_store_bx rfl 31 _ _ rfl bS zeroS (paS ((k29 : Int))).vals rfl rfl OS.out rfl infoS (Sn.vals_one _) rfl ?_; intro w4 hX_ hg_; replace hP := Kpt.mk (hP.out.oth hg_ lS.out (by omega)); replace OL := Kpt.mk (OL.out.grown hg_ (by simp; omega)); replace OS := Kpt.mk hX_; clear hX_ hg_; clear hm m3; have m4 : Kpt True := ⟨trivial⟩)
                | (have hm := m2; refine wpList_store_bx rfl 36 _ _ rfl bL zeroL zeroL rfl rfl OL.out rfl infoRL zeroL_one rfl ?_; intro w3 hX_ hg_; replace hP := Kpt.mk (hP.out.oth hg_ lL.out (by omega)); replace OS := Kpt.mk (OS.out.grown hg_ (by simp; omega)); replace OL := Kpt.mk hX_; clear hX_ hg_; clear hm m2; have m3 : Kpt True := ⟨trivial⟩)
                | (go_at_call 19; have hm := m1; go_must (refine (hSf.out _ _).mono ?_; rintro e w2 ⟨rfl, h_⟩; replace hP := Kpt.mk (hP.out.below h_); replace cl0 := ls_c0 hP.out.bx; replace cl1 := ls_c1 hP.out.bx; replace OL := Kpt.mk (OL.out.below h_ OL.out.lt); replace OS := Kpt.mk (OS.out.below h_ OS.out.lt); clear h_; clear hm m1; have m2 : Kpt True := ⟨trivial⟩))
                | (go_at_call 18; go_must (refine (N29.out _ hP.out.bel).mono ?_; rintro e w_ ⟨rfl, rfl⟩; have m1 : Kpt True := ⟨trivial⟩))
                | fail)
              refine bodyPost_ret (v := .tuple #[.agg zeroL, .agg (paS ((k29 : Int))).vals, .bool false]) (by simp [results, Tryd.results8, asAddr, Act.put, resS_run OS.out, resRL_run (u := .slice none 0 0) (s := .slice none 0 0) OL.out, zL_eq]) rfl ⟨.slice none 0 0, .slice none 0 0, by rw [hXf.out]; rfl, by rw [hXf.out]; exact Prd.none hP.out.bel _ _⟩
          · have hx0b : (x == 0) = false := beq_eq_false_iff_ne.mpr hx0
            have hXf : Kpt (parseX zs = ⟨[], [], paS k28, false⟩) := ⟨hXk.out k28 (by rw [h8, if_pos hx0])⟩
            clear hUn hXu hXs hXo hNb hXk hno hus h8 hx0 hF
            go_wp2_with (first
              | (have hm := m2; refine wpList_store_bx rfl 31 _ _ rfl bS zeroS (paS ((k28 : Int))).vals rfl rfl OS.out rfl infoS (Sn.vals_one _) rfl ?_; intro w3 hX_ hg_; replace hP := Kpt.mk (hP.out.oth hg_ lS.out (by omega)); replace OL := Kpt.mk (OL.out.grown hg_ (by simp; omega)); replace OS := Kpt.mk hX_; clear hX_ hg_; clear hm m2; have m3 : Kpt True := ⟨trivial⟩)
              | (have hm := m1; refine wpList_store_bx rfl 36 _ _ rfl bL zeroL zeroL rfl rfl OL.out rfl infoRL zeroL_one rfl ?_; intro w2 hX_ hg_; replace hP := Kpt.mk (hP.out.oth hg_ lL.out (by omega)); replace OS := Kpt.mk (OS.out.grown hg_ (by simp; omega)); replace OL := Kpt.mk hX_; clear hX_ hg_; clear hm m1; have m2 : Kpt True := ⟨trivial⟩)
              | (go_at_call 19; go_must (refine (hSf.out _ _).mono ?_; rintro e w1 ⟨rfl, h_⟩; replace hP := Kpt.mk (hP.out.below h_); replace cl0 := ls_c0 hP.out.bx; replace cl1 := ls_c1 hP.out.bx; replace OL := Kpt.mk (OL.out.below h_ OL.out.lt); replace OS := Kpt.mk (OS.out.below h_ OS.out.lt); clear h_; have m1 : Kpt True := ⟨trivial⟩))
              | fail)
            refine bodyPost_ret (v := .tuple #[.agg zeroL, .agg (paS ((k28 : Int))).vals, .bool false]) (by simp [results, Tryd.results8, asAddr, Act.put, resS_run OS.out, resRL_run (u := .slice none 0 0) (s := .slice none 0 0) OL.out, zL_eq]) rfl ⟨.slice none 0 0, .slice none 0 0, by rw [hXf.out]; rfl, by rw [hXf.out]; exact Prd.none hP.out.bel _ _⟩
    · obtain rfl : k = U := by omega
      clear hkU hk hUn hXu hF hnr
      have hAM : A = Mm := by have := eA.out; have := eM.out; omega
      subst hAM
      have hul := hP.out.ulen
      have hun : Kpt (un = k) := ⟨by omega⟩
      have hunm : un ≤ 8 := by omega
      clear hul eA hA2
      go_wp2
      go_loopw [12] (fun t12 wr => ∃ (q B sn sc : Nat) (sa : Option Addr) (ss : List (Array Value)), q ≤ G ∧ t12 = .int .i64 B ∧ Kpt (B = 16 + 32 * k + 28 * q) ∧ Kpt (ss = (segsX zs (16 + 32 * k) q).map Sg.vals) ∧ ss.length = q ∧ Kpt (Pt 61 w wr bl (.slice ua un uc) (.slice sa sn sc) (.slice ua un uc) (.slice sa sn sc) us ss) ∧ Kpt (Bx wr bL zeroL) ∧ Kpt (Bx wr bS zeroS) ∧ Kpt (∀ j, j < q → segF zs k (16 + 32 * k + 28 * j) = none)) (fun t12 _ => 1000 - (intOf t12).toNat)
      case atStart => exact ⟨0, A, 0, 0, none, [], by omega, rfl, ⟨by have := eM.out; omega⟩, ⟨rfl⟩, rfl, hP, OL, OS, ⟨fun j hj => by omega⟩⟩
      case round =>
        clear hP OL OS cl0 cl1
        obtain ⟨q, B, sn, sc, sa, ss, hq, rfl, eB, hss, hssl, hP, OL, OS, hns⟩ := hrel
        have cl0 := ls_c0 hP.out.bx
        have cl1 := ls_c1 hP.out.bx
        obtain ⟨B2, hB2⟩ : ∃ n : Nat, (B : Int) + 28 = n := ⟨B + 28, by omega⟩
        by_cases hqG : q < G
        · have hBl : B + 28 ≤ len := by have := eB.out; have := hlen.out; omega
          have hBlI : (B : Int) < len := by omega
          have hBb : B ≤ 600 := by have := eB.out; omega
          have hXk : Kpt (∀ f, segF zs k B = some f → parseX zs = ⟨[], [], paS f, false⟩) := ⟨fun f hf => hXs.out hno.out q f hqG hns.out (by rw [← eB.out]; exact hf)⟩
          have hsg : Kpt (sg zs B = ⟨num zs (B + 4) 2, num zs (B + 6) 2, num zs (B + 10) 2, num zs (B + 12) 8, num zs (B + 20) 8⟩) := ⟨rfl⟩
          have hsf : Kpt (segF zs k B = if num zs B 4 ≠ 33554456 then some B else if num zs (B + 8) 2 ≠ 0 then some (B + 8) else if ¬ num zs (B + 4) 2 < k then some (B + 4) else if ¬ num zs (B + 6) 2 < k then some (B + 6) else if 256 < num zs (B + 10) 2 then some (B + 10) else none) := ⟨rfl⟩
          obtain ⟨k4, hk4⟩ : ∃ n : Nat, (B : Int) + 4 = n := ⟨B + 4, by omega⟩
          have e4 : B + 4 = k4 := by omega
          obtain ⟨k6, hk6⟩ : ∃ n : Nat, (B : Int) + 6 = n := ⟨B + 6, by omega⟩
          have e6 : B + 6 = k6 := by omega
          obtain ⟨k8, hk8⟩ : ∃ n : Nat, (B : Int) + 8 = n := ⟨B + 8, by omega⟩
          have e8 : B + 8 = k8 := by omega
          obtain ⟨k10, hk10⟩ : ∃ n : Nat, (B : Int) + 10 = n := ⟨B + 10, by omega⟩
          have e10 : B + 10 = k10 := by omega
          obtain ⟨k12, hk12⟩ : ∃ n : Nat, (B : Int) + 12 = n := ⟨B + 12, by omega⟩
          have e12 : B + 12 = k12 := by omega
          obtain ⟨k20, hk20⟩ : ∃ n : Nat, (B : Int) + 20 = n := ⟨B + 20, by omega⟩
          have e20 : B + 20 = k20 := by omega
          rw [e4, e6, e10, e12, e20] at hsg
          rw [e4, e6, e8, e10] at hsf
          have N0 : Kpt (∀ W, Below w.heap.size w W → Calls Tryd.prog 18 #[.slice (some ⟨b, off, none⟩) len cap, .int .i64 B, .int .i64 4] W fun e w' => e = .returned (.int .u64 (num zs B 4)) ∧ w' = W) := ⟨fun W hb => hNb.out B 4 (by decide) (by decide) (by omega) W hb⟩
          have d0 := hN4.out B
          obtain ⟨y0, hy0⟩ : ∃ x, x = num zs B 4 := ⟨_, rfl⟩
          rw [← hy0] at N0 d0 hsf
          have N4 : Kpt (∀ W, Below w.heap.size w W → Calls Tryd.prog 18 #[.slice (some ⟨b, off, none⟩) len cap, .int .i64 k4, .int .i64 2] W fun e w' => e = .returned (.int .u64 (num zs k4 2)) ∧ w' = W) := ⟨fun W hb => hNb.out k4 2 (by decide) (by decide) (by omega) W hb⟩
          have d4 := hN2.out k4
          obtain ⟨y4, hy4⟩ : ∃ x, x = num zs k4 2 := ⟨_, rfl⟩
          rw [← hy4] at N4 d4 hsg hsf
          have N6 : Kpt (∀ W, Below w.heap.size w W → Calls Tryd.prog 18 #[.slice (some ⟨b, off, none⟩) len cap, .int .i64 k6, .int .i64 2] W fun e w' => e = .returned (.int .u64 (num zs k6 2)) ∧ w' = W) := ⟨fun W hb => hNb.out k6 2 (by decide) (by decide) (by omega) W hb⟩
          have d6 := hN2.out k6
          obtain ⟨y6, hy6⟩ : ∃ x, x = num zs k6 2 := ⟨_, rfl⟩
          rw [← hy6] at N6 d6 hsg hsf
          have N8 : Kpt (∀ W, Below w.heap.size w W → Calls Tryd.prog 18 #[.slice (some ⟨b, off, none⟩) len cap, .int .i64 k8, .int .i64 2] W fun e w' => e = .returned (.int .u64 (num zs k8 2)) ∧ w' = W) := ⟨fun W hb => hNb.out k8 2 (by decide) (by decide) (by omega) W hb⟩
          have d8 := hN2.out k8
          obtain ⟨y8, hy8⟩ : ∃ x, x = num zs k8 2 := ⟨_, rfl⟩
          rw [← hy8] at N8 d8 hsf
          have N10 : Kpt (∀ W, Below w.heap.size w W → Calls Tryd.prog 18 #[.slice (some ⟨b, off, none⟩) len cap, .int .i64 k10, .int .i64 2] W fun e w' => e = .returned (.int .u64 (num zs k10 2)) ∧ w' = W) := ⟨fun W hb => hNb.out k10 2 (by decide) (by decide) (by omega) W hb⟩
          have d10 := hN2.out k10
          obtain ⟨y10, hy10⟩ : ∃ x, x = num zs k10 2 := ⟨_, rfl⟩
          rw [← hy10] at N10 d10 hsg hsf
          have N12 : Kpt (∀ W, Below w.heap.size w W → Calls Tryd.prog 18 #[.slice (some ⟨b, off, none⟩) len cap, .int .i64 k12, .int .i64 8] W fun e w' => e = .returned (.int .u64 (num zs k12 8)) ∧ w' = W) := ⟨fun W hb => hNb.out k12 8 (by decide) (by decide) (by omega) W hb⟩
          have d12 := hN8.out k12
          obtain ⟨y12, hy12⟩ : ∃ x, x = num zs k12 8 := ⟨_, rfl⟩
          rw [← hy12] at N12 d12 hsg
          have N20 : Kpt (∀ W, Below w.heap.size w W → Calls Tryd.prog 18 #[.slice (some ⟨b, off, none⟩) len cap, .int .i64 k20, .int .i64 8] W fun e w' => e = .returned (.int .u64 (num zs k20 8)) ∧ w' = W) := ⟨fun W hb => hNb.out k20 8 (by decide) (by decide) (by omega) W hb⟩
          have d20 := hN8.out k20
          obtain ⟨y20, hy20⟩ : ∃ x, x = num zs k20 8 := ⟨_, rfl⟩
          rw [← hy20] at N20 d20 hsg
          have hw4 : IntKind.i64.wrap y4 = y4 := by rw [IntKind.wrap_i64]; omega
          have hw6 : IntKind.i64.wrap y6 = y6 := by rw [IntKind.wrap_i64]; omega
          have hw10 : IntKind.i64.wrap y10 = y10 := by rw [IntKind.wrap_i64]; omega
          clear hy0 hy4 hy6 hy8 hy10 hy12 hy20 e4 e6 e8 e10 e12 e20
          by_cases h0 : y0 ≠ 33554456
          · have hXf : Kpt (parseX zs = ⟨[], [], paS B, false⟩) := ⟨hXk.out B (by rw [hsf.out]; rw [if_pos h0])⟩
            have hqb : (y0 == 33554456) = false := beq_eq_false_iff_ne.mpr h0
            clear h0
            clear hNb hXk hXs hXo hsf hsg hno hns hus hss
            have eB0 : (B : Int) + 0 = B := by omega
            go_wp2_with (first
              | (have hm := m10; refine wpList_store_bx rfl 31 _ _ rfl bS zeroS (paS ((B : Int))).vals rfl rfl OS.out rfl infoS (Sn.vals_one _) rfl ?_; intro w11 hX_ hg_; replace hP := Kpt.mk (hP.out.oth hg_ lS.out (by omega)); replace OL := Kpt.mk (OL.out.grown hg_ (by simp; omega)); replace OS := Kpt.mk hX_; clear hX_ hg_; clear hm m10; have m11 : Kpt True := ⟨trivial⟩)
              | (have hm := m9; refine wpList_store_bx rfl 36 _ _ rfl bL zeroL zeroL rfl rfl OL.out rfl infoRL zeroL_one rfl ?_; intro w10 hX_ hg_; replace hP := Kpt.mk (hP.out.oth hg_ lL.out (by omega)); replace OS := Kpt.mk (OS.out.grown hg_ (by simp; omega)); replace OL := Kpt.mk hX_; clear hX_ hg_; clear hm m9; have m10 : Kpt True := ⟨trivial⟩)
              | (go_at_call 19; have hm := m8; go_must (refine (hSf.out _ _).mono ?_; rintro e w9 ⟨rfl, h_⟩; replace hP := Kpt.mk (hP.out.below h_); replace cl0 := ls_c0 hP.out.bx; replace cl1 := ls_c1 hP.out.bx; replace OL := Kpt.mk (OL.out.below h_ OL.out.lt); replace OS := Kpt.mk (OS.out.below h_ OS.out.lt); clear h_; clear hm m8; have m9 : Kpt True := ⟨trivial⟩))
              | (go_at_call 18; have hm := m7; go_must (refine (N0.out _ hP.out.bel).mono ?_; rintro e w_ ⟨rfl, rfl⟩; clear hm m7; have m8 : Kpt True := ⟨trivial⟩))
              | (have hm := m6; refine wpList_store_bx rfl 61 _ _ rfl bx zeroG (Sg.vals ⟨y4, y6, y10, y12, y20⟩) rfl rfl Ox.out rfl infoRG (Sg.vals_one _) rfl ?_; intro w7 hX_ hg_; replace hB := Kpt.mk (hB.out.trans (bel_own hg_ hB.out.size lx.out)); replace Ox := Kpt.mk hX_; clear hX_ hg_; replace hP := Kpt.mk (hP.out.below hB.out); replace cl0 := ls_c0 hP.out.bx; replace cl1 := ls_c1 hP.out.bx; replace OL := Kpt.mk (OL.out.below hB.out OL.out.lt); replace OS := Kpt.mk (OS.out.below hB.out OS.out.lt); clear hB; clear hm m6; have m7 : Kpt True := ⟨trivial⟩; have cx0 := sg_c0 Ox.out; have cx1 := sg_c1 Ox.out; have cx2 := sg_c2 Ox.out)
              | (have hm := m5; refine wpList_var rfl 61 rfl zeroG zeroRGi ?_; intro bx w6 hl_ hX_ h_; have lx := Kpt.mk hl_; have hB := Kpt.mk h_; have q_L_x : bL < bx := Nat.lt_of_lt_of_le OL.out.lt hl_; have q_S_x : bS < bx := Nat.lt_of_lt_of_le OS.out.lt hl_; have Ox := Kpt.mk hX_; clear hl_ hX_ h_; clear hm m5; have m6 : Kpt True := ⟨trivial⟩)
              | (go_at_call 18; have hm := m4; go_must (refine (N20.out _ hP.out.bel).mono ?_; rintro e w_ ⟨rfl, rfl⟩; clear hm m4; have m5 : Kpt True := ⟨trivial⟩))
              | (go_at_call 18; have hm := m3; go_must (refine (N12.out _ hP.out.bel).mono ?_; rintro e w_ ⟨rfl, rfl⟩; clear hm m3; have m4 : Kpt True := ⟨trivial⟩))
              | (go_at_call 18; have hm := m2; go_must (refine (N10.out _ hP.out.bel).mono ?_; rintro e w_ ⟨rfl, rfl⟩; clear hm m2; have m3 : Kpt True := ⟨trivial⟩))
              | (go_at_call 18; have hm := m1; go_must (refine (N6.out _ hP.out.bel).mono ?_; rintro e w_ ⟨rfl, rfl⟩; clear hm m1; have m2 : Kpt True := ⟨trivial⟩))
              | (go_at_call 18; go_must (refine (N4.out _ hP.out.bel).mono ?_; rintro e w_ ⟨rfl, rfl⟩; have m1 : Kpt True := ⟨trivial⟩))
              | fail)
            refine bodyPost_ret (v := .tuple #[.agg zeroL, .agg (paS ((B : Int))).vals, .bool false]) (by simp [results, Tryd.results8, asAddr, Act.put, resS_run OS.out, resRL_run (u := .slice none 0 0) (s := .slice none 0 0) OL.out, zL_eq]) rfl ⟨.slice none 0 0, .slice none 0 0, by rw [hXf.out]; rfl, by rw [hXf.out]; exact Prd.none hP.out.bel _ _⟩
          by_cases h1 : y8 ≠ 0
          · have hXf : Kpt (parseX zs = ⟨[], [], paS k8, false⟩) := ⟨hXk.out k8 (by rw [hsf.out]; rw [if_neg h0, if_pos h1])⟩
            have hq0 : y0 = 33554456 := Decidable.not_not.1 h0
            subst hq0
            have hqb : (y8 == 0) = false := beq_eq_false_iff_ne.mpr h1
            clear h0 h1
            clear hNb hXk hXs hXo hsf hsg hno hns hus hss
            go_wp2_with (first
              | (have hm := m11; refine wpList_store_bx rfl 31 _ _ rfl bS zeroS (paS ((k8 : Int))).vals rfl rfl OS.out rfl infoS (Sn.vals_one _) rfl ?_; intro w12 hX_ hg_; replace hP := Kpt.mk (hP.out.oth hg_ lS.out (by omega)); replace OL := Kpt.mk (OL.out.grown hg_ (by simp; omega)); replace OS := Kpt.mk hX_; clear hX_ hg_; clear hm m11; have m12 : Kpt True := ⟨trivial⟩)
              | (have hm := m10; refine wpList_store_bx rfl 36 _ _ rfl bL zeroL zeroL rfl rfl OL.out rfl infoRL zeroL_one rfl ?_; intro w11 hX_ hg_; replace hP := Kpt.mk (hP.out.oth hg_ lL.out (by omega)); replace OS := Kpt.mk (OS.out.grown hg_ (by simp; omega)); replace OL := Kpt.mk hX_; clear hX_ hg_; clear hm m10; have m11 : Kpt True := ⟨trivial⟩)
              | (go_at_call 19; have hm := m9; go_must (refine (hSf.out _ _).mono ?_; rintro e w10 ⟨rfl, h_⟩; replace hP := Kpt.mk (hP.out.below h_); replace cl0 := ls_c0 hP.out.bx; replace cl1 := ls_c1 hP.out.bx; replace OL := Kpt.mk (OL.out.below h_ OL.out.lt); replace OS := Kpt.mk (OS.out.below h_ OS.out.lt); clear h_; clear hm m9; have m10 : Kpt True := ⟨trivial⟩))
              | (go_at_call 18; have hm := m8; go_must (refine (N8.out _ hP.out.bel).mono ?_; rintro e w_ ⟨rfl, rfl⟩; clear hm m8; have m9 : Kpt True := ⟨trivial⟩))
              | (go_at_call 18; have hm := m7; go_must (refine (N0.out _ hP.out.bel).mono ?_; rintro e w_ ⟨rfl, rfl⟩; clear hm m7; have m8 : Kpt True := ⟨trivial⟩))
              | (have hm := m6; refine wpList_store_bx rfl 61 _ _ rfl bx zeroG (Sg.vals ⟨y4, y6, y10, y12, y20⟩) rfl rfl Ox.out rfl infoRG (Sg.vals_one _) rfl ?_; intro w7 hX_ hg_; replace hB := Kpt.mk (hB.out.trans (bel_own hg_ hB.out.size lx.out)); replace Ox := Kpt.mk hX_; clear hX_ hg_; replace hP := Kpt.mk (hP.out.below hB.out); replace cl0 := ls_c0 hP.out.bx; replace cl1 := ls_c1 hP.out.bx; replace OL := Kpt.mk (OL.out.below hB.out OL.out.lt); replace OS := Kpt.mk (OS.out.below hB.out OS.out.lt); clear hB; clear hm m6; have m7 : Kpt True := ⟨trivial⟩; have cx0 := sg_c0 Ox.out; have cx1 := sg_c1 Ox.out; have cx2 := sg_c2 Ox.out)
              | (have hm := m5; refine wpList_var rfl 61 rfl zeroG zeroRGi ?_; intro bx w6 hl_ hX_ h_; have lx := Kpt.mk hl_; have hB := Kpt.mk h_; have q_L_x : bL < bx := Nat.lt_of_lt_of_le OL.out.lt hl_; have q_S_x : bS < bx := Nat.lt_of_lt_of_le OS.out.lt hl_; have Ox := Kpt.mk hX_; clear hl_ hX_ h_; clear hm m5; have m6 : Kpt True := ⟨trivial⟩)
              | (go_at_call 18; have hm := m4; go_must (refine (N20.out _ hP.out.bel).mono ?_; rintro e w_ ⟨rfl, rfl⟩; clear hm m4; have m5 : Kpt True := ⟨trivial⟩))
              | (go_at_call 18; have hm := m3; go_must (refine (N12.out _ hP.out.bel).mono ?_; rintro e w_ ⟨rfl, rfl⟩; clear hm m3; have m4 : Kpt True := ⟨trivial⟩))
              | (go_at_call 18; have hm := m2; go_must (refine (N10.out _ hP.out.bel).mono ?_; rintro e w_ ⟨rfl, rfl⟩; clear hm m2; have m3 : Kpt True := ⟨trivial⟩))
              | (go_at_call 18; have hm := m1; go_must (refine (N6.out _ hP.out.bel).mono ?_; rintro e w_ ⟨rfl, rfl⟩; clear hm m1; have m2 : Kpt True := ⟨trivial⟩))
              | (go_at_call 18; go_must (refine (N4.out _ hP.out.bel).mono ?_; rintro e w_ ⟨rfl, rfl⟩; have m1 : Kpt True := ⟨trivial⟩))
              | fail)
            refine bodyPost_ret (v := .tuple #[.agg zeroL, .agg (paS ((k8 : Int))).vals, .bool false]) (by simp [results, Tryd.results8, asAddr, Act.put, resS_run OS.out, resRL_run (u := .slice none 0 0) (s := .slice none 0 0) OL.out, zL_eq]) rfl ⟨.slice none 0 0, .slice none 0 0, by rw [hXf.out]; rfl, by rw [hXf.out]; exact Prd.none hP.out.bel _ _⟩
          by_cases h2 : ¬ y4 < k
          · have hXf : Kpt (parseX zs = ⟨[], [], paS k4, false⟩) := ⟨hXk.out k4 (by rw [hsf.out]; rw [if_neg h0, if_neg h1, if_pos h2])⟩
            have hq0 : y0 = 33554456 := Decidable.not_not.1 h0
            subst hq0
            have hq1 : y8 = 0 := Decidable.not_not.1 h1
            subst hq1
            have hq4 : (un : Int) ≤ y4 := by have := hun.out; omega
            clear h0 h1 h2
            clear hNb hXk hXs hXo hsf hsg hno hns hus hss
            go_wp2_with (first
              | (have hm := m11; refine wpList_store_bx rfl 31 _ _ rfl bS zeroS (paS ((k4 : Int))).vals rfl rfl OS.out rfl infoS (Sn.vals_one _) rfl ?_; intro w12 hX_ hg_; replace hP := Kpt.mk (hP.out.oth hg_ lS.out (by omega)); replace OL := Kpt.mk (OL.out.grown hg_ (by simp; omega)); replace OS := Kpt.mk hX_; clear hX_ hg_; clear hm m11; have m12 : Kpt True := ⟨trivial⟩)
              | (have hm := m10; refine wpList_store_bx rfl 36 _ _ rfl bL zeroL zeroL rfl rfl OL.out rfl infoRL zeroL_one rfl ?_; intro w11 hX_ hg_; replace hP := Kpt.mk (hP.out.oth hg_ lL.out (by omega)); replace OS := Kpt.mk (OS.out.grown hg_ (by simp; omega)); replace OL := Kpt.mk hX_; clear hX_ hg_; clear hm m10; have m11 : Kpt True := ⟨trivial⟩)
              | (go_at_call 19; have hm := m9; go_must (refine (hSf.out _ _).mono ?_; rintro e w10 ⟨rfl, h_⟩; replace hP := Kpt.mk (hP.out.below h_); replace cl0 := ls_c0 hP.out.bx; replace cl1 := ls_c1 hP.out.bx; replace OL := Kpt.mk (OL.out.below h_ OL.out.lt); replace OS := Kpt.mk (OS.out.below h_ OS.out.lt); clear h_; clear hm m9; have m10 : Kpt True := ⟨trivial⟩))
              | (go_at_call 18; have hm := m8; go_must (refine (N8.out _ hP.out.bel).mono ?_; rintro e w_ ⟨rfl, rfl⟩; clear hm m8; have m9 : Kpt True := ⟨trivial⟩))
              | (go_at_call 18; have hm := m7; go_must (refine (N0.out _ hP.out.bel).mono ?_; rintro e w_ ⟨rfl, rfl⟩; clear hm m7; have m8 : Kpt True := ⟨trivial⟩))
              | (have hm := m6; refine wpList_store_bx rfl 61 _ _ rfl bx zeroG (Sg.vals ⟨y4, y6, y10, y12, y20⟩) rfl rfl Ox.out rfl infoRG (Sg.vals_one _) rfl ?_; intro w7 hX_ hg_; replace hB := Kpt.mk (hB.out.trans (bel_own hg_ hB.out.size lx.out)); replace Ox := Kpt.mk hX_; clear hX_ hg_; replace hP := Kpt.mk (hP.out.below hB.out); replace cl0 := ls_c0 hP.out.bx; replace cl1 := ls_c1 hP.out.bx; replace OL := Kpt.mk (OL.out.below hB.out OL.out.lt); replace OS := Kpt.mk (OS.out.below hB.out OS.out.lt); clear hB; clear hm m6; have m7 : Kpt True := ⟨trivial⟩; have cx0 := sg_c0 Ox.out; have cx1 := sg_c1 Ox.out; have cx2 := sg_c2 Ox.out)
              | (have hm := m5; refine wpList_var rfl 61 rfl zeroG zeroRGi ?_; intro bx w6 hl_ hX_ h_; have lx := Kpt.mk hl_; have hB := Kpt.mk h_; have q_L_x : bL < bx := Nat.lt_of_lt_of_le OL.out.lt hl_; have q_S_x : bS < bx := Nat.lt_of_lt_of_le OS.out.lt hl_; have Ox := Kpt.mk hX_; clear hl_ hX_ h_; clear hm m5; have m6 : Kpt True := ⟨trivial⟩)
              | (go_at_call 18; have hm := m4; go_must (refine (N20.out _ hP.out.bel).mono ?_; rintro e w_ ⟨rfl, rfl⟩; clear hm m4; have m5 : Kpt True := ⟨trivial⟩))
              | (go_at_call 18; have hm := m3; go_must (refine (N12.out _ hP.out.bel).mono ?_; rintro e w_ ⟨rfl, rfl⟩; clear hm m3; have m4 : Kpt True := ⟨trivial⟩))
              | (go_at_call 18; have hm := m2; go_must (refine (N10.out _ hP.out.bel).mono ?_; rintro e w_ ⟨rfl, rfl⟩; clear hm m2; have m3 : Kpt True := ⟨trivial⟩))
              | (go_at_call 18; have hm := m1; go_must (refine (N6.out _ hP.out.bel).mono ?_; rintro e w_ ⟨rfl, rfl⟩; clear hm m1; have m2 : Kpt True := ⟨trivial⟩))
              | (go_at_call 18; go_must (refine (N4.out _ hP.out.bel).mono ?_; rintro e w_ ⟨rfl, rfl⟩; have m1 : Kpt True := ⟨trivial⟩))
              | fail)
            refine bodyPost_ret (v := .tuple #[.agg zeroL, .agg (paS ((k4 : Int))).vals, .bool false]) (by simp [results, Tryd.results8, asAddr, Act.put, resS_run OS.out, resRL_run (u := .slice none 0 0) (s := .slice none 0 0) OL.out, zL_eq]) rfl ⟨.slice none 0 0, .slice none 0 0, by rw [hXf.out]; rfl, by rw [hXf.out]; exact Prd.none hP.out.bel _ _⟩
          by_cases h3 : ¬ y6 < k
          · have hXf : Kpt (parseX zs = ⟨[], [], paS k6, false⟩) := ⟨hXk.out k6 (by rw [hsf.out]; rw [if_neg h0, if_neg h1, if_neg h2, if_pos h3])⟩
            have hq0 : y0 = 33554456 := Decidable.not_not.1 h0
            subst hq0
            have hq1 : y8 = 0 := Decidable.not_not.1 h1
            subst hq1
            have hq4 : ¬ (un : Int) ≤ y4 := by have := hun.out; omega
            have hq6 : (un : Int) ≤ y6 := by have := hun.out; omega
            clear h0 h1 h2 h3
            clear hNb hXk hXs hXo hsf hsg hno hns hus hss
            go_wp2_with (first
              | (have hm := m11; refine wpList_store_bx rfl 31 _ _ rfl bS zeroS (paS ((k6 : Int))).vals rfl rfl OS.out rfl infoS (Sn.vals_one _) rfl ?_; intro w12 hX_ hg_; replace hP := Kpt.mk (hP.out.oth hg_ lS.out (by omega)); replace OL := Kpt.mk (OL.out.grown hg_ (by simp; omega)); replace OS := Kpt.mk hX_; clear hX_ hg_; clear hm m11; have m12 : Kpt True := ⟨trivial⟩)
              | (have hm := m10; refine wpList_store_bx rfl 36 _ _ rfl bL zeroL zeroL rfl rfl OL.out rfl infoRL zeroL_one rfl ?_; intro w11 hX_ hg_; replace hP := Kpt.mk (hP.out.oth hg_ lL.out (by omega)); replace OS := Kpt.mk (OS.out.grown hg_ (by simp; omega)); replace OL := Kpt.mk hX_; clear hX_ hg_; clear hm m10; have m11 : Kpt True := ⟨trivial⟩)
              | (go_at_call 19; have hm := m9; go_must (refine (hSf.out _ _).mono ?_; rintro e w10 ⟨rfl, h_⟩; replace hP := Kpt.mk (hP.out.below h_); replace cl0 := ls_c0 hP.out.bx; replace cl1 := ls_c1 hP.out.bx; replace OL := Kpt.mk (OL.out.below h_ OL.out.lt); replace OS := Kpt.mk (OS.out.below h_ OS.out.lt); clear h_; clear hm m9; have m10 : Kpt True := ⟨trivial⟩))
              | (go_at_call 18; have hm := m8; go_must (refine (N8.out _ hP.out.bel).mono ?_; rintro e w_ ⟨rfl, rfl⟩; clear hm m8; have m9 : Kpt True := ⟨trivial⟩))
              | (go_at_call 18; have hm := m7; go_must (refine (N0.out _ hP.out.bel).mono ?_; rintro e w_ ⟨rfl, rfl⟩; clear hm m7; have m8 : Kpt True := ⟨trivial⟩))
              | (have hm := m6; refine wpList_store_bx rfl 61 _ _ rfl bx zeroG (Sg.vals ⟨y4, y6, y10, y12, y20⟩) rfl rfl Ox.out rfl infoRG (Sg.vals_one _) rfl ?_; intro w7 hX_ hg_; replace hB := Kpt.mk (hB.out.trans (bel_own hg_ hB.out.size lx.out)); replace Ox := Kpt.mk hX_; clear hX_ hg_; replace hP := Kpt.mk (hP.out.below hB.out); replace cl0 := ls_c0 hP.out.bx; replace cl1 := ls_c1 hP.out.bx; replace OL := Kpt.mk (OL.out.below hB.out OL.out.lt); replace OS := Kpt.mk (OS.out.below hB.out OS.out.lt); clear hB; clear hm m6; have m7 : Kpt True := ⟨trivial⟩; have cx0 := sg_c0 Ox.out; have cx1 := sg_c1 Ox.out; have cx2 := sg_c2 Ox.out)
              | (have hm := m5; refine wpList_var rfl 61 rfl zeroG zeroRGi ?_; intro bx w6 hl_ hX_ h_; have lx := Kpt.mk hl_; have hB := Kpt.mk h_; have q_L_x : bL < bx := Nat.lt_of_lt_of_le OL.out.lt hl_; have q_S_x : bS < bx := Nat.lt_of_lt_of_le OS.out.lt hl_; have Ox := Kpt.mk hX_; clear hl_ hX_ h_; clear hm m5; have m6 : Kpt True := ⟨trivial⟩)
              | (go_at_call 18; have hm := m4; go_must (refine (N20.out _ hP.out.bel).mono ?_; rintro e w_ ⟨rfl, rfl⟩; clear hm m4; have m5 : Kpt True := ⟨trivial⟩))
              | (go_at_call 18; have hm := m3; go_must (refine (N12.out _ hP.out.bel).mono ?_; rintro e w_ ⟨rfl, rfl⟩; clear hm m3; have m4 : Kpt True := ⟨trivial⟩))
              | (go_at_call 18; have hm := m2; go_must (refine (N10.out _ hP.out.bel).mono ?_; rintro e w_ ⟨rfl, rfl⟩; clear hm m2; have m3 : Kpt True := ⟨trivial⟩))
              | (go_at_call 18; have hm := m1; go_must (refine (N6.out _ hP.out.bel).mono ?_; rintro e w_ ⟨rfl, rfl⟩; clear hm m1; have m2 : Kpt True := ⟨trivial⟩))
              | (go_at_call 18; go_must (refine (N4.out _ hP.out.bel).mono ?_; rintro e w_ ⟨rfl, rfl⟩; have m1 : Kpt True := ⟨trivial⟩))
              | fail)
            refine bodyPost_ret (v := .tuple #[.agg zeroL, .agg (paS ((k6 : Int))).vals, .bool false]) (by simp [results, Tryd.results8, asAddr, Act.put, resS_run OS.out, resRL_run (u := .slice none 0 0) (s := .slice none 0 0) OL.out, zL_eq]) rfl ⟨.slice none 0 0, .slice none 0 0, by rw [hXf.out]; rfl, by rw [hXf.out]; exact Prd.none hP.out.bel _ _⟩
          by_cases h4 : 256 < y10
          · have hXf : Kpt (parseX zs = ⟨[], [], paS k10, false⟩) := ⟨hXk.out k10 (by rw [hsf.out]; rw [if_neg h0, if_neg h1, if_neg h2, if_neg h3, if_pos h4])⟩
            have hq0 : y0 = 33554456 := Decidable.not_not.1 h0
            subst hq0
            have hq1 : y8 = 0 := Decidable.not_not.1 h1
            subst hq1
            have hq4 : ¬ (un : Int) ≤ y4 := by have := hun.out; omega
            have hq6 : ¬ (un : Int) ≤ y6 := by have := hun.out; omega
            clear h0 h1 h2 h3
            clear hNb hXk hXs hXo hsf hsg hno hns hus hss
            go_wp2_with (first
              | (have hm := m11; refine wpList_store_bx rfl 31 _ _ rfl bS zeroS (paS ((k10 : Int))).vals rfl rfl OS.out rfl infoS (Sn.vals_one _) rfl ?_; intro w12 hX_ hg_; replace hP := Kpt.mk (hP.out.oth hg_ lS.out (by omega)); replace OL := Kpt.mk (OL.out.grown hg_ (by simp; omega)); replace OS := Kpt.mk hX_; clear hX_ hg_; clear hm m11; have m12 : Kpt True := ⟨trivial⟩)
              | (have hm := m10; refine wpList_store_bx rfl 36 _ _ rfl bL zeroL zeroL rfl rfl OL.out rfl infoRL zeroL_one rfl ?_; intro w11 hX_ hg_; replace hP := Kpt.mk (hP.out.oth hg_ lL.out (by omega)); replace OS := Kpt.mk (OS.out.grown hg_ (by simp; omega)); replace OL := Kpt.mk hX_; clear hX_ hg_; clear hm m10; have m11 : Kpt True := ⟨trivial⟩)
              | (go_at_call 19; have hm := m9; go_must (refine (hSf.out _ _).mono ?_; rintro e w10 ⟨rfl, h_⟩; replace hP := Kpt.mk (hP.out.below h_); replace cl0 := ls_c0 hP.out.bx; replace cl1 := ls_c1 hP.out.bx; replace OL := Kpt.mk (OL.out.below h_ OL.out.lt); replace OS := Kpt.mk (OS.out.below h_ OS.out.lt); clear h_; clear hm m9; have m10 : Kpt True := ⟨trivial⟩))
              | (go_at_call 18; have hm := m8; go_must (refine (N8.out _ hP.out.bel).mono ?_; rintro e w_ ⟨rfl, rfl⟩; clear hm m8; have m9 : Kpt True := ⟨trivial⟩))
              | (go_at_call 18; have hm := m7; go_must (refine (N0.out _ hP.out.bel).mono ?_; rintro e w_ ⟨rfl, rfl⟩; clear hm m7; have m8 : Kpt True := ⟨trivial⟩))
              | (have hm := m6; refine wpList_store_bx rfl 61 _ _ rfl bx zeroG (Sg.vals ⟨y4, y6, y10, y12, y20⟩) rfl rfl Ox.out rfl infoRG (Sg.vals_one _) rfl ?_; intro w7 hX_ hg_; replace hB := Kpt.mk (hB.out.trans (bel_own hg_ hB.out.size lx.out)); replace Ox := Kpt.mk hX_; clear hX_ hg_; replace hP := Kpt.mk (hP.out.below hB.out); replace cl0 := ls_c0 hP.out.bx; replace cl1 := ls_c1 hP.out.bx; replace OL := Kpt.mk (OL.out.below hB.out OL.out.lt); replace OS := Kpt.mk (OS.out.below hB.out OS.out.lt); clear hB; clear hm m6; have m7 : Kpt True := ⟨trivial⟩; have cx0 := sg_c0 Ox.out; have cx1 := sg_c1 Ox.out; have cx2 := sg_c2 Ox.out)
              | (have hm := m5; refine wpList_var rfl 61 rfl zeroG zeroRGi ?_; intro bx w6 hl_ hX_ h_; have lx := Kpt.mk hl_; have hB := Kpt.mk h_; have q_L_x : bL < bx := Nat.lt_of_lt_of_le OL.out.lt hl_; have q_S_x : bS < bx := Nat.lt_of_lt_of_le OS.out.lt hl_; have Ox := Kpt.mk hX_; clear hl_ hX_ h_; clear hm m5; have m6 : Kpt True := ⟨trivial⟩)
              | (go_at_call 18; have hm := m4; go_must (refine (N20.out _ hP.out.bel).mono ?_; rintro e w_ ⟨rfl, rfl⟩; clear hm m4; have m5 : Kpt True := ⟨trivial⟩))
              | (go_at_call 18; have hm := m3; go_must (refine (N12.out _ hP.out.bel).mono ?_; rintro e w_ ⟨rfl, rfl⟩; clear hm m3; have m4 : Kpt True := ⟨trivial⟩))
              | (go_at_call 18; have hm := m2; go_must (refine (N10.out _ hP.out.bel).mono ?_; rintro e w_ ⟨rfl, rfl⟩; clear hm m2; have m3 : Kpt True := ⟨trivial⟩))
              | (go_at_call 18; have hm := m1; go_must (refine (N6.out _ hP.out.bel).mono ?_; rintro e w_ ⟨rfl, rfl⟩; clear hm m1; have m2 : Kpt True := ⟨trivial⟩))
              | (go_at_call 18; go_must (refine (N4.out _ hP.out.bel).mono ?_; rintro e w_ ⟨rfl, rfl⟩; have m1 : Kpt True := ⟨trivial⟩))
              | fail)
            refine bodyPost_ret (v := .tuple #[.agg zeroL, .agg (paS ((k10 : Int))).vals, .bool false]) (by simp [results, Tryd.results8, asAddr, Act.put, resS_run OS.out, resRL_run (u := .slice none 0 0) (s := .slice none 0 0) OL.out, zL_eq]) rfl ⟨.slice none 0 0, .slice none 0 0, by rw [hXf.out]; rfl, by rw [hXf.out]; exact Prd.none hP.out.bel _ _⟩
          have hq0 : y0 = 33554456 := Decidable.not_not.1 h0
          subst hq0
          have hq1 : y8 = 0 := Decidable.not_not.1 h1
          subst hq1
          have hq4 : ¬ (un : Int) ≤ y4 := by have := hun.out; omega
          have hq6 : ¬ (un : Int) ≤ y6 := by have := hun.out; omega
          have hf : segF zs k B = none := by rw [hsf.out]; rw [if_neg h0, if_neg h1, if_neg h2, if_neg h3, if_neg h4]
          have hns2 : Kpt (∀ j, j < q + 1 → segF zs k (16 + 32 * k + 28 * j) = none) := ⟨fun j hj => by
            by_cases e : j = q
            · subst e; rw [← eB.out]; exact hf
            · exact hns.out j (by omega)⟩
          have hss2 : Kpt (ss ++ [Sg.vals ⟨y4, y6, y10, y12, y20⟩] = (segsX zs (16 + 32 * k) (q + 1)).map Sg.vals) := ⟨by rw [segsX_succ, List.map_append, ← hss.out, ← eB.out, ← hsg.out]; rfl⟩
          have hssl2 : Kpt ((ss ++ [Sg.vals ⟨y4, y6, y10, y12, y20⟩]).length = q + 1) := ⟨by rw [List.length_append, hssl]; rfl⟩
          clear h0 h1 h2 h3 hf hNb hXk hXs hXo hsf hsg hno hns hus hss
          go_wp2_with (first
            | (have hm := m11; refine wpList_store_cell rfl rfl bl 1 (lsV (.slice ua un uc) (.slice sa sn sc)) (.slice va vn vc) rfl rfl rfl hP.out.bx (by simp [lsV]) oneRG rfl ?_; intro w12 hX_ hg_; replace OL := Kpt.mk (OL.out.grown hg_ (fun e => by injection e with e; omega)); replace OS := Kpt.mk (OS.out.grown hg_ (fun e => by injection e with e; omega)); replace hP := Kpt.mk (hP.out.st (d0 := (.slice ua un uc)) (d1 := (.slice va vn vc)) hX_ hg_); replace cl0 := ls_c0 hP.out.bx; replace cl1 := ls_c1 hP.out.bx; clear hX_ hg_; clear hm m11; have m12 : Kpt True := ⟨trivial⟩)
            | (have hm := m10; refine wpList_append_row rfl 34 61 5 40 _ Tryd.underlying34 infoRGb rfl (by decide) (by decide) _ _ rfl (.slice sa sn sc) (.slice (some ⟨bz, 0, none⟩) 1 1) ss [(Sg.vals ⟨y4, y6, y10, y12, y20⟩)] rfl rfl hP.out.sr (Oz.out.one ⟨rfl, Sg.vals_one _⟩) (by simp) (by simp only [List.length_singleton]; omega) ?_; intro v5 w11 ho_ hg_ hor_; obtain ⟨va, vc, hv_, _⟩ := ho_.out.shape; obtain ⟨vn, hvn⟩ : ∃ n, n = (ss ++ [(Sg.vals ⟨y4, y6, y10, y12, y20⟩)]).length := ⟨_, rfl⟩; rw [← hvn] at hv_; subst hv_; clear hvn; replace OL := Kpt.mk (OL.out.grown hg_.out (fun e => by have := hP.out.ns _ e; omega)); replace OS := Kpt.mk (OS.out.grown hg_.out (fun e => by have := hP.out.ns _ e; omega)); replace hP := Kpt.mk (hP.out.appS ho_.out hg_.out hor_.out); replace cl0 := ls_c0 hP.out.bx; replace cl1 := ls_c1 hP.out.bx; clear ho_ hg_ hor_ Oz; clear hm m10; have m11 : Kpt True := ⟨trivial⟩)
            | (have hm := m9; refine wpList_build1 rfl 34 61 5 40 _ Tryd.underlying34 infoRGb (by decide) (by decide) _ rfl (.agg (Sg.vals ⟨y4, y6, y10, y12, y20⟩)) (Sg.vals ⟨y4, y6, y10, y12, y20⟩) rfl rfl rfl ?_; intro bz w10 hz_ hX_ h_ _; replace hP := Kpt.mk (hP.out.below h_); replace cl0 := ls_c0 hP.out.bx; replace cl1 := ls_c1 hP.out.bx; replace OL := Kpt.mk (OL.out.below h_ OL.out.lt); replace OS := Kpt.mk (OS.out.below h_ OS.out.lt); have Oz := Kpt.mk hX_; clear hz_ hX_ h_; clear hm m9; have m10 : Kpt True := ⟨trivial⟩)
            | (refine wpList_load_bx rfl 61 _ rfl bx (Sg.vals ⟨y4, y6, y10, y12, y20⟩) rfl Ox.out _ Tryd.underlying61 rfl infoRG ?_)
            | (go_at_call 18; have hm := m8; go_must (refine (N8.out _ hP.out.bel).mono ?_; rintro e w_ ⟨rfl, rfl⟩; clear hm m8; have m9 : Kpt True := ⟨trivial⟩))
            | (go_at_call 18; have hm := m7; go_must (refine (N0.out _ hP.out.bel).mono ?_; rintro e w_ ⟨rfl, rfl⟩; clear hm m7; have m8 : Kpt True := ⟨trivial⟩))
            | (have hm := m6; refine wpList_store_bx rfl 61 _ _ rfl bx zeroG (Sg.vals ⟨y4, y6, y10, y12, y20⟩) rfl rfl Ox.out rfl infoRG (Sg.vals_one _) rfl ?_; intro w7 hX_ hg_; replace hB := Kpt.mk (hB.out.trans (bel_own hg_ hB.out.size lx.out)); replace Ox := Kpt.mk hX_; clear hX_ hg_; replace hP := Kpt.mk (hP.out.below hB.out); replace cl0 := ls_c0 hP.out.bx; replace cl1 := ls_c1 hP.out.bx; replace OL := Kpt.mk (OL.out.below hB.out OL.out.lt); replace OS := Kpt.mk (OS.out.below hB.out OS.out.lt); clear hB; clear hm m6; have m7 : Kpt True := ⟨trivial⟩; have cx0 := sg_c0 Ox.out; have cx1 := sg_c1 Ox.out; have cx2 := sg_c2 Ox.out)
            | (have hm := m5; refine wpList_var rfl 61 rfl zeroG zeroRGi ?_; intro bx w6 hl_ hX_ h_; have lx := Kpt.mk hl_; have hB := Kpt.mk h_; have q_L_x : bL < bx := Nat.lt_of_lt_of_le OL.out.lt hl_; have q_S_x : bS < bx := Nat.lt_of_lt_of_le OS.out.lt hl_; have Ox := Kpt.mk hX_; clear hl_ hX_ h_; clear hm m5; have m6 : Kpt True := ⟨trivial⟩)
            | (go_at_call 18; have hm := m4; go_must (refine (N20.out _ hP.out.bel).mono ?_; rintro e w_ ⟨rfl, rfl⟩; clear hm m4; have m5 : Kpt True := ⟨trivial⟩))
            | (go_at_call 18; have hm := m3; go_must (refine (N12.out _ hP.out.bel).mono ?_; rintro e w_ ⟨rfl, rfl⟩; clear hm m3; have m4 : Kpt True := ⟨trivial⟩))
            | (go_at_call 18; have hm := m2; go_must (refine (N10.out _ hP.out.bel).mono ?_; rintro e w_ ⟨rfl, rfl⟩; clear hm m2; have m3 : Kpt True := ⟨trivial⟩))
            | (go_at_call 18; have hm := m1; go_must (refine (N6.out _ hP.out.bel).mono ?_; rintro e w_ ⟨rfl, rfl⟩; clear hm m1; have m2 : Kpt True := ⟨trivial⟩))
            | (go_at_call 18; go_must (refine (N4.out _ hP.out.bel).mono ?_; rintro e w_ ⟨rfl, rfl⟩; have m1 : Kpt True := ⟨trivial⟩))
            | fail)
          go_roundw
          case rel => exact ⟨q + 1, B2, vn, vc, va, ss ++ [Sg.vals ⟨y4, y6, y10, y12, y20⟩], by omega, rfl, ⟨by have := eB.out; omega⟩, hss2, hssl2.out, hP, OL, OS, hns2⟩
          case measure => simp [intOf]; omega
        · obtain rfl : q = G := by omega
          have hXf : Kpt (parseX zs = ⟨unitsX zs k, segsX zs (16 + 32 * k) q, noS, true⟩) := ⟨hXo.out hno.out hns.out⟩
          have hBe : Kpt (B = len) := ⟨by have := eB.out; have := hlen.out; omega⟩
          have hBI : ¬ (B : Int) < len := by have := hBe.out; omega
          clear hqG hq hXs hXo hno hns hB2 hNb
          go_wp2_with (first
            | (have hm := m1; refine wpList_store_bx rfl 31 _ _ rfl bS zeroS noS.vals rfl rfl OS.out rfl infoS (Sn.vals_one noS) rfl ?_; intro w2 hX_ hg_; replace hP := Kpt.mk (hP.out.oth hg_ lS.out (by omega)); replace OL := Kpt.mk (OL.out.grown hg_ (by simp; omega)); replace OS := Kpt.mk hX_; clear hX_ hg_; clear hm m1; have m2 : Kpt True := ⟨trivial⟩)
            | (refine wpList_store_bx rfl 36 _ _ rfl bL zeroL (lsV (.slice ua un uc) (.slice sa sn sc)) rfl rfl OL.out rfl infoRL (lsV_one rfl rfl) rfl ?_; intro w1 hX_ hg_; replace hP := Kpt.mk (hP.out.oth hg_ lL.out (by omega)); replace OS := Kpt.mk (OS.out.grown hg_ (by simp; omega)); replace OL := Kpt.mk hX_; clear hX_ hg_; have m1 : Kpt True := ⟨trivial⟩)
            | (refine wpList_load_bx rfl 36 _ rfl bl (lsV (.slice ua un uc) (.slice sa sn sc)) rfl hP.out.bx _ Tryd.underlying36 rfl infoRL ?_)
            | fail)
          refine bodyPost_ret (v := .tuple #[.agg (lsV (.slice ua un uc) (.slice sa sn sc)), .agg noS.vals, .bool true]) (by simp [results, Tryd.results8, asAddr, Act.put, resS_run (s := noS) OS.out, resRL_run OL.out]) rfl ⟨.slice ua un uc, .slice sa sn sc, by rw [hXf.out], hP.out.prd (by rw [hXf.out]; exact hus.out) (by rw [hXf.out]; exact hss.out)⟩
end Go.Proofs.YtnebcbfjlkhimaaDoor
