/-
  PrClears.
-/
import Derived.Test.YtikndkmpedoooaaPPlay
import Derived.Test.YtikndkmpedoooaaPHold
namespace Go.Proofs.Ytikndkmpedoooaa.prClears
open Go.Proofs.Ytikndkmpedoooaa
open Go.RowKit
set_option linter.unusedVariables false
set_option linter.unusedSimpArgs false

theorem filt_len (f : Nat → Int) (n : Nat) : ∀ k, ((regsTo f k).filter (fun r => decide (r.1 ≠ (n : Int)))).length + (if n < k ∧ f n ≠ 0 then 1 else 0) = (regsTo f k).length
  | 0 => by simp [regsTo]
  | k + 1 => by
    have ih := filt_len f n k
    unfold regsTo
    rw [List.filter_append, List.length_append, List.length_append, ← ih]
    by_cases hk : f k = 0
    · have e : (n < k + 1 ∧ f n ≠ 0) ↔ (n < k ∧ f n ≠ 0) := by
        constructor
        · rintro ⟨a, b⟩
          refine ⟨?_, b⟩
          by_cases e : n = k
          · subst e; exact absurd hk b
          · omega
        · rintro ⟨a, b⟩; exact ⟨by omega, b⟩
      simp only [hk, e]
      simp
    · by_cases e : n = k
      · subst e
        simp [hk]
      · have e1 : (n < k + 1 ∧ f n ≠ 0) ↔ (n < k ∧ f n ≠ 0) := by constructor <;> rintro ⟨a, b⟩ <;> exact ⟨by omega, b⟩
        have e2 : ¬ ((k : Int) = (n : Int)) := by omega
        simp only [e1]
        simp [hk, e2]
        omega
theorem others_len (t : Tb) (n : Nat) (c : Int) (hn : n < 8) (hk : t.ks n ≠ 0) : (othersL n c t.regs).length + 1 = t.regs.length := by
  have := filt_len t.ks n 8
  rw [if_pos ⟨hn, hk⟩] at this
  unfold othersL Tb.regs
  rw [List.length_map]
  exact this
theorem others_mem (t : Tb) (n c : Int) (i : Nat) (r : Int × Int) (h : (othersL n c t.regs)[i]? = some r) : r.1 ≠ n ∧ r.2 = c := by
  have := List.mem_of_getElem? h
  unfold othersL at this
  simp only [List.mem_map, List.mem_filter, decide_eq_true_eq] at this
  obtain ⟨a, ⟨_, h2⟩, rfl⟩ := this
  exact ⟨h2, rfl⟩
theorem clr_R (t : Tb) (n : Nat) (hn : n < 8) (x : Int) (hx : x = t.ks n) : t.doR n ⟨3, 0, x, 0, false⟩ = if t.ks n = 0 then (24, 0) else (0, 0) := by
  have hb : ¬ t.bad n ⟨3, 0, x, 0, false⟩ = true := by simp [Tb.bad]; omega
  unfold Tb.doR
  rw [if_neg hb]
  by_cases h : t.ks n = 0 <;> simp [Tb.allows, h, hx]
theorem clr_T (t : Tb) (n : Nat) (hn : n < 8) (x : Int) (hx : x = t.ks n) : t.doT n ⟨3, 0, x, 0, false⟩ = if t.ks n = 0 then t else t.clear := by
  have hb : ¬ t.bad n ⟨3, 0, x, 0, false⟩ = true := by simp [Tb.bad]; omega
  unfold Tb.doT
  rw [if_neg hb]
  by_cases h : t.ks n = 0 <;> simp [Tb.allows, h, hx]
theorem clr_E (t : Tb) (n : Nat) (hn : n < 8) (x : Int) (hx : x = t.ks n) : t.doE n ⟨3, 0, x, 0, false⟩ = if t.ks n = 0 then [] else othersL n 10755 t.regs := by
  have hb : ¬ t.bad n ⟨3, 0, x, 0, false⟩ = true := by simp [Tb.bad]; omega
  unfold Tb.doE
  rw [if_neg hb]
  by_cases h : t.ks n = 0 <;> simp [Tb.allows, h, hx]
theorem clear_regs (t : Tb) : t.clear.regs = [] := by simp [Tb.regs, Tb.clear, regsTo]
theorem nine_regs (t : Tb) (n : Nat) (hn : n < 3) : ((t.clear.doT n ⟨0, 0, 0, 9, false⟩).regs).length = 1 := by
  rw [reg_T t.clear n 9 (by omega) rfl (by omega)]
  obtain rfl | rfl | rfl : n = 0 ∨ n = 1 ∨ n = 2 := by omega
  all_goals simp [Tb.regs, regsTo, upd, Tb.clear]
theorem any_key (t : Tb) (n : Nat) (hn : n < 8) : (if t.regs.any (fun r => decide (r.1 = (n : Int))) = true then t.ks n else 0) = t.ks n := by
  rw [prHolders.known_iff t n hn]
  by_cases h : t.ks n = 0 <;> simp [h]

set_option maxRecDepth 100000 in
set_option maxHeartbeats 8000000 in
theorem clr_walk (a0 : Option Addr) (l0 c0 : Nat) (a1 : Int) (w : World) (hA : Acts w a0 l0) (h1 : 0 ≤ a1 ∧ a1 < 256) :
    Calls Try.prog 8 #[.slice a0 l0 c0, .int .u8 a1] w fun e w' => e = .returned (.bool true) ∧ Below w.heap.size w w' := by
  replace hA := Kpt.mk hA
  obtain ⟨n, hn⟩ : ∃ n : Nat, a1 % 3 = n := ⟨(a1 % 3).toNat, by omega⟩
  have hn3 : n < 3 := by omega
  have hn8 : n < 8 := by omega
  go_enter Try.func8, Try.ntmps8
  go_wp2_with fail
  refine (awake_any _).mono ?_
  rintro e w1 ⟨rfl, hb1⟩
  replace hb1 := Kpt.mk hb1
  go_wp2_with fail
  refine (play_any a0 l0 c0 w w1 hA.out hb1.out).mono ?_
  rintro e w2 ⟨B, t, rfl, hS⟩
  replace hS := Kpt.mk hS
  clear hA hb1
  go_wp2_with fail
  refine (regs_any B t w2 hS.out.tab).mono ?_
  rintro e w3 ⟨v, rfl, hO, hb3⟩
  have hS3 := Kpt.mk (hS.out.below hb3)
  obtain ⟨a, cp, hv, hs⟩ := hO.shape
  subst hv
  replace hs := Kpt.mk hs
  clear hS hb3 hO
  have hl8 := regs_len t
  obtain ⟨m, hm⟩ : ∃ m, m = t.regs.length := ⟨_, rfl⟩
  rw [← hm] at hs hl8 ⊢
  replace hm := Kpt.mk hm
  go_wp2_with fail
  go_loopw [8, 9] (fun r i wr => ∃ k : Nat, k ≤ m ∧ r = .int .u64 (if (t.regs.take k).any (fun r => decide (r.1 = (n : Int))) = true then t.ks n else 0) ∧ i = .int .i64 k ∧ Kpt (wr = w3)) (fun _ i _ => m - (intOf i).toNat)
  case atStart => exact ⟨0, by omega, by simp, rfl, ⟨rfl⟩⟩
  case round =>
    obtain ⟨k, hk, rfl, rfl, hw⟩ := hrel
    have := hw.out
    subst this
    by_cases hlt : k < m
    · have e5 : (k : Int) < m := by omega
      have hiz : k < t.regs.length := by rw [← hm.out]; exact hlt
      obtain ⟨r, hr⟩ : ∃ r, t.regs[k]? = some r := ⟨_, List.getElem?_eq_getElem hiz⟩
      obtain ⟨p, hp, hrp, _⟩ := regs_at hr
      rcases hs.out with ⟨_, _, hz⟩ | ⟨g, rfl, hbg, hg, hc1, hc2, hrr⟩
      · omega
      obtain ⟨r0, r1'⟩ := range2 (hrr k r hr)
      have hst : Kpt ((t.regs.take (k + 1)).any (fun r => decide (r.1 = (n : Int))) = ((t.regs.take k).any (fun r => decide (r.1 = (n : Int))) || decide (r.1 = (n : Int)))) := ⟨by rw [List.take_add_one, hr]; simp⟩
      subst hrp
      simp only at r0 r1' hst
      generalize hif : (if (t.regs.take k).any (fun r => decide (r.1 = (n : Int))) = true then t.ks n else 0) = X at *
      replace hif := Kpt.mk hif
      clear hrr hr hs
      by_cases he : p = n
      · subst he
        generalize hY : t.ks p = Y at *
        replace hY := Kpt.mk hY
        go_wp2
        go_roundw
        case rel => exact ⟨k + 1, by omega, by rw [hst.out]; simp, by go_num, by first | exact ⟨rfl⟩ | exact ⟨trivial⟩⟩
        case measure => simp [intOf]; omega
      · have heb : ((p : Int) == (n : Int)) = false := by simp; omega
        have hed : decide ((p : Int) = (n : Int)) = false := by simp; omega
        go_wp2
        go_roundw
        case rel => exact ⟨k + 1, by omega, by rw [hst.out, hed, Bool.or_false, hif.out], by go_num, by first | exact ⟨rfl⟩ | exact ⟨trivial⟩⟩
        case measure => simp [intOf]; omega
    · have e5 : ¬ (k : Int) < m := by omega
      have hkey : (if (t.regs.take k).any (fun r => decide (r.1 = (n : Int))) = true then t.ks n else 0) = t.ks n := by
        rw [List.take_of_length_le (by rw [← hm.out]; omega)]
        exact any_key t n hn8
      rw [hkey]
      clear hs hkey hw hn
      have HR := Kpt.mk (clr_R t n hn8 (t.ks n) rfl)
      have HT := Kpt.mk (clr_T t n hn8 (t.ks n) rfl)
      have HE := Kpt.mk (clr_E t n hn8 (t.ks n) rfl)
      have HN := Kpt.mk (others_len t n 10755 hn8)
      have HM := Kpt.mk (others_mem t n 10755)
      have HG : Kpt (∀ W, Tab W B t → Calls Try.prog 21 #[.pointer (some ⟨B, 0, none⟩)] W fun e w' => e = .returned (.int .u32 t.gn) ∧ w' = W) := ⟨fun W hW => gen_any B t W hW⟩
      have hgc : Kpt (t.clear.gn = (t.gn + 1) % 4294967296) := ⟨rfl⟩
      have hkr := Kpt.mk ((hS3.out.good).kr n hn8)
      have hD := Kpt.mk (ss_do hS3.out n ⟨3, 0, t.ks n, 0, false⟩ (by simp))
      rw [HR.out, HT.out, HE.out] at hD
      simp only [Ou.vals] at hD
      generalize t.ks n = x at *
      clear HR HT HE
      go_wp2_with fail
      refine (HG.out wr hS3.out.tab).mono ?_
      rintro e wr ⟨rfl, rfl⟩
      go_wp2_with fail
      refine hD.out.mono ?_
      rintro e w4 ⟨v4, rfl, hO4, hS4, hg4⟩
      by_cases hx : x = 0
      · subst hx
        rw [if_pos rfl] at hO4 hS4 ⊢
        obtain ⟨a4, c4, hv4⟩ := own_len hO4
        subst hv4
        replace hS4 := Kpt.mk hS4
        clear hD hO4
        dsimp only [List.length_nil]
        generalize t.gn = gn at *
        go_wp2_with fail
        refine (HG.out w4 hS4.out.tab).mono ?_
        rintro e w4 ⟨rfl, rfl⟩
        go_wp2
        go_ret
        exact ⟨rfl, hS4.out.bel⟩
      · rw [if_neg hx] at hO4 hS4 ⊢
        have hxb : ((x : Int) == 0) = false := by simp [hx]
        have hLN := HN.out hx
        obtain ⟨a4, c4, hv4, hs4⟩ := hO4.shape
        subst hv4
        replace hS4 := Kpt.mk hS4
        replace hs4 := Kpt.mk hs4
        clear hD hO4 HN HG
        dsimp only
        obtain ⟨L, hL⟩ : ∃ L, L = othersL n 10755 t.regs := ⟨_, rfl⟩
        rw [← hL] at hs4 HM hLN ⊢
        obtain ⟨q, hq⟩ : ∃ q, q = L.length := ⟨_, rfl⟩
        rw [← hq] at hLN hs4 ⊢
        rw [← hm.out] at hLN
        replace hq := Kpt.mk hq
        have hLN2 : (q : Int) = (m : Int) - 1 := by omega
        have hLN3 : ((q : Int) != (m : Int) - 1) = false := by simp [hLN2]
        have hLN4 : Kpt (m = q + 1) := ⟨hLN.symm⟩
        have hq8 : q ≤ 8 := by omega
        clear hL hLN
        have H20 := Kpt.mk (reserved_any B t.clear w4 hS4.out.tab)
        rw [show t.clear.res = (0, -1) from rfl] at H20
        have H19 := fun W (hW : Ss w W B t.clear) => Kpt.mk (regs_any B t.clear W hW.tab)
        have H21 := fun W (hW : Ss w W B t.clear) => Kpt.mk (gen_any B t.clear W hW.tab)
        rw [hgc.out] at H21
        rw [clear_regs] at H19
        have HRR := Kpt.mk (reg_R t.clear n 9 (by omega) rfl)
        have HL1 := Kpt.mk (nine_regs t n hn3)
        have HD9 := fun W (hW : Ss w W B t.clear) => Kpt.mk (ss_do hW n ⟨0, 0, 0, 9, false⟩ (by simp))
        rw [HRR.out] at HD9
        simp only [Ou.vals] at HD9
        generalize t.clear.doT n ⟨0, 0, 0, 9, false⟩ = T9 at *
        generalize t.clear = C at *
        generalize t.gn = gn at *
        clear HRR hgc
        go_wp2_with fail
        refine H20.out.mono ?_
        rintro e w5 ⟨rfl, q5, hq5⟩
        have hS5 : Kpt (Ss w w5 B C) := ⟨by rw [hq5]; exact hS4.out.drewN q5⟩
        have hB5 : Kpt (Below w4.heap.size w4 w5) := ⟨by rw [hq5]; exact below_drewN (Below.refl _ _) _⟩
        clear hq5 hS4 H20
        dsimp only
        go_wp2_with fail
        refine (H19 w5 hS5.out).out.mono ?_
        rintro e w6 ⟨v6, rfl, hO6, hB6⟩
        obtain ⟨a6, c6, hv6⟩ := own_len hO6
        subst hv6
        have hS6 := Kpt.mk (hS5.out.below hB6)
        have hBB6 : Kpt (Below w4.heap.size w4 w6) := ⟨hB5.out.trans (hB6.mono hB5.out.size)⟩
        clear hO6 hB6 hS5 hB5
        dsimp only [List.length_nil]
        go_wp2_with fail
        refine (H21 w6 hS6.out).out.mono ?_
        rintro e w6 ⟨rfl, rfl⟩
        go_wp2_with fail
        go_loopw [16] (fun r wq => ∃ i : Nat, i ≤ q ∧ r = .int .i64 i ∧ Kpt (wq = w6)) (fun r _ => q - (intOf r).toNat)
        case atStart => exact ⟨0, by omega, rfl, ⟨rfl⟩⟩
        case round =>
          obtain ⟨i, hi, rfl, hw6⟩ := hrel
          have := hw6.out
          subst this
          by_cases hiq : i < q
          · have e6 : (i : Int) < q := by omega
            have hiz : i < L.length := by rw [← hq.out]; exact hiq
            obtain ⟨r, hr⟩ : ∃ r, L[i]? = some r := ⟨_, List.getElem?_eq_getElem hiz⟩
            obtain ⟨y1, y2⟩ := HM.out i r hr
            rcases hs4.out with ⟨_, _, hz⟩ | ⟨g, rfl, hbg, hg, hc1, hc2, hrr⟩
            · omega
            obtain ⟨r0, r1'⟩ := range2 (rangeAt_of_block (hrr i r hr) (hBB6.out.block g hg))
            have hgl := Nat.lt_of_lt_of_le hg hBB6.out.size
            obtain ⟨z1, z2⟩ := r
            simp only at r0 r1' y1 y2
            subst y2
            have hyb : ((z1 : Int) == (n : Int)) = false := by simp [y1]
            clear hrr hr hs4 HM H19 H21 HD9
            go_wp2
            go_roundw
            case rel => exact ⟨i + 1, by omega, by go_num, by first | exact ⟨rfl⟩ | exact ⟨trivial⟩⟩
            case measure => simp [intOf]; omega
          · have e6 : ¬ (i : Int) < q := by omega
            clear hs4 HM H19 H21
            go_wp2_with fail
            refine (HD9 _ hS6.out).out.mono ?_
            rintro e w7 ⟨v7, rfl, _, hS7, _⟩
            replace hS7 := Kpt.mk hS7
            dsimp only
            go_wp2_with fail
            refine (regs_any B T9 w7 hS7.out.tab).mono ?_
            rintro e w8 ⟨v8, rfl, hO8, hB8⟩
            obtain ⟨a8, c8, hv8⟩ := own_len hO8
            subst hv8
            rw [HL1.out]
            have hS8 := Kpt.mk (hS7.out.below hB8)
            clear hO8 hB8
            go_wp2
            go_ret
            exact ⟨rfl, hS8.out.bel⟩
end Go.Proofs.Ytikndkmpedoooaa.prClears
