/-
  A unit's descriptor.
-/
import Derived.Test.YtnebcbfjlkhimaaDoorJRtrim
namespace Go.Proofs.YtnebcbfjlkhimaaDoor
open Go.RowKit
set_option linter.unusedVariables false
set_option linter.unusedSimpArgs false
theorem frF_none {zs : List Int} {a : Nat} : ∀ k, k ≤ 8 → frF zs a k = none → ∀ j, 8 - k ≤ j → j < 8 → zs.getD (a + j) 0 = front.getD j 0
  | 0, _, _, j, h1, h2 => by omega
  | k + 1, hk, h, j, h1, h2 => by
    rw [frF] at h
    by_cases e : zs.getD (a + (8 - (k + 1))) 0 ≠ front.getD (8 - (k + 1)) 0
    · rw [if_pos e] at h; cases h
    · rw [if_neg e] at h
      by_cases ej : 8 - (k + 1) = j
      · rw [← ej]; exact Decidable.not_not.1 e
      · exact frF_none k (by omega) h j (by omega) h2
theorem frF_all {zs : List Int} {a : Nat} (h : ∀ j, j < 8 → zs.getD (a + j) 0 = front.getD j 0) : ∀ k, k ≤ 8 → frF zs a k = none
  | 0, _ => rfl
  | k + 1, hk => by rw [frF, if_neg (by rw [h _ (by omega)]; simp)]; exact frF_all h k (by omega)
theorem frF_at {zs : List Int} {a i : Nat} (hi : i < 8) (h : ∀ j, j < i → zs.getD (a + j) 0 = front.getD j 0) (hx : zs.getD (a + i) 0 ≠ front.getD i 0) : ∀ k, 8 - i ≤ k → k ≤ 8 → frF zs a k = some (a + i)
  | 0, h1, _ => by omega
  | k + 1, h1, h2 => by
    rw [frF]
    by_cases e : 8 - (k + 1) = i
    · rw [e, if_pos hx]
    · rw [if_neg (by rw [h _ (by omega)]; simp)]
      exact frF_at hi h hx k (by omega) (by omega)
/-- A serial, read. -/
theorem bel_drw {n : Nat} {a b : World} (h : Below n a b) : Below n a b.drew := ⟨h.os, h.tape, h.output, h.size, h.block⟩
theorem ser_at {zs : List Int} {at_ : Nat} (h : at_ + 28 ≤ zs.length) : (serL zs at_).length = 20 := by unfold serL; rw [List.length_take, List.length_drop]; omega
set_option maxRecDepth 100000 in
set_option maxHeartbeats 8000000 in
theorem unit_any (b off len cap at_ : Nat) (zs : List Int) (w : World) (hl : len ≤ 140737488351232) (hcap : len ≤ cap) (hz : zs.length = len) (hb_ : Bytes zs) (hc : Cs w b off len zs) (hat : at_ + 32 ≤ len) :
    Calls Tryd.prog 15 #[.slice (some ⟨b, off, none⟩) len cap, .int .i64 at_] w fun e w' => ((∃ f : Nat, unitF zs at_ = some f ∧ e = .returned (.tuple #[.string ⟨#[]⟩, .agg (paS (f : Int)).vals, .bool false])) ∨ (unitF zs at_ = none ∧ e = .returned (.tuple #[.string (strOfNums (ser zs at_)), .agg noS.vals, .bool true]))) ∧ Below w.heap.size w w' := by
  have hlm : len ≤ maxLen := by unfold maxLen; omega
  have hSf := Kpt.mk (fun f W => fault_any f W)
  have hC := Kpt.mk (fun W (hb : Below w.heap.size w W) => hc.below hb hc.1)
  obtain ⟨k29, hk29⟩ : ∃ k : Nat, (at_ : Int) + 29 = k := ⟨at_ + 29, by omega⟩
  obtain ⟨k28, hk28⟩ : ∃ k : Nat, (at_ : Int) + 28 = k := ⟨at_ + 28, by omega⟩
  obtain ⟨k8, hk8⟩ : ∃ k : Nat, (at_ : Int) + 8 = k := ⟨at_ + 8, by omega⟩
  have e29 : Kpt (k29 = at_ + 29) := ⟨by omega⟩
  have e28 : Kpt (k28 = at_ + 28) := ⟨by omega⟩
  have e8 : Kpt (k8 = at_ + 8) := ⟨by omega⟩
  have hk20 : (k8 : Int) + 20 = k28 := by omega
  have N29 : Kpt (∀ W, Below w.heap.size w W → Calls Tryd.prog 14 #[.slice (some ⟨b, off, none⟩) len cap, .int .i64 k29, .int .i64 3] W fun e w' => e = .returned (.int .i64 (num zs k29 3)) ∧ w' = W) := ⟨fun W hb => count_any b off len cap k29 3 zs W hlm (by decide) (by decide) (by omega) hb_ (hC.out W hb)⟩
  have hd29 := num3_bd zs hb_ k29
  have hHd : Kpt (∀ i : Nat, i < 8 → (∀ j, j < i → zs.getD (at_ + j) 0 = front.getD j 0) → zs.getD (at_ + i) 0 ≠ front.getD i 0 → unitF zs at_ = some (at_ + i)) := ⟨fun i hi h hx => by unfold unitF; rw [frF_at hi h hx 8 (by omega) (Nat.le_refl _)]⟩
  have hT1 : Kpt ((∀ j, j < 8 → zs.getD (at_ + j) 0 = front.getD j 0) → zs.getD k28 0 ≠ 0 → unitF zs at_ = some k28) := ⟨fun h hx => by unfold unitF; rw [frF_all h 8 (Nat.le_refl _)]; simp only; rw [← e28.out, if_pos hx]⟩
  have hT2 : Kpt ((∀ j, j < 8 → zs.getD (at_ + j) 0 = front.getD j 0) → zs.getD k28 0 = 0 → num zs k29 3 ≠ 16 → unitF zs at_ = some k29) := ⟨fun h h0 hx => by unfold unitF; rw [frF_all h 8 (Nat.le_refl _)]; simp only; rw [← e28.out, if_neg (by rw [h0]; simp), ← e29.out, if_pos hx]⟩
  have hT3 : Kpt ((∀ j, j < 8 → zs.getD (at_ + j) 0 = front.getD j 0) → zs.getD k28 0 = 0 → num zs k29 3 = 16 → unitF zs at_ = none) := ⟨fun h h0 hx => by unfold unitF; rw [frF_all h 8 (Nat.le_refl _)]; simp only; rw [← e28.out, if_neg (by rw [h0]; simp), ← e29.out, if_neg (by rw [hx]; simp)]⟩
  have hS : Kpt (∀ W, Below w.heap.size w W → RdAt W (.slice (some ⟨b, off + k8, none⟩) (k28 - k8) (cap - k8)) (serL zs at_)) := ⟨fun W hb => by rw [show k28 - k8 = 20 by omega, e8.out]; exact cs_rd (hC.out W hb) (at_ + 8) 20 (by omega) hcap hz⟩
  have hsl : Kpt ((serL zs at_).length = 20) := ⟨ser_at (by omega)⟩
  have hTr : Kpt (∀ W, Calls Tryd.prog 30 #[.string (strOfNums (serL zs at_)), .string ⟨#[32]⟩] W fun e w' => e = .returned (.string (strOfNums (ser zs at_))) ∧ w' = W) := ⟨fun W => trt_str _ W (bytes_dt hb_ _ _) (by have := ser_at (zs := zs) (at_ := at_) (by omega); omega) (by have := ser_at (zs := zs) (at_ := at_) (by omega); omega)⟩
  obtain ⟨n29, hn29⟩ : ∃ x, x = num zs k29 3 := ⟨_, rfl⟩
  rw [← hn29] at N29 hd29 hT2 hT3
  obtain ⟨SL, hSL⟩ : ∃ x, x = strOfNums (serL zs at_) := ⟨_, rfl⟩
  rw [← hSL] at hTr
  obtain ⟨SR, hSR⟩ : ∃ x, x = strOfNums (ser zs at_) := ⟨_, rfl⟩
  rw [← hSR] at hTr ⊢
  replace hSL := Kpt.mk hSL
  have hne : ¬ cap = k8 := by omega
  have hk8l : k8 ≤ k28 := by omega
  have hk28l : k28 ≤ cap := by omega
  have hk28m : k28 ≤ len := by omega
  have hk28n : k28 < len := by omega
  replace hz := Kpt.mk hz
  clear hc hn29 hSR
  go_enter Tryd.func15, Tryd.ntmps15
  have hb := Kpt.mk (Below.refl w.heap.size w)
  go_wp2_with (first
      | (refine wpList_var rfl 31 rfl zeroS zeroSi ?_; intro br w_r hl_ hX_ h_; have lr := Kpt.mk (Nat.le_trans hb.out.size hl_); replace hb := Kpt.mk (hb.out.trans (h_.mono hb.out.size)); have Or := Kpt.mk hX_; clear hl_ hX_ h_; have m1 : Kpt True := ⟨trivial⟩)
      | fail)
  go_loopw [7, 9] (fun t7 t9 wr => ∃ i : Nat, i ≤ 8 ∧ t9 = .int .i64 i ∧ Kpt (∀ j, j < i → zs.getD (at_ + j) 0 = front.getD j 0) ∧ Kpt (Bx wr br zeroS) ∧ Kpt (Below w.heap.size w wr)) (fun _ t9 _ => 8 - (intOf t9).toNat)
  case atStart => exact ⟨0, by decide, rfl, ⟨fun j hj => by omega⟩, Or, hb⟩
  case round =>
    obtain ⟨i, hi, rfl, hfr, Or, hb⟩ := hrel
    by_cases hi0 : i = 0
    · subst hi0
      clear hi
      rw [show ((0 : Nat) : Int) = 0 from rfl]
      obtain ⟨k, hk⟩ : ∃ k : Nat, (at_ : Int) + 0 = k := ⟨at_ + 0, by omega⟩
      have ek : Kpt (k = at_ + 0) := ⟨by omega⟩
      have hkl : k < len := by omega
      have hx := ((hC.out _ hb.out).2 k hkl)
      have hlit : ((⟨#[228, 0, 0, 0, 2, 1, 0, 20]⟩ : ByteArray)[0]'(by decide)).toNat = 228 := rfl
      obtain ⟨x, hxx⟩ : ∃ x, x = zs.getD k 0 := ⟨_, rfl⟩
      rw [← hxx] at hx
      by_cases hq : x = 228
      · subst hq
        have hfr2 : Kpt (∀ j, j < 1 → zs.getD (at_ + j) 0 = front.getD j 0) := ⟨fun j hj => by
          by_cases e : j = 0
          · subst e; rw [← ek.out]; exact hxx.symm
          · exact hfr.out j (by omega)⟩
        clear hfr hxx ek
        go_wp2_with (first | (go_region) | fail)
        go_roundw
        case rel => exact ⟨1, by decide, rfl, hfr2, ⟨Or.out.drew⟩, ⟨bel_drw hb.out⟩⟩
        case measure => simp [intOf]
      · have hq2 : (x == 228) = false := beq_eq_false_iff_ne.mpr hq
        have hun : Kpt (unitF zs at_ = some k) := ⟨by rw [ek.out]; exact hHd.out 0 (by decide) hfr.out (by rw [← ek.out, ← hxx]; exact hq)⟩
        clear hfr hxx ek
        go_upto_region 5 with (first | (go_region) | fail)
        replace Or := Kpt.mk Or.out.drew
        replace hb := Kpt.mk (bel_drw hb.out)
        obtain ⟨W1, hW1⟩ : ∃ W, W = wr.drew := ⟨_, rfl⟩
        rw [← hW1] at Or hb ⊢
        clear hW1
        go_wp2_with (first
            | (have hm := m1; refine wpList_store_bx rfl 31 _ _ rfl br _ (paS ((k : Int))).vals rfl rfl Or.out rfl infoS (Sn.vals_one _) rfl ?_; intro w2 hX_ hg_; replace hb := Kpt.mk (hb.out.trans (bel_own hg_ hb.out.size lr.out)); replace Or := Kpt.mk hX_; clear hX_ hg_; clear hm m1; have m2 : Kpt True := ⟨trivial⟩)
            | (go_at_call 27; go_must (refine (hSf.out _ _).mono ?_; rintro e w_ ⟨rfl, h_⟩; replace Or := Kpt.mk (Or.out.below h_ Or.out.lt); replace hb := Kpt.mk (hb.out.trans (h_.mono hb.out.size)); clear h_; have m1 : Kpt True := ⟨trivial⟩))
            | fail)
        refine bodyPost_ret (v := .tuple #[.string ⟨#[]⟩, .agg (paS ((k : Int))).vals, .bool false]) (by simp [results, Tryd.results15, asAddr, Act.put, resS_run Or.out]) rfl ⟨.inl ⟨_, hun.out, rfl⟩, hb.out⟩
    by_cases hi1 : i = 1
    · subst hi1
      clear hi
      rw [show ((1 : Nat) : Int) = 1 from rfl]
      obtain ⟨k, hk⟩ : ∃ k : Nat, (at_ : Int) + 1 = k := ⟨at_ + 1, by omega⟩
      have ek : Kpt (k = at_ + 1) := ⟨by omega⟩
      have hkl : k < len := by omega
      have hx := ((hC.out _ hb.out).2 k hkl)
      have hlit : ((⟨#[228, 0, 0, 0, 2, 1, 0, 20]⟩ : ByteArray)[1]'(by decide)).toNat = 0 := rfl
      obtain ⟨x, hxx⟩ : ∃ x, x = zs.getD k 0 := ⟨_, rfl⟩
      rw [← hxx] at hx
      by_cases hq : x = 0
      · subst hq
        have hfr2 : Kpt (∀ j, j < 2 → zs.getD (at_ + j) 0 = front.getD j 0) := ⟨fun j hj => by
          by_cases e : j = 1
          · subst e; rw [← ek.out]; exact hxx.symm
          · exact hfr.out j (by omega)⟩
        clear hfr hxx ek
        go_wp2_with (first | (go_region) | fail)
        go_roundw
        case rel => exact ⟨2, by decide, rfl, hfr2, ⟨Or.out.drew⟩, ⟨bel_drw hb.out⟩⟩
        case measure => simp [intOf]
      · have hq2 : (x == 0) = false := beq_eq_false_iff_ne.mpr hq
        have hun : Kpt (unitF zs at_ = some k) := ⟨by rw [ek.out]; exact hHd.out 1 (by decide) hfr.out (by rw [← ek.out, ← hxx]; exact hq)⟩
        clear hfr hxx ek
        go_upto_region 5 with (first | (go_region) | fail)
        replace Or := Kpt.mk Or.out.drew
        replace hb := Kpt.mk (bel_drw hb.out)
        obtain ⟨W1, hW1⟩ : ∃ W, W = wr.drew := ⟨_, rfl⟩
        rw [← hW1] at Or hb ⊢
        clear hW1
        go_wp2_with (first
            | (have hm := m1; refine wpList_store_bx rfl 31 _ _ rfl br _ (paS ((k : Int))).vals rfl rfl Or.out rfl infoS (Sn.vals_one _) rfl ?_; intro w2 hX_ hg_; replace hb := Kpt.mk (hb.out.trans (bel_own hg_ hb.out.size lr.out)); replace Or := Kpt.mk hX_; clear hX_ hg_; clear hm m1; have m2 : Kpt True := ⟨trivial⟩)
            | (go_at_call 27; go_must (refine (hSf.out _ _).mono ?_; rintro e w_ ⟨rfl, h_⟩; replace Or := Kpt.mk (Or.out.below h_ Or.out.lt); replace hb := Kpt.mk (hb.out.trans (h_.mono hb.out.size)); clear h_; have m1 : Kpt True := ⟨trivial⟩))
            | fail)
        refine bodyPost_ret (v := .tuple #[.string ⟨#[]⟩, .agg (paS ((k : Int))).vals, .bool false]) (by simp [results, Tryd.results15, asAddr, Act.put, resS_run Or.out]) rfl ⟨.inl ⟨_, hun.out, rfl⟩, hb.out⟩
    by_cases hi2 : i = 2
    · subst hi2
      clear hi
      rw [show ((2 : Nat) : Int) = 2 from rfl]
      obtain ⟨k, hk⟩ : ∃ k : Nat, (at_ : Int) + 2 = k := ⟨at_ + 2, by omega⟩
      have ek : Kpt (k = at_ + 2) := ⟨by omega⟩
      have hkl : k < len := by omega
      have hx := ((hC.out _ hb.out).2 k hkl)
      have hlit : ((⟨#[228, 0, 0, 0, 2, 1, 0, 20]⟩ : ByteArray)[2]'(by decide)).toNat = 0 := rfl
      obtain ⟨x, hxx⟩ : ∃ x, x = zs.getD k 0 := ⟨_, rfl⟩
      rw [← hxx] at hx
      by_cases hq : x = 0
      · subst hq
        have hfr2 : Kpt (∀ j, j < 3 → zs.getD (at_ + j) 0 = front.getD j 0) := ⟨fun j hj => by
          by_cases e : j = 2
          · subst e; rw [← ek.out]; exact hxx.symm
          · exact hfr.out j (by omega)⟩
        clear hfr hxx ek
        go_wp2_with (first | (go_region) | fail)
        go_roundw
        case rel => exact ⟨3, by decide, rfl, hfr2, ⟨Or.out.drew⟩, ⟨bel_drw hb.out⟩⟩
        case measure => simp [intOf]
      · have hq2 : (x == 0) = false := beq_eq_false_iff_ne.mpr hq
        have hun : Kpt (unitF zs at_ = some k) := ⟨by rw [ek.out]; exact hHd.out 2 (by decide) hfr.out (by rw [← ek.out, ← hxx]; exact hq)⟩
        clear hfr hxx ek
        go_upto_region 5 with (first | (go_region) | fail)
        replace Or := Kpt.mk Or.out.drew
        replace hb := Kpt.mk (bel_drw hb.out)
        obtain ⟨W1, hW1⟩ : ∃ W, W = wr.drew := ⟨_, rfl⟩
        rw [← hW1] at Or hb ⊢
        clear hW1
        go_wp2_with (first
            | (have hm := m1; refine wpList_store_bx rfl 31 _ _ rfl br _ (paS ((k : Int))).vals rfl rfl Or.out rfl infoS (Sn.vals_one _) rfl ?_; intro w2 hX_ hg_; replace hb := Kpt.mk (hb.out.trans (bel_own hg_ hb.out.size lr.out)); replace Or := Kpt.mk hX_; clear hX_ hg_; clear hm m1; have m2 : Kpt True := ⟨trivial⟩)
            | (go_at_call 27; go_must (refine (hSf.out _ _).mono ?_; rintro e w_ ⟨rfl, h_⟩; replace Or := Kpt.mk (Or.out.below h_ Or.out.lt); replace hb := Kpt.mk (hb.out.trans (h_.mono hb.out.size)); clear h_; have m1 : Kpt True := ⟨trivial⟩))
            | fail)
        refine bodyPost_ret (v := .tuple #[.string ⟨#[]⟩, .agg (paS ((k : Int))).vals, .bool false]) (by simp [results, Tryd.results15, asAddr, Act.put, resS_run Or.out]) rfl ⟨.inl ⟨_, hun.out, rfl⟩, hb.out⟩
    by_cases hi3 : i = 3
    · subst hi3
      clear hi
      rw [show ((3 : Nat) : Int) = 3 from rfl]
      obtain ⟨k, hk⟩ : ∃ k : Nat, (at_ : Int) + 3 = k := ⟨at_ + 3, by omega⟩
      have ek : Kpt (k = at_ + 3) := ⟨by omega⟩
      have hkl : k < len := by omega
      have hx := ((hC.out _ hb.out).2 k hkl)
      have hlit : ((⟨#[228, 0, 0, 0, 2, 1, 0, 20]⟩ : ByteArray)[3]'(by decide)).toNat = 0 := rfl
      obtain ⟨x, hxx⟩ : ∃ x, x = zs.getD k 0 := ⟨_, rfl⟩
      rw [← hxx] at hx
      by_cases hq : x = 0
      · subst hq
        have hfr2 : Kpt (∀ j, j < 4 → zs.getD (at_ + j) 0 = front.getD j 0) := ⟨fun j hj => by
          by_cases e : j = 3
          · subst e; rw [← ek.out]; exact hxx.symm
          · exact hfr.out j (by omega)⟩
        clear hfr hxx ek
        go_wp2_with (first | (go_region) | fail)
        go_roundw
        case rel => exact ⟨4, by decide, rfl, hfr2, ⟨Or.out.drew⟩, ⟨bel_drw hb.out⟩⟩
        case measure => simp [intOf]
      · have hq2 : (x == 0) = false := beq_eq_false_iff_ne.mpr hq
        have hun : Kpt (unitF zs at_ = some k) := ⟨by rw [ek.out]; exact hHd.out 3 (by decide) hfr.out (by rw [← ek.out, ← hxx]; exact hq)⟩
        clear hfr hxx ek
        go_upto_region 5 with (first | (go_region) | fail)
        replace Or := Kpt.mk Or.out.drew
        replace hb := Kpt.mk (bel_drw hb.out)
        obtain ⟨W1, hW1⟩ : ∃ W, W = wr.drew := ⟨_, rfl⟩
        rw [← hW1] at Or hb ⊢
        clear hW1
        go_wp2_with (first
            | (have hm := m1; refine wpList_store_bx rfl 31 _ _ rfl br _ (paS ((k : Int))).vals rfl rfl Or.out rfl infoS (Sn.vals_one _) rfl ?_; intro w2 hX_ hg_; replace hb := Kpt.mk (hb.out.trans (bel_own hg_ hb.out.size lr.out)); replace Or := Kpt.mk hX_; clear hX_ hg_; clear hm m1; have m2 : Kpt True := ⟨trivial⟩)
            | (go_at_call 27; go_must (refine (hSf.out _ _).mono ?_; rintro e w_ ⟨rfl, h_⟩; replace Or := Kpt.mk (Or.out.below h_ Or.out.lt); replace hb := Kpt.mk (hb.out.trans (h_.mono hb.out.size)); clear h_; have m1 : Kpt True := ⟨trivial⟩))
            | fail)
        refine bodyPost_ret (v := .tuple #[.string ⟨#[]⟩, .agg (paS ((k : Int))).vals, .bool false]) (by simp [results, Tryd.results15, asAddr, Act.put, resS_run Or.out]) rfl ⟨.inl ⟨_, hun.out, rfl⟩, hb.out⟩
    by_cases hi4 : i = 4
    · subst hi4
      clear hi
      rw [show ((4 : Nat) : Int) = 4 from rfl]
      obtain ⟨k, hk⟩ : ∃ k : Nat, (at_ : Int) + 4 = k := ⟨at_ + 4, by omega⟩
      have ek : Kpt (k = at_ + 4) := ⟨by omega⟩
      have hkl : k < len := by omega
      have hx := ((hC.out _ hb.out).2 k hkl)
      have hlit : ((⟨#[228, 0, 0, 0, 2, 1, 0, 20]⟩ : ByteArray)[4]'(by decide)).toNat = 2 := rfl
      obtain ⟨x, hxx⟩ : ∃ x, x = zs.getD k 0 := ⟨_, rfl⟩
      rw [← hxx] at hx
      by_cases hq : x = 2
      · subst hq
        have hfr2 : Kpt (∀ j, j < 5 → zs.getD (at_ + j) 0 = front.getD j 0) := ⟨fun j hj => by
          by_cases e : j = 4
          · subst e; rw [← ek.out]; exact hxx.symm
          · exact hfr.out j (by omega)⟩
        clear hfr hxx ek
        go_wp2_with (first | (go_region) | fail)
        go_roundw
        case rel => exact ⟨5, by decide, rfl, hfr2, ⟨Or.out.drew⟩, ⟨bel_drw hb.out⟩⟩
        case measure => simp [intOf]
      · have hq2 : (x == 2) = false := beq_eq_false_iff_ne.mpr hq
        have hun : Kpt (unitF zs at_ = some k) := ⟨by rw [ek.out]; exact hHd.out 4 (by decide) hfr.out (by rw [← ek.out, ← hxx]; exact hq)⟩
        clear hfr hxx ek
        go_upto_region 5 with (first | (go_region) | fail)
        replace Or := Kpt.mk Or.out.drew
        replace hb := Kpt.mk (bel_drw hb.out)
        obtain ⟨W1, hW1⟩ : ∃ W, W = wr.drew := ⟨_, rfl⟩
        rw [← hW1] at Or hb ⊢
        clear hW1
        go_wp2_with (first
            | (have hm := m1; refine wpList_store_bx rfl 31 _ _ rfl br _ (paS ((k : Int))).vals rfl rfl Or.out rfl infoS (Sn.vals_one _) rfl ?_; intro w2 hX_ hg_; replace hb := Kpt.mk (hb.out.trans (bel_own hg_ hb.out.size lr.out)); replace Or := Kpt.mk hX_; clear hX_ hg_; clear hm m1; have m2 : Kpt True := ⟨trivial⟩)
            | (go_at_call 27; go_must (refine (hSf.out _ _).mono ?_; rintro e w_ ⟨rfl, h_⟩; replace Or := Kpt.mk (Or.out.below h_ Or.out.lt); replace hb := Kpt.mk (hb.out.trans (h_.mono hb.out.size)); clear h_; have m1 : Kpt True := ⟨trivial⟩))
            | fail)
        refine bodyPost_ret (v := .tuple #[.string ⟨#[]⟩, .agg (paS ((k : Int))).vals, .bool false]) (by simp [results, Tryd.results15, asAddr, Act.put, resS_run Or.out]) rfl ⟨.inl ⟨_, hun.out, rfl⟩, hb.out⟩
    by_cases hi5 : i = 5
    · subst hi5
      clear hi
      rw [show ((5 : Nat) : Int) = 5 from rfl]
      obtain ⟨k, hk⟩ : ∃ k : Nat, (at_ : Int) + 5 = k := ⟨at_ + 5, by omega⟩
      have ek : Kpt (k = at_ + 5) := ⟨by omega⟩
      have hkl : k < len := by omega
      have hx := ((hC.out _ hb.out).2 k hkl)
      have hlit : ((⟨#[228, 0, 0, 0, 2, 1, 0, 20]⟩ : ByteArray)[5]'(by decide)).toNat = 1 := rfl
      obtain ⟨x, hxx⟩ : ∃ x, x = zs.getD k 0 := ⟨_, rfl⟩
      rw [← hxx] at hx
      by_cases hq : x = 1
      · subst hq
        have hfr2 : Kpt (∀ j, j < 6 → zs.getD (at_ + j) 0 = front.getD j 0) := ⟨fun j hj => by
          by_cases e : j = 5
          · subst e; rw [← ek.out]; exact hxx.symm
          · exact hfr.out j (by omega)⟩
        clear hfr hxx ek
        go_wp2_with (first | (go_region) | fail)
        go_roundw
        case rel => exact ⟨6, by decide, rfl, hfr2, ⟨Or.out.drew⟩, ⟨bel_drw hb.out⟩⟩
        case measure => simp [intOf]
      · have hq2 : (x == 1) = false := beq_eq_false_iff_ne.mpr hq
        have hun : Kpt (unitF zs at_ = some k) := ⟨by rw [ek.out]; exact hHd.out 5 (by decide) hfr.out (by rw [← ek.out, ← hxx]; exact hq)⟩
        clear hfr hxx ek
        go_upto_region 5 with (first | (go_region) | fail)
        replace Or := Kpt.mk Or.out.drew
        replace hb := Kpt.mk (bel_drw hb.out)
        obtain ⟨W1, hW1⟩ : ∃ W, W = wr.drew := ⟨_, rfl⟩
        rw [← hW1] at Or hb ⊢
        clear hW1
        go_wp2_with (first
            | (have hm := m1; refine wpList_store_bx rfl 31 _ _ rfl br _ (paS ((k : Int))).vals rfl rfl Or.out rfl infoS (Sn.vals_one _) rfl ?_; intro w2 hX_ hg_; replace hb := Kpt.mk (hb.out.trans (bel_own hg_ hb.out.size lr.out)); replace Or := Kpt.mk hX_; clear hX_ hg_; clear hm m1; have m2 : Kpt True := ⟨trivial⟩)
            | (go_at_call 27; go_must (refine (hSf.out _ _).mono ?_; rintro e w_ ⟨rfl, h_⟩; replace Or := Kpt.mk (Or.out.below h_ Or.out.lt); replace hb := Kpt.mk (hb.out.trans (h_.mono hb.out.size)); clear h_; have m1 : Kpt True := ⟨trivial⟩))
            | fail)
        refine bodyPost_ret (v := .tuple #[.string ⟨#[]⟩, .agg (paS ((k : Int))).vals, .bool false]) (by simp [results, Tryd.results15, asAddr, Act.put, resS_run Or.out]) rfl ⟨.inl ⟨_, hun.out, rfl⟩, hb.out⟩
    by_cases hi6 : i = 6
    · subst hi6
      clear hi
      rw [show ((6 : Nat) : Int) = 6 from rfl]
      obtain ⟨k, hk⟩ : ∃ k : Nat, (at_ : Int) + 6 = k := ⟨at_ + 6, by omega⟩
      have ek : Kpt (k = at_ + 6) := ⟨by omega⟩
      have hkl : k < len := by omega
      have hx := ((hC.out _ hb.out).2 k hkl)
      have hlit : ((⟨#[228, 0, 0, 0, 2, 1, 0, 20]⟩ : ByteArray)[6]'(by decide)).toNat = 0 := rfl
      obtain ⟨x, hxx⟩ : ∃ x, x = zs.getD k 0 := ⟨_, rfl⟩
      rw [← hxx] at hx
      by_cases hq : x = 0
      · subst hq
        have hfr2 : Kpt (∀ j, j < 7 → zs.getD (at_ + j) 0 = front.getD j 0) := ⟨fun j hj => by
          by_cases e : j = 6
          · subst e; rw [← ek.out]; exact hxx.symm
          · exact hfr.out j (by omega)⟩
        clear hfr hxx ek
        go_wp2_with (first | (go_region) | fail)
        go_roundw
        case rel => exact ⟨7, by decide, rfl, hfr2, ⟨Or.out.drew⟩, ⟨bel_drw hb.out⟩⟩
        case measure => simp [intOf]
      · have hq2 : (x == 0) = false := beq_eq_false_iff_ne.mpr hq
        have hun : Kpt (unitF zs at_ = some k) := ⟨by rw [ek.out]; exact hHd.out 6 (by decide) hfr.out (by rw [← ek.out, ← hxx]; exact hq)⟩
        clear hfr hxx ek
        go_upto_region 5 with (first | (go_region) | fail)
        replace Or := Kpt.mk Or.out.drew
        replace hb := Kpt.mk (bel_drw hb.out)
        obtain ⟨W1, hW1⟩ : ∃ W, W = wr.drew := ⟨_, rfl⟩
        rw [← hW1] at Or hb ⊢
        clear hW1
        go_wp2_with (first
            | (have hm := m1; refine wpList_store_bx rfl 31 _ _ rfl br _ (paS ((k : Int))).vals rfl rfl Or.out rfl infoS (Sn.vals_one _) rfl ?_; intro w2 hX_ hg_; replace hb := Kpt.mk (hb.out.trans (bel_own hg_ hb.out.size lr.out)); replace Or := Kpt.mk hX_; clear hX_ hg_; clear hm m1; have m2 : Kpt True := ⟨trivial⟩)
            | (go_at_call 27; go_must (refine (hSf.out _ _).mono ?_; rintro e w_ ⟨rfl, h_⟩; replace Or := Kpt.mk (Or.out.below h_ Or.out.lt); replace hb := Kpt.mk (hb.out.trans (h_.mono hb.out.size)); clear h_; have m1 : Kpt True := ⟨trivial⟩))
            | fail)
        refine bodyPost_ret (v := .tuple #[.string ⟨#[]⟩, .agg (paS ((k : Int))).vals, .bool false]) (by simp [results, Tryd.results15, asAddr, Act.put, resS_run Or.out]) rfl ⟨.inl ⟨_, hun.out, rfl⟩, hb.out⟩
    by_cases hi7 : i = 7
    · subst hi7
      clear hi
      rw [show ((7 : Nat) : Int) = 7 from rfl]
      obtain ⟨k, hk⟩ : ∃ k : Nat, (at_ : Int) + 7 = k := ⟨at_ + 7, by omega⟩
      have ek : Kpt (k = at_ + 7) := ⟨by omega⟩
      have hkl : k < len := by omega
      have hx := ((hC.out _ hb.out).2 k hkl)
      have hlit : ((⟨#[228, 0, 0, 0, 2, 1, 0, 20]⟩ : ByteArray)[7]'(by decide)).toNat = 20 := rfl
      obtain ⟨x, hxx⟩ : ∃ x, x = zs.getD k 0 := ⟨_, rfl⟩
      rw [← hxx] at hx
      by_cases hq : x = 20
      · subst hq
        have hfr2 : Kpt (∀ j, j < 8 → zs.getD (at_ + j) 0 = front.getD j 0) := ⟨fun j hj => by
          by_cases e : j = 7
          · subst e; rw [← ek.out]; exact hxx.symm
          · exact hfr.out j (by omega)⟩
        clear hfr hxx ek
        go_wp2_with (first | (go_region) | fail)
        go_roundw
        case rel => exact ⟨8, by decide, rfl, hfr2, ⟨Or.out.drew⟩, ⟨bel_drw hb.out⟩⟩
        case measure => simp [intOf]
      · have hq2 : (x == 20) = false := beq_eq_false_iff_ne.mpr hq
        have hun : Kpt (unitF zs at_ = some k) := ⟨by rw [ek.out]; exact hHd.out 7 (by decide) hfr.out (by rw [← ek.out, ← hxx]; exact hq)⟩
        clear hfr hxx ek
        go_upto_region 5 with (first | (go_region) | fail)
        replace Or := Kpt.mk Or.out.drew
        replace hb := Kpt.mk (bel_drw hb.out)
        obtain ⟨W1, hW1⟩ : ∃ W, W = wr.drew := ⟨_, rfl⟩
        rw [← hW1] at Or hb ⊢
        clear hW1
        go_wp2_with (first
            | (have hm := m1; refine wpList_store_bx rfl 31 _ _ rfl br _ (paS ((k : Int))).vals rfl rfl Or.out rfl infoS (Sn.vals_one _) rfl ?_; intro w2 hX_ hg_; replace hb := Kpt.mk (hb.out.trans (bel_own hg_ hb.out.size lr.out)); replace Or := Kpt.mk hX_; clear hX_ hg_; clear hm m1; have m2 : Kpt True := ⟨trivial⟩)
            | (go_at_call 27; go_must (refine (hSf.out _ _).mono ?_; rintro e w_ ⟨rfl, h_⟩; replace Or := Kpt.mk (Or.out.below h_ Or.out.lt); replace hb := Kpt.mk (hb.out.trans (h_.mono hb.out.size)); clear h_; have m1 : Kpt True := ⟨trivial⟩))
            | fail)
        refine bodyPost_ret (v := .tuple #[.string ⟨#[]⟩, .agg (paS ((k : Int))).vals, .bool false]) (by simp [results, Tryd.results15, asAddr, Act.put, resS_run Or.out]) rfl ⟨.inl ⟨_, hun.out, rfl⟩, hb.out⟩
    obtain rfl : i = 8 := by omega
    clear hi hi0 hi1 hi2 hi3 hi4 hi5 hi6 hi7 hHd
    rw [show ((8 : Nat) : Int) = 8 from rfl]
    have hx := ((hC.out _ hb.out).2 k28 (by omega))
    obtain ⟨x, hxx⟩ : ∃ x, x = zs.getD k28 0 := ⟨_, rfl⟩
    rw [← hxx] at hx hT1 hT2 hT3
    by_cases h0 : x = 0
    · subst h0
      have h29b := N29
      by_cases h16 : n29 = 16
      · have hun : Kpt (unitF zs at_ = none) := ⟨hT3.out hfr.out rfl h16⟩
        subst h16
        have hcv := conv_rd (hS.out _ hb.out)
        rw [← hSL.out] at hcv
        clear hT1 hT2 hT3 hxx hS
        go_wp2_with (first
            | (have hm := m2; refine wpList_store_bx rfl 31 _ _ rfl br _ zeroS rfl rfl Or.out rfl infoS (Sn.vals_one noS) rfl ?_; intro w3 hX_ hg_; replace hb := Kpt.mk (hb.out.trans (bel_own hg_ hb.out.size lr.out)); replace Or := Kpt.mk hX_; clear hX_ hg_; clear hm m2; have m3 : Kpt True := ⟨trivial⟩)
            | (go_at_call 30; have hm := m1; go_must (refine (hTr.out _).mono ?_; rintro e w_ ⟨rfl, rfl⟩; clear hm m1; have m2 : Kpt True := ⟨trivial⟩))
            | (go_at_call 14; go_must (refine (N29.out _ hb.out).mono ?_; rintro e w_ ⟨rfl, rfl⟩; have m1 : Kpt True := ⟨trivial⟩))
            | fail)
        refine bodyPost_ret (v := .tuple #[.string SR, .agg noS.vals, .bool true]) (by simp [results, Tryd.results15, asAddr, Act.put, resS_run (s := noS) Or.out]) rfl ⟨.inr ⟨hun.out, rfl⟩, hb.out⟩
      · have hun : Kpt (unitF zs at_ = some k29) := ⟨hT2.out hfr.out rfl h16⟩
        have h16b : (n29 == 16) = false := beq_eq_false_iff_ne.mpr h16
        clear hT1 hT2 hT3 hxx hS
        go_wp2_with (first
            | (have hm := m2; refine wpList_store_bx rfl 31 _ _ rfl br _ (paS (k29 : Int)).vals rfl rfl Or.out rfl infoS (Sn.vals_one _) rfl ?_; intro w3 hX_ hg_; replace hb := Kpt.mk (hb.out.trans (bel_own hg_ hb.out.size lr.out)); replace Or := Kpt.mk hX_; clear hX_ hg_; clear hm m2; have m3 : Kpt True := ⟨trivial⟩)
            | (go_at_call 27; have hm := m1; go_must (refine (hSf.out _ _).mono ?_; rintro e w_ ⟨rfl, h_⟩; replace Or := Kpt.mk (Or.out.below h_ Or.out.lt); replace hb := Kpt.mk (hb.out.trans (h_.mono hb.out.size)); clear h_; clear hm m1; have m2 : Kpt True := ⟨trivial⟩))
            | (go_at_call 14; go_must (refine (N29.out _ hb.out).mono ?_; rintro e w_ ⟨rfl, rfl⟩; have m1 : Kpt True := ⟨trivial⟩))
            | fail)
        refine bodyPost_ret (v := .tuple #[.string ⟨#[]⟩, .agg (paS ((k29 : Int))).vals, .bool false]) (by simp [results, Tryd.results15, asAddr, Act.put, resS_run Or.out]) rfl ⟨.inl ⟨_, hun.out, rfl⟩, hb.out⟩
    · have hun : Kpt (unitF zs at_ = some k28) := ⟨hT1.out hfr.out h0⟩
      have h0b : (x == 0) = false := beq_eq_false_iff_ne.mpr h0
      clear hT1 hT2 hT3 hxx hS
      go_wp2_with (first
          | (have hm := m1; refine wpList_store_bx rfl 31 _ _ rfl br _ (paS ((k28 : Int))).vals rfl rfl Or.out rfl infoS (Sn.vals_one _) rfl ?_; intro w2 hX_ hg_; replace hb := Kpt.mk (hb.out.trans (bel_own hg_ hb.out.size lr.out)); replace Or := Kpt.mk hX_; clear hX_ hg_; clear hm m1; have m2 : Kpt True := ⟨trivial⟩)
          | (go_at_call 27; go_must (refine (hSf.out _ _).mono ?_; rintro e w_ ⟨rfl, h_⟩; replace Or := Kpt.mk (Or.out.below h_ Or.out.lt); replace hb := Kpt.mk (hb.out.trans (h_.mono hb.out.size)); clear h_; have m1 : Kpt True := ⟨trivial⟩))
          | fail)
      refine bodyPost_ret (v := .tuple #[.string ⟨#[]⟩, .agg (paS ((k28 : Int))).vals, .bool false]) (by simp [results, Tryd.results15, asAddr, Act.put, resS_run Or.out]) rfl ⟨.inl ⟨_, hun.out, rfl⟩, hb.out⟩
end Go.Proofs.YtnebcbfjlkhimaaDoor
