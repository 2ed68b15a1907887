/-
  Can a list be told?
-/
import Derived.Test.YtnebcbfjlkhimaaDoorJLay
namespace Go.Proofs.YtnebcbfjlkhimaaDoor
open Go.RowKit
set_option linter.unusedVariables false
set_option linter.unusedSimpArgs false
/-- A text ends with a blank. -/
def sufB (S : ByteArray) : Bool := decide (¬ trimL (nums S) = nums S)
theorem suf_nil {S : ByteArray} (h : S.size = 0) : sufB S = false := by
  have hn : nums S = [] := List.length_eq_zero_iff.1 (by rw [nums_len]; exact h)
  unfold sufB
  rw [hn]
  decide
theorem suf_yes {S : ByteArray} {m : Nat} (h : S.size = m + 1) (hx : (nums S).getD m 0 = 32) : sufB S = true := by
  unfold sufB
  rw [decide_eq_true_iff]
  intro e
  have h1 := congrArg List.length e
  rw [trimL_take, nums_len, h, trimN, if_pos hx] at h1
  have := trimN_le (nums S) m
  omega
theorem suf_no {S : ByteArray} {m : Nat} (h : S.size = m + 1) (hx : ¬ (nums S).getD m 0 = 32) : sufB S = false := by
  unfold sufB
  rw [decide_eq_false_iff_not, Classical.not_not]
  unfold trimL
  rw [nums_len, h, trimN, if_neg hx, List.take_of_length_le (by rw [nums_len]; omega)]
theorem last_ext {S : ByteArray} {m : Nat} (h : S.size = m + 1) : (S.extract m (m + 1)).toList = [S[m]] := by
  rw [ByteArray.toList_eq]
  have hl : (S.extract m (m + 1)).size = 1 := by simp; omega
  have h0 : (S.extract m (m + 1)).data.toList.length = 1 := by rw [Array.length_toList]; exact hl
  refine List.ext_getElem h0 (fun j h1 h2 => ?_)
  have hj : j = 0 := by simp at h2; exact h2
  subst hj
  simp
  rfl
theorem slsuf_any (S : ByteArray) (w : World) (hS : S.size ≤ 1000) :
    Calls Tryd.prog 42 #[.string S, .string ⟨#[32]⟩] w fun e w' => e = .returned (.bool (sufB S)) ∧ w' = w := by
  by_cases h0 : S.size = 0
  · rw [suf_nil h0]
    have h0I : ¬ (1 : Int) ≤ S.size := by omega
    go_enter Tryd.func42, Tryd.ntmps42
    go_wp2
    go_ret
    exact ⟨rfl, rfl⟩
  · obtain ⟨m, hm⟩ : ∃ m, S.size = m + 1 := ⟨S.size - 1, by omega⟩
    have hle := last_ext hm
    have hxb : (nums S).getD m 0 = (S[m].toNat : Int) := nums_at S m (by omega)
    obtain ⟨T, hT⟩ : ∃ T, T = S.extract m (m + 1) := ⟨_, rfl⟩
    have hT2 : S.extract m (m + 1) = T := hT.symm
    rw [← hT] at hle
    have hmI : (S.size : Int) = m + 1 := by omega
    by_cases hx : S[m].toNat = 32
    · rw [suf_yes hm (by rw [hxb, hx]; rfl)]
      have hb : (T.toList == [32]) = true := by rw [hle]; simp; exact UInt8.toNat_inj.1 hx
      clear hle hxb hT
      go_enter Tryd.func42, Tryd.ntmps42
      go_wp2
      go_ret
      exact ⟨rfl, rfl⟩
    · rw [suf_no hm (by rw [hxb]; omega)]
      have hb : (T.toList == [32]) = false := by rw [hle]; simp; intro e; exact hx (by rw [e]; rfl)
      clear hle hxb hT
      go_enter Tryd.func42, Tryd.ntmps42
      go_wp2
      go_ret
      exact ⟨rfl, rfl⟩
theorem hsuf_any (S : ByteArray) (w : World) (hS : S.size ≤ 1000) :
    Calls Tryd.prog 33 #[.string S, .string ⟨#[32]⟩] w fun e w' => e = .returned (.bool (sufB S)) ∧ w' = w := by
  have H := Kpt.mk (slsuf_any S w hS)
  clear hS
  go_enter Tryd.func33, Tryd.ntmps33
  go_wp2_with (go_at_call 42; go_must (refine H.out.mono ?_; rintro e w ⟨rfl, rfl⟩))
  go_ret
  exact ⟨rfl, rfl⟩
theorem ser_iff (S : ByteArray) : Ser (nums S) ↔ S.size ≤ 20 ∧ sufB S = false := by
  unfold Ser sufB
  rw [nums_len, decide_eq_false_iff_not, Classical.not_not]
set_option maxRecDepth 100000 in
set_option maxHeartbeats 4000000 in
theorem formed_any (ua sa : Option Addr) (un uc sn sc : Nat) (us : List ByteArray) (ss : List Sg) (w : World) (h1 : Ro 1 w (.slice ua un uc) (us.map sZ)) (h2 : Ro 5 w (.slice sa sn sc) (ss.map Sg.vals)) (hu8 : un ≤ 8) (hs8 : sn ≤ 8) (r : Bool) (hr : r = true ↔ ((∀ S ∈ us, Ser (nums S)) ∧ ∀ g ∈ ss, Seg un g)) :
    Calls Tryd.prog 21 #[.agg (lsV (.slice ua un uc) (.slice sa sn sc))] w fun e w' => e = .returned (.bool r) ∧ Below w.heap.size w w' := by
  have e1 := h1.len
  have e2 := h2.len
  rw [List.length_map] at e1 e2
  obtain ⟨e1, c1⟩ := e1
  obtain ⟨e2, c2⟩ := e2
  have q1 := Kpt.mk h1
  have q2 := Kpt.mk h2
  replace e1 := Kpt.mk e1
  replace e2 := Kpt.mk e2
  replace hr := Kpt.mk hr
  have hunm : un ≤ maxLen := by unfold maxLen; omega
  clear h1 h2
  have hb := Kpt.mk (Below.refl w.heap.size w)
  go_enter Tryd.func21, Tryd.ntmps21
  go_wp2_with (first
      | (refine wpList_box rfl 27 _ rfl (lsV (.slice ua un uc) (.slice sa sn sc)) rfl ?_; intro ba w_a hl_ hX_ h_ _; have la := Kpt.mk (Nat.le_trans hb.out.size hl_); replace hb := Kpt.mk (hb.out.trans (h_.mono hb.out.size)); have Oa := Kpt.mk hX_; have ca0 := ls_c0 Oa.out; have ca1 := ls_c1 Oa.out; clear hl_ hX_ h_; have m1 : Kpt True := ⟨trivial⟩)
      | fail)
  go_loopw [10] (fun t10 wr => ∃ k : Nat, k ≤ un ∧ t10 = .int .i64 k ∧ Kpt (∀ j S, j < k → us[j]? = some S → Ser (nums S)) ∧ Kpt (Below w_a.heap.size w_a wr)) (fun t10 _ => un - (intOf t10).toNat)
  case atStart => exact ⟨0, by omega, rfl, ⟨fun j S hj => by omega⟩, ⟨Below.refl _ _⟩⟩
  case round =>
    obtain ⟨k, hk, rfl, hje, hwb⟩ := hrel
    replace Oa := Kpt.mk (Oa.out.below hwb.out Oa.out.lt)
    replace hb := Kpt.mk (hb.out.trans (hwb.out.mono hb.out.size))
    replace ca0 := ls_c0 Oa.out
    replace ca1 := ls_c1 Oa.out
    by_cases hkn : k < un
    · have hkI : (k : Int) < un := by omega
      obtain ⟨g1, o1, rfl, hg1, hm1, hr1⟩ := q1.out.at (by omega)
      obtain ⟨A, hA⟩ : ∃ A, us[k]? = some A := ⟨_, List.getElem?_eq_getElem (by have := e1.out; omega)⟩
      have x1 : wr.cell? ⟨g1, o1 + k, none⟩ = some (.string A) := by
        have := rangeAt_block (hr1 k (sZ A) (by rw [List.getElem?_map, hA]; rfl)) (hb.out.block g1 hg1) 0 (.string A) rfl
        rw [Nat.mul_one] at this
        exact this
      have hAm : A ∈ us := List.mem_of_getElem? hA
      unfold maxLen at hm1
      clear hr1
      by_cases h20 : A.size ≤ 20
      case neg =>
        have hr0 : Kpt (r = false) := ⟨Bool.eq_false_iff.2 fun hrt => by have e := hr.out.1 hrt; have := ((ser_iff A).1 (e.1 A hAm)).1; omega⟩
        have hqI : (20 : Int) < A.size := by omega
        clear hA hAm hje hr
        go_wp2_with fail
        go_ret
        exact ⟨by rw [hr0.out]; rfl, hb.out⟩
      case pos =>
      have hqI : ¬ (20 : Int) < A.size := by omega
      have hSf : Kpt (∀ W : World, Calls Tryd.prog 33 #[.string A, .string ⟨#[32]⟩] W fun e w' => e = .returned (.bool (sufB A)) ∧ w' = W) := ⟨fun W => hsuf_any A W (by omega)⟩
      have hsr := ser_iff A
      obtain ⟨sf, hsf⟩ : ∃ b, b = sufB A := ⟨_, rfl⟩
      rw [← hsf] at hSf hsr
      clear hsf
      cases sf with
      | true =>
        have hr0 : Kpt (r = false) := ⟨Bool.eq_false_iff.2 fun hrt => by have e := hr.out.1 hrt; have := (hsr.1 (e.1 A hAm)).2; cases this⟩
        clear hA hAm hje hr hsr
        go_wp2_with (go_at_call 33; go_must (refine (hSf.out _).mono ?_; rintro e w_ ⟨rfl, rfl⟩))
        go_ret
        exact ⟨by rw [hr0.out]; rfl, hb.out⟩
      | false =>
        have hje2 : Kpt (∀ j S, j < k + 1 → us[j]? = some S → Ser (nums S)) := ⟨fun j S hj hS => by
          by_cases e : j = k
          · subst e; rw [hA] at hS; injection hS with hS; subst hS; exact hsr.2 ⟨h20, rfl⟩
          · exact hje.out j S (by omega) hS⟩
        clear hA hAm hje hr hsr
        go_wp2_with (go_at_call 33; go_must (refine (hSf.out _).mono ?_; rintro e w_ ⟨rfl, rfl⟩))
        go_roundw
        case rel => exact ⟨k + 1, by omega, by go_num, hje2, hwb⟩
        case measure => simp [intOf]; omega
    · obtain rfl : k = un := by omega
      have hus : Kpt (∀ S ∈ us, Ser (nums S)) := ⟨fun S hS => by
        obtain ⟨j, hj, rfl⟩ := List.mem_iff_getElem.1 hS
        exact hje.out j _ (by have := e1.out; omega) (List.getElem?_eq_getElem hj)⟩
      have hkI : ¬ (k : Int) < k := by omega
      clear hje hwb hkn hk
      go_wp2_with fail
      go_loopw [25] (fun t25 wq => ∃ q : Nat, q ≤ sn ∧ t25 = .int .i64 q ∧ Kpt (∀ j g, j < q → ss[j]? = some g → Seg k g) ∧ Kpt (Below wr.heap.size wr wq)) (fun t25 _ => sn - (intOf t25).toNat)
      case atStart => exact ⟨0, by omega, rfl, ⟨fun j S hj => by omega⟩, ⟨Below.refl _ _⟩⟩
      case round =>
        obtain ⟨q, hq, rfl, hje, hwb⟩ := hrel
        replace Oa := Kpt.mk (Oa.out.below hwb.out Oa.out.lt)
        replace hb := Kpt.mk (hb.out.trans (hwb.out.mono hb.out.size))
        replace ca0 := ls_c0 Oa.out
        replace ca1 := ls_c1 Oa.out
        by_cases hqn : q < sn
        · have hqnI : (q : Int) < sn := by omega
          obtain ⟨g2, o2, rfl, hg2, hm2, hr2⟩ := q2.out.at (by omega)
          obtain ⟨G, hG⟩ : ∃ G, ss[q]? = some G := ⟨_, List.getElem?_eq_getElem (by have := e2.out; omega)⟩
          have x2 : Kpt (wr.rangeAt g2 (o2 + q * 5) G.vals.toList) := ⟨rangeAt_block (hr2 q G.vals (by rw [List.getElem?_map, hG]; rfl)) (hb.out.block g2 hg2)⟩
          have hGm : G ∈ ss := List.mem_of_getElem? hG
          obtain ⟨F, T, B, S, D⟩ := G
          have hsg : Kpt (Seg k ⟨F, T, B, S, D⟩ ↔ (0 ≤ F ∧ F < k) ∧ (0 ≤ T ∧ T < k) ∧ (0 ≤ B ∧ B ≤ 256)) := ⟨Iff.rfl⟩
          have hrn : Kpt (¬ Seg k ⟨F, T, B, S, D⟩ → r = false) := ⟨fun hn => Bool.eq_false_iff.2 fun hrt => hn ((hr.out.1 hrt).2 _ hGm)⟩
          have hje2 : Kpt (Seg k ⟨F, T, B, S, D⟩ → ∀ j g, j < q + 1 → ss[j]? = some g → Seg k g) := ⟨fun hy j g hj hg => by
            by_cases e : j = q
            · subst e; rw [hG] at hg; injection hg with hg; subst hg; exact hy
            · exact hje.out j g (by omega) hg⟩
          unfold maxLen at hm2
          clear hr2 hG hGm hje hr
          by_cases hF : 0 ≤ F ∧ F < k
          case neg =>
            have hr0 : Kpt (r = false) := ⟨hrn.out (fun e => hF (hsg.out.1 e).1)⟩
            have hH0 := Kpt.mk (fun W => has_no ua k uc (.slice (some ⟨g2, o2, none⟩) sn sc) F W hunm (by omega))
            clear hrn hje2 hsg
            go_wp2_with (first
              | (go_at_call 31; have hm := m3; go_must (refine (hH0.out _).mono ?_; rintro e w_ ⟨rfl, h_⟩; replace Ox := Kpt.mk (Ox.out.below h_ Ox.out.lt); replace cx0 := sg_c0 Ox.out; replace cx1 := sg_c1 Ox.out; replace cx2 := sg_c2 Ox.out; replace Oa := Kpt.mk (Oa.out.below h_ Oa.out.lt); replace ca0 := ls_c0 Oa.out; replace ca1 := ls_c1 Oa.out; replace hb := Kpt.mk (hb.out.trans (h_.mono hb.out.size)); clear h_; clear hm m3; have m4 : Kpt True := ⟨trivial⟩))
              | (have hm := m2; refine wpList_store_bx rfl 50 _ _ rfl bx zeroG (Sg.vals ⟨F, T, B, S, D⟩) rfl rfl Ox.out rfl infoG (Sg.vals_one _) rfl ?_; intro w3 hX_ hg_; replace Oa := Kpt.mk (Oa.out.grown hg_ (by simp; omega)); replace ca0 := ls_c0 Oa.out; replace ca1 := ls_c1 Oa.out; replace hb := Kpt.mk (hb.out.trans (bel_own hg_ hb.out.size lx.out)); replace Ox := Kpt.mk hX_; have cx0 := sg_c0 Ox.out; have cx1 := sg_c1 Ox.out; have cx2 := sg_c2 Ox.out; clear hX_ hg_; clear hm m2; have m3 : Kpt True := ⟨trivial⟩)
              | (have hm := m1; refine wpList_var rfl 50 rfl zeroG zeroGi ?_; intro bx w2 hl_ hX_ h_; have lx := Kpt.mk (Nat.le_trans hb.out.size hl_); have qax : ba < bx := Nat.lt_of_lt_of_le Oa.out.lt hl_; replace Oa := Kpt.mk (Oa.out.below h_ Oa.out.lt); replace ca0 := ls_c0 Oa.out; replace ca1 := ls_c1 Oa.out; replace hb := Kpt.mk (hb.out.trans (h_.mono hb.out.size)); have Ox := Kpt.mk hX_; clear hl_ hX_ h_; clear hm m1; have m2 : Kpt True := ⟨trivial⟩)
              | (refine (?_ : wpList _ _ _ (Oper.mk _ (Op.load 50 _) _ _ _ _ :: _) _ _); go_must (refine wpList_load_mid rfl 50 _ rfl g2 (o2 + q * 5) rfl (Sg.vals ⟨F, T, B, S, D⟩).toList _ x2.out Tryd.underlying50 rfl infoG ?_; have m1 : Kpt True := ⟨trivial⟩))
              | fail)
            go_ret
            exact ⟨by rw [hr0.out]; rfl, hb.out⟩
          case pos =>
          have hH0 := Kpt.mk (fun W => has_yes ua k uc (.slice (some ⟨g2, o2, none⟩) sn sc) F W hunm hF.1 hF.2)
          by_cases hT : 0 ≤ T ∧ T < k
          case neg =>
            have hr0 : Kpt (r = false) := ⟨hrn.out (fun e => hT (hsg.out.1 e).2.1)⟩
            have hH1 := Kpt.mk (fun W => has_no ua k uc (.slice (some ⟨g2, o2, none⟩) sn sc) T W hunm (by omega))
            clear hrn hje2 hsg
            go_wp2_with (first
              | (go_at_call 31; have hm := m4; go_must (refine (hH1.out _).mono ?_; rintro e w_ ⟨rfl, h_⟩; replace Ox := Kpt.mk (Ox.out.below h_ Ox.out.lt); replace cx0 := sg_c0 Ox.out; replace cx1 := sg_c1 Ox.out; replace cx2 := sg_c2 Ox.out; replace Oa := Kpt.mk (Oa.out.below h_ Oa.out.lt); replace ca0 := ls_c0 Oa.out; replace ca1 := ls_c1 Oa.out; replace hb := Kpt.mk (hb.out.trans (h_.mono hb.out.size)); clear h_; clear hm m4; have m5 : Kpt True := ⟨trivial⟩))
              | (go_at_call 31; have hm := m3; go_must (refine (hH0.out _).mono ?_; rintro e w_ ⟨rfl, h_⟩; replace Ox := Kpt.mk (Ox.out.below h_ Ox.out.lt); replace cx0 := sg_c0 Ox.out; replace cx1 := sg_c1 Ox.out; replace cx2 := sg_c2 Ox.out; replace Oa := Kpt.mk (Oa.out.below h_ Oa.out.lt); replace ca0 := ls_c0 Oa.out; replace ca1 := ls_c1 Oa.out; replace hb := Kpt.mk (hb.out.trans (h_.mono hb.out.size)); clear h_; clear hm m3; have m4 : Kpt True := ⟨trivial⟩))
              | (have hm := m2; refine wpList_store_bx rfl 50 _ _ rfl bx zeroG (Sg.vals ⟨F, T, B, S, D⟩) rfl rfl Ox.out rfl infoG (Sg.vals_one _) rfl ?_; intro w3 hX_ hg_; replace Oa := Kpt.mk (Oa.out.grown hg_ (by simp; omega)); replace ca0 := ls_c0 Oa.out; replace ca1 := ls_c1 Oa.out; replace hb := Kpt.mk (hb.out.trans (bel_own hg_ hb.out.size lx.out)); replace Ox := Kpt.mk hX_; have cx0 := sg_c0 Ox.out; have cx1 := sg_c1 Ox.out; have cx2 := sg_c2 Ox.out; clear hX_ hg_; clear hm m2; have m3 : Kpt True := ⟨trivial⟩)
              | (have hm := m1; refine wpList_var rfl 50 rfl zeroG zeroGi ?_; intro bx w2 hl_ hX_ h_; have lx := Kpt.mk (Nat.le_trans hb.out.size hl_); have qax : ba < bx := Nat.lt_of_lt_of_le Oa.out.lt hl_; replace Oa := Kpt.mk (Oa.out.below h_ Oa.out.lt); replace ca0 := ls_c0 Oa.out; replace ca1 := ls_c1 Oa.out; replace hb := Kpt.mk (hb.out.trans (h_.mono hb.out.size)); have Ox := Kpt.mk hX_; clear hl_ hX_ h_; clear hm m1; have m2 : Kpt True := ⟨trivial⟩)
              | (refine (?_ : wpList _ _ _ (Oper.mk _ (Op.load 50 _) _ _ _ _ :: _) _ _); go_must (refine wpList_load_mid rfl 50 _ rfl g2 (o2 + q * 5) rfl (Sg.vals ⟨F, T, B, S, D⟩).toList _ x2.out Tryd.underlying50 rfl infoG ?_; have m1 : Kpt True := ⟨trivial⟩))
              | fail)
            go_ret
            exact ⟨by rw [hr0.out]; rfl, hb.out⟩
          case pos =>
          have hH1 := Kpt.mk (fun W => has_yes ua k uc (.slice (some ⟨g2, o2, none⟩) sn sc) T W hunm hT.1 hT.2)
          by_cases hB0 : B < 0
          case pos =>
            have hr0 : Kpt (r = false) := ⟨hrn.out (fun e => by have := (hsg.out.1 e).2.2.1; omega)⟩
            clear hrn hje2 hsg
            go_wp2_with (first
              | (go_at_call 31; have hm := m4; go_must (refine (hH1.out _).mono ?_; rintro e w_ ⟨rfl, h_⟩; replace Ox := Kpt.mk (Ox.out.below h_ Ox.out.lt); replace cx0 := sg_c0 Ox.out; replace cx1 := sg_c1 Ox.out; replace cx2 := sg_c2 Ox.out; replace Oa := Kpt.mk (Oa.out.below h_ Oa.out.lt); replace ca0 := ls_c0 Oa.out; replace ca1 := ls_c1 Oa.out; replace hb := Kpt.mk (hb.out.trans (h_.mono hb.out.size)); clear h_; clear hm m4; have m5 : Kpt True := ⟨trivial⟩))
              | (go_at_call 31; have hm := m3; go_must (refine (hH0.out _).mono ?_; rintro e w_ ⟨rfl, h_⟩; replace Ox := Kpt.mk (Ox.out.below h_ Ox.out.lt); replace cx0 := sg_c0 Ox.out; replace cx1 := sg_c1 Ox.out; replace cx2 := sg_c2 Ox.out; replace Oa := Kpt.mk (Oa.out.below h_ Oa.out.lt); replace ca0 := ls_c0 Oa.out; replace ca1 := ls_c1 Oa.out; replace hb := Kpt.mk (hb.out.trans (h_.mono hb.out.size)); clear h_; clear hm m3; have m4 : Kpt True := ⟨trivial⟩))
              | (have hm := m2; refine wpList_store_bx rfl 50 _ _ rfl bx zeroG (Sg.vals ⟨F, T, B, S, D⟩) rfl rfl Ox.out rfl infoG (Sg.vals_one _) rfl ?_; intro w3 hX_ hg_; replace Oa := Kpt.mk (Oa.out.grown hg_ (by simp; omega)); replace ca0 := ls_c0 Oa.out; replace ca1 := ls_c1 Oa.out; replace hb := Kpt.mk (hb.out.trans (bel_own hg_ hb.out.size lx.out)); replace Ox := Kpt.mk hX_; have cx0 := sg_c0 Ox.out; have cx1 := sg_c1 Ox.out; have cx2 := sg_c2 Ox.out; clear hX_ hg_; clear hm m2; have m3 : Kpt True := ⟨trivial⟩)
              | (have hm := m1; refine wpList_var rfl 50 rfl zeroG zeroGi ?_; intro bx w2 hl_ hX_ h_; have lx := Kpt.mk (Nat.le_trans hb.out.size hl_); have qax : ba < bx := Nat.lt_of_lt_of_le Oa.out.lt hl_; replace Oa := Kpt.mk (Oa.out.below h_ Oa.out.lt); replace ca0 := ls_c0 Oa.out; replace ca1 := ls_c1 Oa.out; replace hb := Kpt.mk (hb.out.trans (h_.mono hb.out.size)); have Ox := Kpt.mk hX_; clear hl_ hX_ h_; clear hm m1; have m2 : Kpt True := ⟨trivial⟩)
              | (refine (?_ : wpList _ _ _ (Oper.mk _ (Op.load 50 _) _ _ _ _ :: _) _ _); go_must (refine wpList_load_mid rfl 50 _ rfl g2 (o2 + q * 5) rfl (Sg.vals ⟨F, T, B, S, D⟩).toList _ x2.out Tryd.underlying50 rfl infoG ?_; have m1 : Kpt True := ⟨trivial⟩))
              | fail)
            go_ret
            exact ⟨by rw [hr0.out]; rfl, hb.out⟩
          case neg =>
          by_cases hB1 : 256 < B
          case pos =>
            have hr0 : Kpt (r = false) := ⟨hrn.out (fun e => by have := (hsg.out.1 e).2.2.2; omega)⟩
            clear hrn hje2 hsg
            go_wp2_with (first
              | (go_at_call 31; have hm := m4; go_must (refine (hH1.out _).mono ?_; rintro e w_ ⟨rfl, h_⟩; replace Ox := Kpt.mk (Ox.out.below h_ Ox.out.lt); replace cx0 := sg_c0 Ox.out; replace cx1 := sg_c1 Ox.out; replace cx2 := sg_c2 Ox.out; replace Oa := Kpt.mk (Oa.out.below h_ Oa.out.lt); replace ca0 := ls_c0 Oa.out; replace ca1 := ls_c1 Oa.out; replace hb := Kpt.mk (hb.out.trans (h_.mono hb.out.size)); clear h_; clear hm m4; have m5 : Kpt True := ⟨trivial⟩))
              | (go_at_call 31; have hm := m3; go_must (refine (hH0.out _).mono ?_; rintro e w_ ⟨rfl, h_⟩; replace Ox := Kpt.mk (Ox.out.below h_ Ox.out.lt); replace cx0 := sg_c0 Ox.out; replace cx1 := sg_c1 Ox.out; replace cx2 := sg_c2 Ox.out; replace Oa := Kpt.mk (Oa.out.below h_ Oa.out.lt); replace ca0 := ls_c0 Oa.out; replace ca1 := ls_c1 Oa.out; replace hb := Kpt.mk (hb.out.trans (h_.mono hb.out.size)); clear h_; clear hm m3; have m4 : Kpt True := ⟨trivial⟩))
              | (have hm := m2; refine wpList_store_bx rfl 50 _ _ rfl bx zeroG (Sg.vals ⟨F, T, B, S, D⟩) rfl rfl Ox.out rfl infoG (Sg.vals_one _) rfl ?_; intro w3 hX_ hg_; replace Oa := Kpt.mk (Oa.out.grown hg_ (by simp; omega)); replace ca0 := ls_c0 Oa.out; replace ca1 := ls_c1 Oa.out; replace hb := Kpt.mk (hb.out.trans (bel_own hg_ hb.out.size lx.out)); replace Ox := Kpt.mk hX_; have cx0 := sg_c0 Ox.out; have cx1 := sg_c1 Ox.out; have cx2 := sg_c2 Ox.out; clear hX_ hg_; clear hm m2; have m3 : Kpt True := ⟨trivial⟩)
              | (have hm := m1; refine wpList_var rfl 50 rfl zeroG zeroGi ?_; intro bx w2 hl_ hX_ h_; have lx := Kpt.mk (Nat.le_trans hb.out.size hl_); have qax : ba < bx := Nat.lt_of_lt_of_le Oa.out.lt hl_; replace Oa := Kpt.mk (Oa.out.below h_ Oa.out.lt); replace ca0 := ls_c0 Oa.out; replace ca1 := ls_c1 Oa.out; replace hb := Kpt.mk (hb.out.trans (h_.mono hb.out.size)); have Ox := Kpt.mk hX_; clear hl_ hX_ h_; clear hm m1; have m2 : Kpt True := ⟨trivial⟩)
              | (refine (?_ : wpList _ _ _ (Oper.mk _ (Op.load 50 _) _ _ _ _ :: _) _ _); go_must (refine wpList_load_mid rfl 50 _ rfl g2 (o2 + q * 5) rfl (Sg.vals ⟨F, T, B, S, D⟩).toList _ x2.out Tryd.underlying50 rfl infoG ?_; have m1 : Kpt True := ⟨trivial⟩))
              | fail)
            go_ret
            exact ⟨by rw [hr0.out]; rfl, hb.out⟩
          case neg =>
          have hje3 := Kpt.mk (hje2.out (hsg.out.2 ⟨hF, hT, by omega, by omega⟩))
          have hwq := Kpt.mk hwb.out
          clear hrn hje2 hsg
          go_wp2_with (first
            | (go_at_call 31; have hm := m4; go_must (refine (hH1.out _).mono ?_; rintro e w_ ⟨rfl, h_⟩; replace Ox := Kpt.mk (Ox.out.below h_ Ox.out.lt); replace cx0 := sg_c0 Ox.out; replace cx1 := sg_c1 Ox.out; replace cx2 := sg_c2 Ox.out; replace Oa := Kpt.mk (Oa.out.below h_ Oa.out.lt); replace ca0 := ls_c0 Oa.out; replace ca1 := ls_c1 Oa.out; replace hb := Kpt.mk (hb.out.trans (h_.mono hb.out.size)); replace hwq := Kpt.mk (hwq.out.trans (h_.mono hwq.out.size)); clear h_; clear hm m4; have m5 : Kpt True := ⟨trivial⟩))
            | (go_at_call 31; have hm := m3; go_must (refine (hH0.out _).mono ?_; rintro e w_ ⟨rfl, h_⟩; replace Ox := Kpt.mk (Ox.out.below h_ Ox.out.lt); replace cx0 := sg_c0 Ox.out; replace cx1 := sg_c1 Ox.out; replace cx2 := sg_c2 Ox.out; replace Oa := Kpt.mk (Oa.out.below h_ Oa.out.lt); replace ca0 := ls_c0 Oa.out; replace ca1 := ls_c1 Oa.out; replace hb := Kpt.mk (hb.out.trans (h_.mono hb.out.size)); replace hwq := Kpt.mk (hwq.out.trans (h_.mono hwq.out.size)); clear h_; clear hm m3; have m4 : Kpt True := ⟨trivial⟩))
            | (have hm := m2; refine wpList_store_bx rfl 50 _ _ rfl bx zeroG (Sg.vals ⟨F, T, B, S, D⟩) rfl rfl Ox.out rfl infoG (Sg.vals_one _) rfl ?_; intro w3 hX_ hg_; replace Oa := Kpt.mk (Oa.out.grown hg_ (by simp; omega)); replace ca0 := ls_c0 Oa.out; replace ca1 := ls_c1 Oa.out; replace hb := Kpt.mk (hb.out.trans (bel_own hg_ hb.out.size lx.out)); replace hwq := Kpt.mk (hwq.out.trans (bel_own hg_ hwq.out.size lxq.out)); replace Ox := Kpt.mk hX_; have cx0 := sg_c0 Ox.out; have cx1 := sg_c1 Ox.out; have cx2 := sg_c2 Ox.out; clear hX_ hg_; clear hm m2; have m3 : Kpt True := ⟨trivial⟩)
            | (have hm := m1; refine wpList_var rfl 50 rfl zeroG zeroGi ?_; intro bx w2 hl_ hX_ h_; have lx := Kpt.mk (Nat.le_trans hb.out.size hl_); have lxq := Kpt.mk (Nat.le_trans hwq.out.size hl_); have qax : ba < bx := Nat.lt_of_lt_of_le Oa.out.lt hl_; replace Oa := Kpt.mk (Oa.out.below h_ Oa.out.lt); replace ca0 := ls_c0 Oa.out; replace ca1 := ls_c1 Oa.out; replace hb := Kpt.mk (hb.out.trans (h_.mono hb.out.size)); replace hwq := Kpt.mk (hwq.out.trans (h_.mono hwq.out.size)); have Ox := Kpt.mk hX_; clear hl_ hX_ h_; clear hm m1; have m2 : Kpt True := ⟨trivial⟩)
            | (refine (?_ : wpList _ _ _ (Oper.mk _ (Op.load 50 _) _ _ _ _ :: _) _ _); go_must (refine wpList_load_mid rfl 50 _ rfl g2 (o2 + q * 5) rfl (Sg.vals ⟨F, T, B, S, D⟩).toList _ x2.out Tryd.underlying50 rfl infoG ?_; have m1 : Kpt True := ⟨trivial⟩))
            | fail)
          go_roundw
          case rel => exact ⟨q + 1, by omega, by go_num, hje3, hwq⟩
          case measure => simp [intOf]; omega
        · obtain rfl : q = sn := by omega
          have hr1 : Kpt (r = true) := ⟨by
            refine hr.out.2 ⟨hus.out, fun g hg => ?_⟩
            obtain ⟨j, hj, rfl⟩ := List.mem_iff_getElem.1 hg
            exact hje.out j _ (by have := e2.out; omega) (List.getElem?_eq_getElem hj)⟩
          have hqI : ¬ (q : Int) < q := by omega
          clear hje hr hus
          go_wp2_with fail
          go_ret
          exact ⟨by rw [hr1.out]; rfl, hb.out⟩
end Go.Proofs.YtnebcbfjlkhimaaDoor
