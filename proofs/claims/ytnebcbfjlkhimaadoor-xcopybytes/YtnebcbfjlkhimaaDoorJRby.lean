/-
  Bytes, as the document has them.
-/
import Derived.Test.YtnebcbfjlkhimaaDoorJBig
import Derived.Test.YtnebcbfjlkhimaaDoorJRtrim
import Derived.Test.YtnebcbfjlkhimaaDoorJSame
namespace Go.Proofs.YtnebcbfjlkhimaaDoor
open Go.RowKit
set_option linter.unusedVariables false
set_option linter.unusedSimpArgs false
set_option maxRecDepth 100000 in
set_option maxHeartbeats 1000000 in
theorem rby_long (ua sa : Option Addr) (un uc sn sc : Nat) (w : World) (h : 8 < un ∨ 8 < sn) :
    Calls Tryd.prog 11 #[.agg (lsV (.slice ua un uc) (.slice sa sn sc))] w fun e w' => e = .returned (.tuple #[.slice none 0 0, .int .i64 2]) ∧ Below w.heap.size w w' := by
  have hb := Kpt.mk (Below.refl w.heap.size w)
  by_cases hu : 8 < un
  · have huI : (8 : Int) < un := by omega
    clear h
    go_enter Tryd.func11, Tryd.ntmps11
    go_wp2_with (first
        | (refine wpList_box rfl 36 _ rfl (lsV (.slice ua un uc) (.slice sa sn sc)) rfl ?_; intro ba w_a hl_ hX_ h_ _; have la := Kpt.mk (Nat.le_trans hb.out.size hl_); replace hb := Kpt.mk (hb.out.trans (h_.mono hb.out.size)); have Oa := Kpt.mk hX_; have ca0 := ls_c0 Oa.out; have ca1 := ls_c1 Oa.out; clear hl_ hX_ h_; have m1 : Kpt True := ⟨trivial⟩)
        | fail)
    go_ret2
    exact ⟨rfl, hb.out⟩
  · have huI : ¬ (8 : Int) < un := by omega
    have hsI : (8 : Int) < sn := by omega
    clear h
    go_enter Tryd.func11, Tryd.ntmps11
    go_wp2_with (first
        | (refine wpList_box rfl 36 _ rfl (lsV (.slice ua un uc) (.slice sa sn sc)) rfl ?_; intro ba w_a hl_ hX_ h_ _; have la := Kpt.mk (Nat.le_trans hb.out.size hl_); replace hb := Kpt.mk (hb.out.trans (h_.mono hb.out.size)); have Oa := Kpt.mk hX_; have ca0 := ls_c0 Oa.out; have ca1 := ls_c1 Oa.out; clear hl_ hX_ h_; have m1 : Kpt True := ⟨trivial⟩)
        | fail)
    go_ret2
    exact ⟨rfl, hb.out⟩
set_option maxRecDepth 100000 in
set_option maxHeartbeats 8000000 in
theorem rby_any (ua sa : Option Addr) (un uc sn sc : Nat) (us : List ByteArray) (ss : List Sg) (w : World) (h1 : Ro 1 w (.slice ua un uc) (us.map sZ)) (h2 : Ro 5 w (.slice sa sn sc) (ss.map Sg.vals)) (hu8 : un ≤ 8) (hs8 : sn ≤ 8) (hw : ∀ g ∈ ss, SegW g) (r : Bool) (hr : r = true ↔ ((∀ S ∈ us, Ser (nums S)) ∧ ∀ g ∈ ss, Seg un g)) :
    Calls Tryd.prog 11 #[.agg (lsV (.slice ua un uc) (.slice sa sn sc))] w fun e w' => ∃ v, e = .returned (.tuple #[v, .int .i64 (if r = true then 0 else 3)]) ∧ ByP w w' v (if r = true then bytesX (us.map nums) ss else []) := by
  have huI : ¬ (8 : Int) < un := by omega
  have hsI : ¬ (8 : Int) < sn := by omega
  have e1 := h1.len
  have e2 := h2.len
  rw [List.length_map] at e1 e2
  obtain ⟨e1, c1⟩ := e1
  obtain ⟨e2, c2⟩ := e2
  obtain ⟨U32, hU⟩ : ∃ k : Nat, (32 : Int) * un = k := ⟨32 * un, by omega⟩
  obtain ⟨S28, hS⟩ : ∃ k : Nat, (28 : Int) * sn = k := ⟨28 * sn, by omega⟩
  have wU : IntKind.u64.wrap (U32 : Int) = U32 := by rw [IntKind.wrap_u64]; omega
  have wS : IntKind.u64.wrap (S28 : Int) = S28 := by rw [IntKind.wrap_u64]; omega
  have hU4 : (U32 : Int) < 65536 := by omega
  have hS4 : (S28 : Int) < 65536 := by omega
  have hBu := Kpt.mk (fun W => big_any (U32 : Int) 2 W (by omega) (by omega) (by decide) (by decide))
  have hBs := Kpt.mk (fun W => big_any (S28 : Int) 4 W (by omega) (by omega) (by decide) (by decide))
  have hhd : Kpt ([0, 0] ++ bigB (U32 : Int) 2 ++ [0, 0, 0, 0] ++ bigB (S28 : Int) 4 ++ [0, 0, 0, 0] = headB un sn) := ⟨by rw [show U32 = 32 * un by omega, show S28 = 28 * sn by omega]; rfl⟩
  have q1 := Kpt.mk h1
  have q2 := Kpt.mk h2
  replace e1 := Kpt.mk e1
  replace e2 := Kpt.mk e2
  replace hr := Kpt.mk hr
  replace hw := Kpt.mk hw
  clear h1 h2
  have hb := Kpt.mk (Below.refl w.heap.size w)
  go_enter Tryd.func11, Tryd.ntmps11
  go_upto_region 4 with (first
    | (refine (?_ : wpList _ _ _ (Oper.mk _ (Op.buildSlice _ _ _) _ _ _ _ :: _) _ _); have hm := m1; go_must (refine wpList_built rfl 2 [0, 0] (by kernel_rfl) rfl (by decide) ?_; intro g0 w_b1 hq_ ho_ h_; have hba : ba + 1 ≤ g0 := Nat.le_trans Oa.out.lt hq_; have HP := Kpt.mk (own_re ho_ hba); replace Oa := Kpt.mk (Oa.out.below h_ Oa.out.lt); replace ca0 := ls_c0 Oa.out; replace ca1 := ls_c1 Oa.out; replace hb := Kpt.mk (hb.out.trans (h_.mono hb.out.size)); clear hq_ ho_ h_; clear hm m1; have m2 : Kpt True := ⟨trivial⟩))
    | (refine wpList_box rfl 36 _ rfl (lsV (.slice ua un uc) (.slice sa sn sc)) rfl ?_; intro ba w_a hl_ hX_ h_ _; have la := Kpt.mk (Nat.le_trans hb.out.size hl_); replace hb := Kpt.mk (hb.out.trans (h_.mono hb.out.size)); have Oa := Kpt.mk hX_; have ca0 := ls_c0 Oa.out; have ca1 := ls_c1 Oa.out; clear hl_ hX_ h_; have m1 : Kpt True := ⟨trivial⟩)
    | fail)
  go_upto_region 5 with (first
    | (refine (?_ : wpList _ _ _ (Oper.mk _ (Op.call { callee := .builtin .append, args := _, argTypes := _ }) _ _ _ _ :: _) _ _); have hm := m3; go_must (refine wpList_append_new rfl _ _ rfl (ba + 1) (.slice (some ⟨g0, 0, none⟩) 2 2) (.slice (some ⟨b1, 0, none⟩) 2 2) [0, 0] (bigB (U32 : Int) 2) 2 4 rfl rfl HP.out (own_rd HB.out) (by rw [bigB_len]; decide) (by simp [bigB_len]) (by simp [bigB_len]) (by decide) Oa.out.lt ?_; intro g1 k1 w_a3 ho_ hg_ hgr_; have hne : ba < g0 := (by have := (own_base_le HP.out); omega); replace Oa := Kpt.mk (Oa.out.grown hgr_.out (fun e => by have e2 : some g0 = some ba := e; injection e2 with e2; omega)); replace ca0 := ls_c0 Oa.out; replace ca1 := ls_c1 Oa.out; replace hb := Kpt.mk (hb.out.grown hgr_.out hb.out.size (fun j e => by have e2 : some g0 = some j := e; injection e2 with e2; have := la.out; omega)); replace HP := ho_; clear HB hne hg_ hgr_; clear hm m3; have m4 : Kpt True := ⟨trivial⟩))
    | (go_at_call 25; have hm := m2; go_must (refine (hBu.out _).mono ?_; rintro e w_c2 ⟨b1, rfl, ho_, h_⟩; have HB := Kpt.mk ho_; replace Oa := Kpt.mk (Oa.out.below h_ Oa.out.lt); replace ca0 := ls_c0 Oa.out; replace ca1 := ls_c1 Oa.out; replace hb := Kpt.mk (hb.out.trans (h_.mono hb.out.size)); replace HP := Kpt.mk (own_bel HP.out h_); clear ho_ h_; clear hm m2; have m3 : Kpt True := ⟨trivial⟩))
    | fail)
  go_upto_region 6 with (first
    | (refine (?_ : wpList _ _ _ (Oper.mk _ (Op.call { callee := .builtin .append, args := _, argTypes := _ }) _ _ _ _ :: _) _ _); have hm := m5; go_must (refine wpList_append_new rfl _ _ rfl (ba + 1) (.slice (some ⟨g1, 0, none⟩) 4 k1) (.slice (some ⟨b2, 0, none⟩) 4 4) ([0, 0] ++ bigB (U32 : Int) 2) [0, 0, 0, 0] 4 8 rfl rfl HP.out (own_rd HB.out) (by decide) (by simp [bigB_len]) (by simp [bigB_len]) (by decide) Oa.out.lt ?_; intro g2 k2 w_a5 ho_ hg_ hgr_; have hne : ba < g1 := (by have := (own_base_le HP.out); omega); replace Oa := Kpt.mk (Oa.out.grown hgr_.out (fun e => by have e2 : some g1 = some ba := e; injection e2 with e2; omega)); replace ca0 := ls_c0 Oa.out; replace ca1 := ls_c1 Oa.out; replace hb := Kpt.mk (hb.out.grown hgr_.out hb.out.size (fun j e => by have e2 : some g1 = some j := e; injection e2 with e2; have := la.out; omega)); replace HP := ho_; clear HB hne hg_ hgr_; clear hm m5; have m6 : Kpt True := ⟨trivial⟩))
    | (refine (?_ : wpList _ _ _ (Oper.mk _ (Op.buildSlice _ _ _) _ _ _ _ :: _) _ _); have hm := m4; go_must (refine wpList_built rfl 4 [0, 0, 0, 0] (by kernel_rfl) rfl (by decide) ?_; intro b2 w_b4 hq_ ho_ h_; have HB := Kpt.mk ho_; replace Oa := Kpt.mk (Oa.out.below h_ Oa.out.lt); replace ca0 := ls_c0 Oa.out; replace ca1 := ls_c1 Oa.out; replace hb := Kpt.mk (hb.out.trans (h_.mono hb.out.size)); replace HP := Kpt.mk (own_bel HP.out h_); clear hq_ ho_ h_; clear hm m4; have m5 : Kpt True := ⟨trivial⟩))
    | fail)
  go_upto_region 7 with (first
    | (refine (?_ : wpList _ _ _ (Oper.mk _ (Op.call { callee := .builtin .append, args := _, argTypes := _ }) _ _ _ _ :: _) _ _); have hm := m7; go_must (refine wpList_append_new rfl _ _ rfl (ba + 1) (.slice (some ⟨g2, 0, none⟩) 8 k2) (.slice (some ⟨b3, 0, none⟩) 4 4) ([0, 0] ++ bigB (U32 : Int) 2 ++ [0, 0, 0, 0]) (bigB (S28 : Int) 4) 8 12 rfl rfl HP.out (own_rd HB.out) (by rw [bigB_len]; decide) (by simp [bigB_len]) (by simp [bigB_len]) (by decide) Oa.out.lt ?_; intro g3 k3 w_a7 ho_ hg_ hgr_; have hne : ba < g2 := (by have := (own_base_le HP.out); omega); replace Oa := Kpt.mk (Oa.out.grown hgr_.out (fun e => by have e2 : some g2 = some ba := e; injection e2 with e2; omega)); replace ca0 := ls_c0 Oa.out; replace ca1 := ls_c1 Oa.out; replace hb := Kpt.mk (hb.out.grown hgr_.out hb.out.size (fun j e => by have e2 : some g2 = some j := e; injection e2 with e2; have := la.out; omega)); replace HP := ho_; clear HB hne hg_ hgr_; clear hm m7; have m8 : Kpt True := ⟨trivial⟩))
    | (go_at_call 25; have hm := m6; go_must (refine (hBs.out _).mono ?_; rintro e w_c6 ⟨b3, rfl, ho_, h_⟩; have HB := Kpt.mk ho_; replace Oa := Kpt.mk (Oa.out.below h_ Oa.out.lt); replace ca0 := ls_c0 Oa.out; replace ca1 := ls_c1 Oa.out; replace hb := Kpt.mk (hb.out.trans (h_.mono hb.out.size)); replace HP := Kpt.mk (own_bel HP.out h_); clear ho_ h_; clear hm m6; have m7 : Kpt True := ⟨trivial⟩))
    | fail)
  go_wp2_with (first
    | (refine (?_ : wpList _ _ _ (Oper.mk _ (Op.call { callee := .builtin .append, args := _, argTypes := _ }) _ _ _ _ :: _) _ _); have hm := m9; go_must (refine wpList_append_new rfl _ _ rfl (ba + 1) (.slice (some ⟨g3, 0, none⟩) 12 k3) (.slice (some ⟨b4, 0, none⟩) 4 4) ([0, 0] ++ bigB (U32 : Int) 2 ++ [0, 0, 0, 0] ++ bigB (S28 : Int) 4) [0, 0, 0, 0] 12 16 rfl rfl HP.out (own_rd HB.out) (by decide) (by simp [bigB_len]) (by simp [bigB_len]) (by decide) Oa.out.lt ?_; intro g4 k4 w_a9 ho_ hg_ hgr_; have hne : ba < g3 := (by have := (own_base_le HP.out); omega); replace Oa := Kpt.mk (Oa.out.grown hgr_.out (fun e => by have e2 : some g3 = some ba := e; injection e2 with e2; omega)); replace ca0 := ls_c0 Oa.out; replace ca1 := ls_c1 Oa.out; replace hb := Kpt.mk (hb.out.grown hgr_.out hb.out.size (fun j e => by have e2 : some g3 = some j := e; injection e2 with e2; have := la.out; omega)); replace HP := ho_; clear HB hne hg_ hgr_; clear hm m9; have m10 : Kpt True := ⟨trivial⟩))
    | (refine (?_ : wpList _ _ _ (Oper.mk _ (Op.buildSlice _ _ _) _ _ _ _ :: _) _ _); have hm := m8; go_must (refine wpList_built rfl 4 [0, 0, 0, 0] (by kernel_rfl) rfl (by decide) ?_; intro b4 w_b8 hq_ ho_ h_; have HB := Kpt.mk ho_; replace Oa := Kpt.mk (Oa.out.below h_ Oa.out.lt); replace ca0 := ls_c0 Oa.out; replace ca1 := ls_c1 Oa.out; replace hb := Kpt.mk (hb.out.trans (h_.mono hb.out.size)); replace HP := Kpt.mk (own_bel HP.out h_); clear hq_ ho_ h_; clear hm m8; have m9 : Kpt True := ⟨trivial⟩))
    | fail)
  rw [hhd.out] at HP
  clear hhd hU hS hU4 hS4 hBu hBs m10
  have hZ0 : Kpt (headB un sn = headB un sn ++ (us.take 0).flatMap (fun S => unitB (nums S))) := ⟨by simp⟩
  have hZ0l : (headB un sn).length = 16 := headB_len _ _
  obtain ⟨Z0, hZ0e⟩ : ∃ Z, Z = headB un sn := ⟨_, rfl⟩
  rw [← hZ0e] at HP hZ0l
  have hZ0' : Kpt (Z0 = headB un sn ++ (us.take 0).flatMap (fun S => unitB (nums S))) := ⟨by rw [hZ0e]; exact hZ0.out⟩
  clear hZ0 hZ0e
  go_loopw [4, 5] (fun t4 t5 wr => ∃ (k g n cap : Nat) (Z : List Int), k ≤ un ∧ t5 = .int .i64 k ∧ t4 = .slice (some ⟨g, 0, none⟩) n cap ∧ Z.length = n ∧ 0 < n ∧ n ≤ 16 + 32 * k ∧ Kpt (Z = headB un sn ++ (us.take k).flatMap (fun S => unitB (nums S))) ∧ Kpt (wr.ownsRow (ba + 1) 5 1 (.slice (some ⟨g, 0, none⟩) n cap) n (cels Z)) ∧ Kpt (Bx wr ba (lsV (.slice ua un uc) (.slice sa sn sc))) ∧ Kpt (Below w.heap.size w wr) ∧ Kpt (∀ j S, j < k → us[j]? = some S → Ser (nums S))) (fun _ t5 _ => un - (intOf t5).toNat)
  case atStart => exact ⟨0, g4, 16, k4, Z0, by omega, rfl, rfl, hZ0l, by omega, by omega, hZ0', HP, Oa, hb, ⟨fun j S hj => by omega⟩⟩
  case round =>
    clear Oa hb HP hZ0' hZ0l ca0 ca1
    obtain ⟨k, g, n, cap, Z, hk, rfl, rfl, hZl, hn0, hn, hZ, HP, Oa, hb, hje⟩ := hrel
    have ca0 := ls_c0 Oa.out
    have ca1 := ls_c1 Oa.out
    by_cases hkn : k < un
    · have hkI : (k : Int) < un := by omega
      obtain ⟨g1, o1, rfl, hg1, hm1, hr1⟩ := q1.out.at (by omega)
      have hkl : k < us.length := by have := e1.out; omega
      have x1 : wr.cell? ⟨g1, o1 + k, none⟩ = some (.string us[k]) := by
        have := rangeAt_block (hr1 k (sZ us[k]) (by rw [List.getElem?_map, List.getElem?_eq_getElem hkl]; rfl)) (hb.out.block g1 hg1) 0 (.string us[k]) rfl
        rw [Nat.mul_one] at this
        exact this
      have hAm : us[k] ∈ us := List.getElem_mem hkl
      have hsr := ser_iff us[k]
      have hrn : Kpt (¬ Ser (nums us[k]) → r = false) := ⟨fun hn => Bool.eq_false_iff.2 fun hrt => hn ((hr.out.1 hrt).1 _ hAm)⟩
      have hje2 : Kpt (Ser (nums us[k]) → ∀ j S, j < k + 1 → us[j]? = some S → Ser (nums S)) := ⟨fun hy j S hj hS => by
        by_cases e : j = k
        · subst e; rw [List.getElem?_eq_getElem hkl] at hS; injection hS with hS; subst hS; exact hy
        · exact hje.out j S (by omega) hS⟩
      have hZ2 : Kpt (Z ++ unitB (nums us[k]) = headB un sn ++ (us.take (k + 1)).flatMap (fun S => unitB (nums S))) := ⟨by rw [hZ.out, ← List.take_append_getElem hkl, List.flatMap_append, List.append_assoc]; simp⟩
      have hse := str_eq_iff us[k]
      obtain ⟨A, hA⟩ : ∃ A, A = us[k] := ⟨_, rfl⟩
      rw [← hA] at x1 hsr hrn hje2 hZ2 hse
      unfold maxLen at hm1
      replace hZl := Kpt.mk hZl
      clear hr1 hAm hA hZ hkl hje hr
      by_cases h20 : A.size ≤ 20
      case neg =>
        have hqI : (20 : Int) < A.size := by omega
        have hr0 : r = false := hrn.out (fun e => by have := (hsr.1 e).1; omega)
        subst hr0
        clear hsr hrn hje2 hZ2 hse
        go_wp2_with fail
        go_ret2
        exact ⟨.slice none 0 0, rfl, ⟨⟨0, World.ownsRow_nil _ _ 5 1⟩, hb.out⟩⟩
      case pos =>
      have hqI : ¬ (20 : Int) < A.size := by omega
      have hTr : Kpt (∀ (W : World) (gg K : Nat), A.size ≤ K → Cs W gg 0 A.size (nums A) → Calls Tryd.prog 20 #[.slice (some ⟨gg, 0, none⟩) A.size K] W fun e w' => e = .returned (.string (strOfNums (trimL (nums A)))) ∧ w' = W) := ⟨fun W gg K hK hC => rtrim_any gg 0 A.size K (nums A) W (by omega) hK (nums_len A) hC⟩
      obtain ⟨TS, hTS⟩ : ∃ T, T = strOfNums (trimL (nums A)) := ⟨_, rfl⟩
      rw [← hTS] at hTr hse
      clear hTS
      by_cases hsf : sufB A = false
      case neg =>
        have hr0 : r = false := hrn.out (fun e => hsf (hsr.1 e).2)
        have hq : (TS.toList == A.toList) = false := Bool.eq_false_iff.2 (fun e => hsf (hse.2 (ba_inj (eq_of_beq e))))
        subst hr0
        clear hsr hrn hje2 hZ2 hse hsf
        go_wp2_with (first
          | (go_at_call 20; go_must (refine (hTr.out _ gg K hK hC.out).mono ?_; rintro e w_ ⟨rfl, rfl⟩))
          | (refine (?_ : wpList _ _ _ (Oper.mk _ (Op.convert 9 22 _) _ _ _ _ :: _) _ _); go_must (refine wpList_conv_str (wanted_at false rfl rfl rfl rfl) _ rfl A rfl ?_; intro gg K w4 hK hC h_; replace hb := Kpt.mk (hb.out.trans (h_.out.mono hb.out.size)); clear h_))
          | fail)
        go_ret2
        exact ⟨.slice none 0 0, rfl, ⟨⟨0, World.ownsRow_nil _ _ 5 1⟩, hb.out⟩⟩
      case pos =>
      have hTA : TS = A := hse.1 hsf
      subst hTA
      have hsv := hsr.2 ⟨h20, hsf⟩
      have hje3 := Kpt.mk (hje2.out hsv)
      have hpad : Kpt (Z ++ front ++ nums TS ++ List.replicate (20 - TS.size) 32 ++ [0, 0, 0, 16] = Z ++ unitB (nums TS)) := ⟨by unfold unitB padB; rw [nums_len]; simp only [List.append_assoc]⟩
      obtain ⟨n8, hn8⟩ : ∃ m, n + 8 = m := ⟨_, rfl⟩
      obtain ⟨nA, hnA⟩ : ∃ m, n8 + TS.size = m := ⟨_, rfl⟩
      have hnAI : Kpt (nA = n + 8 + TS.size) := ⟨by omega⟩
      have hfl : front.length = 8 := rfl
      replace hfl := Kpt.mk hfl
      replace hn8 := Kpt.mk hn8
      replace hnA := Kpt.mk hnA
      have hl8 : Kpt ((Z ++ front).length = n8) := ⟨by rw [List.length_append, hZl.out, hfl.out]; exact hn8.out⟩
      have hlA : Kpt ((Z ++ front ++ nums TS).length = nA) := ⟨by rw [List.length_append, hl8.out, nums_len]; exact hnA.out⟩
      have hb8 : n8 ≤ 400 := by have := hn8.out; omega
      have hbA : nA ≤ 420 := by have := hnA.out; omega
      clear hsr hrn hje2 hse hsf hsv
      go_wp2_with (first
        | (refine (?_ : wpList _ _ _ (Oper.mk _ (Op.call { callee := .builtin .append, args := _, argTypes := _ }) _ _ _ _ :: _) _ _); have hm := m2; go_must (refine wpList_append_str rfl _ _ rfl (ba + 1) (.slice (some ⟨g5, 0, none⟩) n8 k5) (Z ++ front) n8 nA TS rfl rfl HP.out (by have := hn8.out; omega) hnA.out (by omega) Oa.out.lt ?_; intro g6 k6 w7 ho_ hgr_; have hne : ba < g5 := (by have := (own_base_le HP.out); omega); replace Oa := Kpt.mk (Oa.out.grown hgr_.out (fun e => by have e2 : some g5 = some ba := e; injection e2 with e2; omega)); replace ca0 := ls_c0 Oa.out; replace ca1 := ls_c1 Oa.out; replace hb := Kpt.mk (hb.out.grown hgr_.out hb.out.size (fun j e => by have e2 : some g5 = some j := e; injection e2 with e2; have := la.out; omega)); replace HP := ho_; clear hgr_ hne hm m2; have m3 : Kpt True := ⟨trivial⟩))
        | (refine (?_ : wpList _ _ _ (Oper.mk _ (Op.call { callee := .builtin .append, args := _, argTypes := _ }) _ _ _ _ :: _) _ _); have hm := m1; go_must (refine wpList_append_new rfl _ _ rfl (ba + 1) (.slice (some ⟨g, 0, none⟩) n cap) (.slice (some ⟨bf, 0, none⟩) 8 8) Z front n n8 rfl rfl HP.out (own_rd HB.out) (by decide) hZl.out (by rw [hfl.out]; exact hn8.out) (by omega) Oa.out.lt ?_; intro g5 k5 w_a1 ho_ hg_ hgr_; have hne : ba < g := (by have := (own_base_le HP.out); omega); replace Oa := Kpt.mk (Oa.out.grown hgr_.out (fun e => by have e2 : some g = some ba := e; injection e2 with e2; omega)); replace ca0 := ls_c0 Oa.out; replace ca1 := ls_c1 Oa.out; replace hb := Kpt.mk (hb.out.grown hgr_.out hb.out.size (fun j e => by have e2 : some g = some j := e; injection e2 with e2; have := la.out; omega)); replace HP := ho_; clear HB hne hg_ hgr_; clear hm m1; have m2 : Kpt True := ⟨trivial⟩))
        | (refine (?_ : wpList _ _ _ (Oper.mk _ (Op.buildSlice _ _ _) _ _ _ _ :: _) _ _); go_must (refine wpList_built rfl 8 front (by kernel_rfl) rfl (by decide) ?_; intro bf w5 hq_ ho_ h_; have HB := Kpt.mk ho_; replace Oa := Kpt.mk (Oa.out.below h_ Oa.out.lt); replace ca0 := ls_c0 Oa.out; replace ca1 := ls_c1 Oa.out; replace hb := Kpt.mk (hb.out.trans (h_.mono hb.out.size)); replace HP := Kpt.mk (own_bel HP.out h_); clear hq_ ho_ h_; have m1 : Kpt True := ⟨trivial⟩))
        | (go_at_call 20; go_must (refine (hTr.out _ gg K hK hC.out).mono ?_; rintro e w_ ⟨rfl, rfl⟩))
        | (refine (?_ : wpList _ _ _ (Oper.mk _ (Op.convert 9 22 _) _ _ _ _ :: _) _ _); go_must (refine wpList_conv_str (wanted_at false rfl rfl rfl rfl) _ rfl TS rfl ?_; intro gg K w4 hK hC h_; replace HP := Kpt.mk (own_bel HP.out h_.out); replace Oa := Kpt.mk (Oa.out.below h_.out Oa.out.lt); replace ca0 := ls_c0 Oa.out; replace ca1 := ls_c1 Oa.out; replace hb := Kpt.mk (hb.out.trans (h_.out.mono hb.out.size)); clear h_))
        | fail)
      have hrep0 : Kpt (Z ++ front ++ nums TS = Z ++ front ++ nums TS ++ List.replicate (TS.size - TS.size) 32) := ⟨by simp⟩
      obtain ⟨Y0, hY0⟩ : ∃ Y, Y = Z ++ front ++ nums TS := ⟨_, rfl⟩
      have hY0' : Kpt (Y0 = Z ++ front ++ nums TS ++ List.replicate (TS.size - TS.size) 32) := ⟨by rw [hY0]; exact hrep0.out⟩
      rw [← hY0] at HP hlA
      clear hrep0 hY0 hTr hl8 m3
      go_loopw [4, 7] (fun t4 t7 wi => ∃ (j gg nn kk : Nat) (Y : List Int), TS.size ≤ j ∧ j ≤ 20 ∧ t7 = .int .i64 j ∧ t4 = .slice (some ⟨gg, 0, none⟩) nn kk ∧ nn = nA + (j - TS.size) ∧ Y.length = nn ∧ Kpt (Y = Z ++ front ++ nums TS ++ List.replicate (j - TS.size) 32) ∧ Kpt (wi.ownsRow (ba + 1) 5 1 (.slice (some ⟨gg, 0, none⟩) nn kk) nn (cels Y)) ∧ Kpt (Bx wi ba (lsV (.slice (some ⟨g1, o1, none⟩) un uc) (.slice sa sn sc))) ∧ Kpt (Below w.heap.size w wi)) (fun _ t7 _ => 20 - (intOf t7).toNat)
      case atStart => exact ⟨TS.size, g6, nA, k6, Y0, Nat.le_refl _, h20, rfl, rfl, by omega, hlA.out, hY0', HP, Oa, hb⟩
      case round =>
        clear HP Oa hb hY0' hlA ca0 ca1
        obtain ⟨j, gg, nn, kk, Y, hj1, hj2, rfl, rfl, hnn, hYl, hY, HP, Oa, hb⟩ := hrel
        have ca0 := ls_c0 Oa.out
        have ca1 := ls_c1 Oa.out
        replace hYl := Kpt.mk hYl
        by_cases hj20 : j < 20
        · have hjI : (j : Int) < 20 := by omega
          obtain ⟨n2, hn2⟩ : ∃ m, nn + 1 = m := ⟨_, rfl⟩
          have hnb : n2 ≤ 500 := by omega
          have hnn2 : Kpt (n2 = nA + (j + 1 - TS.size)) := ⟨by omega⟩
          replace hn2 := Kpt.mk hn2
          replace hnn := Kpt.mk hnn
          have hY2 : Kpt (Y ++ [32] = Z ++ front ++ nums TS ++ List.replicate (j + 1 - TS.size) 32) := ⟨by rw [hY.out, show j + 1 - TS.size = (j - TS.size) + 1 by omega, List.replicate_succ']; simp only [List.append_assoc]⟩
          have hY2l : Kpt ((Y ++ [32]).length = n2) := ⟨by rw [List.length_append, hYl.out]; exact hn2.out⟩
          clear hY
          go_wp2_with (first
            | (refine (?_ : wpList _ _ _ (Oper.mk _ (Op.call { callee := .builtin .append, args := _, argTypes := _ }) _ _ _ _ :: _) _ _); have hm := m1; go_must (refine wpList_append_new rfl _ _ rfl (ba + 1) (.slice (some ⟨gg, 0, none⟩) nn kk) (.slice (some ⟨bf, 0, none⟩) 1 1) Y [32] nn n2 rfl rfl HP.out (own_rd HB.out) (by decide) hYl.out hn2.out (by omega) Oa.out.lt ?_; intro g7 k7 w_a1 ho_ hg_ hgr_; have hne : ba < gg := (by have := (own_base_le HP.out); omega); replace Oa := Kpt.mk (Oa.out.grown hgr_.out (fun e => by have e2 : some gg = some ba := e; injection e2 with e2; omega)); replace ca0 := ls_c0 Oa.out; replace ca1 := ls_c1 Oa.out; replace hb := Kpt.mk (hb.out.grown hgr_.out hb.out.size (fun j e => by have e2 : some gg = some j := e; injection e2 with e2; have := la.out; omega)); replace HP := ho_; clear HB hne hg_ hgr_; clear hm m1; have m2 : Kpt True := ⟨trivial⟩))
            | (refine (?_ : wpList _ _ _ (Oper.mk _ (Op.buildSlice _ _ _) _ _ _ _ :: _) _ _); go_must (refine wpList_built rfl 1 [32] (by kernel_rfl) rfl (by decide) ?_; intro bf w5 hq_ ho_ h_; have HB := Kpt.mk ho_; replace Oa := Kpt.mk (Oa.out.below h_ Oa.out.lt); replace ca0 := ls_c0 Oa.out; replace ca1 := ls_c1 Oa.out; replace hb := Kpt.mk (hb.out.trans (h_.mono hb.out.size)); replace HP := Kpt.mk (own_bel HP.out h_); clear hq_ ho_ h_; have m1 : Kpt True := ⟨trivial⟩))
            | fail)
          go_roundw
          case rel => exact ⟨j + 1, g7, n2, k7, Y ++ [32], by omega, by omega, by go_num, rfl, hnn2.out, hY2l.out, hY2, HP, Oa, hb⟩
          case measure => simp [intOf]; omega
        · obtain rfl : j = 20 := by omega
          have hjI : ¬ (20 : Int) < 20 := by omega
          rw [show ((20 : Nat) : Int) = 20 from rfl]
          obtain ⟨n2, hn2⟩ : ∃ m, nn + 4 = m := ⟨_, rfl⟩
          have hn32 : Kpt (n2 = n + 32) := ⟨by have := hnAI.out; omega⟩
          have hnb : n2 ≤ 500 := by omega
          have hYf : Kpt (Y ++ [0, 0, 0, 16] = Z ++ unitB (nums TS)) := ⟨by rw [hY.out]; exact hpad.out⟩
          have hYfl : Kpt ((Y ++ [0, 0, 0, 16]).length = n2) := ⟨by rw [List.length_append, hYl.out]; exact hn2⟩
          replace hn2 := Kpt.mk hn2
          clear hY hnn
          go_wp2_with (first
            | (refine (?_ : wpList _ _ _ (Oper.mk _ (Op.call { callee := .builtin .append, args := _, argTypes := _ }) _ _ _ _ :: _) _ _); have hm := m1; go_must (refine wpList_append_new rfl _ _ rfl (ba + 1) (.slice (some ⟨gg, 0, none⟩) nn kk) (.slice (some ⟨bf, 0, none⟩) 4 4) Y [0, 0, 0, 16] nn n2 rfl rfl HP.out (own_rd HB.out) (by decide) hYl.out hn2.out (by omega) Oa.out.lt ?_; intro g7 k7 w_a1 ho_ hg_ hgr_; have hne : ba < gg := (by have := (own_base_le HP.out); omega); replace Oa := Kpt.mk (Oa.out.grown hgr_.out (fun e => by have e2 : some gg = some ba := e; injection e2 with e2; omega)); replace ca0 := ls_c0 Oa.out; replace ca1 := ls_c1 Oa.out; replace hb := Kpt.mk (hb.out.grown hgr_.out hb.out.size (fun j e => by have e2 : some gg = some j := e; injection e2 with e2; have := la.out; omega)); replace HP := ho_; clear HB hne hg_ hgr_; clear hm m1; have m2 : Kpt True := ⟨trivial⟩))
            | (refine (?_ : wpList _ _ _ (Oper.mk _ (Op.buildSlice _ _ _) _ _ _ _ :: _) _ _); go_must (refine wpList_built rfl 4 [0, 0, 0, 16] (by kernel_rfl) rfl (by decide) ?_; intro bf w5 hq_ ho_ h_; have HB := Kpt.mk ho_; replace Oa := Kpt.mk (Oa.out.below h_ Oa.out.lt); replace ca0 := ls_c0 Oa.out; replace ca1 := ls_c1 Oa.out; replace hb := Kpt.mk (hb.out.trans (h_.mono hb.out.size)); replace HP := Kpt.mk (own_bel HP.out h_); clear hq_ ho_ h_; have m1 : Kpt True := ⟨trivial⟩))
            | fail)
          rw [hYf.out] at HP hYfl
          rw [hZ2.out] at HP hYfl
          go_roundw
          case rel => exact ⟨k + 1, g7, n2, k7, _, by omega, by go_num, rfl, hYfl.out, by have := hn32.out; omega, by have := hn32.out; omega, ⟨rfl⟩, HP, Oa, hb, hje3⟩
          case measure => simp [intOf]; omega
    · obtain rfl : k = un := by omega
      have hus : Kpt (∀ S ∈ us, Ser (nums S)) := ⟨fun S hS => by
        obtain ⟨j, hj, rfl⟩ := List.mem_iff_getElem.1 hS
        exact hje.out j _ (by have := e1.out; omega) (List.getElem?_eq_getElem hj)⟩
      have hkI : ¬ (k : Int) < k := by omega
      have hZf : Kpt (Z = headB k sn ++ (us.map nums).flatMap unitB ++ (ss.take 0).flatMap segB) := ⟨by rw [hZ.out, List.take_of_length_le (by have := e1.out; omega), List.flatMap_map]; simp⟩
      clear hZ hkn hk hje
      go_wp2_with fail
      go_loopw [4, 8] (fun t4 t8 wr => ∃ (q g n cap : Nat) (Z : List Int), q ≤ sn ∧ t8 = .int .i64 q ∧ t4 = .slice (some ⟨g, 0, none⟩) n cap ∧ Z.length = n ∧ 0 < n ∧ n ≤ 300 + 28 * q ∧ Kpt (Z = headB k sn ++ (us.map nums).flatMap unitB ++ (ss.take q).flatMap segB) ∧ Kpt (wr.ownsRow (ba + 1) 5 1 (.slice (some ⟨g, 0, none⟩) n cap) n (cels Z)) ∧ Kpt (Bx wr ba (lsV (.slice ua k uc) (.slice sa sn sc))) ∧ Kpt (Below w.heap.size w wr) ∧ Kpt (∀ j G, j < q → ss[j]? = some G → Seg k G)) (fun _ t8 _ => sn - (intOf t8).toNat)
      case atStart => exact ⟨0, g, n, cap, Z, by omega, rfl, rfl, hZl, hn0, by omega, hZf, HP, Oa, hb, ⟨fun j S hj => by omega⟩⟩
      case round =>
        clear Oa hb HP hZf hZl hn hn0 ca0 ca1
        obtain ⟨q, g, n, cap, Z, hq, rfl, rfl, hZl, hn0, hn, hZ, HP, Oa, hb, hje⟩ := hrel
        have ca0 := ls_c0 Oa.out
        have ca1 := ls_c1 Oa.out
        by_cases hqn : q < sn
        · have hqI : (q : Int) < sn := by omega
          obtain ⟨g2, o2, rfl, hg2, hm2, hr2⟩ := q2.out.at (by omega)
          have hql : q < ss.length := by have := e2.out; omega
          have x2 : Kpt (wr.rangeAt g2 (o2 + q * 5) (ss[q]).vals.toList) := ⟨rangeAt_block (hr2 q (ss[q]).vals (by rw [List.getElem?_map, List.getElem?_eq_getElem hql]; rfl)) (hb.out.block g2 hg2)⟩
          have hGm : ss[q] ∈ ss := List.getElem_mem hql
          have hsw := hw.out _ hGm
          have hrn : Kpt (¬ Seg k ss[q] → r = false) := ⟨fun hn => Bool.eq_false_iff.2 fun hrt => hn ((hr.out.1 hrt).2 _ hGm)⟩
          have hje2 : Kpt (Seg k ss[q] → ∀ j G, j < q + 1 → ss[j]? = some G → Seg k G) := ⟨fun hy j G hj hG => by
            by_cases e : j = q
            · subst e; rw [List.getElem?_eq_getElem hql] at hG; injection hG with hG; subst hG; exact hy
            · exact hje.out j G (by omega) hG⟩
          have hZ2 : Kpt (Z ++ segB ss[q] = headB k sn ++ (us.map nums).flatMap unitB ++ (ss.take (q + 1)).flatMap segB) := ⟨by rw [hZ.out, ← List.take_append_getElem hql, List.flatMap_append, ← List.append_assoc]; simp⟩
          generalize ss[q] = G at x2 hsw hrn hje2 hZ2
          obtain ⟨F, T, B, S, D⟩ := G
          have hsg : Kpt (Seg k ⟨F, T, B, S, D⟩ ↔ (0 ≤ F ∧ F < k) ∧ (0 ≤ T ∧ T < k) ∧ (0 ≤ B ∧ B ≤ 256)) := ⟨Iff.rfl⟩
          unfold maxLen at hm2
          replace hZl := Kpt.mk hZl
          clear hr2 hGm hql hZ hje hr
          by_cases hF : 0 ≤ F
          case neg =>
            have hr0 : r = false := hrn.out (fun e => hF ((hsg.out.1 e).1.1))
            subst hr0
            have f1 : F < 0 := by omega
            clear hrn hje2 hsg hZ2 hsw
            go_wp2_with (first
              | (refine (?_ : wpList _ _ _ (Oper.mk _ (Op.store 61 _ _) _ _ _ _ :: _) _ _); have hm := m2; go_must (refine wpList_store_bx rfl 61 _ _ rfl bx zeroG (Sg.vals ⟨F, T, B, S, D⟩) rfl rfl Ox.out rfl infoRG (Sg.vals_one _) rfl ?_; intro w4 hX_ hg_; replace Oa := Kpt.mk (Oa.out.grown hg_ (fun e => by injection e with e; omega)); replace ca0 := ls_c0 Oa.out; replace ca1 := ls_c1 Oa.out; replace HP := Kpt.mk (own_of_block HP.out (fun j hj => hg_.block j (World.ownsRow.lt HP.out j hj).2 (fun e => by injection e with e; have e3 : some g = some j := hj; injection e3 with e3; have := hgx.out; omega))); replace hb := Kpt.mk (hb.out.trans (bel_own hg_ hb.out.size lx.out)); replace Ox := Kpt.mk hX_; have cx0 := sg_c0 Ox.out; have cx1 := sg_c1 Ox.out; have cx2 := sg_c2 Ox.out; have cx3 := sg_c3 Ox.out; have cx4 := sg_c4 Ox.out; clear hX_ hg_; clear hm m2; have m3 : Kpt True := ⟨trivial⟩))
              | (have hm := m1; refine wpList_var rfl 61 rfl zeroG zeroRGi ?_; intro bx w3 hl_ hX_ h_; have lx := Kpt.mk (Nat.le_trans hb.out.size hl_); have qax : ba < bx := Nat.lt_of_lt_of_le Oa.out.lt hl_; have hgx : Kpt (g ≠ bx) := ⟨Nat.ne_of_lt (Nat.lt_of_lt_of_le (World.ownsRow.lt HP.out g rfl).2 hl_)⟩; replace Oa := Kpt.mk (Oa.out.below h_ Oa.out.lt); replace ca0 := ls_c0 Oa.out; replace ca1 := ls_c1 Oa.out; replace hb := Kpt.mk (hb.out.trans (h_.mono hb.out.size)); replace HP := Kpt.mk (own_bel HP.out h_); have Ox := Kpt.mk hX_; clear hl_ hX_ h_; clear hm m1; have m2 : Kpt True := ⟨trivial⟩)
              | (refine (?_ : wpList _ _ _ (Oper.mk _ (Op.load 61 _) _ _ _ _ :: _) _ _); go_must (refine wpList_load_mid rfl 61 _ rfl g2 (o2 + q * 5) rfl (Sg.vals ⟨F, T, B, S, D⟩).toList _ x2.out Tryd.underlying61 rfl infoRG ?_; have m1 : Kpt True := ⟨trivial⟩))
              | fail)
            go_ret2
            exact ⟨.slice none 0 0, rfl, ⟨⟨0, World.ownsRow_nil _ _ 5 1⟩, hb.out⟩⟩
          case pos =>
          have f1 : ¬ F < 0 := by omega
          by_cases hF2 : F < k
          case neg =>
            have hr0 : r = false := hrn.out (fun e => hF2 ((hsg.out.1 e).1.2))
            subst hr0
            have f2 : (k : Int) ≤ F := by omega
            clear hrn hje2 hsg hZ2 hsw
            go_wp2_with (first
              | (refine (?_ : wpList _ _ _ (Oper.mk _ (Op.store 61 _ _) _ _ _ _ :: _) _ _); have hm := m2; go_must (refine wpList_store_bx rfl 61 _ _ rfl bx zeroG (Sg.vals ⟨F, T, B, S, D⟩) rfl rfl Ox.out rfl infoRG (Sg.vals_one _) rfl ?_; intro w4 hX_ hg_; replace Oa := Kpt.mk (Oa.out.grown hg_ (fun e => by injection e with e; omega)); replace ca0 := ls_c0 Oa.out; replace ca1 := ls_c1 Oa.out; replace HP := Kpt.mk (own_of_block HP.out (fun j hj => hg_.block j (World.ownsRow.lt HP.out j hj).2 (fun e => by injection e with e; have e3 : some g = some j := hj; injection e3 with e3; have := hgx.out; omega))); replace hb := Kpt.mk (hb.out.trans (bel_own hg_ hb.out.size lx.out)); replace Ox := Kpt.mk hX_; have cx0 := sg_c0 Ox.out; have cx1 := sg_c1 Ox.out; have cx2 := sg_c2 Ox.out; have cx3 := sg_c3 Ox.out; have cx4 := sg_c4 Ox.out; clear hX_ hg_; clear hm m2; have m3 : Kpt True := ⟨trivial⟩))
              | (have hm := m1; refine wpList_var rfl 61 rfl zeroG zeroRGi ?_; intro bx w3 hl_ hX_ h_; have lx := Kpt.mk (Nat.le_trans hb.out.size hl_); have qax : ba < bx := Nat.lt_of_lt_of_le Oa.out.lt hl_; have hgx : Kpt (g ≠ bx) := ⟨Nat.ne_of_lt (Nat.lt_of_lt_of_le (World.ownsRow.lt HP.out g rfl).2 hl_)⟩; replace Oa := Kpt.mk (Oa.out.below h_ Oa.out.lt); replace ca0 := ls_c0 Oa.out; replace ca1 := ls_c1 Oa.out; replace hb := Kpt.mk (hb.out.trans (h_.mono hb.out.size)); replace HP := Kpt.mk (own_bel HP.out h_); have Ox := Kpt.mk hX_; clear hl_ hX_ h_; clear hm m1; have m2 : Kpt True := ⟨trivial⟩)
              | (refine (?_ : wpList _ _ _ (Oper.mk _ (Op.load 61 _) _ _ _ _ :: _) _ _); go_must (refine wpList_load_mid rfl 61 _ rfl g2 (o2 + q * 5) rfl (Sg.vals ⟨F, T, B, S, D⟩).toList _ x2.out Tryd.underlying61 rfl infoRG ?_; have m1 : Kpt True := ⟨trivial⟩))
              | fail)
            go_ret2
            exact ⟨.slice none 0 0, rfl, ⟨⟨0, World.ownsRow_nil _ _ 5 1⟩, hb.out⟩⟩
          case pos =>
          have f2 : ¬ (k : Int) ≤ F := by omega
          by_cases hT : 0 ≤ T
          case neg =>
            have hr0 : r = false := hrn.out (fun e => hT ((hsg.out.1 e).2.1.1))
            subst hr0
            have f3 : T < 0 := by omega
            clear hrn hje2 hsg hZ2 hsw
            go_wp2_with (first
              | (refine (?_ : wpList _ _ _ (Oper.mk _ (Op.store 61 _ _) _ _ _ _ :: _) _ _); have hm := m2; go_must (refine wpList_store_bx rfl 61 _ _ rfl bx zeroG (Sg.vals ⟨F, T, B, S, D⟩) rfl rfl Ox.out rfl infoRG (Sg.vals_one _) rfl ?_; intro w4 hX_ hg_; replace Oa := Kpt.mk (Oa.out.grown hg_ (fun e => by injection e with e; omega)); replace ca0 := ls_c0 Oa.out; replace ca1 := ls_c1 Oa.out; replace HP := Kpt.mk (own_of_block HP.out (fun j hj => hg_.block j (World.ownsRow.lt HP.out j hj).2 (fun e => by injection e with e; have e3 : some g = some j := hj; injection e3 with e3; have := hgx.out; omega))); replace hb := Kpt.mk (hb.out.trans (bel_own hg_ hb.out.size lx.out)); replace Ox := Kpt.mk hX_; have cx0 := sg_c0 Ox.out; have cx1 := sg_c1 Ox.out; have cx2 := sg_c2 Ox.out; have cx3 := sg_c3 Ox.out; have cx4 := sg_c4 Ox.out; clear hX_ hg_; clear hm m2; have m3 : Kpt True := ⟨trivial⟩))
              | (have hm := m1; refine wpList_var rfl 61 rfl zeroG zeroRGi ?_; intro bx w3 hl_ hX_ h_; have lx := Kpt.mk (Nat.le_trans hb.out.size hl_); have qax : ba < bx := Nat.lt_of_lt_of_le Oa.out.lt hl_; have hgx : Kpt (g ≠ bx) := ⟨Nat.ne_of_lt (Nat.lt_of_lt_of_le (World.ownsRow.lt HP.out g rfl).2 hl_)⟩; replace Oa := Kpt.mk (Oa.out.below h_ Oa.out.lt); replace ca0 := ls_c0 Oa.out; replace ca1 := ls_c1 Oa.out; replace hb := Kpt.mk (hb.out.trans (h_.mono hb.out.size)); replace HP := Kpt.mk (own_bel HP.out h_); have Ox := Kpt.mk hX_; clear hl_ hX_ h_; clear hm m1; have m2 : Kpt True := ⟨trivial⟩)
              | (refine (?_ : wpList _ _ _ (Oper.mk _ (Op.load 61 _) _ _ _ _ :: _) _ _); go_must (refine wpList_load_mid rfl 61 _ rfl g2 (o2 + q * 5) rfl (Sg.vals ⟨F, T, B, S, D⟩).toList _ x2.out Tryd.underlying61 rfl infoRG ?_; have m1 : Kpt True := ⟨trivial⟩))
              | fail)
            go_ret2
            exact ⟨.slice none 0 0, rfl, ⟨⟨0, World.ownsRow_nil _ _ 5 1⟩, hb.out⟩⟩
          case pos =>
          have f3 : ¬ T < 0 := by omega
          by_cases hT2 : T < k
          case neg =>
            have hr0 : r = false := hrn.out (fun e => hT2 ((hsg.out.1 e).2.1.2))
            subst hr0
            have f4 : (k : Int) ≤ T := by omega
            clear hrn hje2 hsg hZ2 hsw
            go_wp2_with (first
              | (refine (?_ : wpList _ _ _ (Oper.mk _ (Op.store 61 _ _) _ _ _ _ :: _) _ _); have hm := m2; go_must (refine wpList_store_bx rfl 61 _ _ rfl bx zeroG (Sg.vals ⟨F, T, B, S, D⟩) rfl rfl Ox.out rfl infoRG (Sg.vals_one _) rfl ?_; intro w4 hX_ hg_; replace Oa := Kpt.mk (Oa.out.grown hg_ (fun e => by injection e with e; omega)); replace ca0 := ls_c0 Oa.out; replace ca1 := ls_c1 Oa.out; replace HP := Kpt.mk (own_of_block HP.out (fun j hj => hg_.block j (World.ownsRow.lt HP.out j hj).2 (fun e => by injection e with e; have e3 : some g = some j := hj; injection e3 with e3; have := hgx.out; omega))); replace hb := Kpt.mk (hb.out.trans (bel_own hg_ hb.out.size lx.out)); replace Ox := Kpt.mk hX_; have cx0 := sg_c0 Ox.out; have cx1 := sg_c1 Ox.out; have cx2 := sg_c2 Ox.out; have cx3 := sg_c3 Ox.out; have cx4 := sg_c4 Ox.out; clear hX_ hg_; clear hm m2; have m3 : Kpt True := ⟨trivial⟩))
              | (have hm := m1; refine wpList_var rfl 61 rfl zeroG zeroRGi ?_; intro bx w3 hl_ hX_ h_; have lx := Kpt.mk (Nat.le_trans hb.out.size hl_); have qax : ba < bx := Nat.lt_of_lt_of_le Oa.out.lt hl_; have hgx : Kpt (g ≠ bx) := ⟨Nat.ne_of_lt (Nat.lt_of_lt_of_le (World.ownsRow.lt HP.out g rfl).2 hl_)⟩; replace Oa := Kpt.mk (Oa.out.below h_ Oa.out.lt); replace ca0 := ls_c0 Oa.out; replace ca1 := ls_c1 Oa.out; replace hb := Kpt.mk (hb.out.trans (h_.mono hb.out.size)); replace HP := Kpt.mk (own_bel HP.out h_); have Ox := Kpt.mk hX_; clear hl_ hX_ h_; clear hm m1; have m2 : Kpt True := ⟨trivial⟩)
              | (refine (?_ : wpList _ _ _ (Oper.mk _ (Op.load 61 _) _ _ _ _ :: _) _ _); go_must (refine wpList_load_mid rfl 61 _ rfl g2 (o2 + q * 5) rfl (Sg.vals ⟨F, T, B, S, D⟩).toList _ x2.out Tryd.underlying61 rfl infoRG ?_; have m1 : Kpt True := ⟨trivial⟩))
              | fail)
            go_ret2
            exact ⟨.slice none 0 0, rfl, ⟨⟨0, World.ownsRow_nil _ _ 5 1⟩, hb.out⟩⟩
          case pos =>
          have f4 : ¬ (k : Int) ≤ T := by omega
          by_cases hB : 0 ≤ B
          case neg =>
            have hr0 : r = false := hrn.out (fun e => hB ((hsg.out.1 e).2.2.1))
            subst hr0
            have f5 : B < 0 := by omega
            clear hrn hje2 hsg hZ2 hsw
            go_wp2_with (first
              | (refine (?_ : wpList _ _ _ (Oper.mk _ (Op.store 61 _ _) _ _ _ _ :: _) _ _); have hm := m2; go_must (refine wpList_store_bx rfl 61 _ _ rfl bx zeroG (Sg.vals ⟨F, T, B, S, D⟩) rfl rfl Ox.out rfl infoRG (Sg.vals_one _) rfl ?_; intro w4 hX_ hg_; replace Oa := Kpt.mk (Oa.out.grown hg_ (fun e => by injection e with e; omega)); replace ca0 := ls_c0 Oa.out; replace ca1 := ls_c1 Oa.out; replace HP := Kpt.mk (own_of_block HP.out (fun j hj => hg_.block j (World.ownsRow.lt HP.out j hj).2 (fun e => by injection e with e; have e3 : some g = some j := hj; injection e3 with e3; have := hgx.out; omega))); replace hb := Kpt.mk (hb.out.trans (bel_own hg_ hb.out.size lx.out)); replace Ox := Kpt.mk hX_; have cx0 := sg_c0 Ox.out; have cx1 := sg_c1 Ox.out; have cx2 := sg_c2 Ox.out; have cx3 := sg_c3 Ox.out; have cx4 := sg_c4 Ox.out; clear hX_ hg_; clear hm m2; have m3 : Kpt True := ⟨trivial⟩))
              | (have hm := m1; refine wpList_var rfl 61 rfl zeroG zeroRGi ?_; intro bx w3 hl_ hX_ h_; have lx := Kpt.mk (Nat.le_trans hb.out.size hl_); have qax : ba < bx := Nat.lt_of_lt_of_le Oa.out.lt hl_; have hgx : Kpt (g ≠ bx) := ⟨Nat.ne_of_lt (Nat.lt_of_lt_of_le (World.ownsRow.lt HP.out g rfl).2 hl_)⟩; replace Oa := Kpt.mk (Oa.out.below h_ Oa.out.lt); replace ca0 := ls_c0 Oa.out; replace ca1 := ls_c1 Oa.out; replace hb := Kpt.mk (hb.out.trans (h_.mono hb.out.size)); replace HP := Kpt.mk (own_bel HP.out h_); have Ox := Kpt.mk hX_; clear hl_ hX_ h_; clear hm m1; have m2 : Kpt True := ⟨trivial⟩)
              | (refine (?_ : wpList _ _ _ (Oper.mk _ (Op.load 61 _) _ _ _ _ :: _) _ _); go_must (refine wpList_load_mid rfl 61 _ rfl g2 (o2 + q * 5) rfl (Sg.vals ⟨F, T, B, S, D⟩).toList _ x2.out Tryd.underlying61 rfl infoRG ?_; have m1 : Kpt True := ⟨trivial⟩))
              | fail)
            go_ret2
            exact ⟨.slice none 0 0, rfl, ⟨⟨0, World.ownsRow_nil _ _ 5 1⟩, hb.out⟩⟩
          case pos =>
          have f5 : ¬ B < 0 := by omega
          by_cases hB2 : B ≤ 256
          case neg =>
            have hr0 : r = false := hrn.out (fun e => hB2 ((hsg.out.1 e).2.2.2))
            subst hr0
            have f6 : 256 < B := by omega
            clear hrn hje2 hsg hZ2 hsw
            go_wp2_with (first
              | (refine (?_ : wpList _ _ _ (Oper.mk _ (Op.store 61 _ _) _ _ _ _ :: _) _ _); have hm := m2; go_must (refine wpList_store_bx rfl 61 _ _ rfl bx zeroG (Sg.vals ⟨F, T, B, S, D⟩) rfl rfl Ox.out rfl infoRG (Sg.vals_one _) rfl ?_; intro w4 hX_ hg_; replace Oa := Kpt.mk (Oa.out.grown hg_ (fun e => by injection e with e; omega)); replace ca0 := ls_c0 Oa.out; replace ca1 := ls_c1 Oa.out; replace HP := Kpt.mk (own_of_block HP.out (fun j hj => hg_.block j (World.ownsRow.lt HP.out j hj).2 (fun e => by injection e with e; have e3 : some g = some j := hj; injection e3 with e3; have := hgx.out; omega))); replace hb := Kpt.mk (hb.out.trans (bel_own hg_ hb.out.size lx.out)); replace Ox := Kpt.mk hX_; have cx0 := sg_c0 Ox.out; have cx1 := sg_c1 Ox.out; have cx2 := sg_c2 Ox.out; have cx3 := sg_c3 Ox.out; have cx4 := sg_c4 Ox.out; clear hX_ hg_; clear hm m2; have m3 : Kpt True := ⟨trivial⟩))
              | (have hm := m1; refine wpList_var rfl 61 rfl zeroG zeroRGi ?_; intro bx w3 hl_ hX_ h_; have lx := Kpt.mk (Nat.le_trans hb.out.size hl_); have qax : ba < bx := Nat.lt_of_lt_of_le Oa.out.lt hl_; have hgx : Kpt (g ≠ bx) := ⟨Nat.ne_of_lt (Nat.lt_of_lt_of_le (World.ownsRow.lt HP.out g rfl).2 hl_)⟩; replace Oa := Kpt.mk (Oa.out.below h_ Oa.out.lt); replace ca0 := ls_c0 Oa.out; replace ca1 := ls_c1 Oa.out; replace hb := Kpt.mk (hb.out.trans (h_.mono hb.out.size)); replace HP := Kpt.mk (own_bel HP.out h_); have Ox := Kpt.mk hX_; clear hl_ hX_ h_; clear hm m1; have m2 : Kpt True := ⟨trivial⟩)
              | (refine (?_ : wpList _ _ _ (Oper.mk _ (Op.load 61 _) _ _ _ _ :: _) _ _); go_must (refine wpList_load_mid rfl 61 _ rfl g2 (o2 + q * 5) rfl (Sg.vals ⟨F, T, B, S, D⟩).toList _ x2.out Tryd.underlying61 rfl infoRG ?_; have m1 : Kpt True := ⟨trivial⟩))
              | fail)
            go_ret2
            exact ⟨.slice none 0 0, rfl, ⟨⟨0, World.ownsRow_nil _ _ 5 1⟩, hb.out⟩⟩
          case pos =>
          have f6 : ¬ 256 < B := by omega
          have hje3 := Kpt.mk (hje2.out (hsg.out.2 ⟨⟨hF, hF2⟩, ⟨hT, hT2⟩, ⟨hB, hB2⟩⟩))
          have hk8 : k ≤ 8 := hu8
          have w1 : IntKind.u64.wrap F = F := by rw [IntKind.wrap_u64]; omega
          have w2 : IntKind.u64.wrap T = T := by rw [IntKind.wrap_u64]; omega
          have w3 : IntKind.u64.wrap B = B := by rw [IntKind.wrap_u64]; omega
          have hBF := Kpt.mk (fun W => big_any F 2 W (by omega) (by omega) (by decide) (by decide))
          have hBT := Kpt.mk (fun W => big_any T 2 W (by omega) (by omega) (by decide) (by decide))
          have hBB := Kpt.mk (fun W => big_any B 2 W (by omega) (by omega) (by decide) (by decide))
          have hBS := Kpt.mk (fun W => big_any S 8 W hsw.1.1 hsw.1.2 (by decide) (by decide))
          have hBD := Kpt.mk (fun W => big_any D 8 W hsw.2.1 hsw.2.2 (by decide) (by decide))
          have hfin : Kpt (Z ++ [2, 0, 0, 24] ++ bigB F 2 ++ bigB T 2 ++ [0, 0] ++ bigB B 2 ++ bigB S 8 ++ bigB D 8 = Z ++ segB ⟨F, T, B, S, D⟩) := ⟨by unfold segB; simp only [List.append_assoc]⟩
          clear hrn hje2 hsg hsw
          obtain ⟨y4, hy4⟩ : ∃ m, n + 4 = m := ⟨_, rfl⟩
          obtain ⟨y6, hy6⟩ : ∃ m, y4 + 2 = m := ⟨_, rfl⟩
          obtain ⟨y8, hy8⟩ : ∃ m, y6 + 2 = m := ⟨_, rfl⟩
          obtain ⟨y10, hy10⟩ : ∃ m, y8 + 2 = m := ⟨_, rfl⟩
          obtain ⟨y12, hy12⟩ : ∃ m, y10 + 2 = m := ⟨_, rfl⟩
          obtain ⟨y20, hy20⟩ : ∃ m, y12 + 8 = m := ⟨_, rfl⟩
          obtain ⟨y28, hy28⟩ : ∃ m, y20 + 8 = m := ⟨_, rfl⟩
          have hy28b : Kpt (y28 = n + 28) := ⟨by omega⟩
          have hyb : y28 ≤ 1000 := by omega
          have hby4 : y4 ≤ 1000 := by omega
          have hby6 : y6 ≤ 1000 := by omega
          have hby8 : y8 ≤ 1000 := by omega
          have hby10 : y10 ≤ 1000 := by omega
          have hby12 : y12 ≤ 1000 := by omega
          have hby20 : y20 ≤ 1000 := by omega
          have hz0 : Kpt ((Z).length = n) := hZl
          have hz1 : Kpt ((Z ++ [2, 0, 0, 24]).length = y4) := ⟨by rw [List.length_append, hz0.out]; simp only [bigB_len, List.length_cons, List.length_nil]; omega⟩
          have hz2 : Kpt ((Z ++ [2, 0, 0, 24] ++ bigB F 2).length = y6) := ⟨by rw [List.length_append, hz1.out]; simp only [bigB_len, List.length_cons, List.length_nil]; omega⟩
          have hz3 : Kpt ((Z ++ [2, 0, 0, 24] ++ bigB F 2 ++ bigB T 2).length = y8) := ⟨by rw [List.length_append, hz2.out]; simp only [bigB_len, List.length_cons, List.length_nil]; omega⟩
          have hz4 : Kpt ((Z ++ [2, 0, 0, 24] ++ bigB F 2 ++ bigB T 2 ++ [0, 0]).length = y10) := ⟨by rw [List.length_append, hz3.out]; simp only [bigB_len, List.length_cons, List.length_nil]; omega⟩
          have hz5 : Kpt ((Z ++ [2, 0, 0, 24] ++ bigB F 2 ++ bigB T 2 ++ [0, 0] ++ bigB B 2).length = y12) := ⟨by rw [List.length_append, hz4.out]; simp only [bigB_len, List.length_cons, List.length_nil]; omega⟩
          have hz6 : Kpt ((Z ++ [2, 0, 0, 24] ++ bigB F 2 ++ bigB T 2 ++ [0, 0] ++ bigB B 2 ++ bigB S 8).length = y20) := ⟨by rw [List.length_append, hz5.out]; simp only [bigB_len, List.length_cons, List.length_nil]; omega⟩
          have hz7 : Kpt ((Z ++ [2, 0, 0, 24] ++ bigB F 2 ++ bigB T 2 ++ [0, 0] ++ bigB B 2 ++ bigB S 8 ++ bigB D 8).length = y28) := ⟨by rw [List.length_append, hz6.out]; simp only [bigB_len, List.length_cons, List.length_nil]; omega⟩
          replace hy4 := Kpt.mk hy4
          replace hy6 := Kpt.mk hy6
          replace hy8 := Kpt.mk hy8
          replace hy10 := Kpt.mk hy10
          replace hy12 := Kpt.mk hy12
          replace hy20 := Kpt.mk hy20
          replace hy28 := Kpt.mk hy28
          go_upto_region 28 with (first
            | (refine (?_ : wpList _ _ _ (Oper.mk _ (Op.call { callee := .builtin .append, args := _, argTypes := _ }) _ _ _ _ :: _) _ _); have hm := m4; go_must (refine wpList_append_far rfl _ _ rfl (ba + 1) g cap (.slice (some ⟨s0, 0, none⟩) 4 4) (Z) [2, 0, 0, 24] n y4 rfl rfl HP.out (own_rd HB.out) (by decide) hz0.out hy4.out (by omega) Oa.out.lt ?_; intro p0 c_0 w_a4 ho_ hg_ hgr_; have hbx_ := Ox.out.lt; have hgx2 : Kpt (p0 ≠ bx) := ⟨fun e => (by rcases hg_.out with e1 | e1; exact hgx.out (by omega); omega)⟩; have hne : ba < g := (by have := (own_base_le HP.out); omega); replace Oa := Kpt.mk (Oa.out.grown hgr_.out (fun e => by have e2 : some g = some ba := e; injection e2 with e2; omega)); replace ca0 := ls_c0 Oa.out; replace ca1 := ls_c1 Oa.out; replace hb := Kpt.mk (hb.out.grown hgr_.out hb.out.size (fun j e => by have e2 : some g = some j := e; injection e2 with e2; have := la.out; omega)); replace Ox := Kpt.mk (Ox.out.grown hgr_.out (fun e => by injection e with e; exact hgx.out e)); replace cx0 := sg_c0 Ox.out; replace cx1 := sg_c1 Ox.out; replace cx2 := sg_c2 Ox.out; replace cx3 := sg_c3 Ox.out; replace cx4 := sg_c4 Ox.out; replace hgx := hgx2; clear hgx2 hbx_; replace HP := ho_; clear HB hne hg_ hgr_; clear hm m4; have m5 : Kpt True := ⟨trivial⟩))
            | (refine (?_ : wpList _ _ _ (Oper.mk _ (Op.buildSlice _ _ _) _ _ _ _ :: _) _ _); have hm := m3; go_must (refine wpList_built rfl 4 [2, 0, 0, 24] (by kernel_rfl) rfl (by decide) ?_; intro s0 w_b3 hq_ ho_ h_; have HB := Kpt.mk ho_; replace Ox := Kpt.mk (Ox.out.below h_ Ox.out.lt); replace cx0 := sg_c0 Ox.out; replace cx1 := sg_c1 Ox.out; replace cx2 := sg_c2 Ox.out; replace cx3 := sg_c3 Ox.out; replace cx4 := sg_c4 Ox.out; replace Oa := Kpt.mk (Oa.out.below h_ Oa.out.lt); replace ca0 := ls_c0 Oa.out; replace ca1 := ls_c1 Oa.out; replace hb := Kpt.mk (hb.out.trans (h_.mono hb.out.size)); replace HP := Kpt.mk (own_bel HP.out h_); clear hq_ ho_ h_; clear hm m3; have m4 : Kpt True := ⟨trivial⟩))
            | (refine (?_ : wpList _ _ _ (Oper.mk _ (Op.store 61 _ _) _ _ _ _ :: _) _ _); have hm := m2; go_must (refine wpList_store_bx rfl 61 _ _ rfl bx zeroG (Sg.vals ⟨F, T, B, S, D⟩) rfl rfl Ox.out rfl infoRG (Sg.vals_one _) rfl ?_; intro w4 hX_ hg_; replace Oa := Kpt.mk (Oa.out.grown hg_ (fun e => by injection e with e; omega)); replace ca0 := ls_c0 Oa.out; replace ca1 := ls_c1 Oa.out; replace HP := Kpt.mk (own_of_block HP.out (fun j hj => hg_.block j (World.ownsRow.lt HP.out j hj).2 (fun e => by injection e with e; have e3 : some g = some j := hj; injection e3 with e3; have := hgx.out; omega))); replace hb := Kpt.mk (hb.out.trans (bel_own hg_ hb.out.size lx.out)); replace Ox := Kpt.mk hX_; have cx0 := sg_c0 Ox.out; have cx1 := sg_c1 Ox.out; have cx2 := sg_c2 Ox.out; have cx3 := sg_c3 Ox.out; have cx4 := sg_c4 Ox.out; clear hX_ hg_; clear hm m2; have m3 : Kpt True := ⟨trivial⟩))
            | (have hm := m1; refine wpList_var rfl 61 rfl zeroG zeroRGi ?_; intro bx w3 hl_ hX_ h_; have lx := Kpt.mk (Nat.le_trans hb.out.size hl_); have qax : ba < bx := Nat.lt_of_lt_of_le Oa.out.lt hl_; have hgx : Kpt (g ≠ bx) := ⟨Nat.ne_of_lt (Nat.lt_of_lt_of_le (World.ownsRow.lt HP.out g rfl).2 hl_)⟩; replace Oa := Kpt.mk (Oa.out.below h_ Oa.out.lt); replace ca0 := ls_c0 Oa.out; replace ca1 := ls_c1 Oa.out; replace hb := Kpt.mk (hb.out.trans (h_.mono hb.out.size)); replace HP := Kpt.mk (own_bel HP.out h_); have Ox := Kpt.mk hX_; clear hl_ hX_ h_; clear hm m1; have m2 : Kpt True := ⟨trivial⟩)
            | (refine (?_ : wpList _ _ _ (Oper.mk _ (Op.load 61 _) _ _ _ _ :: _) _ _); go_must (refine wpList_load_mid rfl 61 _ rfl g2 (o2 + q * 5) rfl (Sg.vals ⟨F, T, B, S, D⟩).toList _ x2.out Tryd.underlying61 rfl infoRG ?_; have m1 : Kpt True := ⟨trivial⟩))
            | fail)
          go_upto_region 29 with (first
            | (refine (?_ : wpList _ _ _ (Oper.mk _ (Op.call { callee := .builtin .append, args := _, argTypes := _ }) _ _ _ _ :: _) _ _); have hm := m6; go_must (refine wpList_append_far rfl _ _ rfl (ba + 1) p0 c_0 (.slice (some ⟨s1, 0, none⟩) 2 2) (Z ++ [2, 0, 0, 24]) (bigB F 2) y4 y6 rfl rfl HP.out (own_rd HB.out) (by rw [bigB_len]; decide) hz1.out (by rw [bigB_len]; exact hy6.out) (by omega) Oa.out.lt ?_; intro p1 c_1 w_a6 ho_ hg_ hgr_; have hbx_ := Ox.out.lt; have hgx2 : Kpt (p1 ≠ bx) := ⟨fun e => (by rcases hg_.out with e1 | e1; exact hgx.out (by omega); omega)⟩; have hne : ba < p0 := (by have := (own_base_le HP.out); omega); replace Oa := Kpt.mk (Oa.out.grown hgr_.out (fun e => by have e2 : some p0 = some ba := e; injection e2 with e2; omega)); replace ca0 := ls_c0 Oa.out; replace ca1 := ls_c1 Oa.out; replace hb := Kpt.mk (hb.out.grown hgr_.out hb.out.size (fun j e => by have e2 : some p0 = some j := e; injection e2 with e2; have := la.out; omega)); replace Ox := Kpt.mk (Ox.out.grown hgr_.out (fun e => by injection e with e; exact hgx.out e)); replace cx0 := sg_c0 Ox.out; replace cx1 := sg_c1 Ox.out; replace cx2 := sg_c2 Ox.out; replace cx3 := sg_c3 Ox.out; replace cx4 := sg_c4 Ox.out; replace hgx := hgx2; clear hgx2 hbx_; replace HP := ho_; clear HB hne hg_ hgr_; clear hm m6; have m7 : Kpt True := ⟨trivial⟩))
            | (go_at_call 25; have hm := m5; go_must (refine (hBF.out _).mono ?_; rintro e w_c5 ⟨s1, rfl, ho_, h_⟩; have HB := Kpt.mk ho_; replace Ox := Kpt.mk (Ox.out.below h_ Ox.out.lt); replace cx0 := sg_c0 Ox.out; replace cx1 := sg_c1 Ox.out; replace cx2 := sg_c2 Ox.out; replace cx3 := sg_c3 Ox.out; replace cx4 := sg_c4 Ox.out; replace Oa := Kpt.mk (Oa.out.below h_ Oa.out.lt); replace ca0 := ls_c0 Oa.out; replace ca1 := ls_c1 Oa.out; replace hb := Kpt.mk (hb.out.trans (h_.mono hb.out.size)); replace HP := Kpt.mk (own_bel HP.out h_); clear ho_ h_; clear hm m5; have m6 : Kpt True := ⟨trivial⟩))
            | fail)
          go_upto_region 30 with (first
            | (refine (?_ : wpList _ _ _ (Oper.mk _ (Op.call { callee := .builtin .append, args := _, argTypes := _ }) _ _ _ _ :: _) _ _); have hm := m8; go_must (refine wpList_append_far rfl _ _ rfl (ba + 1) p1 c_1 (.slice (some ⟨s2, 0, none⟩) 2 2) (Z ++ [2, 0, 0, 24] ++ bigB F 2) (bigB T 2) y6 y8 rfl rfl HP.out (own_rd HB.out) (by rw [bigB_len]; decide) hz2.out (by rw [bigB_len]; exact hy8.out) (by omega) Oa.out.lt ?_; intro p2 c_2 w_a8 ho_ hg_ hgr_; have hbx_ := Ox.out.lt; have hgx2 : Kpt (p2 ≠ bx) := ⟨fun e => (by rcases hg_.out with e1 | e1; exact hgx.out (by omega); omega)⟩; have hne : ba < p1 := (by have := (own_base_le HP.out); omega); replace Oa := Kpt.mk (Oa.out.grown hgr_.out (fun e => by have e2 : some p1 = some ba := e; injection e2 with e2; omega)); replace ca0 := ls_c0 Oa.out; replace ca1 := ls_c1 Oa.out; replace hb := Kpt.mk (hb.out.grown hgr_.out hb.out.size (fun j e => by have e2 : some p1 = some j := e; injection e2 with e2; have := la.out; omega)); replace Ox := Kpt.mk (Ox.out.grown hgr_.out (fun e => by injection e with e; exact hgx.out e)); replace cx0 := sg_c0 Ox.out; replace cx1 := sg_c1 Ox.out; replace cx2 := sg_c2 Ox.out; replace cx3 := sg_c3 Ox.out; replace cx4 := sg_c4 Ox.out; replace hgx := hgx2; clear hgx2 hbx_; replace HP := ho_; clear HB hne hg_ hgr_; clear hm m8; have m9 : Kpt True := ⟨trivial⟩))
            | (go_at_call 25; have hm := m7; go_must (refine (hBT.out _).mono ?_; rintro e w_c7 ⟨s2, rfl, ho_, h_⟩; have HB := Kpt.mk ho_; replace Ox := Kpt.mk (Ox.out.below h_ Ox.out.lt); replace cx0 := sg_c0 Ox.out; replace cx1 := sg_c1 Ox.out; replace cx2 := sg_c2 Ox.out; replace cx3 := sg_c3 Ox.out; replace cx4 := sg_c4 Ox.out; replace Oa := Kpt.mk (Oa.out.below h_ Oa.out.lt); replace ca0 := ls_c0 Oa.out; replace ca1 := ls_c1 Oa.out; replace hb := Kpt.mk (hb.out.trans (h_.mono hb.out.size)); replace HP := Kpt.mk (own_bel HP.out h_); clear ho_ h_; clear hm m7; have m8 : Kpt True := ⟨trivial⟩))
            | fail)
          go_upto_region 31 with (first
            | (refine (?_ : wpList _ _ _ (Oper.mk _ (Op.call { callee := .builtin .append, args := _, argTypes := _ }) _ _ _ _ :: _) _ _); have hm := m10; go_must (refine wpList_append_far rfl _ _ rfl (ba + 1) p2 c_2 (.slice (some ⟨s3, 0, none⟩) 2 2) (Z ++ [2, 0, 0, 24] ++ bigB F 2 ++ bigB T 2) [0, 0] y8 y10 rfl rfl HP.out (own_rd HB.out) (by decide) hz3.out hy10.out (by omega) Oa.out.lt ?_; intro p3 c_3 w_a10 ho_ hg_ hgr_; have hbx_ := Ox.out.lt; have hgx2 : Kpt (p3 ≠ bx) := ⟨fun e => (by rcases hg_.out with e1 | e1; exact hgx.out (by omega); omega)⟩; have hne : ba < p2 := (by have := (own_base_le HP.out); omega); replace Oa := Kpt.mk (Oa.out.grown hgr_.out (fun e => by have e2 : some p2 = some ba := e; injection e2 with e2; omega)); replace ca0 := ls_c0 Oa.out; replace ca1 := ls_c1 Oa.out; replace hb := Kpt.mk (hb.out.grown hgr_.out hb.out.size (fun j e => by have e2 : some p2 = some j := e; injection e2 with e2; have := la.out; omega)); replace Ox := Kpt.mk (Ox.out.grown hgr_.out (fun e => by injection e with e; exact hgx.out e)); replace cx0 := sg_c0 Ox.out; replace cx1 := sg_c1 Ox.out; replace cx2 := sg_c2 Ox.out; replace cx3 := sg_c3 Ox.out; replace cx4 := sg_c4 Ox.out; replace hgx := hgx2; clear hgx2 hbx_; replace HP := ho_; clear HB hne hg_ hgr_; clear hm m10; have m11 : Kpt True := ⟨trivial⟩))
            | (refine (?_ : wpList _ _ _ (Oper.mk _ (Op.buildSlice _ _ _) _ _ _ _ :: _) _ _); have hm := m9; go_must (refine wpList_built rfl 2 [0, 0] (by kernel_rfl) rfl (by decide) ?_; intro s3 w_b9 hq_ ho_ h_; have HB := Kpt.mk ho_; replace Ox := Kpt.mk (Ox.out.below h_ Ox.out.lt); replace cx0 := sg_c0 Ox.out; replace cx1 := sg_c1 Ox.out; replace cx2 := sg_c2 Ox.out; replace cx3 := sg_c3 Ox.out; replace cx4 := sg_c4 Ox.out; replace Oa := Kpt.mk (Oa.out.below h_ Oa.out.lt); replace ca0 := ls_c0 Oa.out; replace ca1 := ls_c1 Oa.out; replace hb := Kpt.mk (hb.out.trans (h_.mono hb.out.size)); replace HP := Kpt.mk (own_bel HP.out h_); clear hq_ ho_ h_; clear hm m9; have m10 : Kpt True := ⟨trivial⟩))
            | fail)
          go_upto_region 32 with (first
            | (refine (?_ : wpList _ _ _ (Oper.mk _ (Op.call { callee := .builtin .append, args := _, argTypes := _ }) _ _ _ _ :: _) _ _); have hm := m12; go_must (refine wpList_append_far rfl _ _ rfl (ba + 1) p3 c_3 (.slice (some ⟨s4, 0, none⟩) 2 2) (Z ++ [2, 0, 0, 24] ++ bigB F 2 ++ bigB T 2 ++ [0, 0]) (bigB B 2) y10 y12 rfl rfl HP.out (own_rd HB.out) (by rw [bigB_len]; decide) hz4.out (by rw [bigB_len]; exact hy12.out) (by omega) Oa.out.lt ?_; intro p4 c_4 w_a12 ho_ hg_ hgr_; have hbx_ := Ox.out.lt; have hgx2 : Kpt (p4 ≠ bx) := ⟨fun e => (by rcases hg_.out with e1 | e1; exact hgx.out (by omega); omega)⟩; have hne : ba < p3 := (by have := (own_base_le HP.out); omega); replace Oa := Kpt.mk (Oa.out.grown hgr_.out (fun e => by have e2 : some p3 = some ba := e; injection e2 with e2; omega)); replace ca0 := ls_c0 Oa.out; replace ca1 := ls_c1 Oa.out; replace hb := Kpt.mk (hb.out.grown hgr_.out hb.out.size (fun j e => by have e2 : some p3 = some j := e; injection e2 with e2; have := la.out; omega)); replace Ox := Kpt.mk (Ox.out.grown hgr_.out (fun e => by injection e with e; exact hgx.out e)); replace cx0 := sg_c0 Ox.out; replace cx1 := sg_c1 Ox.out; replace cx2 := sg_c2 Ox.out; replace cx3 := sg_c3 Ox.out; replace cx4 := sg_c4 Ox.out; replace hgx := hgx2; clear hgx2 hbx_; replace HP := ho_; clear HB hne hg_ hgr_; clear hm m12; have m13 : Kpt True := ⟨trivial⟩))
            | (go_at_call 25; have hm := m11; go_must (refine (hBB.out _).mono ?_; rintro e w_c11 ⟨s4, rfl, ho_, h_⟩; have HB := Kpt.mk ho_; replace Ox := Kpt.mk (Ox.out.below h_ Ox.out.lt); replace cx0 := sg_c0 Ox.out; replace cx1 := sg_c1 Ox.out; replace cx2 := sg_c2 Ox.out; replace cx3 := sg_c3 Ox.out; replace cx4 := sg_c4 Ox.out; replace Oa := Kpt.mk (Oa.out.below h_ Oa.out.lt); replace ca0 := ls_c0 Oa.out; replace ca1 := ls_c1 Oa.out; replace hb := Kpt.mk (hb.out.trans (h_.mono hb.out.size)); replace HP := Kpt.mk (own_bel HP.out h_); clear ho_ h_; clear hm m11; have m12 : Kpt True := ⟨trivial⟩))
            | fail)
          go_upto_region 33 with (first
            | (refine (?_ : wpList _ _ _ (Oper.mk _ (Op.call { callee := .builtin .append, args := _, argTypes := _ }) _ _ _ _ :: _) _ _); have hm := m14; go_must (refine wpList_append_far rfl _ _ rfl (ba + 1) p4 c_4 (.slice (some ⟨s5, 0, none⟩) 8 8) (Z ++ [2, 0, 0, 24] ++ bigB F 2 ++ bigB T 2 ++ [0, 0] ++ bigB B 2) (bigB S 8) y12 y20 rfl rfl HP.out (own_rd HB.out) (by rw [bigB_len]; decide) hz5.out (by rw [bigB_len]; exact hy20.out) (by omega) Oa.out.lt ?_; intro p5 c_5 w_a14 ho_ hg_ hgr_; have hbx_ := Ox.out.lt; have hgx2 : Kpt (p5 ≠ bx) := ⟨fun e => (by rcases hg_.out with e1 | e1; exact hgx.out (by omega); omega)⟩; have hne : ba < p4 := (by have := (own_base_le HP.out); omega); replace Oa := Kpt.mk (Oa.out.grown hgr_.out (fun e => by have e2 : some p4 = some ba := e; injection e2 with e2; omega)); replace ca0 := ls_c0 Oa.out; replace ca1 := ls_c1 Oa.out; replace hb := Kpt.mk (hb.out.grown hgr_.out hb.out.size (fun j e => by have e2 : some p4 = some j := e; injection e2 with e2; have := la.out; omega)); replace Ox := Kpt.mk (Ox.out.grown hgr_.out (fun e => by injection e with e; exact hgx.out e)); replace cx0 := sg_c0 Ox.out; replace cx1 := sg_c1 Ox.out; replace cx2 := sg_c2 Ox.out; replace cx3 := sg_c3 Ox.out; replace cx4 := sg_c4 Ox.out; replace hgx := hgx2; clear hgx2 hbx_; replace HP := ho_; clear HB hne hg_ hgr_; clear hm m14; have m15 : Kpt True := ⟨trivial⟩))
            | (go_at_call 25; have hm := m13; go_must (refine (hBS.out _).mono ?_; rintro e w_c13 ⟨s5, rfl, ho_, h_⟩; have HB := Kpt.mk ho_; replace Ox := Kpt.mk (Ox.out.below h_ Ox.out.lt); replace cx0 := sg_c0 Ox.out; replace cx1 := sg_c1 Ox.out; replace cx2 := sg_c2 Ox.out; replace cx3 := sg_c3 Ox.out; replace cx4 := sg_c4 Ox.out; replace Oa := Kpt.mk (Oa.out.below h_ Oa.out.lt); replace ca0 := ls_c0 Oa.out; replace ca1 := ls_c1 Oa.out; replace hb := Kpt.mk (hb.out.trans (h_.mono hb.out.size)); replace HP := Kpt.mk (own_bel HP.out h_); clear ho_ h_; clear hm m13; have m14 : Kpt True := ⟨trivial⟩))
            | fail)
          go_wp2_with (first
            | (refine (?_ : wpList _ _ _ (Oper.mk _ (Op.call { callee := .builtin .append, args := _, argTypes := _ }) _ _ _ _ :: _) _ _); have hm := m16; go_must (refine wpList_append_far rfl _ _ rfl (ba + 1) p5 c_5 (.slice (some ⟨s6, 0, none⟩) 8 8) (Z ++ [2, 0, 0, 24] ++ bigB F 2 ++ bigB T 2 ++ [0, 0] ++ bigB B 2 ++ bigB S 8) (bigB D 8) y20 y28 rfl rfl HP.out (own_rd HB.out) (by rw [bigB_len]; decide) hz6.out (by rw [bigB_len]; exact hy28.out) (by omega) Oa.out.lt ?_; intro p6 c_6 w_a16 ho_ hg_ hgr_; have hbx_ := Ox.out.lt; have hgx2 : Kpt (p6 ≠ bx) := ⟨fun e => (by rcases hg_.out with e1 | e1; exact hgx.out (by omega); omega)⟩; have hne : ba < p5 := (by have := (own_base_le HP.out); omega); replace Oa := Kpt.mk (Oa.out.grown hgr_.out (fun e => by have e2 : some p5 = some ba := e; injection e2 with e2; omega)); replace ca0 := ls_c0 Oa.out; replace ca1 := ls_c1 Oa.out; replace hb := Kpt.mk (hb.out.grown hgr_.out hb.out.size (fun j e => by have e2 : some p5 = some j := e; injection e2 with e2; have := la.out; omega)); replace Ox := Kpt.mk (Ox.out.grown hgr_.out (fun e => by injection e with e; exact hgx.out e)); replace cx0 := sg_c0 Ox.out; replace cx1 := sg_c1 Ox.out; replace cx2 := sg_c2 Ox.out; replace cx3 := sg_c3 Ox.out; replace cx4 := sg_c4 Ox.out; replace hgx := hgx2; clear hgx2 hbx_; replace HP := ho_; clear HB hne hg_ hgr_; clear hm m16; have m17 : Kpt True := ⟨trivial⟩))
            | (go_at_call 25; have hm := m15; go_must (refine (hBD.out _).mono ?_; rintro e w_c15 ⟨s6, rfl, ho_, h_⟩; have HB := Kpt.mk ho_; replace Ox := Kpt.mk (Ox.out.below h_ Ox.out.lt); replace cx0 := sg_c0 Ox.out; replace cx1 := sg_c1 Ox.out; replace cx2 := sg_c2 Ox.out; replace cx3 := sg_c3 Ox.out; replace cx4 := sg_c4 Ox.out; replace Oa := Kpt.mk (Oa.out.below h_ Oa.out.lt); replace ca0 := ls_c0 Oa.out; replace ca1 := ls_c1 Oa.out; replace hb := Kpt.mk (hb.out.trans (h_.mono hb.out.size)); replace HP := Kpt.mk (own_bel HP.out h_); clear ho_ h_; clear hm m15; have m16 : Kpt True := ⟨trivial⟩))
            | fail)
          rw [hfin.out] at HP hz7
          rw [hZ2.out] at HP hz7
          go_roundw
          case rel => exact ⟨q + 1, p6, y28, c_6, _, by omega, by go_num, rfl, hz7.out, by have := hy28b.out; omega, by have := hy28b.out; omega, ⟨rfl⟩, HP, Oa, hb, hje3⟩
          case measure => simp [intOf]; omega
        · obtain rfl : q = sn := by omega
          have hqI : ¬ (q : Int) < q := by omega
          have hfin : Z = bytesX (us.map nums) ss := by
            rw [hZ.out, List.take_of_length_le (by have := e2.out; omega)]
            unfold bytesX
            rw [List.length_map, ← e1.out, ← e2.out]
          have hrt : r = true := hr.out.2 ⟨hus.out, fun G hG => by
            obtain ⟨j, hj, rfl⟩ := List.mem_iff_getElem.1 hG
            exact hje.out j _ (by have := e2.out; omega) (List.getElem?_eq_getElem hj)⟩
          subst hrt
          rw [hfin] at HP
          have hla := la.out
          replace HP := Kpt.mk (own_base HP.out (Nat.le_succ_of_le hla))
          clear hZ hqn hq hfin hje hr
          go_wp2_with fail
          go_ret2
          exact ⟨_, rfl, ⟨⟨_, HP.out⟩, hb.out⟩⟩
end Go.Proofs.YtnebcbfjlkhimaaDoor
