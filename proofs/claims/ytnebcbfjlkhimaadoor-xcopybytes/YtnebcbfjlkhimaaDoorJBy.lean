/-
  Bytes of what can be told.
-/
import Derived.Test.YtnebcbfjlkhimaaDoorJBya
namespace Go.Proofs.YtnebcbfjlkhimaaDoor
open Go.RowKit
set_option linter.unusedVariables false
set_option linter.unusedSimpArgs false
theorem own_base_le {w : World} {b n g c k : Nat} {zs : List Value} (h : w.ownsRow b 5 1 (.slice (some ⟨g, 0, none⟩) k c) n zs) : b ≤ g := by
  rcases h.2 with ⟨e, _⟩ | ⟨g', cap, cur, e, hb, _⟩
  · cases e
  · have : g' = g := by simp at e; exact e.1.symm
    omega
set_option maxRecDepth 100000 in
set_option maxHeartbeats 8000000 in
theorem by_ok (ua sa : Option Addr) (un uc sn sc : Nat) (us : List ByteArray) (ss : List Sg) (w : World) (h1 : Ro 1 w (.slice ua un uc) (us.map sZ)) (h2 : Ro 5 w (.slice sa sn sc) (ss.map Sg.vals)) (hu8 : un ≤ 8) (hs8 : sn ≤ 8) (hf1 : ∀ S ∈ us, Ser (nums S)) (hf2 : ∀ g ∈ ss, Seg un g) (hw : ∀ g ∈ ss, SegW g) :
    Calls Tryd.prog 10 #[.agg (lsV (.slice ua un uc) (.slice sa sn sc))] w fun e w' => ∃ g n cap, e = .returned (.tuple #[.slice (some ⟨g, 0, none⟩) n cap, .int .i64 0]) ∧ w'.ownsRow w.heap.size 5 1 (.slice (some ⟨g, 0, none⟩) n cap) n (cels (bytesX (us.map nums) ss)) ∧ Below w.heap.size w w' := by
  have hF : Kpt (∀ W, Below w.heap.size w W → Calls Tryd.prog 21 #[.agg (lsV (.slice ua un uc) (.slice sa sn sc))] W fun e w' => e = .returned (.bool true) ∧ Below W.heap.size W w') := ⟨fun W hb => formed_any ua sa un uc sn sc us ss W (h1.bel hb) (h2.bel hb) hu8 hs8 true (by simp; exact ⟨hf1, hf2⟩)⟩
  have huI : ¬ (8 : Int) < un := by omega
  have hsI : ¬ (8 : Int) < sn := by omega
  have e1 := h1.len
  have e2 := h2.len
  rw [List.length_map] at e1 e2
  obtain ⟨e1, c1⟩ := e1
  obtain ⟨e2, c2⟩ := e2
  obtain ⟨U32, hU⟩ : ∃ k : Nat, (un : Int) * 32 = k := ⟨32 * un, by omega⟩
  obtain ⟨S28, hS⟩ : ∃ k : Nat, (sn : Int) * 28 = k := ⟨28 * sn, by omega⟩
  have wU : IntKind.u64.wrap (U32 : Int) = U32 := by rw [IntKind.wrap_u64]; omega
  have wS : IntKind.u64.wrap (S28 : Int) = S28 := by rw [IntKind.wrap_u64]; omega
  have wU2 : IntKind.i64.wrap (U32 : Int) = U32 := by rw [IntKind.wrap_i64]; omega
  have hU4 : (U32 : Int) < 65536 := by omega
  have hS4 : (S28 : Int) < 65536 := by omega
  have hhd : Kpt (over (over (List.replicate 16 0) 2 (bigB (U32 : Int) 2)) 8 (bigB (S28 : Int) 4) = headB un sn) := ⟨by rw [show U32 = 32 * un by omega, show S28 = 28 * sn by omega]; exact head_is un sn⟩
  have q1 := Kpt.mk h1
  have q2 := Kpt.mk h2
  replace e1 := Kpt.mk e1
  replace e2 := Kpt.mk e2
  replace hf1 := Kpt.mk hf1
  replace hf2 := Kpt.mk hf2
  replace hw := Kpt.mk hw
  clear h1 h2
  have hb := Kpt.mk (Below.refl w.heap.size w)
  go_enter Tryd.func10, Tryd.ntmps10
  go_upto_region 5 with (first
      | (go_at_call 21; have hm := m1; go_must (refine (hF.out _ hb.out).mono ?_; rintro e w_ ⟨rfl, h_⟩; replace Oa := Kpt.mk (Oa.out.below h_ Oa.out.lt); replace hb := Kpt.mk (hb.out.trans (h_.mono hb.out.size)); replace ca0 := ls_c0 Oa.out; replace ca1 := ls_c1 Oa.out; clear h_; clear hm m1; have m2 : Kpt True := ⟨trivial⟩))
      | (refine wpList_box rfl 27 _ rfl (lsV (.slice ua un uc) (.slice sa sn sc)) rfl ?_; intro ba w_a hl_ hX_ h_ _; have la := Kpt.mk (Nat.le_trans hb.out.size hl_); replace hb := Kpt.mk (hb.out.trans (h_.mono hb.out.size)); have Oa := Kpt.mk hX_; have ca0 := ls_c0 Oa.out; have ca1 := ls_c1 Oa.out; clear hl_ hX_ h_; have m1 : Kpt True := ⟨trivial⟩)
      | (refine wpList_load_bx rfl 27 _ rfl ba (lsV (.slice ua un uc) (.slice sa sn sc)) rfl Oa.out _ Tryd.underlying27 rfl infoL ?_)
      | fail)
  refine wp_region_any (by kernel_rfl) ?_
  refine wpAny_of_C (C := fun W => W.cell? ⟨ba, 0, none⟩ = some (.slice ua un uc)) _ _ _ _ ?_
  replace Oa := Kpt.mk (Oa.out.below (below_drew _) Oa.out.lt)
  replace ca0 := ls_c0 Oa.out
  replace ca1 := ls_c1 Oa.out
  replace hb := Kpt.mk (hb.out.trans ((below_drew _).mono hb.out.size))
  obtain ⟨W0, hW0⟩ : ∃ W, W = w_.drew := ⟨_, rfl⟩
  rw [← hW0] at Oa ca0 ca1 hb
  refine wpAnyC_world hW0 ?_
  clear hW0
  refine wpAnyC_take 1 (.pointer (some ⟨ba, 0, none⟩)) rfl (by kernel_rfl) (by kernel_rfl) (by kernel_rfl) (fun _ _ _ h => h) (wanted_free rfl _) (fun W hW => by go_simp) ?_
  try simp only [Act.put, List.getElem_toArray, List.getElem_cons_succ, List.getElem_cons_zero, List.setIfInBounds_toArray, List.set_cons_succ, List.set_cons_zero]
  refine wpAnyC_take 2 (.slice ua un uc) rfl (by kernel_rfl) (by kernel_rfl) (by kernel_rfl) (fun _ _ _ h => h) (wanted_free rfl _) (fun W hW => by go_simp) ?_
  try simp only [Act.put, List.getElem_toArray, List.getElem_cons_succ, List.getElem_cons_zero, List.setIfInBounds_toArray, List.set_cons_succ, List.set_cons_zero]
  refine wpAnyC_take 3 (.int .i64 un) rfl (by kernel_rfl) (by kernel_rfl) (by kernel_rfl) (fun _ _ _ h => h) (wanted_free rfl _) (fun W hW => by go_simp) ?_
  try simp only [Act.put, List.getElem_toArray, List.getElem_cons_succ, List.getElem_cons_zero, List.setIfInBounds_toArray, List.set_cons_succ, List.set_cons_zero]
  refine wpAnyC_take 4 (.int .i64 U32) rfl (by kernel_rfl) (by kernel_rfl) (by kernel_rfl) (fun _ _ _ h => h) (wanted_free rfl _) (fun W hW => by go_simp) ?_
  try simp only [Act.put, List.getElem_toArray, List.getElem_cons_succ, List.getElem_cons_zero, List.setIfInBounds_toArray, List.set_cons_succ, List.set_cons_zero]
  refine wpAnyC_take 5 (.int .u64 U32) rfl (by kernel_rfl) (by kernel_rfl) (by kernel_rfl) (fun _ _ _ h => h) (wanted_free rfl _) (fun W hW => by go_simp) ?_
  try simp only [Act.put, List.getElem_toArray, List.getElem_cons_succ, List.getElem_cons_zero, List.setIfInBounds_toArray, List.set_cons_succ, List.set_cons_zero]
  refine wpAnyC_one 0 ca0 rfl (by kernel_rfl) (wanted_free rfl _) (fun KA hKA => ?_)
  refine wp_made _ _ rfl 16 rfl rfl (by decide) ?_
  intro G w1 hG ho1 h_
  replace Oa := Kpt.mk (Oa.out.below h_ Oa.out.lt)
  replace ca0 := ls_c0 Oa.out
  replace ca1 := ls_c1 Oa.out
  replace hb := Kpt.mk (hb.out.trans (h_.mono hb.out.size))
  replace ho1 := Kpt.mk ho1
  clear h_
  refine hKA _ _ ?_
  clear hKA KA
  try simp only [Act.put, List.getElem_toArray, List.getElem_cons_succ, List.getElem_cons_zero, List.setIfInBounds_toArray, List.set_cons_succ, List.set_cons_zero]
  refine wpAnyC_one 6 ca0 rfl (by kernel_rfl) (wanted_free rfl _) (fun KA hKA => ?_)
  go_simp
  refine (put_row _ _ 2 2 16 _ (U32 : Int) _ (by simp) (by decide) ho1.out (by decide) (by decide) (by decide) (by omega) (by omega)).mono ?_
  rintro e w2 ⟨G2, rfl, ho2, h_⟩
  have hG2 : Kpt (ba + 1 ≤ w1.heap.size) := ⟨Oa.out.lt⟩
  replace Oa := Kpt.mk (Oa.out.below h_ Oa.out.lt)
  replace ca0 := ls_c0 Oa.out
  replace ca1 := ls_c1 Oa.out
  replace hb := Kpt.mk (hb.out.trans (h_.mono hb.out.size))
  replace ho2 := Kpt.mk (own_base ho2 hG2.out)
  clear h_ ho1
  refine hKA _ _ ?_
  clear hKA KA
  try simp only [Act.put, List.getElem_toArray, List.getElem_cons_succ, List.getElem_cons_zero, List.setIfInBounds_toArray, List.set_cons_succ, List.set_cons_zero]
  refine wpAnyC_one 7 ca0 rfl (by kernel_rfl) (wanted_free rfl _) (fun KA hKA => ?_)
  go_simp
  refine hKA _ _ ?_
  clear hKA KA
  try simp only [Act.put, List.getElem_toArray, List.getElem_cons_succ, List.getElem_cons_zero, List.setIfInBounds_toArray, List.set_cons_succ, List.set_cons_zero]
  refine wpAnyC_done ca0 (by kernel_rfl) ?_
  have hl2 : (over (List.replicate 16 (0 : Int)) 2 (bigB (U32 : Int) 2)).length = 16 := over_len (by simp) (by rw [bigB_len]; decide)
  replace hl2 := Kpt.mk hl2
  clear m2
  go_wp2_with (first
    | (go_at_call 22; go_must (refine (put_row _ _ 8 4 16 _ (S28 : Int) _ hl2.out (by decide) ho2.out (by decide) (by decide) (by decide) (by omega) (by omega)).mono ?_; rintro e w3 ⟨G3, rfl, ho3, h_⟩; have hG3 : Kpt (ba + 1 ≤ w2.heap.size) := ⟨Oa.out.lt⟩; replace Oa := Kpt.mk (Oa.out.below h_ Oa.out.lt); replace ca0 := ls_c0 Oa.out; replace ca1 := ls_c1 Oa.out; replace hb := Kpt.mk (hb.out.trans (h_.mono hb.out.size)); replace ho3 := Kpt.mk (own_base ho3 hG3.out); clear h_ ho2))
    | fail)
  rw [hhd.out] at ho3
  clear hhd hU hS hU4 hS4
  have hZ0 : Kpt (headB un sn = headB un sn ++ (us.take 0).flatMap (fun S => unitB (nums S))) := ⟨by simp⟩
  have hZ0l : (headB un sn).length = 16 := headB_len _ _
  obtain ⟨Z0, hZ0e⟩ : ∃ Z, Z = headB un sn := ⟨_, rfl⟩
  rw [← hZ0e] at ho3 hZ0l
  have hZ0' : Kpt (Z0 = headB un sn ++ (us.take 0).flatMap (fun S => unitB (nums S))) := ⟨by rw [hZ0e]; exact hZ0.out⟩
  clear hZ0 hZ0e
  go_loopw [4, 39] (fun t4 t39 wr => ∃ (k g n cap : Nat) (Z : List Int), k ≤ un ∧ t39 = .int .i64 k ∧ t4 = .slice (some ⟨g, 0, none⟩) n cap ∧ Z.length = n ∧ n ≤ 16 + 32 * k ∧ Kpt (Z = headB un sn ++ (us.take k).flatMap (fun S => unitB (nums S))) ∧ Kpt (wr.ownsRow (ba + 1) 5 1 (.slice (some ⟨g, 0, none⟩) n cap) n (cels Z)) ∧ Kpt (Bx wr ba (lsV (.slice ua un uc) (.slice sa sn sc))) ∧ Kpt (Below w.heap.size w wr)) (fun _ t39 _ => un - (intOf t39).toNat)
  case atStart => exact ⟨0, G3, 16, 16, Z0, by omega, rfl, rfl, hZ0l, by omega, hZ0', ho3, Oa, hb⟩
  case round =>
    clear Oa hb ho3 hZ0' hZ0l
    obtain ⟨k, g, n, cap, Z, hk, rfl, rfl, hZl, hn, hZ, ho, Oa, hb⟩ := hrel
    have ca0 := ls_c0 Oa.out
    have ca1 := ls_c1 Oa.out
    by_cases hkn : k < un
    · have hkI : (k : Int) < un := by omega
      obtain ⟨g1, o1, rfl, hg1, hm1, hr1⟩ := q1.out.at (by omega)
      have hkl : k < us.length := by have := e1.out; omega
      have x1 : wr.cell? ⟨g1, o1 + k, none⟩ = some (.string us[k]) := by
        have := rangeAt_block (hr1 k (sZ us[k]) (by rw [List.getElem?_map, List.getElem?_eq_getElem hkl]; rfl)) (hb.out.block g1 hg1) 0 (.string us[k]) rfl
        rw [Nat.mul_one] at this
        exact this
      have hsr := hf1.out _ (List.getElem_mem hkl)
      have hA20 : us[k].size ≤ 20 := by have := hsr.1; rw [nums_len] at this; exact this
      have hlu := Kpt.mk (fun W => layUnit_any us[k] W hA20)
      have hul : (unitB (nums us[k])).length = 32 := unitB_len hsr.1
      have hZ2 : Kpt (Z ++ unitB (nums us[k]) = headB un sn ++ (us.take (k + 1)).flatMap (fun S => unitB (nums S))) := ⟨by rw [hZ.out, ← List.take_append_getElem hkl, List.flatMap_append, List.append_assoc]; simp⟩
      obtain ⟨A, hA⟩ : ∃ A, A = us[k] := ⟨_, rfl⟩
      rw [← hA] at x1 hlu hul hZ2
      obtain ⟨Y, hY⟩ : ∃ Y, Y = unitB (nums A) := ⟨_, rfl⟩
      rw [← hY] at hlu hul hZ2
      have hZ2l : (Z ++ Y).length = n + 32 := by rw [List.length_append, hZl, hul]
      obtain ⟨n2, hn2⟩ : ∃ m, m = n + 32 := ⟨_, rfl⟩
      rw [← hn2] at hZ2l
      replace hn2 := Kpt.mk hn2
      unfold maxLen at hm1
      replace hul := Kpt.mk hul
      replace hZl := Kpt.mk hZl
      clear hr1 hsr hA20 hA hY hZ hkl
      go_wp2_with (first
        | (refine (?_ : wpList _ _ _ (Oper.mk _ (Op.call { callee := .builtin .append, args := _, argTypes := _ }) _ _ _ _ :: _) _ _); have hm := m1; go_must (refine wpList_append_new rfl _ _ rfl (ba + 1) (.slice (some ⟨g, 0, none⟩) n cap) (.slice (some ⟨gu, 0, none⟩) 32 32) Z Y n n2 rfl rfl ho.out (own_rd hu.out) (by rw [hul.out]; decide) hZl.out (by rw [hul.out]; exact hn2.out.symm) (by have := hn2.out; omega) Oa.out.lt ?_; intro g5 cap5 w5 ho5 hg5 hgr5; have hne : ba < g := (by have := (own_base_le ho.out); omega); replace Oa := Kpt.mk (Oa.out.grown hgr5.out (fun e => by have e2 : some g = some ba := e; injection e2 with e2; omega)); replace hb := Kpt.mk (hb.out.grown hgr5.out hb.out.size (fun j e => by have e2 : some g = some j := e; injection e2 with e2; have := la.out; omega)); clear hm m1 hgr5 hne))
        | (go_at_call 23; go_must (refine (hlu.out _).mono ?_; rintro e w4 ⟨gu, rfl, hu, h_⟩; replace hu := Kpt.mk hu; replace ho := Kpt.mk (own_bel ho.out h_); replace Oa := Kpt.mk (Oa.out.below h_ Oa.out.lt); replace ca0 := ls_c0 Oa.out; replace ca1 := ls_c1 Oa.out; replace hb := Kpt.mk (hb.out.trans (h_.mono hb.out.size)); clear h_; have m1 : Kpt True := ⟨trivial⟩))
        | fail)
      go_roundw
      case rel => exact ⟨k + 1, g5, n2, cap5, Z ++ Y, by omega, by go_num, rfl, hZ2l, by have := hn2.out; omega, hZ2, ho5, Oa, hb⟩
      case measure => simp [intOf]; omega
    · obtain rfl : k = un := by omega
      have hkI : ¬ (k : Int) < k := by omega
      have hZf : Kpt (Z = headB k sn ++ (us.map nums).flatMap unitB ++ (ss.take 0).flatMap segB) := ⟨by rw [hZ.out, List.take_of_length_le (by have := e1.out; omega), List.flatMap_map]; simp⟩
      clear hZ hkn hk
      go_wp2_with fail
      go_loopw [4, 51] (fun t4 t51 wr => ∃ (q g n cap : Nat) (Z : List Int), q ≤ sn ∧ t51 = .int .i64 q ∧ t4 = .slice (some ⟨g, 0, none⟩) n cap ∧ Z.length = n ∧ n ≤ 300 + 28 * q ∧ Kpt (Z = headB k sn ++ (us.map nums).flatMap unitB ++ (ss.take q).flatMap segB) ∧ Kpt (wr.ownsRow (ba + 1) 5 1 (.slice (some ⟨g, 0, none⟩) n cap) n (cels Z)) ∧ Kpt (Bx wr ba (lsV (.slice ua k uc) (.slice sa sn sc))) ∧ Kpt (Below w.heap.size w wr)) (fun _ t51 _ => sn - (intOf t51).toNat)
      case atStart => exact ⟨0, g, n, cap, Z, by omega, rfl, rfl, hZl, by omega, hZf, ho, Oa, hb⟩
      case round =>
        clear Oa hb ho hZf hZl hn ca0 ca1
        obtain ⟨q, g, n, cap, Z, hq, rfl, rfl, hZl, hn, hZ, ho, Oa, hb⟩ := hrel
        have ca0 := ls_c0 Oa.out
        have ca1 := ls_c1 Oa.out
        by_cases hqn : q < sn
        · have hqI : (q : Int) < sn := by omega
          obtain ⟨g2, o2, rfl, hg2, hm2, hr2⟩ := q2.out.at (by omega)
          have hql : q < ss.length := by have := e2.out; omega
          have x2 : Kpt (wr.rangeAt g2 (o2 + q * 5) (ss[q]).vals.toList) := ⟨rangeAt_block (hr2 q (ss[q]).vals (by rw [List.getElem?_map, List.getElem?_eq_getElem hql]; rfl)) (hb.out.block g2 hg2)⟩
          have hsg := hf2.out _ (List.getElem_mem hql)
          have hsw := hw.out _ (List.getElem_mem hql)
          have hZ2 : Kpt (Z ++ segB ss[q] = headB k sn ++ (us.map nums).flatMap unitB ++ (ss.take (q + 1)).flatMap segB) := ⟨by rw [hZ.out, ← List.take_append_getElem hql, List.flatMap_append, ← List.append_assoc]; simp⟩
          generalize ss[q] = G at x2 hsg hsw hZ2
          obtain ⟨F, T, B, S, D⟩ := G
          have hly := Kpt.mk (fun W => lay_any F T B S D W (by have := hsg.1; simp at this; omega) (by have := hsg.2.1; simp at this; omega) (by have := hsg.2.2; simp at this; omega) hsw.1 hsw.2)
          have hul : (segB ⟨F, T, B, S, D⟩).length = 28 := segB_len _
          obtain ⟨Y, hY⟩ : ∃ Y, Y = segB ⟨F, T, B, S, D⟩ := ⟨_, rfl⟩
          rw [← hY] at hly hul hZ2
          have hZ2l : (Z ++ Y).length = n + 28 := by rw [List.length_append, hZl, hul]
          obtain ⟨n2, hn2⟩ : ∃ m, m = n + 28 := ⟨_, rfl⟩
          rw [← hn2] at hZ2l
          replace hn2 := Kpt.mk hn2
          unfold maxLen at hm2
          replace hul := Kpt.mk hul
          replace hZl := Kpt.mk hZl
          clear hr2 hsg hsw hY hZ hql
          go_wp2_with (first
            | (refine (?_ : wpList _ _ _ (Oper.mk _ (Op.call { callee := .builtin .append, args := _, argTypes := _ }) _ _ _ _ :: _) _ _); have hm := m5; go_must (refine wpList_append_new rfl _ _ rfl (ba + 1) (.slice (some ⟨g, 0, none⟩) n cap) (.slice (some ⟨gu, 0, none⟩) 28 28) Z Y n n2 rfl rfl ho.out (own_rd hu.out) (by rw [hul.out]; decide) hZl.out (by rw [hul.out]; exact hn2.out.symm) (by have := hn2.out; omega) Oa.out.lt ?_; intro g5 cap5 w6 ho5 hg5 hgr5; have hne : ba < g := (by have := (own_base_le ho.out); omega); replace Oa := Kpt.mk (Oa.out.grown hgr5.out (fun e => by have e2 : some g = some ba := e; injection e2 with e2; omega)); replace hb := Kpt.mk (hb.out.grown hgr5.out hb.out.size (fun j e => by have e2 : some g = some j := e; injection e2 with e2; have := la.out; omega)); clear hgr5 hne; clear hm m5; have m6 : Kpt True := ⟨trivial⟩))
            | (go_at_call 24; have hm := m4; go_must (refine (hly.out _).mono ?_; rintro e w5 ⟨gu, rfl, hu, h_⟩; replace hu := Kpt.mk hu; replace ho := Kpt.mk (own_bel ho.out h_); replace Oa := Kpt.mk (Oa.out.below h_ Oa.out.lt); replace ca0 := ls_c0 Oa.out; replace ca1 := ls_c1 Oa.out; replace hb := Kpt.mk (hb.out.trans (h_.mono hb.out.size)); clear h_; clear hm m4; have m5 : Kpt True := ⟨trivial⟩))
            | (have hm := m3; refine wpList_load_bx rfl 50 _ rfl bx (Sg.vals ⟨F, T, B, S, D⟩) rfl Ox.out _ Tryd.underlying50 rfl infoG ?_; clear hm m3; have m4 : Kpt True := ⟨trivial⟩)
            | (refine (?_ : wpList _ _ _ (Oper.mk _ (Op.store 50 _ _) _ _ _ _ :: _) _ _); have hm := m2; go_must (refine wpList_store_bx rfl 50 _ _ rfl bx zeroG (Sg.vals ⟨F, T, B, S, D⟩) rfl rfl Ox.out rfl infoG (Sg.vals_one _) rfl ?_; intro w4 hX_ hg_; replace Oa := Kpt.mk (Oa.out.grown hg_ (fun e => by injection e with e; omega)); replace ca0 := ls_c0 Oa.out; replace ca1 := ls_c1 Oa.out; replace ho := Kpt.mk (own_of_block ho.out (fun j hj => hg_.block j (World.ownsRow.lt ho.out j hj).2 (fun e => by injection e with e; have e3 : some g = some j := hj; injection e3 with e3; have := hgx.out; omega))); replace hb := Kpt.mk (hb.out.trans (bel_own hg_ hb.out.size lx.out)); replace Ox := Kpt.mk hX_; clear hX_ hg_; clear hm m2; have m3 : Kpt True := ⟨trivial⟩))
            | (have hm := m1; refine wpList_var rfl 50 rfl zeroG zeroGi ?_; intro bx w3 hl_ hX_ h_; have lx := Kpt.mk (Nat.le_trans hb.out.size hl_); have qax : ba < bx := Nat.lt_of_lt_of_le Oa.out.lt hl_; have hgx : Kpt (g < bx) := ⟨Nat.lt_of_lt_of_le (World.ownsRow.lt ho.out g rfl).2 hl_⟩; replace ho := Kpt.mk (own_bel ho.out h_); replace Oa := Kpt.mk (Oa.out.below h_ Oa.out.lt); replace ca0 := ls_c0 Oa.out; replace ca1 := ls_c1 Oa.out; replace hb := Kpt.mk (hb.out.trans (h_.mono hb.out.size)); have Ox := Kpt.mk hX_; clear hl_ hX_ h_; clear hm m1; have m2 : Kpt True := ⟨trivial⟩)
            | (refine (?_ : wpList _ _ _ (Oper.mk _ (Op.load 50 _) _ _ _ _ :: _) _ _); go_must (refine wpList_load_mid rfl 50 _ rfl g2 (o2 + q * 5) rfl (Sg.vals ⟨F, T, B, S, D⟩).toList _ x2.out Tryd.underlying50 rfl infoG ?_; have m1 : Kpt True := ⟨trivial⟩))
            | fail)
          go_roundw
          case rel => exact ⟨q + 1, g5, n2, cap5, Z ++ Y, by omega, by go_num, rfl, hZ2l, by have := hn2.out; omega, hZ2, ho5, Oa, hb⟩
          case measure => simp [intOf]; omega
        · obtain rfl : q = sn := by omega
          have hqI : ¬ (q : Int) < q := by omega
          have hfin : Z = bytesX (us.map nums) ss := by
            rw [hZ.out, List.take_of_length_le (by have := e2.out; omega)]
            unfold bytesX
            rw [List.length_map, ← e1.out, ← e2.out]
          rw [hfin] at ho
          have hla := la.out
          replace ho := Kpt.mk (own_base ho.out (Nat.le_succ_of_le hla))
          clear hZ hqn hq hfin
          go_wp2_with fail
          go_ret2
          exact ⟨_, _, _, rfl, ho.out, hb.out⟩
end Go.Proofs.YtnebcbfjlkhimaaDoor
