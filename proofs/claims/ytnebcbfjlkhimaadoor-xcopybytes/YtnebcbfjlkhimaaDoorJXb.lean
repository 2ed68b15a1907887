/-
  A list told, and read again.
-/
import Derived.Test.YtnebcbfjlkhimaaDoorJOfb
import Derived.Test.YtnebcbfjlkhimaaDoorJRby
import Derived.Test.YtnebcbfjlkhimaaDoorJSp0
namespace Go.Proofs.YtnebcbfjlkhimaaDoor
open Go.RowKit
set_option linter.unusedVariables false
set_option linter.unusedSimpArgs false
theorem own_nil_rd {w : World} {b n : Nat} {v : Value} (h : w.ownsRow b 5 1 v n (cels [])) : ∃ a c, v = .slice a 0 c ∧ RdAt w (.slice a 0 c) [] := by
  have hn : n = 0 := by have := h.1; simpa using this.symm
  subst hn
  rcases id h.2 with ⟨rfl, _⟩ | ⟨g, cap, cur, rfl, _⟩
  · exact ⟨none, 0, rfl, rd_nil w⟩
  · exact ⟨some ⟨g, 0, none⟩, cap, rfl, own_rd h⟩
set_option maxRecDepth 100000 in
set_option maxHeartbeats 4000000 in
theorem xb_long (ua sa : Option Addr) (un uc sn sc : Nat) (us : List ByteArray) (ss : List Sg) (w : World) (h1 : Ro 1 w (.slice ua un uc) (us.map sZ)) (h2 : Ro 5 w (.slice sa sn sc) (ss.map Sg.vals)) (hl : sn * 40 ≤ 140737488351232) (hw : ∀ g ∈ ss, SegW g) (h : 8 < un ∨ 8 < sn) :
    Calls Tryd.prog 4 #[.agg (lsV (.slice ua un uc) (.slice sa sn sc))] w fun e w' => e = .returned (.bool true) ∧ Below w.heap.size w w' := by
  have hBy := Kpt.mk (fun W => by_long ua sa un uc sn sc W h)
  have hRb := Kpt.mk (fun (W : World) (va : Option Addr) (vc : Nat) => rby_long ua va un uc sn vc W h)
  have hAw := Kpt.mk awake_any
  have hOf := Kpt.mk (fun W (hb : Below w.heap.size w W) => of_big ua un uc sa sn sc ss W (h2.bel hb) hl)
  have hlen := h2.len
  rw [List.length_map] at hlen
  have R1 := Kpt.mk h1
  have R2 := Kpt.mk h2
  have hlenK := Kpt.mk hlen.1
  clear h1 h2 hlen
  have hb := Kpt.mk (Below.refl w.heap.size w)
  go_enter Tryd.func4, Tryd.ntmps4
  go_wp2_with (first
    | (go_at_call 11; have hm := m4; go_must (refine (hRb.out _ va vc).mono ?_; rintro e w5 ⟨rfl, h_⟩; replace Oa := Kpt.mk (Oa.out.below h_ Oa.out.lt); replace hb := Kpt.mk (hb.out.trans (h_.mono hb.out.size)); have hcv := conv_rd (rd_nil w5); clear h_; clear hm m4; have m5 : Kpt True := ⟨trivial⟩))
    | (go_at_call 12; have hm := m3; go_must (refine (hOf.out _ hb.out).mono ?_; rintro e w4 ⟨v, rfl, ho_, hvn_, h_⟩; obtain ⟨va, vc, hv_, _⟩ := ho_.shape; rw [List.length_map, ← hlenK.out] at hv_; subst hv_; have RV := Kpt.mk ho_.rd.ro; replace Oa := Kpt.mk (Oa.out.below h_ Oa.out.lt); replace hb := Kpt.mk (hb.out.trans (h_.mono hb.out.size)); clear ho_ hvn_ h_; clear hm m3; have m4 : Kpt True := ⟨trivial⟩))
    | (go_at_call 10; have hm := m2; go_must (refine (hBy.out _).mono ?_; rintro e w3 ⟨rfl, h_⟩; replace Oa := Kpt.mk (Oa.out.below h_ Oa.out.lt); replace hb := Kpt.mk (hb.out.trans (h_.mono hb.out.size)); clear h_; clear hm m2; have m3 : Kpt True := ⟨trivial⟩))
    | (go_at_call 6; have hm := m1; go_must (refine (hAw.out _).mono ?_; rintro e w2 ⟨rfl, h_⟩; replace Oa := Kpt.mk (Oa.out.below h_ Oa.out.lt); replace hb := Kpt.mk (hb.out.trans (h_.mono hb.out.size)); clear h_; clear hm m1; have m2 : Kpt True := ⟨trivial⟩))
    | (refine wpList_box rfl 27 _ rfl (lsV (.slice ua un uc) (.slice sa sn sc)) rfl ?_; intro ba w1 hl_ hX_ h_ _; replace hb := Kpt.mk (hb.out.trans (h_.mono hb.out.size)); have Oa := Kpt.mk hX_; clear hl_ hX_ h_; have m1 : Kpt True := ⟨trivial⟩)
    | (refine wpList_load_bx rfl 27 _ rfl ba (lsV (.slice ua un uc) (.slice sa sn sc)) rfl Oa.out _ Tryd.underlying27 rfl infoL ?_)
    | fail)
  go_ret
  exact ⟨rfl, hb.out⟩
set_option maxRecDepth 100000 in
set_option maxHeartbeats 4000000 in
theorem xb_form (ua sa : Option Addr) (un uc sn sc : Nat) (us : List ByteArray) (ss : List Sg) (w : World) (h1 : Ro 1 w (.slice ua un uc) (us.map sZ)) (h2 : Ro 5 w (.slice sa sn sc) (ss.map Sg.vals)) (hl : sn * 40 ≤ 140737488351232) (hw : ∀ g ∈ ss, SegW g) (hu8 : un ≤ 8) (hs8 : sn ≤ 8) (hf : ¬ ((∀ S ∈ us, Ser (nums S)) ∧ ∀ g ∈ ss, Seg un g)) :
    Calls Tryd.prog 4 #[.agg (lsV (.slice ua un uc) (.slice sa sn sc))] w fun e w' => e = .returned (.bool true) ∧ Below w.heap.size w w' := by
  have hBy := Kpt.mk (fun W (hb : Below w.heap.size w W) => by_form ua sa un uc sn sc us ss W (h1.bel hb) (h2.bel hb) hu8 hs8 hf)
  have hRb := Kpt.mk (fun (W : World) (va : Option Addr) (vc : Nat) (g1 : Ro 1 W (.slice ua un uc) (us.map sZ)) (g2 : Ro 5 W (.slice va sn vc) (ss.map Sg.vals)) => rby_any ua va un uc sn vc us ss W g1 g2 hu8 hs8 hw false ⟨fun h => (by cases h), fun h => absurd h hf⟩)
  have hAw := Kpt.mk awake_any
  have hOf := Kpt.mk (fun W (hb : Below w.heap.size w W) => of_big ua un uc sa sn sc ss W (h2.bel hb) hl)
  have hlen := h2.len
  rw [List.length_map] at hlen
  have R1 := Kpt.mk h1
  have R2 := Kpt.mk h2
  have hlenK := Kpt.mk hlen.1
  clear h1 h2 hlen
  have hb := Kpt.mk (Below.refl w.heap.size w)
  go_enter Tryd.func4, Tryd.ntmps4
  go_wp2_with (first
    | (go_at_call 11; have hm := m4; go_must (refine (hRb.out _ va vc (R1.out.bel hb.out) RV.out).mono ?_; rintro e w5 ⟨v5, rfl, hp_⟩; have h_ := hp_.bel; replace Oa := Kpt.mk (Oa.out.below h_ Oa.out.lt); replace hb := Kpt.mk (hb.out.trans (h_.mono hb.out.size)); have hcv := conv_rd (rd_nil w5); obtain ⟨n5, ho5⟩ := hp_.own; rw [if_neg (by simp)] at ho5; obtain ⟨a5, c5, hv5, hr5⟩ := own_nil_rd ho5; subst hv5; have hcw := conv_rd hr5; rw [if_neg (by simp)]; clear h_ hp_ ho5 hr5; clear hm m4; have m5 : Kpt True := ⟨trivial⟩))
    | (go_at_call 12; have hm := m3; go_must (refine (hOf.out _ hb.out).mono ?_; rintro e w4 ⟨v, rfl, ho_, hvn_, h_⟩; obtain ⟨va, vc, hv_, _⟩ := ho_.shape; rw [List.length_map, ← hlenK.out] at hv_; subst hv_; have RV := Kpt.mk ho_.rd.ro; replace Oa := Kpt.mk (Oa.out.below h_ Oa.out.lt); replace hb := Kpt.mk (hb.out.trans (h_.mono hb.out.size)); clear ho_ hvn_ h_; clear hm m3; have m4 : Kpt True := ⟨trivial⟩))
    | (go_at_call 10; have hm := m2; go_must (refine (hBy.out _ hb.out).mono ?_; rintro e w3 ⟨rfl, h_⟩; replace Oa := Kpt.mk (Oa.out.below h_ Oa.out.lt); replace hb := Kpt.mk (hb.out.trans (h_.mono hb.out.size)); clear h_; clear hm m2; have m3 : Kpt True := ⟨trivial⟩))
    | (go_at_call 6; have hm := m1; go_must (refine (hAw.out _).mono ?_; rintro e w2 ⟨rfl, h_⟩; replace Oa := Kpt.mk (Oa.out.below h_ Oa.out.lt); replace hb := Kpt.mk (hb.out.trans (h_.mono hb.out.size)); clear h_; clear hm m1; have m2 : Kpt True := ⟨trivial⟩))
    | (refine wpList_box rfl 27 _ rfl (lsV (.slice ua un uc) (.slice sa sn sc)) rfl ?_; intro ba w1 hl_ hX_ h_ _; replace hb := Kpt.mk (hb.out.trans (h_.mono hb.out.size)); have Oa := Kpt.mk hX_; clear hl_ hX_ h_; have m1 : Kpt True := ⟨trivial⟩)
    | (refine wpList_load_bx rfl 27 _ rfl ba (lsV (.slice ua un uc) (.slice sa sn sc)) rfl Oa.out _ Tryd.underlying27 rfl infoL ?_)
    | fail)
  go_ret
  exact ⟨rfl, hb.out⟩
set_option maxRecDepth 100000 in
set_option maxHeartbeats 8000000 in
theorem xb_ok (ua sa : Option Addr) (un uc sn sc : Nat) (us : List ByteArray) (ss : List Sg) (w : World) (h1 : Ro 1 w (.slice ua un uc) (us.map sZ)) (h2 : Ro 5 w (.slice sa sn sc) (ss.map Sg.vals)) (hl : sn * 40 ≤ 140737488351232) (hw : ∀ g ∈ ss, SegW g) (hu8 : un ≤ 8) (hs8 : sn ≤ 8) (hf1 : ∀ S ∈ us, Ser (nums S)) (hf2 : ∀ g ∈ ss, Seg un g) :
    Calls Tryd.prog 4 #[.agg (lsV (.slice ua un uc) (.slice sa sn sc))] w fun e w' => e = .returned (.bool true) ∧ Below w.heap.size w w' := by
  have e1 := h1.len
  rw [List.length_map] at e1
  have e2 := h2.len
  rw [List.length_map] at e2
  have hF : Form (us.map nums) ss := ⟨by rw [List.length_map]; omega, by omega, fun s hs => by obtain ⟨S, hS, rfl⟩ := List.mem_map.1 hs; exact hf1 S hS, fun g hg => by rw [List.length_map, ← e1.1]; exact hf2 g hg⟩
  have hXb : Bytes (bytesX (us.map nums) ss) := bytes_bytesX (fun s hs => by obtain ⟨S, _, rfl⟩ := List.mem_map.1 hs; exact nums_bytes S)
  have hEl := bytesX_len (us := us.map nums) (ss := ss) (fun s hs => (hF.uu s hs).1)
  rw [List.length_map] at hEl
  have hpb := parse_back hF hw
  have hmm : (us.map nums).map strOfNums = us := by rw [List.map_map]; exact (List.map_congr_left (fun S _ => str_nums S)).trans (List.map_id us)
  have hBy := Kpt.mk (fun W (hb : Below w.heap.size w W) => by_ok ua sa un uc sn sc us ss W (h1.bel hb) (h2.bel hb) hu8 hs8 hf1 hf2 hw)
  have hRb := Kpt.mk (fun (W : World) (va : Option Addr) (vc : Nat) (g1 : Ro 1 W (.slice ua un uc) (us.map sZ)) (g2 : Ro 5 W (.slice va sn vc) (ss.map Sg.vals)) => rby_any ua va un uc sn vc us ss W g1 g2 hu8 hs8 hw true ⟨fun _ => ⟨hf1, hf2⟩, fun _ => rfl⟩)
  obtain ⟨X, hX⟩ : ∃ X, X = bytesX (us.map nums) ss := ⟨_, rfl⟩
  rw [← hX] at hXb hEl hpb hBy hRb
  have hPa : Kpt (∀ W b g n cap, W.ownsRow b 5 1 (.slice (some ⟨g, 0, none⟩) n cap) n (cels X) → Calls Tryd.prog 7 #[.slice (some ⟨g, 0, none⟩) n cap] W fun e w' => ∃ ma mn mc ta tn tc, e = .returned (.tuple #[.agg (lsV (.slice ma mn mc) (.slice ta tn tc)), .agg noS.vals, .bool true]) ∧ Ro 1 w' (.slice ma mn mc) (us.map sZ) ∧ Ro 5 w' (.slice ta tn tc) (ss.map Sg.vals) ∧ mn ≤ 8 ∧ tn ≤ 8 ∧ Below W.heap.size W w') := ⟨fun W b g n cap ho => by
    have hn : n = X.length := by have := ho.1; rw [cels_length] at this; omega
    refine (par_rows _ _ _ _ W (own_rd ho) hXb (by omega)).mono fun e w' ⟨a1, a2, a3, a4, a5, a6, a7, a8, a9, b1, b2, _, _, b3⟩ => ?_
    rw [hpb] at a7 a8 a9
    rw [hmm] at a8
    exact ⟨a1, a2, a3, a4, a5, a6, a7, a8, a9, b1, b2, b3⟩⟩
  have hSm := Kpt.mk (fun (m1 m2 t1 t2 : Option Addr) (n1 c1 n2 c2 k1 d1 k2 d2 : Nat) (W : World) (g1 : Ro 1 W (.slice m1 n1 c1) (us.map sZ)) (g2 : Ro 5 W (.slice t1 k1 d1) (ss.map Sg.vals)) (g3 : Ro 1 W (.slice m2 n2 c2) (us.map sZ)) (g4 : Ro 5 W (.slice t2 k2 d2) (ss.map Sg.vals)) (q1 : k1 ≤ 9000) (q2 : n1 ≤ maxLen) => same_any m1 m2 t1 t2 n1 c1 n2 c2 k1 d1 k2 d2 us us ss ss W g1 g2 g3 g4 q1 q2 true ⟨fun _ => ⟨rfl, rfl⟩, fun _ => rfl⟩)
  have hX0 : Kpt (X.length ≠ 0) := ⟨by omega⟩
  clear e1 e2 hF hXb hEl hpb hmm hX hf1 hf2 hw
  have hAw := Kpt.mk awake_any
  have hOf := Kpt.mk (fun W (hb : Below w.heap.size w W) => of_big ua un uc sa sn sc ss W (h2.bel hb) hl)
  have hlen := h2.len
  rw [List.length_map] at hlen
  have R1 := Kpt.mk h1
  have R2 := Kpt.mk h2
  have hlenK := Kpt.mk hlen.1
  clear h1 h2 hlen
  have hb := Kpt.mk (Below.refl w.heap.size w)
  go_enter Tryd.func4, Tryd.ntmps4
  go_upto_region 10 with (first
    | (refine (?_ : wpList _ _ _ (Oper.mk _ (Op.store 31 _ _) _ _ _ _ :: _) _ _); have hm := m9; go_must (refine wpList_store_bx rfl 31 _ _ rfl bs zeroS noS.vals rfl rfl Os.out rfl infoS (Sn.vals_one _) rfl ?_; intro w10 hX_ hg_; replace Om := Kpt.mk (Om.out.grown hg_ (fun e => by injection e with e; omega)); replace hB := Kpt.mk (hB.out.trans (bel_own hg_ hB.out.size ls.out)); clear Os hX_ hg_; replace Oa := Kpt.mk (Oa.out.below hB.out Oa.out.lt); replace RM := Kpt.mk (RM.out.bel hB.out); replace RT := Kpt.mk (RT.out.bel hB.out); replace hb := Kpt.mk (hb.out.trans (hB.out.mono hb.out.size)); clear hB; clear hm m9; have m10 : Kpt True := ⟨trivial⟩))
    | (refine (?_ : wpList _ _ _ (Oper.mk _ (Op.store 27 _ _) _ _ _ _ :: _) _ _); have hm := m8; go_must (refine wpList_store_bx rfl 27 _ _ rfl bm zeroL (lsV (.slice ma mn mc) (.slice ta tn tc)) rfl rfl Om.out rfl infoL (lsV_one rfl rfl) rfl ?_; intro w9 hX_ hg_; replace Os := Kpt.mk (Os.out.grown hg_ (fun e => by injection e with e; omega)); replace hB := Kpt.mk (hB.out.trans (bel_own hg_ hB.out.size lm.out)); replace Om := Kpt.mk hX_; clear hX_ hg_; clear hm m8; have m9 : Kpt True := ⟨trivial⟩))
    | (have hm := m7; refine wpList_var rfl 31 rfl zeroS zeroSi ?_; intro bs w8 hl_ hX_ h_; have ls := Kpt.mk (Nat.le_trans hB.out.size hl_); have q_m_s : bm < bs := Nat.lt_of_lt_of_le Om.out.lt hl_; replace hB := Kpt.mk (hB.out.trans (h_.mono hB.out.size)); replace Om := Kpt.mk (Om.out.below h_ Om.out.lt); have Os := Kpt.mk hX_; clear hl_ hX_ h_; clear hm m7; have m8 : Kpt True := ⟨trivial⟩)
    | (have hm := m6; refine wpList_var rfl 27 rfl zeroL zeroLi ?_; intro bm w7 hl_ hX_ h_; have lm := Kpt.mk hl_; have hB := Kpt.mk h_; have Om := Kpt.mk hX_; clear hl_ hX_ h_; clear hm m6; have m7 : Kpt True := ⟨trivial⟩)
    | (go_at_call 7; have hm := m5; go_must (refine (hPa.out _ _ G n_ cap HX.out).mono ?_; rintro e w6 ⟨ma, mn, mc, ta, tn, tc, rfl, RM_, RT_, hm8, ht8, h_⟩; replace Oa := Kpt.mk (Oa.out.below h_ Oa.out.lt); clear HX; replace hb := Kpt.mk (hb.out.trans (h_.mono hb.out.size)); have RM := Kpt.mk RM_; have RT := Kpt.mk RT_; clear RM_ RT_ h_; clear hm m5; have m6 : Kpt True := ⟨trivial⟩))
    | (go_at_call 11; have hm := m4; go_must (refine (hRb.out _ va vc (R1.out.bel hb.out) RV.out).mono ?_; rintro e w5 ⟨v5, rfl, hp_⟩; have h_ := hp_.bel; replace Oa := Kpt.mk (Oa.out.below h_ Oa.out.lt); replace HX := Kpt.mk (own_bel HX.out h_); replace hb := Kpt.mk (hb.out.trans (h_.mono hb.out.size)); obtain ⟨n5, ho5⟩ := hp_.own; simp only [if_true] at ho5 ⊢; have hcv := conv_rd (own_rd HX.out); have hnp : Kpt (0 < n5) := ⟨(by have q1_ := ho5.1; have q2_ := HX.out.1; rw [cels_length] at q1_ q2_; rcases Nat.eq_zero_or_pos n5 with e0 | e0; exact absurd (show X.length = 0 by omega) (hX0.out); exact e0)⟩; obtain ⟨g5, c5, hv5, _⟩ := own_shape ho5 hnp.out; subst hv5; have hcw := conv_rd (own_rd ho5); clear h_ hp_ ho5 hnp; clear hm m4; have m5 : Kpt True := ⟨trivial⟩))
    | (go_at_call 12; have hm := m3; go_must (refine (hOf.out _ hb.out).mono ?_; rintro e w4 ⟨v, rfl, ho_, hvn_, h_⟩; obtain ⟨va, vc, hv_, _⟩ := ho_.shape; rw [List.length_map, ← hlenK.out] at hv_; subst hv_; have RV := Kpt.mk ho_.rd.ro; replace Oa := Kpt.mk (Oa.out.below h_ Oa.out.lt); replace HX := Kpt.mk (own_bel HX.out h_); replace hb := Kpt.mk (hb.out.trans (h_.mono hb.out.size)); clear ho_ hvn_ h_; clear hm m3; have m4 : Kpt True := ⟨trivial⟩))
    | (go_at_call 10; have hm := m2; go_must (refine (hBy.out _ hb.out).mono ?_; rintro e w3 ⟨G, n_, cap, rfl, ho_, h_⟩; have HX := Kpt.mk ho_; replace Oa := Kpt.mk (Oa.out.below h_ Oa.out.lt); replace hb := Kpt.mk (hb.out.trans (h_.mono hb.out.size)); clear ho_ h_; clear hm m2; have m3 : Kpt True := ⟨trivial⟩))
    | (go_at_call 6; have hm := m1; go_must (refine (hAw.out _).mono ?_; rintro e w2 ⟨rfl, h_⟩; replace Oa := Kpt.mk (Oa.out.below h_ Oa.out.lt); replace hb := Kpt.mk (hb.out.trans (h_.mono hb.out.size)); clear h_; clear hm m1; have m2 : Kpt True := ⟨trivial⟩))
    | (refine wpList_box rfl 27 _ rfl (lsV (.slice ua un uc) (.slice sa sn sc)) rfl ?_; intro ba w1 hl_ hX_ h_ _; replace hb := Kpt.mk (hb.out.trans (h_.mono hb.out.size)); have Oa := Kpt.mk hX_; clear hl_ hX_ h_; have m1 : Kpt True := ⟨trivial⟩)
    | (refine wpList_load_bx rfl 27 _ rfl ba (lsV (.slice ua un uc) (.slice sa sn sc)) rfl Oa.out _ Tryd.underlying27 rfl infoL ?_)
    | fail)
  refine wp_region_any (by kernel_rfl) ?_
  refine wpAny_of_C (C := fun W => Bx W bm (lsV (.slice ma mn mc) (.slice ta tn tc)) ∧ Bx W ba (lsV (.slice ua un uc) (.slice sa sn sc))) _ _ _ _ ?_
  replace Oa := Kpt.mk (Oa.out.below (below_drew _) Oa.out.lt)
  replace Om := Kpt.mk (Om.out.below (below_drew _) Om.out.lt)
  replace RM := Kpt.mk (RM.out.bel (below_drew _))
  replace RT := Kpt.mk (RT.out.bel (below_drew _))
  replace hb := Kpt.mk (hb.out.trans ((below_drew _).mono hb.out.size))
  obtain ⟨W0, hW0⟩ : ∃ W, W = w10.drew := ⟨_, rfl⟩
  rw [← hW0] at Oa Om RM RT hb
  refine wpAnyC_world hW0 ?_
  clear hW0 RV
  refine wpAnyC_take 0 (.bool true) rfl (by kernel_rfl) (by kernel_rfl) (by kernel_rfl) (fun _ _ _ h => h) (wanted_free rfl _) (fun W hW => by go_simp) ?_
  try simp only [Act.put, List.getElem_toArray, List.getElem_cons_succ, List.getElem_cons_zero, List.setIfInBounds_toArray, List.set_cons_succ, List.set_cons_zero]
  refine wpAnyC_take 1 (.bool true) rfl (by kernel_rfl) (by kernel_rfl) (by kernel_rfl) (fun _ _ _ h => h) (wanted_free rfl _) (fun W hW => by go_simp) ?_
  try simp only [Act.put, List.getElem_toArray, List.getElem_cons_succ, List.getElem_cons_zero, List.setIfInBounds_toArray, List.set_cons_succ, List.set_cons_zero]
  refine wpAnyC_take 2 (.agg (lsV (.slice ma mn mc) (.slice ta tn tc))) rfl (by kernel_rfl) (by kernel_rfl) (by kernel_rfl) (fun _ _ _ h => h) (wanted_at true rfl rfl rfl rfl) (fun W hW => exec_load_bx 27 _ rfl bm (lsV (.slice ma mn mc) (.slice ta tn tc)) rfl hW.1 _ Tryd.underlying27 rfl infoL) ?_
  try simp only [Act.put, List.getElem_toArray, List.getElem_cons_succ, List.getElem_cons_zero, List.setIfInBounds_toArray, List.set_cons_succ, List.set_cons_zero]
  refine wpAnyC_take 3 (.agg (lsV (.slice ua un uc) (.slice sa sn sc))) rfl (by kernel_rfl) (by kernel_rfl) (by kernel_rfl) (fun _ _ _ h => h) (wanted_at true rfl rfl rfl rfl) (fun W hW => exec_load_bx 27 _ rfl ba (lsV (.slice ua un uc) (.slice sa sn sc)) rfl hW.2 _ Tryd.underlying27 rfl infoL) ?_
  try simp only [Act.put, List.getElem_toArray, List.getElem_cons_succ, List.getElem_cons_zero, List.setIfInBounds_toArray, List.set_cons_succ, List.set_cons_zero]
  refine wpAnyC_one 4 ⟨Om.out, Oa.out⟩ rfl (by kernel_rfl) (wanted_at true rfl rfl rfl rfl) (fun KA hKA => ?_)
  go_simp
  refine (hOf.out _ hb.out).mono ?_
  rintro e w40 ⟨v, rfl, ho_, _, h_⟩
  obtain ⟨xa, xc, hv_, _⟩ := ho_.shape
  rw [List.length_map, ← hlenK.out] at hv_
  subst hv_
  have RV := Kpt.mk ho_.rd.ro
  replace Oa := Kpt.mk (Oa.out.below h_ Oa.out.lt)
  replace Om := Kpt.mk (Om.out.below h_ Om.out.lt)
  replace RM := Kpt.mk (RM.out.bel h_)
  replace RT := Kpt.mk (RT.out.bel h_)
  replace hb := Kpt.mk (hb.out.trans (h_.mono hb.out.size))
  clear ho_ h_
  refine hKA _ _ ?_
  clear hKA KA
  try simp only [Act.put, List.getElem_toArray, List.getElem_cons_succ, List.getElem_cons_zero, List.setIfInBounds_toArray, List.set_cons_succ, List.set_cons_zero]
  refine wpAnyC_one 5 ⟨Om.out, Oa.out⟩ rfl (by kernel_rfl) (wanted_at true rfl rfl rfl rfl) (fun KA hKA => ?_)
  go_simp
  refine (hSm.out ma ua ta xa mn mc un uc tn tc sn xc _ RM.out RT.out (R1.out.bel hb.out) RV.out (by omega) (by unfold maxLen; omega)).mono ?_
  rintro e w41 ⟨rfl, h_⟩
  replace Oa := Kpt.mk (Oa.out.below h_ Oa.out.lt)
  replace Om := Kpt.mk (Om.out.below h_ Om.out.lt)
  replace RM := Kpt.mk (RM.out.bel h_)
  replace RT := Kpt.mk (RT.out.bel h_)
  replace hb := Kpt.mk (hb.out.trans (h_.mono hb.out.size))
  clear h_
  refine hKA _ _ ?_
  clear hKA KA
  try simp only [Act.put, List.getElem_toArray, List.getElem_cons_succ, List.getElem_cons_zero, List.setIfInBounds_toArray, List.set_cons_succ, List.set_cons_zero]
  refine wpAnyC_one 6 ⟨Om.out, Oa.out⟩ rfl (by kernel_rfl) (wanted_free rfl _) (fun KA hKA => ?_)
  go_simp
  refine hKA _ _ ?_
  clear hKA KA
  try simp only [Act.put, List.getElem_toArray, List.getElem_cons_succ, List.getElem_cons_zero, List.setIfInBounds_toArray, List.set_cons_succ, List.set_cons_zero]
  refine wpAnyC_one 7 ⟨Om.out, Oa.out⟩ rfl (by kernel_rfl) (wanted_free rfl _) (fun KA hKA => ?_)
  go_simp
  refine hKA _ _ ?_
  clear hKA KA
  try simp only [Act.put, List.getElem_toArray, List.getElem_cons_succ, List.getElem_cons_zero, List.setIfInBounds_toArray, List.set_cons_succ, List.set_cons_zero]
  refine wpAnyC_done ⟨Om.out, Oa.out⟩ (by kernel_rfl) ?_
  go_wp2_with fail
  go_ret
  exact ⟨rfl, hb.out⟩
theorem xb_any (ua sa : Option Addr) (un uc sn sc : Nat) (us : List ByteArray) (ss : List Sg) (w : World) (h1 : Ro 1 w (.slice ua un uc) (us.map sZ)) (h2 : Ro 5 w (.slice sa sn sc) (ss.map Sg.vals)) (hl : sn * 40 ≤ 140737488351232) (hw : ∀ g ∈ ss, SegW g) :
    Calls Tryd.prog 4 #[.agg (lsV (.slice ua un uc) (.slice sa sn sc))] w fun e w' => e = .returned (.bool true) ∧ Below w.heap.size w w' := by
  by_cases h8 : 8 < un ∨ 8 < sn
  · exact xb_long ua sa un uc sn sc us ss w h1 h2 hl hw h8
  by_cases hf : (∀ S ∈ us, Ser (nums S)) ∧ ∀ g ∈ ss, Seg un g
  · exact xb_ok ua sa un uc sn sc us ss w h1 h2 hl hw (by omega) (by omega) hf.1 hf.2
  · exact xb_form ua sa un uc sn sc us ss w h1 h2 hl hw (by omega) (by omega) hf
end Go.Proofs.YtnebcbfjlkhimaaDoor
