/-
  same: two lists are alike.
-/
import Derived.Test.YtnebcbfjlkhimaaDoorJSam
namespace Go.Proofs.YtnebcbfjlkhimaaDoor
open Go.RowKit
set_option linter.unusedVariables false
set_option linter.unusedSimpArgs false
theorem exec_load_mid {W : World} {o : Oper} {a : Act} (ty : TypeId) (x : Operand) (ho : o.op = .load ty x) (b off : Nat) (cs : Array Value) (hx : a.eval x = .pointer (some ⟨b, off, none⟩)) (hr : W.rangeAt b off cs.toList) (d : TypeDesc)
    (hu : Tryd.prog.underlying ty = some d) (hd : d.isRow = true) (hi : (Tryd.prog.info? ty).map (·.size) = some cs.size) :
    (execOp a.eval o).run Tryd.prog W = .ok (.value (.agg cs)) W := by
  have := run_loadAt_mid (P := Tryd.prog) W b off ty cs.toList d hr hu hd (by rw [Array.length_toList]; exact hi)
  unfold execOp
  simp only [ho, hx]
  simp [this]
theorem eq_g (g h : Sg) (r : Bool) (hr : r = true ↔ g = h) (w : World) : (Op.equalIn 10000 61 (.agg g.vals) (.agg h.vals)).run Tryd.prog w = .ok r w := by
  obtain ⟨F, T, B, S, D⟩ := g
  obtain ⟨F', T', B', S', D'⟩ := h
  rw [run_equalIn_struct (P := Tryd.prog) w 9999 61 _ _ (by kernel_rfl) (by kernel_rfl)]
  obtain ⟨fs, hfs⟩ : ∃ fs, fs = (Tryd.prog.fieldsOf 61).toList := ⟨_, rfl⟩
  rw [← hfs]
  simp [Program.fieldsOf, Tryd.underlying61] at hfs
  subst hfs
  simp only [Sg.mk.injEq] at hr
  cases r with
  | true =>
    obtain ⟨rfl, rfl, rfl, rfl, rfl⟩ := hr.1 rfl
    simp [Op.eqFields, Sg.vals, go_sem]
  | false =>
    have hn : ¬ (F = F' ∧ T = T' ∧ B = B' ∧ S = S' ∧ D = D') := fun e => by have := hr.2 e; cases this
    simp [Op.eqFields, Sg.vals, go_sem]
    repeat' split
    all_goals simp_all
theorem exec_neq_g {W : World} {o : Oper} {a : Act} (x y : Operand) (ho : o.op = .binOp .neq 61 x y 61) (V U : Array Value) (r : Bool) (h : ∀ w : World, (Op.equalIn 10000 61 (.agg V) (.agg U)).run Tryd.prog w = .ok r w) (hx : a.eval x = .agg V) (hy : a.eval y = .agg U) :
    (execOp a.eval o).run Tryd.prog W = .ok (.value (.bool (!r))) W := by
  unfold execOp
  simp only [ho, hx, hy]
  simp [run_eqGuard_agg (P := Tryd.prog) W .neq 61 x y V U (by kernel_rfl), run_neq_struct, h]
theorem exec_eql_s {W : World} {o : Oper} {a : Act} (x y : Operand) (ho : o.op = .binOp .eql 31 x y 31) (V U : Array Value) (r : Bool) (h : ∀ w : World, (Op.equalIn 10000 31 (.agg V) (.agg U)).run Tryd.prog w = .ok r w) (hx : a.eval x = .agg V) (hy : a.eval y = .agg U) :
    (execOp a.eval o).run Tryd.prog W = .ok (.value (.bool r)) W := by
  unfold execOp
  simp only [ho, hx, hy]
  simp [run_eqGuard_agg (P := Tryd.prog) W .eql 31 x y V U (by kernel_rfl), run_eql_struct, h]
theorem eq_s (g : Sn) (w : World) : (Op.equalIn 10000 31 (.agg g.vals) (.agg g.vals)).run Tryd.prog w = .ok true w := by
  rw [run_equalIn_struct (P := Tryd.prog) w 9999 31 _ _ (by kernel_rfl) (by kernel_rfl)]
  obtain ⟨fs, hfs⟩ : ∃ fs, fs = (Tryd.prog.fieldsOf 31).toList := ⟨_, rfl⟩
  rw [← hfs]
  simp [Program.fieldsOf, Tryd.underlying31] at hfs
  subst hfs
  simp [Op.eqFields, Sn.vals, go_sem]
theorem ba_inj {A B : ByteArray} (h : A.toList = B.toList) : A = B := by
  rw [ByteArray.toList_eq, ByteArray.toList_eq] at h
  obtain ⟨x⟩ := A
  obtain ⟨y⟩ := B
  exact congrArg ByteArray.mk (Array.toList_inj.1 h)
set_option maxRecDepth 100000 in
set_option maxHeartbeats 8000000 in
theorem same_any (ua ub sa sb : Option Addr) (un uc um ud sn sc sm sd : Nat) (us us' : List ByteArray) (ss ss' : List Sg) (w : World) (h1 : Ro 1 w (.slice ua un uc) (us.map sZ)) (h2 : Ro 5 w (.slice sa sn sc) (ss.map Sg.vals)) (h3 : Ro 1 w (.slice ub um ud) (us'.map sZ)) (h4 : Ro 5 w (.slice sb sm sd) (ss'.map Sg.vals)) (hl : sn ≤ 9000) (hum : un ≤ maxLen) (r : Bool) (hr : r = true ↔ (us = us' ∧ ss = ss')) :
    Calls Tryd.prog 9 #[.agg (lsV (.slice ua un uc) (.slice sa sn sc)), .agg (lsV (.slice ub um ud) (.slice sb sm sd))] w fun e w' => e = .returned (.bool r) ∧ Below w.heap.size w w' := by
  have e1 := h1.len
  have e2 := h2.len
  have e3 := h3.len
  have e4 := h4.len
  rw [List.length_map] at e1 e2 e3 e4
  obtain ⟨e1, c1⟩ := e1
  obtain ⟨e2, c2⟩ := e2
  obtain ⟨e3, c3⟩ := e3
  obtain ⟨e4, c4⟩ := e4
  have hOf : Kpt (∀ W, Below w.heap.size w W → Calls Tryd.prog 12 #[.agg (lsV (.slice ua un uc) (.slice sa sn sc))] W fun e w' => ∃ v, e = .returned (.agg (lsV (.slice ua un uc) v)) ∧ OwnR 61 5 w' v (ss.map Sg.vals) ∧ (∀ g, v.ownBlock = some g → W.heap.size ≤ g) ∧ Below W.heap.size W w') := ⟨fun W hb => of_any ua un uc sa sn sc ss W (h2.bel hb) hl⟩
  have q1 := Kpt.mk h1
  have q3 := Kpt.mk h3
  have q4 := Kpt.mk h4
  replace e1 := Kpt.mk e1
  replace e2 := Kpt.mk e2
  replace e3 := Kpt.mk e3
  replace e4 := Kpt.mk e4
  unfold maxLen at hum
  clear h1 h2 h3 h4
  by_cases hu : un = um
  case neg =>
    have hr0 : Kpt (r = false) := ⟨Bool.eq_false_iff.2 fun h => by have e := (hr.1 h).1; exact hu (by rw [e1.out, e3.out, e])⟩
    have hub : ((un : Int) != um) = true := by simp; omega
    clear hr hOf
    have hb := Kpt.mk (Below.refl w.heap.size w)
    go_enter Tryd.func9, Tryd.ntmps9
    go_wp2_with (first
        | (have hm := m1; refine wpList_box rfl 36 _ rfl (lsV (.slice ub um ud) (.slice sb sm sd)) rfl ?_; intro bb w_b hl_ hX_ h_ _; have q_a_b : ba < bb := Nat.lt_of_lt_of_le Oa.out.lt hl_; have lb := Kpt.mk (Nat.le_trans hb.out.size hl_); replace Oa := Kpt.mk (Oa.out.below h_ Oa.out.lt); replace hb := Kpt.mk (hb.out.trans (h_.mono hb.out.size)); replace ca0 := ls_c0 Oa.out; replace ca1 := ls_c1 Oa.out; have Ob := Kpt.mk hX_; have cb0 := ls_c0 Ob.out; have cb1 := ls_c1 Ob.out; clear hl_ hX_ h_; clear hm m1; have m2 : Kpt True := ⟨trivial⟩)
        | (refine wpList_box rfl 27 _ rfl (lsV (.slice ua un uc) (.slice sa sn sc)) rfl ?_; intro ba w_a hl_ hX_ h_ _; have la := Kpt.mk (Nat.le_trans hb.out.size hl_); replace hb := Kpt.mk (hb.out.trans (h_.mono hb.out.size)); have Oa := Kpt.mk hX_; have ca0 := ls_c0 Oa.out; have ca1 := ls_c1 Oa.out; clear hl_ hX_ h_; have m1 : Kpt True := ⟨trivial⟩)
        | fail)
    go_ret
    exact ⟨by rw [hr0.out]; rfl, hb.out⟩
  case pos =>
  by_cases hs : sn = sm
  case neg =>
    have hr0 : Kpt (r = false) := ⟨Bool.eq_false_iff.2 fun h => by have e := (hr.1 h).2; exact hs (by rw [e2.out, e4.out, e])⟩
    have hub : ((sn : Int) != sm) = true := by simp; omega
    subst hu
    have hua : ((un : Int) != un) = false := by simp
    clear hr hOf
    have hb := Kpt.mk (Below.refl w.heap.size w)
    go_enter Tryd.func9, Tryd.ntmps9
    go_wp2_with (first
        | (have hm := m1; refine wpList_box rfl 36 _ rfl (lsV (.slice ub un ud) (.slice sb sm sd)) rfl ?_; intro bb w_b hl_ hX_ h_ _; have q_a_b : ba < bb := Nat.lt_of_lt_of_le Oa.out.lt hl_; have lb := Kpt.mk (Nat.le_trans hb.out.size hl_); replace Oa := Kpt.mk (Oa.out.below h_ Oa.out.lt); replace hb := Kpt.mk (hb.out.trans (h_.mono hb.out.size)); replace ca0 := ls_c0 Oa.out; replace ca1 := ls_c1 Oa.out; have Ob := Kpt.mk hX_; have cb0 := ls_c0 Ob.out; have cb1 := ls_c1 Ob.out; clear hl_ hX_ h_; clear hm m1; have m2 : Kpt True := ⟨trivial⟩)
        | (refine wpList_box rfl 27 _ rfl (lsV (.slice ua un uc) (.slice sa sn sc)) rfl ?_; intro ba w_a hl_ hX_ h_ _; have la := Kpt.mk (Nat.le_trans hb.out.size hl_); replace hb := Kpt.mk (hb.out.trans (h_.mono hb.out.size)); have Oa := Kpt.mk hX_; have ca0 := ls_c0 Oa.out; have ca1 := ls_c1 Oa.out; clear hl_ hX_ h_; have m1 : Kpt True := ⟨trivial⟩)
        | fail)
    go_ret
    exact ⟨by rw [hr0.out]; rfl, hb.out⟩
  case pos =>
  subst hu hs
  replace hr := Kpt.mk hr
  have hua : ((un : Int) != un) = false := by simp
  have hub : ((sn : Int) != sn) = false := by simp
  have hb := Kpt.mk (Below.refl w.heap.size w)
  go_enter Tryd.func9, Tryd.ntmps9
  go_wp2_with (first
      | (have hm := m1; refine wpList_box rfl 36 _ rfl (lsV (.slice ub un ud) (.slice sb sn sd)) rfl ?_; intro bb w_b hl_ hX_ h_ _; have q_a_b : ba < bb := Nat.lt_of_lt_of_le Oa.out.lt hl_; have lb := Kpt.mk (Nat.le_trans hb.out.size hl_); replace Oa := Kpt.mk (Oa.out.below h_ Oa.out.lt); replace hb := Kpt.mk (hb.out.trans (h_.mono hb.out.size)); replace ca0 := ls_c0 Oa.out; replace ca1 := ls_c1 Oa.out; have Ob := Kpt.mk hX_; have cb0 := ls_c0 Ob.out; have cb1 := ls_c1 Ob.out; clear hl_ hX_ h_; clear hm m1; have m2 : Kpt True := ⟨trivial⟩)
      | (refine wpList_box rfl 27 _ rfl (lsV (.slice ua un uc) (.slice sa sn sc)) rfl ?_; intro ba w_a hl_ hX_ h_ _; have la := Kpt.mk (Nat.le_trans hb.out.size hl_); replace hb := Kpt.mk (hb.out.trans (h_.mono hb.out.size)); have Oa := Kpt.mk hX_; have ca0 := ls_c0 Oa.out; have ca1 := ls_c1 Oa.out; clear hl_ hX_ h_; have m1 : Kpt True := ⟨trivial⟩)
      | fail)
  go_loopw [5] (fun t5 wr => ∃ k : Nat, k ≤ un ∧ t5 = .int .i64 k ∧ Kpt (∀ j, j < k → us[j]? = us'[j]?) ∧ Kpt (Below w_b.heap.size w_b wr)) (fun t5 _ => un - (intOf t5).toNat)
  case atStart => exact ⟨0, by omega, rfl, ⟨fun j hj => by omega⟩, ⟨Below.refl _ _⟩⟩
  case round =>
    obtain ⟨k, hk, rfl, hje, hwb⟩ := hrel
    replace Oa := Kpt.mk (Oa.out.below hwb.out Oa.out.lt)
    replace Ob := Kpt.mk (Ob.out.below hwb.out Ob.out.lt)
    replace hb := Kpt.mk (hb.out.trans (hwb.out.mono hb.out.size))
    replace ca0 := ls_c0 Oa.out
    replace ca1 := ls_c1 Oa.out
    replace cb0 := ls_c0 Ob.out
    replace cb1 := ls_c1 Ob.out
    by_cases hkn : k < un
    · have hkI : (k : Int) < un := by omega
      obtain ⟨g1, o1, rfl, hg1, hm1, hr1⟩ := q1.out.at (by omega)
      obtain ⟨g2, o2, rfl, hg2, hm2, hr2⟩ := q3.out.at (by omega)
      obtain ⟨A, hA⟩ : ∃ A, us[k]? = some A := ⟨_, List.getElem?_eq_getElem (by have := e1.out; omega)⟩
      obtain ⟨B, hB⟩ : ∃ A, us'[k]? = some A := ⟨_, List.getElem?_eq_getElem (by have := e3.out; omega)⟩
      have x1 : wr.cell? ⟨g1, o1 + k, none⟩ = some (.string A) := by
        have := rangeAt_block (hr1 k (sZ A) (by rw [List.getElem?_map, hA]; rfl)) (hb.out.block g1 hg1) 0 (.string A) rfl
        rw [Nat.mul_one] at this
        exact this
      have x2 : wr.cell? ⟨g2, o2 + k, none⟩ = some (.string B) := by
        have := rangeAt_block (hr2 k (sZ B) (by rw [List.getElem?_map, hB]; rfl)) (hb.out.block g2 hg2) 0 (.string B) rfl
        rw [Nat.mul_one] at this
        exact this
      unfold maxLen at hm1 hm2
      clear hr1 hr2
      by_cases hAB : A = B
      · subst hAB
        have hje2 : Kpt (∀ j, j < k + 1 → us[j]? = us'[j]?) := ⟨fun j hj => by
          by_cases e : j = k
          · subst e; rw [hA, hB]
          · exact hje.out j (by omega)⟩
        clear hA hB hje hr hOf
        go_wp2_with fail
        go_region
        go_wp2_with fail
        go_roundw
        case rel => exact ⟨k + 1, by omega, by go_num, hje2, ⟨hwb.out.trans ((below_drew _).mono hwb.out.size)⟩⟩
        case measure => simp [intOf]; omega
      · have hr0 : Kpt (r = false) := ⟨Bool.eq_false_iff.2 fun h => by have e := (hr.out.1 h).1; subst e; rw [hA] at hB; injection hB with hB; exact absurd hB hAB⟩
        have hq : (A.toList == B.toList) = false := Bool.eq_false_iff.2 (fun e => hAB (ba_inj (eq_of_beq e)))
        have hq2 : ¬ A.toList = B.toList := by simpa using hq
        clear hA hB hje hr hOf
        go_wp2_with fail
        go_region
        go_wp2_with fail
        go_ret
        exact ⟨by rw [hr0.out]; rfl, hb.out.trans ((below_drew _).mono hb.out.size)⟩
    · obtain rfl : k = un := by omega
      have hus : Kpt (us = us') := ⟨List.ext_getElem? (fun j => by
        by_cases e : j < k
        · exact hje.out j e
        · rw [List.getElem?_eq_none (by have := e1.out; omega), List.getElem?_eq_none (by have := e3.out; omega)])⟩
      have hkI : ¬ (k : Int) < k := by omega
      clear hje hwb hkn hk
      go_wp2_with (first
          | (have hm := m2; refine wpList_store_bx rfl 36 _ _ rfl bc zeroL (lsV (.slice ua k uc) (.slice ca cn cc)) rfl rfl Oc.out rfl infoRL (lsV_one rfl rfl) rfl ?_; intro w9 hX_ hg_; replace Oa := Kpt.mk (Oa.out.grown hg_ (by simp; omega)); replace Ob := Kpt.mk (Ob.out.grown hg_ (by simp; omega)); replace hb := Kpt.mk (hb.out.trans (bel_own hg_ hb.out.size lc.out)); replace hCr := Kpt.mk (hCr.out.below (bel_own hg_ hCz.out lcc.out) hClt.out); replace Oc := Kpt.mk hX_; clear hX_ hg_; clear hm m2; have m3 : Kpt True := ⟨trivial⟩)
          | (have hm := m1; refine wpList_var rfl 36 rfl zeroL zeroRLi ?_; intro bc w_c hl_ hX_ h_; have q_a_c : ba < bc := Nat.lt_of_lt_of_le Oa.out.lt hl_; have q_b_c : bb < bc := Nat.lt_of_lt_of_le Ob.out.lt hl_; have lc := Kpt.mk (Nat.le_trans hb.out.size hl_); replace Oa := Kpt.mk (Oa.out.below h_ Oa.out.lt); replace Ob := Kpt.mk (Ob.out.below h_ Ob.out.lt); replace hb := Kpt.mk (hb.out.trans (h_.mono hb.out.size)); replace ca0 := ls_c0 Oa.out; replace ca1 := ls_c1 Oa.out; replace cb0 := ls_c0 Ob.out; replace cb1 := ls_c1 Ob.out; have Oc := Kpt.mk hX_; have hCz := Kpt.mk (Nat.le_trans (Nat.le_refl _) h_.size); have lcc := Kpt.mk hl_; have hClt : Kpt (∀ g, (Value.slice ca cn cc).ownBlock = some g → g < w_.heap.size) := ⟨fun g hg => hCo.out g hg⟩; replace hCr := Kpt.mk (hCr.out.below h_ hClt.out); clear hl_ hX_ h_; clear hm m1; have m2 : Kpt True := ⟨trivial⟩)
          | (go_at_call 12; go_must (refine (hOf.out _ hb.out).mono ?_; rintro e w_ ⟨v, rfl, ho_, hn_, h_⟩; replace Oa := Kpt.mk (Oa.out.below h_ Oa.out.lt); replace Ob := Kpt.mk (Ob.out.below h_ Ob.out.lt); replace hb := Kpt.mk (hb.out.trans (h_.mono hb.out.size)); replace ca0 := ls_c0 Oa.out; replace ca1 := ls_c1 Oa.out; replace cb0 := ls_c0 Ob.out; replace cb1 := ls_c1 Ob.out; obtain ⟨ca, cc, hv_, hs_⟩ := ho_.shape; rw [List.length_map] at hv_ hs_; obtain ⟨cn, hcn⟩ : ∃ n, n = ss.length := ⟨_, rfl⟩; rw [← hcn] at hv_ hs_; subst hv_; have hCr := Kpt.mk ho_.rd.ro; have hCo : Kpt (∀ g, (Value.slice ca cn cc).ownBlock = some g → g < w_.heap.size) := ⟨fun g hg => ho_.lt hg⟩; have hCn := Kpt.mk hn_; replace hcn := Kpt.mk hcn; clear ho_ hn_ hs_; clear h_; have m1 : Kpt True := ⟨trivial⟩))
          | (refine wpList_load_bx rfl 27 _ rfl ba (lsV (.slice ua k uc) (.slice sa sn sc)) rfl Oa.out _ Tryd.underlying27 rfl infoL ?_)
          | fail)
      have hcn2 : cn = sn := by have := hcn.out; have := e2.out; omega
      subst hcn2
      have cc1 := ls_c1 Oc.out
      replace cb1 := ls_c1 Ob.out
      clear ca0 ca1 cb0
      go_loopw [7] (fun t7 wr => ∃ q : Nat, q ≤ cn ∧ t7 = .int .i64 q ∧ Kpt (∀ j, j < q → ss[j]? = ss'[j]?) ∧ Kpt (Below w9.heap.size w9 wr)) (fun t7 _ => cn - (intOf t7).toNat)
      case atStart => exact ⟨0, by omega, rfl, ⟨fun j hj => by omega⟩, ⟨Below.refl _ _⟩⟩
      case round =>
        obtain ⟨q, hq_, rfl, hje, hwb⟩ := hrel
        replace Oc := Kpt.mk (Oc.out.below hwb.out Oc.out.lt)
        replace Ob := Kpt.mk (Ob.out.below hwb.out Ob.out.lt)
        replace hb := Kpt.mk (hb.out.trans (hwb.out.mono hb.out.size))
        replace hCr := Kpt.mk (hCr.out.bel hwb.out)
        replace cc1 := ls_c1 Oc.out
        replace cb1 := ls_c1 Ob.out
        by_cases hqn : q < cn
        · have hqI : (q : Int) < cn := by omega
          obtain ⟨g1, o1, rfl, hg1, hm1, hr1⟩ := hCr.out.at (by omega)
          obtain ⟨g2, o2, rfl, hg2, hm2, hr2⟩ := q4.out.at (by omega)
          have hccn : cn ≤ cc := hCr.out.len.2
          obtain ⟨A, hA⟩ : ∃ A, ss[q]? = some A := ⟨_, List.getElem?_eq_getElem (by have := hcn.out; omega)⟩
          obtain ⟨B, hB⟩ : ∃ A, ss'[q]? = some A := ⟨_, List.getElem?_eq_getElem (by have := e4.out; omega)⟩
          have x1 : Kpt (wr.rangeAt g1 (o1 + q * 5) A.vals.toList) := ⟨hr1 q A.vals (by rw [List.getElem?_map, hA]; rfl)⟩
          have x2 : Kpt (wr.rangeAt g2 (o2 + q * 5) B.vals.toList) := ⟨rangeAt_block (hr2 q B.vals (by rw [List.getElem?_map, hB]; rfl)) (hb.out.block g2 hg2)⟩
          obtain ⟨yy, hbb⟩ : ∃ x : Bool, x = true ↔ A = B := by
            by_cases e : A = B
            · exact ⟨true, by simp [e]⟩
            · exact ⟨false, by simp [e]⟩
          have hEq := Kpt.mk (fun W => eq_g A B yy hbb W)
          replace hbb := Kpt.mk hbb
          replace hA := Kpt.mk hA
          replace hB := Kpt.mk hB
          obtain ⟨AV, hAV⟩ : ∃ v, v = A.vals := ⟨_, rfl⟩
          obtain ⟨BV, hBV⟩ : ∃ v, v = B.vals := ⟨_, rfl⟩
          have zA : Kpt ((Tryd.prog.info? 61).map (·.size) = some AV.size) := ⟨by rw [hAV]; exact infoRG⟩
          have zB : Kpt ((Tryd.prog.info? 61).map (·.size) = some BV.size) := ⟨by rw [hBV]; exact infoRG⟩
          rw [← hAV] at x1 hEq
          rw [← hBV] at x2 hEq
          unfold maxLen at hm1 hm2
          clear hr1 hr2 hAV hBV hOf
          go_upto_region 12 with fail
          have kc : ∀ W : World, W.heap = wr.heap → (W.cell? ⟨bc, 1, none⟩ = some (.slice (some ⟨g1, o1, none⟩) cn cc) ∧ W.cell? ⟨bb, 1, none⟩ = some (.slice (some ⟨g2, o2, none⟩) cn sd) ∧ W.rangeAt g1 (o1 + q * 5) AV.toList ∧ W.rangeAt g2 (o2 + q * 5) BV.toList) := fun W hW => by
            have hx : ∀ a, W.cell? a = wr.cell? a := fun a => World.cell?_of_block (by rw [hW])
            exact ⟨(hx _).trans cc1, (hx _).trans cb1, rangeAt_block x1.out (by rw [hW]), rangeAt_block x2.out (by rw [hW])⟩
          refine wp_region_any (by kernel_rfl) ?_
          refine wpAny_of_C (C := fun W => W.heap = wr.heap) _ _ _ _ ?_
          refine wpAnyC_take 0 (.pointer (some ⟨bc, 1, none⟩)) rfl (by kernel_rfl) (by kernel_rfl) (by kernel_rfl) (fun _ _ _ h => h) (wanted_free rfl _) (fun W hW => by have hk := kc W hW; obtain ⟨h1, h2, h3, h4⟩ := hk; go_simp) ?_
          try simp only [Act.put, List.getElem_toArray, List.getElem_cons_succ, List.getElem_cons_zero, List.setIfInBounds_toArray, List.set_cons_succ, List.set_cons_zero]
          refine wpAnyC_take 1 (.slice (some ⟨g1, o1, none⟩) cn cc) rfl (by kernel_rfl) (by kernel_rfl) (by kernel_rfl) (fun _ _ _ h => h) (wanted_free rfl _) (fun W hW => by have hk := kc W hW; obtain ⟨h1, h2, h3, h4⟩ := hk; go_simp) ?_
          try simp only [Act.put, List.getElem_toArray, List.getElem_cons_succ, List.getElem_cons_zero, List.setIfInBounds_toArray, List.set_cons_succ, List.set_cons_zero]
          refine wpAnyC_take 2 (.int .i64 q) rfl (by kernel_rfl) (by kernel_rfl) (by kernel_rfl) (fun _ _ _ h => h) (wanted_free rfl _) (fun W hW => by have hk := kc W hW; obtain ⟨h1, h2, h3, h4⟩ := hk; go_simp) ?_
          try simp only [Act.put, List.getElem_toArray, List.getElem_cons_succ, List.getElem_cons_zero, List.setIfInBounds_toArray, List.set_cons_succ, List.set_cons_zero]
          refine wpAnyC_take 3 (.pointer (some ⟨g1, o1 + q * 5, none⟩)) rfl (by kernel_rfl) (by kernel_rfl) (by kernel_rfl) (fun _ _ _ h => h) (wanted_free rfl _) (fun W hW => by have hk := kc W hW; obtain ⟨h1, h2, h3, h4⟩ := hk; go_simp) ?_
          try simp only [Act.put, List.getElem_toArray, List.getElem_cons_succ, List.getElem_cons_zero, List.setIfInBounds_toArray, List.set_cons_succ, List.set_cons_zero]
          refine wpAnyC_take 4 (.agg AV) rfl (by kernel_rfl) (by kernel_rfl) (by kernel_rfl) (fun _ _ _ h => h) (wanted_free rfl _) (fun W hW => exec_load_mid 61 _ rfl g1 (o1 + q * 5) AV rfl (kc W hW).2.2.1 _ Tryd.underlying61 rfl zA.out) ?_
          try simp only [Act.put, List.getElem_toArray, List.getElem_cons_succ, List.getElem_cons_zero, List.setIfInBounds_toArray, List.set_cons_succ, List.set_cons_zero]
          refine wpAnyC_take 5 (.pointer (some ⟨bb, 1, none⟩)) rfl (by kernel_rfl) (by kernel_rfl) (by kernel_rfl) (fun _ _ _ h => h) (wanted_free rfl _) (fun W hW => by have hk := kc W hW; obtain ⟨h1, h2, h3, h4⟩ := hk; go_simp) ?_
          try simp only [Act.put, List.getElem_toArray, List.getElem_cons_succ, List.getElem_cons_zero, List.setIfInBounds_toArray, List.set_cons_succ, List.set_cons_zero]
          refine wpAnyC_take 6 (.slice (some ⟨g2, o2, none⟩) cn sd) rfl (by kernel_rfl) (by kernel_rfl) (by kernel_rfl) (fun _ _ _ h => h) (wanted_free rfl _) (fun W hW => by have hk := kc W hW; obtain ⟨h1, h2, h3, h4⟩ := hk; go_simp) ?_
          try simp only [Act.put, List.getElem_toArray, List.getElem_cons_succ, List.getElem_cons_zero, List.setIfInBounds_toArray, List.set_cons_succ, List.set_cons_zero]
          refine wpAnyC_take 7 (.int .i64 q) rfl (by kernel_rfl) (by kernel_rfl) (by kernel_rfl) (fun _ _ _ h => h) (wanted_free rfl _) (fun W hW => by have hk := kc W hW; obtain ⟨h1, h2, h3, h4⟩ := hk; go_simp) ?_
          try simp only [Act.put, List.getElem_toArray, List.getElem_cons_succ, List.getElem_cons_zero, List.setIfInBounds_toArray, List.set_cons_succ, List.set_cons_zero]
          refine wpAnyC_take 8 (.pointer (some ⟨g2, o2 + q * 5, none⟩)) rfl (by kernel_rfl) (by kernel_rfl) (by kernel_rfl) (fun _ _ _ h => h) (wanted_free rfl _) (fun W hW => by have hk := kc W hW; obtain ⟨h1, h2, h3, h4⟩ := hk; go_simp) ?_
          try simp only [Act.put, List.getElem_toArray, List.getElem_cons_succ, List.getElem_cons_zero, List.setIfInBounds_toArray, List.set_cons_succ, List.set_cons_zero]
          refine wpAnyC_take 9 (.agg BV) rfl (by kernel_rfl) (by kernel_rfl) (by kernel_rfl) (fun _ _ _ h => h) (wanted_free rfl _) (fun W hW => exec_load_mid 61 _ rfl g2 (o2 + q * 5) BV rfl (kc W hW).2.2.2 _ Tryd.underlying61 rfl zB.out) ?_
          try simp only [Act.put, List.getElem_toArray, List.getElem_cons_succ, List.getElem_cons_zero, List.setIfInBounds_toArray, List.set_cons_succ, List.set_cons_zero]
          refine wpAnyC_take 10 (.bool (!yy)) rfl (by kernel_rfl) (by kernel_rfl) (by kernel_rfl) (fun _ _ _ h => h) (wanted_free rfl _) (fun W hW => exec_neq_g _ _ rfl AV BV yy hEq.out rfl rfl) ?_
          try simp only [Act.put, List.getElem_toArray, List.getElem_cons_succ, List.getElem_cons_zero, List.setIfInBounds_toArray, List.set_cons_succ, List.set_cons_zero]
          refine wpAnyC_done rfl (by kernel_rfl) ?_
          cases yy with
          | true =>
            have hje2 : Kpt (∀ j, j < q + 1 → ss[j]? = ss'[j]?) := ⟨fun j hj => by
              by_cases e : j = q
              · subst e; rw [hA.out, hB.out, hbb.out.1 rfl]
              · exact hje.out j (by omega)⟩
            clear kc hje hr
            go_wp2_with fail
            go_roundw
            case rel => exact ⟨q + 1, by omega, by go_num, hje2, ⟨hwb.out.trans ((below_drew _).mono hwb.out.size)⟩⟩
            case measure => simp [intOf]; omega
          | false =>
            have hr0 : Kpt (r = false) := ⟨Bool.eq_false_iff.2 fun h => by
              have e := (hr.out.1 h).2
              subst e
              have h1 := hA.out
              rw [hB.out] at h1
              injection h1 with h1
              have h2 := hbb.out.2 h1.symm
              cases h2⟩
            clear kc hje hr
            go_wp2_with fail
            go_ret
            exact ⟨by rw [hr0.out]; rfl, hb.out.trans ((below_drew _).mono hb.out.size)⟩
        · obtain rfl : q = cn := by omega
          have hss : ss = ss' := List.ext_getElem? (fun j => by
            by_cases e : j < q
            · exact hje.out j e
            · rw [List.getElem?_eq_none (by have := hcn.out; omega), List.getElem?_eq_none (by have := e4.out; omega)])
          have hr1 : Kpt (r = true) := ⟨hr.out.2 ⟨hus.out, hss⟩⟩
          have hqI : ¬ (q : Int) < q := by omega
          clear hje hr hss
          go_wp2_with fail
          go_ret
          exact ⟨by rw [hr1.out]; rfl, hb.out⟩
end Go.Proofs.YtnebcbfjlkhimaaDoor
