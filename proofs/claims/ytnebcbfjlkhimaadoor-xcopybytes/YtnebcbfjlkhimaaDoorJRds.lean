/-
  Reads: what any parameters want.
-/
import Derived.Test.YtnebcbfjlkhimaaDoorJAw
import Derived.Test.YtnebcbfjlkhimaaDoorJRany
import Derived.Test.YtnebcbfjlkhimaaDoorJSame
namespace Go.Proofs.YtnebcbfjlkhimaaDoor
open Go.RowKit
set_option linter.unusedVariables false
set_option linter.unusedSimpArgs false
theorem parse_small {zs : List Int} (hb : Bytes zs) : (parseX zs).us.length ≤ 8 ∧ (parseX zs).ss.length ≤ 8 := by
  by_cases h0 : zs.length = 0
  · have e : parseX zs = ⟨[], [], noS, true⟩ := by unfold parseX; rw [if_pos h0]
    rw [e]
    exact ⟨Nat.zero_le _, Nat.zero_le _⟩
  · cases hx : headX zs with
    | some s => rw [parse_hd h0 hx]; exact ⟨Nat.zero_le _, Nat.zero_le _⟩
    | none =>
      obtain ⟨_, _, h1, h2, _⟩ := head_sz hb hx
      unfold parseX
      rw [if_neg h0, hx]
      simp only
      split
      · exact ⟨Nat.zero_le _, Nat.zero_le _⟩
      · split
        · exact ⟨Nat.zero_le _, Nat.zero_le _⟩
        · simp only [unitsX_len, segsX_len]; exact ⟨h1, h2⟩
theorem sn_c0 {w : World} {B : Nat} {k c i f b : Int} {h p q : Bool} (hB : Bx w B (Sn.vals ⟨k, c, i, h, f, b, p, q⟩)) : w.cell? ⟨B, 0, none⟩ = some (.int .u8 k) := hB.cells 0 (by simp [Sn.vals])
theorem sn_c1 {w : World} {B : Nat} {k c i f b : Int} {h p q : Bool} (hB : Bx w B (Sn.vals ⟨k, c, i, h, f, b, p, q⟩)) : w.cell? ⟨B, 1, none⟩ = some (.int .u16 c) := hB.cells 1 (by simp [Sn.vals])
theorem sn_c2 {w : World} {B : Nat} {k c i f b : Int} {h p q : Bool} (hB : Bx w B (Sn.vals ⟨k, c, i, h, f, b, p, q⟩)) : w.cell? ⟨B, 2, none⟩ = some (.int .u64 i) := hB.cells 2 (by simp [Sn.vals])
theorem sn_c3 {w : World} {B : Nat} {k c i f b : Int} {h p q : Bool} (hB : Bx w B (Sn.vals ⟨k, c, i, h, f, b, p, q⟩)) : w.cell? ⟨B, 3, none⟩ = some (.bool h) := hB.cells 3 (by simp [Sn.vals])
theorem sn_c4 {w : World} {B : Nat} {k c i f b : Int} {h p q : Bool} (hB : Bx w B (Sn.vals ⟨k, c, i, h, f, b, p, q⟩)) : w.cell? ⟨B, 4, none⟩ = some (.int .i64 f) := hB.cells 4 (by simp [Sn.vals])
theorem sn_c5 {w : World} {B : Nat} {k c i f b : Int} {h p q : Bool} (hB : Bx w B (Sn.vals ⟨k, c, i, h, f, b, p, q⟩)) : w.cell? ⟨B, 5, none⟩ = some (.int .i64 b) := hB.cells 5 (by simp [Sn.vals])
theorem sn_c6 {w : World} {B : Nat} {k c i f b : Int} {h p q : Bool} (hB : Bx w B (Sn.vals ⟨k, c, i, h, f, b, p, q⟩)) : w.cell? ⟨B, 6, none⟩ = some (.bool p) := hB.cells 6 (by simp [Sn.vals])
theorem sn_c7 {w : World} {B : Nat} {k c i f b : Int} {h p q : Bool} (hB : Bx w B (Sn.vals ⟨k, c, i, h, f, b, p, q⟩)) : w.cell? ⟨B, 7, none⟩ = some (.bool q) := hB.cells 7 (by simp [Sn.vals])
set_option maxRecDepth 100000 in
set_option maxHeartbeats 4000000 in
theorem reads_any (a : Option Addr) (n c : Nat) (zs : List Int) (w : World) (hr : RdAt w (.slice a n c) zs) (hb_ : Bytes zs) (hn : n ≤ 140737488351232) :
    Calls Tryd.prog 3 #[.slice a n c] w fun e w' => e = .returned (.bool true) ∧ Below w.heap.size w w' := by
  have hAw := Kpt.mk awake_any
  obtain ⟨z1, z2⟩ := parse_small hb_
  have hP : Kpt (∀ W, Below w.heap.size w W → Calls Tryd.prog 7 #[.slice a n c] W fun e w' => ∃ u s, e = .returned (.tuple #[.agg (lsV u s), .agg (parseX zs).s.vals, .bool (parseX zs).ok]) ∧ Prd 50 W w' u s (parseX zs)) := ⟨fun W hb => par_any a n c zs W (hr.bel hb) hb_ hn⟩
  have hR : Kpt (∀ W, Below w.heap.size w W → Calls Tryd.prog 8 #[.slice a n c] W fun e w' => ∃ u s, e = .returned (.tuple #[.agg (lsV u s), .agg (parseX zs).s.vals, .bool (parseX zs).ok]) ∧ Prd 61 W w' u s (parseX zs)) := ⟨fun W hb => rpar_any a n c zs W (hr.bel hb) hb_ hn⟩
  clear hr hb_ hn
  generalize parseX zs = X at hP hR z1 z2
  obtain ⟨us, ss, ⟨xk, xc, xi, xh, xf, xb, xp, xq⟩, ok⟩ := X
  simp only at z1 z2 hP hR
  have hP2 : Kpt (∀ W, Below w.heap.size w W → Calls Tryd.prog 7 #[.slice a n c] W fun e w' => ∃ ua un uc sa sn sc, e = .returned (.tuple #[.agg (lsV (.slice ua un uc) (.slice sa sn sc)), .agg (Sn.vals ⟨xk, xc, xi, xh, xf, xb, xp, xq⟩), .bool ok]) ∧ Ro 1 w' (.slice ua un uc) ((us.map strOfNums).map sZ) ∧ Ro 5 w' (.slice sa sn sc) (ss.map Sg.vals) ∧ un ≤ 8 ∧ sn ≤ 8 ∧ Below W.heap.size W w') := ⟨fun W hb => (hP.out W hb).mono fun e w' ⟨u, s, he, hp⟩ => by
    obtain ⟨ua, uc, rfl, _⟩ := hp.ur.shape
    obtain ⟨sa, sc, rfl, _⟩ := hp.sr.shape
    exact ⟨ua, _, uc, sa, _, sc, he, uZ_s us ▸ hp.ur.rd.ro, hp.sr.rd.ro, by simpa using z1, by simpa using z2, hp.bel⟩⟩
  have hR2 : Kpt (∀ W, Below w.heap.size w W → Calls Tryd.prog 8 #[.slice a n c] W fun e w' => ∃ ua un uc sa sn sc, e = .returned (.tuple #[.agg (lsV (.slice ua un uc) (.slice sa sn sc)), .agg (Sn.vals ⟨xk, xc, xi, xh, xf, xb, xp, xq⟩), .bool ok]) ∧ Ro 1 w' (.slice ua un uc) ((us.map strOfNums).map sZ) ∧ Ro 5 w' (.slice sa sn sc) (ss.map Sg.vals) ∧ Below W.heap.size W w') := ⟨fun W hb => (hR.out W hb).mono fun e w' ⟨u, s, he, hp⟩ => by
    obtain ⟨ua, uc, rfl, _⟩ := hp.ur.shape
    obtain ⟨sa, sc, rfl, _⟩ := hp.sr.shape
    exact ⟨ua, _, uc, sa, _, sc, he, uZ_s us ▸ hp.ur.rd.ro, hp.sr.rd.ro, hp.bel⟩⟩
  have hS := Kpt.mk (fun (ua ub sa sb : Option Addr) (un uc um ud sn sc sm sd : Nat) (W : World) (h1 : Ro 1 W (.slice ua un uc) ((us.map strOfNums).map sZ)) (h2 : Ro 5 W (.slice sa sn sc) (ss.map Sg.vals)) (h3 : Ro 1 W (.slice ub um ud) ((us.map strOfNums).map sZ)) (h4 : Ro 5 W (.slice sb sm sd) (ss.map Sg.vals)) (hl : sn ≤ 9000) (hum : un ≤ maxLen) => same_any ua ub sa sb un uc um ud sn sc sm sd _ _ ss ss W h1 h2 h3 h4 hl hum true (by simp))
  clear hP hR z1 z2
  have hb := Kpt.mk (Below.refl w.heap.size w)
  go_enter Tryd.func3, Tryd.ntmps3
  go_wp2_with (first
    | (go_at_call 9; have hm := m11; go_must (refine (hS.out ua ub sa sb un uc um ud sn sc sm sd _ R1.out R2.out R3.out R4.out (by omega) (by unfold maxLen; omega)).mono ?_; rintro e w12 ⟨rfl, h_⟩; replace Om := Kpt.mk (Om.out.below h_ Om.out.lt); replace Os := Kpt.mk (Os.out.below h_ Os.out.lt); replace Or := Kpt.mk (Or.out.below h_ Or.out.lt); replace Ot := Kpt.mk (Ot.out.below h_ Ot.out.lt); replace R1 := Kpt.mk (R1.out.bel h_); replace R2 := Kpt.mk (R2.out.bel h_); replace R3 := Kpt.mk (R3.out.bel h_); replace R4 := Kpt.mk (R4.out.bel h_); replace hb := Kpt.mk (hb.out.trans (h_.mono hb.out.size)); have cs0 := sn_c0 Os.out; have ct0 := sn_c0 Ot.out; have cs1 := sn_c1 Os.out; have ct1 := sn_c1 Ot.out; have cs2 := sn_c2 Os.out; have ct2 := sn_c2 Ot.out; have cs3 := sn_c3 Os.out; have ct3 := sn_c3 Ot.out; have cs4 := sn_c4 Os.out; have ct4 := sn_c4 Ot.out; have cs5 := sn_c5 Os.out; have ct5 := sn_c5 Ot.out; have cs6 := sn_c6 Os.out; have ct6 := sn_c6 Ot.out; have cs7 := sn_c7 Os.out; have ct7 := sn_c7 Ot.out; clear h_; clear hm m11; have m12 : Kpt True := ⟨trivial⟩))
    | (refine (?_ : wpList _ _ _ (Oper.mk _ (Op.store 31 _ _) _ _ _ _ :: _) _ _); have hm := m10; go_must (refine wpList_store_bx rfl 31 _ _ rfl bt zeroS (Sn.vals ⟨xk, xc, xi, xh, xf, xb, xp, xq⟩) rfl rfl Ot.out rfl infoS (Sn.vals_one _) rfl ?_; intro w11 hX_ hg_; replace Or := Kpt.mk (Or.out.grown hg_ (fun e => by injection e with e; omega)); replace hB := Kpt.mk (hB.out.trans (bel_own hg_ hB.out.size lt.out)); replace Ot := Kpt.mk hX_; clear hX_ hg_; replace Om := Kpt.mk (Om.out.below hB.out Om.out.lt); replace Os := Kpt.mk (Os.out.below hB.out Os.out.lt); replace R1 := Kpt.mk (R1.out.bel hB.out); replace R2 := Kpt.mk (R2.out.bel hB.out); replace R3 := Kpt.mk (R3.out.bel hB.out); replace R4 := Kpt.mk (R4.out.bel hB.out); replace hb := Kpt.mk (hb.out.trans (hB.out.mono hb.out.size)); clear hB hW0; clear hm m10; have m11 : Kpt True := ⟨trivial⟩))
    | (refine (?_ : wpList _ _ _ (Oper.mk _ (Op.store 36 _ _) _ _ _ _ :: _) _ _); have hm := m9; go_must (refine wpList_store_bx rfl 36 _ _ rfl br zeroL (lsV (.slice ub um ud) (.slice sb sm sd)) rfl rfl Or.out rfl infoRL (lsV_one rfl rfl) rfl ?_; intro w10 hX_ hg_; replace Ot := Kpt.mk (Ot.out.grown hg_ (fun e => by injection e with e; omega)); replace hB := Kpt.mk (hB.out.trans (bel_own hg_ hB.out.size lr.out)); replace Or := Kpt.mk hX_; clear hX_ hg_; clear hm m9; have m10 : Kpt True := ⟨trivial⟩))
    | (have hm := m8; refine wpList_var rfl 31 rfl zeroS zeroSi ?_; intro bt w9 hl_ hX_ h_; have lt := Kpt.mk (Nat.le_trans hB.out.size hl_); have q_r_t : br < bt := Nat.lt_of_lt_of_le Or.out.lt hl_; replace hB := Kpt.mk (hB.out.trans (h_.mono hB.out.size)); replace Or := Kpt.mk (Or.out.below h_ Or.out.lt); have Ot := Kpt.mk hX_; clear hl_ hX_ h_; clear hm m8; have m9 : Kpt True := ⟨trivial⟩)
    | (have hm := m7; refine wpList_var rfl 36 rfl zeroL zeroRLi ?_; intro br w8 hl_ hX_ h_; have lr := Kpt.mk hl_; have hB := Kpt.mk h_; have hW0 := Kpt.mk hl_; have Or := Kpt.mk hX_; clear hl_ hX_ h_; clear hm m7; have m8 : Kpt True := ⟨trivial⟩)
    | (go_at_call 8; have hm := m6; go_must (refine (hR2.out _ hb.out).mono ?_; rintro e w7 ⟨ub, um, ud, sb, sm, sd, rfl, R3_, R4_, h_⟩; replace Om := Kpt.mk (Om.out.below h_ Om.out.lt); replace Os := Kpt.mk (Os.out.below h_ Os.out.lt); replace R1 := Kpt.mk (R1.out.bel h_); replace R2 := Kpt.mk (R2.out.bel h_); replace hb := Kpt.mk (hb.out.trans (h_.mono hb.out.size)); have R3 := Kpt.mk R3_; have R4 := Kpt.mk R4_; clear R3_; clear R4_; clear h_; clear hm m6; have m7 : Kpt True := ⟨trivial⟩))
    | (refine (?_ : wpList _ _ _ (Oper.mk _ (Op.store 31 _ _) _ _ _ _ :: _) _ _); have hm := m5; go_must (refine wpList_store_bx rfl 31 _ _ rfl bs zeroS (Sn.vals ⟨xk, xc, xi, xh, xf, xb, xp, xq⟩) rfl rfl Os.out rfl infoS (Sn.vals_one _) rfl ?_; intro w6 hX_ hg_; replace Om := Kpt.mk (Om.out.grown hg_ (fun e => by injection e with e; omega)); replace hB := Kpt.mk (hB.out.trans (bel_own hg_ hB.out.size ls.out)); replace Os := Kpt.mk hX_; clear hX_ hg_; replace R1 := Kpt.mk (R1.out.bel hB.out); replace R2 := Kpt.mk (R2.out.bel hB.out); replace hb := Kpt.mk (hb.out.trans (hB.out.mono hb.out.size)); clear hB hW0; clear hm m5; have m6 : Kpt True := ⟨trivial⟩))
    | (refine (?_ : wpList _ _ _ (Oper.mk _ (Op.store 27 _ _) _ _ _ _ :: _) _ _); have hm := m4; go_must (refine wpList_store_bx rfl 27 _ _ rfl bm zeroL (lsV (.slice ua un uc) (.slice sa sn sc)) rfl rfl Om.out rfl infoL (lsV_one rfl rfl) rfl ?_; intro w5 hX_ hg_; replace Os := Kpt.mk (Os.out.grown hg_ (fun e => by injection e with e; omega)); replace hB := Kpt.mk (hB.out.trans (bel_own hg_ hB.out.size lm.out)); replace Om := Kpt.mk hX_; clear hX_ hg_; clear hm m4; have m5 : Kpt True := ⟨trivial⟩))
    | (have hm := m3; refine wpList_var rfl 31 rfl zeroS zeroSi ?_; intro bs w4 hl_ hX_ h_; have ls := Kpt.mk (Nat.le_trans hB.out.size hl_); have q_m_s : bm < bs := Nat.lt_of_lt_of_le Om.out.lt hl_; replace hB := Kpt.mk (hB.out.trans (h_.mono hB.out.size)); replace Om := Kpt.mk (Om.out.below h_ Om.out.lt); have Os := Kpt.mk hX_; clear hl_ hX_ h_; clear hm m3; have m4 : Kpt True := ⟨trivial⟩)
    | (have hm := m2; refine wpList_var rfl 27 rfl zeroL zeroLi ?_; intro bm w3 hl_ hX_ h_; have lm := Kpt.mk hl_; have hB := Kpt.mk h_; have hW0 := Kpt.mk hl_; have Om := Kpt.mk hX_; clear hl_ hX_ h_; clear hm m2; have m3 : Kpt True := ⟨trivial⟩)
    | (go_at_call 7; have hm := m1; go_must (refine (hP2.out _ hb.out).mono ?_; rintro e w2 ⟨ua, un, uc, sa, sn, sc, rfl, R1_, R2_, hu8, hs8, h_⟩; replace hb := Kpt.mk (hb.out.trans (h_.mono hb.out.size)); have R1 := Kpt.mk R1_; have R2 := Kpt.mk R2_; clear R1_; clear R2_; clear h_; clear hm m1; have m2 : Kpt True := ⟨trivial⟩))
    | (go_at_call 6; go_must (refine (hAw.out _).mono ?_; rintro e w1 ⟨rfl, h_⟩; replace hb := Kpt.mk (hb.out.trans (h_.mono hb.out.size)); clear h_; have m1 : Kpt True := ⟨trivial⟩))
    | (have hm := m11; refine wpList_load_bx rfl 27 _ rfl bm (lsV (.slice ua un uc) (.slice sa sn sc)) rfl Om.out _ Tryd.underlying27 rfl infoL ?_)
    | (have hm := m11; refine wpList_load_bx rfl 36 _ rfl br (lsV (.slice ub um ud) (.slice sb sm sd)) rfl Or.out _ Tryd.underlying36 rfl infoRL ?_)
    | fail)
  go_ret
  exact ⟨by simp, hb.out⟩
theorem rd_isrow {w : World} {a : Option Addr} {n c : Nat} {zs : List Int} (h : (a = none ∧ n = 0 ∧ c = 0 ∧ zs = []) ∨ ∃ x, a = some x ∧ n ≤ c ∧ c ≤ 140737488351232 ∧ zs.length = c ∧ (∀ i, i < zs.length → w.cell? (x.add i) = some (.int .u8 (zs.getD i 0))) ∧ ∀ n ∈ zs, (Lit.int .u8 n).wf = true) :
    RdAt w (.slice a n c) (zs.take n) ∧ Bytes (zs.take n) ∧ n ≤ 140737488351232 := by
  rcases h with ⟨rfl, rfl, rfl, rfl⟩ | ⟨x, rfl, h1, h2, h3, h4, h5⟩
  · exact ⟨rd_nil w, Bytes.nil, by omega⟩
  · have hlen : (zs.take n).length = n := by rw [List.length_take]; omega
    have hb : Bytes (zs.take n) := bytes_mem fun y hy => by
      have := h5 y (List.mem_of_mem_take hy)
      simp [Lit.wf, IntKind.min, IntKind.max, IntKind.bits, IntKind.signed] at this
      omega
    refine ⟨?_, hb, by omega⟩
    obtain ⟨b, off, spot⟩ := x
    refine ⟨_, c, by rw [hlen], (fun e => by cases e), by omega, ?_⟩
    by_cases h0 : n = 0
    · exact .inl (by omega)
    · have hs : spot = none := by
        have e0 := h4 0 (by omega)
        have e1 : w.cell? (((⟨b, off, spot⟩ : Addr).add 0)) = some (.int .u8 (zs.getD 0 0)) := e0
        simpa [Addr.add] using World.cell?_spot e1
      subst hs
      refine .inr ⟨b, off, rfl, fun j u hu => ?_⟩
      have hj : j < n := by
        have := (List.getElem?_eq_some_iff.1 hu).1
        rw [cels_length, hlen] at this
        exact this
      have e := h4 j (by omega)
      rw [Go.WideShapes.add_plain] at e
      rw [e]
      unfold cels at hu
      rw [List.getElem?_map, List.getElem?_take_of_lt hj, List.getElem?_eq_getElem (by omega)] at hu
      rw [List.getD_eq_getElem?_getD, List.getElem?_eq_getElem (by omega)]
      exact hu
end Go.Proofs.YtnebcbfjlkhimaaDoor
