/-
  Spoils: a list that is told, a way.
-/
import Derived.Test.YtnebcbfjlkhimaaDoorJSpa
namespace Go.Proofs.YtnebcbfjlkhimaaDoor
open Go.RowKit
set_option linter.unusedVariables false
set_option linter.unusedSimpArgs false
set_option maxRecDepth 100000 in
set_option maxHeartbeats 8000000 in
theorem spl_mtz (ua sa : Option Addr) (un uc sn sc : Nat) (us : List ByteArray) (ss : List Sg) (w : World) (h1 : Ro 1 w (.slice ua un uc) (us.map sZ)) (h2 : Ro 5 w (.slice sa sn sc) (ss.map Sg.vals)) (at' y E i : Nat) (hu8 : un ≤ 8) (hs8 : sn ≤ 8) (hf1 : ∀ S ∈ us, Ser (nums S)) (hf2 : ∀ g ∈ ss, Seg un g) (hw : ∀ g ∈ ss, SegW g) (hat : at' < 65536) (hy0 : y ≠ 0) (hy : y < 256)
    (hE : E = (bytesX (us.map nums) ss).length) (hi : i = at' % E) (hi0 : i = 0) (z : Int) (hz : z = bits .xor .u8 ((bytesX (us.map nums) ss).getD i 0) y) (hok : (parseX ((bytesX (us.map nums) ss).set i z)).ok = true) :
    Calls Tryd.prog 5 #[.agg (lsV (.slice ua un uc) (.slice sa sn sc)), .int .u16 at', .int .u8 y] w fun e w' => e = .returned (.bool true) ∧ Below w.heap.size w w' := by
  have e1 := h1.len
  rw [List.length_map] at e1
  have e2 := h2.len
  rw [List.length_map] at e2
  have hF : Form (us.map nums) ss := ⟨by rw [List.length_map]; omega, by omega, fun s hs => by obtain ⟨S, hS, rfl⟩ := List.mem_map.1 hs; exact hf1 S hS, fun g hg => by rw [List.length_map, ← e1.1]; exact hf2 g hg⟩
  have hXb : Bytes (bytesX (us.map nums) ss) := bytes_bytesX (fun s hs => by obtain ⟨S, _, rfl⟩ := List.mem_map.1 hs; exact nums_bytes S)
  have hEl := bytesX_len (us := us.map nums) (ss := ss) (fun s hs => (hF.uu s hs).1)
  rw [List.length_map] at hEl
  have hE9 : E ≤ 9000 := by omega
  have hE16 : 16 ≤ E := by omega
  have hiE : i < E := by rw [hi]; exact Nat.mod_lt _ (by omega)
  obtain ⟨x, hx⟩ : ∃ x, x = (bytesX (us.map nums) ss).getD i 0 := ⟨_, rfl⟩
  have hxb := hXb i
  rw [← hx] at hxb hz
  have hzz := xor_ne x y hxb (by omega) (by omega)
  rw [← hz] at hzz
  have hq : Bytes ((bytesX (us.map nums) ss).set i z) := bytes_set hXb i z hzz.2
  have hsp := parse_spoil hF i z (by rw [← hE]; exact hiE) (by rw [← hx]; exact hzz.1) hq
  have hlg := parse_longer hF i z
  have hcut := parse_cut hF i
  have hBy := Kpt.mk (fun W (hb : Below w.heap.size w W) => by_ok ua sa un uc sn sc us ss W (h1.bel hb) (h2.bel hb) hu8 hs8 hf1 hf2 hw)
  obtain ⟨X, hX⟩ : ∃ X, X = bytesX (us.map nums) ss := ⟨_, rfl⟩
  rw [← hX] at hXb hsp hlg hcut hBy hok hx hE hq
  have hql : (X.set i z).length = E := by rw [List.length_set, hE]
  have hP1 : Kpt (∀ W b g cap, W.ownsRow b 5 1 (.slice (some ⟨g, 0, none⟩) E cap) E (cels (X.set i z)) → Calls Tryd.prog 7 #[.slice (some ⟨g, 0, none⟩) E cap] W fun e w' => ∃ ma mn mc ta tn tc, e = .returned (.tuple #[.agg (lsV (.slice ma mn mc) (.slice ta tn tc)), .agg (parseX (X.set i z)).s.vals, .bool (parseX (X.set i z)).ok]) ∧ Ro 1 w' (.slice ma mn mc) (((parseX (X.set i z)).us.map strOfNums).map sZ) ∧ Ro 5 w' (.slice ta tn tc) ((parseX (X.set i z)).ss.map Sg.vals) ∧ mn ≤ 8 ∧ tn ≤ 8 ∧ (∀ g, (Value.slice ma mn mc).ownBlock = some g → W.heap.size ≤ g) ∧ (∀ g, (Value.slice ta tn tc).ownBlock = some g → W.heap.size ≤ g) ∧ Below W.heap.size W w') := ⟨fun W b g cap ho => par_rows _ _ _ _ W (own_rd ho) hq (by omega)⟩
  have hP2 : Kpt (∀ W b g cap, W.ownsRow b 5 1 (.slice (some ⟨g, 0, none⟩) E cap) E (cels X) → Calls Tryd.prog 7 #[.slice (some ⟨g, 0, none⟩) i cap] W fun e w' => ∃ ma mn mc ta tn tc, e = .returned (.tuple #[.agg (lsV (.slice ma mn mc) (.slice ta tn tc)), .agg (parseX (X.take i)).s.vals, .bool (parseX (X.take i)).ok]) ∧ Below W.heap.size W w') := ⟨fun W b g cap ho => (par_rows _ _ _ _ W (rd_take (own_rd ho) i (by omega)) (bytes_mem fun x hx => bytes_to hXb x (List.mem_of_mem_take hx)) (by omega)).mono fun e w' ⟨a1, a2, a3, a4, a5, a6, a7, _, _, _, _, _, _, a8⟩ => ⟨a1, a2, a3, a4, a5, a6, a7, a8⟩⟩
  have hP3 : Kpt (∀ W b g n cap, n = E + 1 → W.ownsRow b 5 1 (.slice (some ⟨g, 0, none⟩) n cap) n (cels (X.set i z ++ [0])) → Calls Tryd.prog 7 #[.slice (some ⟨g, 0, none⟩) n cap] W fun e w' => ∃ ma mn mc ta tn tc, e = .returned (.tuple #[.agg (lsV (.slice ma mn mc) (.slice ta tn tc)), .agg (parseX (X.set i z ++ [0])).s.vals, .bool (parseX (X.set i z ++ [0])).ok]) ∧ Below W.heap.size W w') := ⟨fun W b g n cap hn ho => (par_rows _ _ _ _ W (own_rd ho) (bytes_app hq (bytes_mem (by decide))) (by omega)).mono fun e w' ⟨a1, a2, a3, a4, a5, a6, a7, _, _, _, _, _, _, a8⟩ => ⟨a1, a2, a3, a4, a5, a6, a7, a8⟩⟩
  have hc0 : (parseX (X.take i)).ok = true := by subst hi0; rw [List.take_zero]; rfl
  have hun : ¬ ((parseX (X.set i z)).us.map strOfNums = us ∧ (parseX (X.set i z)).ss = ss) := fun ⟨a1, a2⟩ => hsp ⟨hok, strs_back (parse_us hq) a1, a2⟩
  have hOf := Kpt.mk (fun W (hb : Below w.heap.size w W) => of_any ua un uc sa sn sc ss W (h2.bel hb) (by omega))
  obtain ⟨X1, hX1⟩ : ∃ P, P = parseX (X.set i z) := ⟨_, rfl⟩
  rw [← hX1] at hP1 hok hun
  obtain ⟨X2, hX2⟩ : ∃ P, P = (parseX (X.take i)) := ⟨_, rfl⟩
  rw [← hX2] at hP2 hc0
  obtain ⟨X3, hX3⟩ : ∃ P, P = (parseX (X.set i z ++ [0])) := ⟨_, rfl⟩
  rw [← hX3] at hP3 hlg
  obtain ⟨us1, ss1, S1, ok1⟩ := X1
  obtain ⟨us2, ss2, S2, ok2⟩ := X2
  obtain ⟨us3, ss3, S3, ok3⟩ := X3
  simp only at hP1 hP2 hP3 hok hc0 hlg hun
  subst hok hc0 hlg
  have hSm := Kpt.mk (fun (m1 m2 t1 t2 : Option Addr) (n1 c1 n2 c2 k1 d1 k2 d2 : Nat) (W : World) (g1 : Ro 1 W (.slice m1 n1 c1) ((us1.map strOfNums).map sZ)) (g2 : Ro 5 W (.slice t1 k1 d1) (ss1.map Sg.vals)) (g3 : Ro 1 W (.slice m2 n2 c2) (us.map sZ)) (g4 : Ro 5 W (.slice t2 k2 d2) (ss.map Sg.vals)) (q1 : k1 ≤ 9000) (q2 : n1 ≤ maxLen) => same_any m1 m2 t1 t2 n1 c1 n2 c2 k1 d1 k2 d2 _ us ss1 ss W g1 g2 g3 g4 q1 q2 false ⟨fun h => (by cases h), fun h => absurd h hun⟩)
  clear hun
  have hit : ((at' : Int).tmod (E : Int)) = (i : Int) := by rw [Int.tmod_eq_emod_of_nonneg (by omega), hi]; simp
  have hie : ((at' : Int) % (E : Int)) = (i : Int) := by rw [hi]; simp
  have hEne : ¬ (E : Int) = 0 := by omega
  have hEne' : ((E : Int) == 0) = false := by simp; omega
  have hiEI : (i : Int) < E := by omega
  have wat : IntKind.i64.wrap (at' : Int) = at' := by rw [IntKind.wrap_i64]; omega
  have hXl : Kpt (X.length = E) := ⟨hE.symm⟩
  have hxe := Kpt.mk hx
  have hzx : bits .xor .u8 x (y : Int) = z := hz.symm
  have hE0 : 0 < E := by omega
  have hib : ((i : Int) == 0) = true := by simp; omega
  replace hql := Kpt.mk hql
  have hy' : ((y : Int) == 0) = false := by simp; omega
  replace hib := Kpt.mk hib
  replace hi0 := Kpt.mk hi0
  clear hX1 hX2 hX3 hX hq hcut hsp hzz hxb hXb hEl hF e1 e2 hf1 hf2 hw hE hi hx hz hy0
  have hAw := Kpt.mk awake_any
  have R1 := Kpt.mk h1
  have R2 := Kpt.mk h2
  clear h1 h2
  have hb := Kpt.mk (Below.refl w.heap.size w)
  go_enter Tryd.func5, Tryd.ntmps5
  go_wp2_with (first
    | (refine (?_ : wpList _ _ _ (Oper.mk _ (Op.call { callee := .builtin .append, args := _, argTypes := _ }) _ _ _ _ :: _) _ _); have hm := m3; go_must (refine wpList_append_new rfl _ _ rfl w3.heap.size (.slice none 0 0) (.slice (some ⟨G, 0, none⟩) E cap) [] X 0 E rfl rfl (World.ownsRow_nil _ _ 5 1) (own_rd HX.out) (by rw [hXl.out]; omega) rfl (by rw [hXl.out]; omega) (by omega) (Nat.le_refl _) ?_; intro g3 cap3 w4 ho3 hg3 hgr3; rw [List.nil_append] at ho3; have h_ : Below w3.heap.size w3 w4 := (Below.refl _ _).grown hgr3.out (Nat.le_refl _) (fun k e => by cases e); have hg3k := Kpt.mk hg3.out; have qG : G < g3 := Nat.lt_of_lt_of_le (World.ownsRow.lt HX.out G rfl).2 hg3.out.1; have qa : ba < g3 := Nat.lt_of_lt_of_le Oa.out.lt hg3.out.1; have hwg : Kpt (w.heap.size ≤ g3) := ⟨Nat.le_trans hb.out.size hg3.out.1⟩; replace Oa := Kpt.mk (Oa.out.below h_ Oa.out.lt); replace HX := Kpt.mk (own_bel HX.out h_); replace hb := Kpt.mk (hb.out.trans (h_.mono hb.out.size)); have hci := own_facts ho3.out i hiE; rw [← hxe.out] at hci; have hfi := ho3.out.frozenAt i; have HQ := Kpt.mk (own_re ho3.out hwg.out); clear h_ ho3 hg3 hgr3; clear hm m3; have m4 : Kpt True := ⟨trivial⟩))
    | (go_at_call 10; have hm := m2; go_must (refine (hBy.out _ hb.out).mono ?_; rintro e w3 ⟨G, n_, cap, rfl, ho_, h_⟩; have hn_ : E = n_ := (by have q_ := ho_.1; rw [cels_length, hXl.out] at q_; omega); subst hn_; have HX := Kpt.mk (own_base ho_ hb.out.size); replace Oa := Kpt.mk (Oa.out.below h_ Oa.out.lt); replace hb := Kpt.mk (hb.out.trans (h_.mono hb.out.size)); clear ho_ h_; clear hm m2; have m3 : Kpt True := ⟨trivial⟩))
    | (go_at_call 6; have hm := m1; go_must (refine (hAw.out _).mono ?_; rintro e w2 ⟨rfl, h_⟩; replace Oa := Kpt.mk (Oa.out.below h_ Oa.out.lt); replace hb := Kpt.mk (hb.out.trans (h_.mono hb.out.size)); clear h_; clear hm m1; have m2 : Kpt True := ⟨trivial⟩))
    | (refine wpList_box rfl 27 _ rfl (lsV (.slice ua un uc) (.slice sa sn sc)) rfl ?_; intro ba w1 hl_ hX_ h_ _; replace hb := Kpt.mk (hb.out.trans (h_.mono hb.out.size)); have Oa := Kpt.mk hX_; clear hl_ hX_ h_; have m1 : Kpt True := ⟨trivial⟩)
    | (refine wpList_load_bx rfl 27 _ rfl ba (lsV (.slice ua un uc) (.slice sa sn sc)) rfl Oa.out _ Tryd.underlying27 rfl infoL ?_)
    | fail)
  obtain ⟨w5, hw5⟩ : ∃ W, W = w4.setCell ⟨g3, i, none⟩ (.int .u8 z) := ⟨_, rfl⟩
  have hg5 : w4.grownBy w5 (some g3) := by rw [hw5]; exact grown_setCellK w4 ⟨g3, i, none⟩ _
  have HQ5 : Kpt (w5.ownsRow w.heap.size 5 1 (.slice (some ⟨g3, 0, none⟩) E cap3) E (cels (X.set i z))) := ⟨by rw [hw5]; exact own_set HQ.out i z⟩
  rw [← hw5]
  clear hw5 hci hfi HQ
  have HQ := HQ5
  clear HQ5
  replace Oa := Kpt.mk (Oa.out.grown hg5 (fun e => by injection e with e; omega))
  replace HX := Kpt.mk (own_of_block HX.out fun g' hg' => hg5.block g' (World.ownsRow.lt HX.out g' hg').2 (fun e => by injection e with e; have e3 : some G = some g' := hg'; injection e3 with e3; omega))
  replace hb := Kpt.mk (hb.out.grown hg5 hb.out.size (fun j e => by injection e with e; have := hwg.out; omega))
  have hcap : Kpt (i ≤ cap) := ⟨by
    rcases HX.out.2 with ⟨h', _⟩ | ⟨g', cap', cur, h', hb, _, hnc, hcm, _⟩
    · cases h'
    · simp only [Value.slice.injEq] at h'; omega⟩
  have hkc : ¬ cap < i := by have := hcap.out; omega
  have qg5 : Kpt (g3 < w5.heap.size) := ⟨(World.ownsRow.lt HQ.out g3 rfl).2⟩
  clear hg5
  refine (hP1.out _ _ g3 cap3 HQ.out).mono ?_
  rintro e w6 ⟨ma, mn, mc, ta, tn, tc, rfl, RM_, RT_, hm8, ht8, hmf_, htf_, h_⟩
  replace Oa := Kpt.mk (Oa.out.below h_ Oa.out.lt)
  replace HX := Kpt.mk (own_bel HX.out h_)
  replace HQ := Kpt.mk (own_bel HQ.out h_)
  replace hb := Kpt.mk (hb.out.trans (h_.mono hb.out.size))
  have RM := Kpt.mk RM_
  have RT := Kpt.mk RT_
  have hmf := Kpt.mk (fun g e => Nat.lt_of_lt_of_le qg5.out (hmf_ g e))
  have htf := Kpt.mk (fun g e => Nat.lt_of_lt_of_le qg5.out (htf_ g e))
  have qg6 : Kpt (g3 < w6.heap.size) := ⟨Nat.lt_of_lt_of_le qg5.out h_.size⟩
  clear RM_ RT_ hmf_ htf_ h_
  clear m4
  obtain ⟨E1, hE1⟩ : ∃ m, E + 1 = m := ⟨_, rfl⟩
  have hE1b : E1 ≤ 9001 := by omega
  replace hE1 := Kpt.mk hE1
  go_upto_region 14 with (first
    | (refine (?_ : wpList _ _ _ (Oper.mk _ (Op.store 31 _ _) _ _ _ _ :: _) _ _); have hm := m15; go_must (refine wpList_store_bx rfl 31 _ _ rfl bs3 zeroS S3.vals rfl rfl Os3.out rfl infoS (Sn.vals_one _) rfl ?_; intro w16 hX_ hg_; replace Om3 := Kpt.mk (Om3.out.grown hg_ (fun e => by injection e with e; omega)); replace hB := Kpt.mk (hB.out.trans (bel_own hg_ hB.out.size ls3.out)); clear Os3 hX_ hg_; replace Oa := Kpt.mk (Oa.out.below hB.out Oa.out.lt); replace Om := Kpt.mk (Om.out.below hB.out Om.out.lt); replace RM := Kpt.mk (RM.out.bel hB.out); replace RT := Kpt.mk (RT.out.bel hB.out); replace hb := Kpt.mk (hb.out.trans (hB.out.mono hb.out.size)); clear hB; clear hm m15; have m16 : Kpt True := ⟨trivial⟩))
    | (refine (?_ : wpList _ _ _ (Oper.mk _ (Op.store 27 _ _) _ _ _ _ :: _) _ _); have hm := m14; go_must (refine wpList_store_bx rfl 27 _ _ rfl bm3 zeroL (lsV (.slice m3 n3 c3) (.slice t3 k3 d3)) rfl rfl Om3.out rfl infoL (lsV_one rfl rfl) rfl ?_; intro w15 hX_ hg_; replace Os3 := Kpt.mk (Os3.out.grown hg_ (fun e => by injection e with e; omega)); replace hB := Kpt.mk (hB.out.trans (bel_own hg_ hB.out.size lm3.out)); replace Om3 := Kpt.mk hX_; clear hX_ hg_; clear hm m14; have m15 : Kpt True := ⟨trivial⟩))
    | (have hm := m13; refine wpList_var rfl 31 rfl zeroS zeroSi ?_; intro bs3 w14 hl_ hX_ h_; have ls3 := Kpt.mk (Nat.le_trans hB.out.size hl_); have q_m3_s3 : bm3 < bs3 := Nat.lt_of_lt_of_le Om3.out.lt hl_; replace hB := Kpt.mk (hB.out.trans (h_.mono hB.out.size)); replace Om3 := Kpt.mk (Om3.out.below h_ Om3.out.lt); have Os3 := Kpt.mk hX_; clear hl_ hX_ h_; clear hm m13; have m14 : Kpt True := ⟨trivial⟩)
    | (have hm := m12; refine wpList_var rfl 27 rfl zeroL zeroLi ?_; intro bm3 w13 hl_ hX_ h_; have lm3 := Kpt.mk hl_; have hB := Kpt.mk h_; have Om3 := Kpt.mk hX_; clear hl_ hX_ h_; clear hm m12; have m13 : Kpt True := ⟨trivial⟩)
    | (go_at_call 7; have hm := m11; go_must (refine (hP3.out _ _ g6 E1 cap6 hE1.out.symm ho6.out).mono ?_; rintro e w32 ⟨m3, n3, c3, t3, k3, d3, rfl, h_⟩; replace Oa := Kpt.mk (Oa.out.below h_ Oa.out.lt); replace Om := Kpt.mk (Om.out.below h_ Om.out.lt); replace RM := Kpt.mk (RM.out.bel h_); replace RT := Kpt.mk (RT.out.bel h_); replace hb := Kpt.mk (hb.out.trans (h_.mono hb.out.size)); clear h_ ho6; clear hm m11; have m12 : Kpt True := ⟨trivial⟩))
    | (refine (?_ : wpList _ _ _ (Oper.mk _ (Op.call { callee := .builtin .append, args := _, argTypes := _ }) _ _ _ _ :: _) _ _); have hm := m10; go_must (refine wpList_append_new rfl _ _ rfl w.heap.size (.slice (some ⟨g3, 0, none⟩) E cap3) (.slice (some ⟨gz, 0, none⟩) 1 1) (X.set i z) [0] E E1 rfl rfl HQ.out (own_rd HZ.out) (by decide) hql.out hE1.out (by omega) hb.out.size ?_; intro g6 cap6 w31 ho6 hg6 hgr6; replace Oa := Kpt.mk (Oa.out.grown hgr6.out (fun e => by have e2 : some g3 = some ba := e; injection e2 with e2; omega)); replace Om := Kpt.mk (Om.out.grown hgr6.out (fun e => by have e2 : some g3 = some bm := e; injection e2 with e2; omega)); replace RM := Kpt.mk (ro_far RM.out hgr6.out g3 rfl hmf.out); replace RT := Kpt.mk (ro_far RT.out hgr6.out g3 rfl htf.out); replace hb := Kpt.mk (hb.out.grown hgr6.out hb.out.size (fun j e => by have e2 : some g3 = some j := e; injection e2 with e2; have := hwg.out; omega)); clear HQ HZ hg6 hgr6; clear hm m10; have m11 : Kpt True := ⟨trivial⟩))
    | (refine (?_ : wpList _ _ _ (Oper.mk _ (Op.buildSlice _ _ _) _ _ _ _ :: _) _ _); have hm := m9; go_must (refine wpList_built rfl 1 [0] (by kernel_rfl) rfl (by decide) ?_; intro gz w30 _ hz_ h_; replace Oa := Kpt.mk (Oa.out.below h_ Oa.out.lt); replace Om := Kpt.mk (Om.out.below h_ Om.out.lt); replace RM := Kpt.mk (RM.out.bel h_); replace RT := Kpt.mk (RT.out.bel h_); replace HQ := Kpt.mk (own_bel HQ.out h_); replace hb := Kpt.mk (hb.out.trans (h_.mono hb.out.size)); have HZ := Kpt.mk hz_; clear hz_ h_; clear hm m9; have m10 : Kpt True := ⟨trivial⟩))
    | (refine (?_ : wpList _ _ _ (Oper.mk _ (Op.store 31 _ _) _ _ _ _ :: _) _ _); have hm := m8; go_must (refine wpList_store_bx rfl 31 _ _ rfl bs2 zeroS S2.vals rfl rfl Os2.out rfl infoS (Sn.vals_one _) rfl ?_; intro w9 hX_ hg_; replace Om2 := Kpt.mk (Om2.out.grown hg_ (fun e => by injection e with e; omega)); replace hB := Kpt.mk (hB.out.trans (bel_own hg_ hB.out.size ls2.out)); clear Os2 hX_ hg_; replace Oa := Kpt.mk (Oa.out.below hB.out Oa.out.lt); replace Om := Kpt.mk (Om.out.below hB.out Om.out.lt); replace RM := Kpt.mk (RM.out.bel hB.out); replace RT := Kpt.mk (RT.out.bel hB.out); clear HX; replace HQ := Kpt.mk (own_bel HQ.out hB.out); replace hb := Kpt.mk (hb.out.trans (hB.out.mono hb.out.size)); clear hB; clear hm m8; have m9 : Kpt True := ⟨trivial⟩))
    | (refine (?_ : wpList _ _ _ (Oper.mk _ (Op.store 27 _ _) _ _ _ _ :: _) _ _); have hm := m7; go_must (refine wpList_store_bx rfl 27 _ _ rfl bm2 zeroL (lsV (.slice m2 n2 c2) (.slice t2 k2 d2)) rfl rfl Om2.out rfl infoL (lsV_one rfl rfl) rfl ?_; intro w8 hX_ hg_; replace Os2 := Kpt.mk (Os2.out.grown hg_ (fun e => by injection e with e; omega)); replace hB := Kpt.mk (hB.out.trans (bel_own hg_ hB.out.size lm2.out)); replace Om2 := Kpt.mk hX_; clear hX_ hg_; clear hm m7; have m8 : Kpt True := ⟨trivial⟩))
    | (have hm := m6; refine wpList_var rfl 31 rfl zeroS zeroSi ?_; intro bs2 w7 hl_ hX_ h_; have ls2 := Kpt.mk (Nat.le_trans hB.out.size hl_); have q_m2_s2 : bm2 < bs2 := Nat.lt_of_lt_of_le Om2.out.lt hl_; replace hB := Kpt.mk (hB.out.trans (h_.mono hB.out.size)); replace Om2 := Kpt.mk (Om2.out.below h_ Om2.out.lt); have Os2 := Kpt.mk hX_; clear hl_ hX_ h_; clear hm m6; have m7 : Kpt True := ⟨trivial⟩)
    | (have hm := m5; refine wpList_var rfl 27 rfl zeroL zeroLi ?_; intro bm2 w6 hl_ hX_ h_; have lm2 := Kpt.mk hl_; have hB := Kpt.mk h_; have Om2 := Kpt.mk hX_; clear hl_ hX_ h_; clear hm m5; have m6 : Kpt True := ⟨trivial⟩)
    | (go_at_call 7; have hm := m4; go_must (refine (hP2.out _ _ G cap HX.out).mono ?_; rintro e w15 ⟨m2, n2, c2, t2, k2, d2, rfl, h_⟩; replace Oa := Kpt.mk (Oa.out.below h_ Oa.out.lt); replace Om := Kpt.mk (Om.out.below h_ Om.out.lt); replace RM := Kpt.mk (RM.out.bel h_); replace RT := Kpt.mk (RT.out.bel h_); replace HX := Kpt.mk (own_bel HX.out h_); replace HQ := Kpt.mk (own_bel HQ.out h_); replace hb := Kpt.mk (hb.out.trans (h_.mono hb.out.size)); clear h_; clear hm m4; have m5 : Kpt True := ⟨trivial⟩))
    | (refine (?_ : wpList _ _ _ (Oper.mk _ (Op.store 31 _ _) _ _ _ _ :: _) _ _); have hm := m3; go_must (refine wpList_store_bx rfl 31 _ _ rfl bs zeroS S1.vals rfl rfl Os.out rfl infoS (Sn.vals_one _) rfl ?_; intro w4 hX_ hg_; replace Om := Kpt.mk (Om.out.grown hg_ (fun e => by injection e with e; omega)); replace hB := Kpt.mk (hB.out.trans (bel_own hg_ hB.out.size ls.out)); clear Os hX_ hg_; replace Oa := Kpt.mk (Oa.out.below hB.out Oa.out.lt); replace RM := Kpt.mk (RM.out.bel hB.out); replace RT := Kpt.mk (RT.out.bel hB.out); replace HX := Kpt.mk (own_bel HX.out hB.out); replace HQ := Kpt.mk (own_bel HQ.out hB.out); replace hb := Kpt.mk (hb.out.trans (hB.out.mono hb.out.size)); clear hB; clear hm m3; have m4 : Kpt True := ⟨trivial⟩))
    | (refine (?_ : wpList _ _ _ (Oper.mk _ (Op.store 27 _ _) _ _ _ _ :: _) _ _); have hm := m2; go_must (refine wpList_store_bx rfl 27 _ _ rfl bm zeroL (lsV (.slice ma mn mc) (.slice ta tn tc)) rfl rfl Om.out rfl infoL (lsV_one rfl rfl) rfl ?_; intro w3 hX_ hg_; replace Os := Kpt.mk (Os.out.grown hg_ (fun e => by injection e with e; omega)); replace hB := Kpt.mk (hB.out.trans (bel_own hg_ hB.out.size lm.out)); replace Om := Kpt.mk hX_; clear hX_ hg_; clear hm m2; have m3 : Kpt True := ⟨trivial⟩))
    | (have hm := m1; refine wpList_var rfl 31 rfl zeroS zeroSi ?_; intro bs w2 hl_ hX_ h_; have ls := Kpt.mk (Nat.le_trans hB.out.size hl_); have q_m_s : bm < bs := Nat.lt_of_lt_of_le Om.out.lt hl_; replace hB := Kpt.mk (hB.out.trans (h_.mono hB.out.size)); replace Om := Kpt.mk (Om.out.below h_ Om.out.lt); have Os := Kpt.mk hX_; clear hl_ hX_ h_; clear hm m1; have m2 : Kpt True := ⟨trivial⟩)
    | (refine wpList_var rfl 27 rfl zeroL zeroLi ?_; intro bm w1 hl_ hX_ h_; have lm := Kpt.mk hl_; have hB := Kpt.mk h_; have Om := Kpt.mk hX_; have qm : g3 < bm := Nat.lt_of_lt_of_le qg6.out hl_; clear hl_ hX_ h_; have m1 : Kpt True := ⟨trivial⟩)
    | fail)
  refine wp_region_any (by kernel_rfl) ?_
  refine wpAny_of_C (C := fun W => Bx W bm (lsV (.slice ma mn mc) (.slice ta tn tc)) ∧ Bx W ba (lsV (.slice ua un uc) (.slice sa sn sc))) _ _ _ _ ?_
  replace Oa := Kpt.mk (Oa.out.below (below_drew _) Oa.out.lt)
  replace Om := Kpt.mk (Om.out.below (below_drew _) Om.out.lt)
  replace RM := Kpt.mk (RM.out.bel (below_drew _))
  replace RT := Kpt.mk (RT.out.bel (below_drew _))
  replace hb := Kpt.mk (hb.out.trans ((below_drew _).mono hb.out.size))
  obtain ⟨W0, hW0⟩ : ∃ W, W = w16.drew := ⟨_, rfl⟩
  rw [← hW0] at Oa Om RM RT hb
  refine wpAnyC_world hW0 ?_
  clear hW0
  refine wpAnyC_take 0 (.bool true) rfl (by kernel_rfl) (by kernel_rfl) (by kernel_rfl) (fun _ _ _ h => h) (wanted_free rfl _) (fun W hW => by go_simp) ?_
  try simp only [Act.put, List.getElem_toArray, List.getElem_cons_succ, List.getElem_cons_zero, List.setIfInBounds_toArray, List.set_cons_succ, List.set_cons_zero]
  refine wpAnyC_take 1 (.bool true) rfl (by kernel_rfl) (by kernel_rfl) (by kernel_rfl) (fun _ _ _ h => h) (wanted_free rfl _) (fun W hW => by go_simp) ?_
  try simp only [Act.put, List.getElem_toArray, List.getElem_cons_succ, List.getElem_cons_zero, List.setIfInBounds_toArray, List.set_cons_succ, List.set_cons_zero]
  refine wpAnyC_take 2 (.agg (lsV (.slice ma mn mc) (.slice ta tn tc))) rfl (by kernel_rfl) (by kernel_rfl) (by kernel_rfl) (fun _ _ _ h => h) (wanted_at true rfl rfl rfl rfl) (fun W hW => exec_load_bx 27 _ rfl bm (lsV (.slice ma mn mc) (.slice ta tn tc)) rfl hW.1 _ Tryd.underlying27 rfl infoL) ?_
  try simp only [Act.put, List.getElem_toArray, List.getElem_cons_succ, List.getElem_cons_zero, List.setIfInBounds_toArray, List.set_cons_succ, List.set_cons_zero]
  refine wpAnyC_take 3 (.agg (lsV (.slice ua un uc) (.slice sa sn sc))) rfl (by kernel_rfl) (by kernel_rfl) (by kernel_rfl) (fun _ _ _ h => h) (wanted_at true rfl rfl rfl rfl) (fun W hW => exec_load_bx 27 _ rfl ba (lsV (.slice ua un uc) (.slice sa sn sc)) rfl hW.2 _ Tryd.underlying27 rfl infoL) ?_
  try simp only [Act.put, List.getElem_toArray, List.getElem_cons_succ, List.getElem_cons_zero, List.setIfInBounds_toArray, List.set_cons_succ, List.set_cons_zero]
  refine wpAnyC_one 4 ⟨Om.out, Oa.out⟩ rfl (by kernel_rfl) (wanted_at true rfl rfl rfl rfl) (fun KA hKA => ?_)
  go_simp
  refine (hOf.out _ hb.out).mono ?_
  rintro e w40 ⟨v, rfl, ho_, _, h_⟩
  obtain ⟨va, vc, hv_, _⟩ := ho_.shape
  obtain ⟨vn, hvn⟩ : ∃ n, n = (ss.map Sg.vals).length := ⟨_, rfl⟩
  rw [← hvn] at hv_
  subst hv_
  have RV := Kpt.mk ho_.rd.ro
  replace Oa := Kpt.mk (Oa.out.below h_ Oa.out.lt)
  replace Om := Kpt.mk (Om.out.below h_ Om.out.lt)
  replace RM := Kpt.mk (RM.out.bel h_)
  replace RT := Kpt.mk (RT.out.bel h_)
  replace hb := Kpt.mk (hb.out.trans (h_.mono hb.out.size))
  clear ho_ h_ hvn
  refine hKA _ _ ?_
  clear hKA KA
  try simp only [Act.put, List.getElem_toArray, List.getElem_cons_succ, List.getElem_cons_zero, List.setIfInBounds_toArray, List.set_cons_succ, List.set_cons_zero]
  refine wpAnyC_one 5 ⟨Om.out, Oa.out⟩ rfl (by kernel_rfl) (wanted_at true rfl rfl rfl rfl) (fun KA hKA => ?_)
  go_simp
  refine (hSm.out ma ua ta va mn mc un uc tn tc vn vc _ RM.out RT.out (R1.out.bel hb.out) RV.out (by omega) (by unfold maxLen; omega)).mono ?_
  rintro e w41 ⟨rfl, h_⟩
  replace Oa := Kpt.mk (Oa.out.below h_ Oa.out.lt)
  replace Om := Kpt.mk (Om.out.below h_ Om.out.lt)
  replace RM := Kpt.mk (RM.out.bel h_)
  replace RT := Kpt.mk (RT.out.bel h_)
  replace hb := Kpt.mk (hb.out.trans (h_.mono hb.out.size))
  clear h_
  refine hKA _ _ ?_
  clear hKA KA
  try simp only [Act.put, List.getElem_toArray, List.getElem_cons_succ, List.getElem_cons_zero, List.setIfInBounds_toArray, List.set_cons_succ, List.set_cons_zero]
  refine wpAnyC_one 6 ⟨Om.out, Oa.out⟩ rfl (by kernel_rfl) (wanted_free rfl _) (fun KA hKA => ?_)
  go_simp
  refine hKA _ _ ?_
  clear hKA KA
  try simp only [Act.put, List.getElem_toArray, List.getElem_cons_succ, List.getElem_cons_zero, List.setIfInBounds_toArray, List.set_cons_succ, List.set_cons_zero]
  refine wpAnyC_done ⟨Om.out, Oa.out⟩ (by kernel_rfl) ?_
  have hib2 := hib.out
  go_wp2_with fail
  go_ret
  exact ⟨rfl, hb.out⟩
end Go.Proofs.YtnebcbfjlkhimaaDoor
