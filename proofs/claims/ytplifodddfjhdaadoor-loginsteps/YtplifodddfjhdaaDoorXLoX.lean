/-
  login: asked for in one request or in many, key by key: the walk where a key is not good.
-/
import Derived.Test.YtplifodddfjhdaaDoorXLoW
namespace Go.Proofs.YtplifodddfjhdaaDoor
open Go.RowKit
set_option linter.unusedVariables false
set_option linter.unusedSimpArgs false

set_option maxRecDepth 100000 in
set_option maxHeartbeats 16000000 in
theorem steps_f (a : Option Addr) (n c : Nat) (ps : Prs) (b : Bool) (w : World) (hr : PsAt w (.slice a n c) ps) (hn : n ≤ maxLen) (hsz : ∀ p ∈ ps, p.2.size ≤ 281474976710656) (hGw : Gl w) (N : Nat) (hN : N = min n 30) (hR : (rsl b (ps.take N)).2.1 = false) :
    Calls Tryd.prog 3 #[.slice a n c, .bool b] w fun e w' => e = .returned (.bool true) ∧ Below w.heap.size w w' := by
  have hl : ps.length = n := by obtain ⟨a', c', hv, _⟩ := hr; simp only [Value.slice.injEq] at hv; exact hv.2.1.symm
  have hnc : n ≤ c := by obtain ⟨a', c', hv, _, h2, _⟩ := hr; simp only [Value.slice.injEq] at hv; omega
  have hl' := Kpt.mk hl
  have hr0 : Kpt (∀ W, Below w.heap.size w W → PsAt W (.slice a n c) ps) := ⟨fun W h => hr.bel h⟩
  have hblk : Kpt (∀ k, k < n → ∀ p, ps[k]? = some p → ∃ bl off, a = some ⟨bl, off, none⟩ ∧ bl < w.heap.size) := ⟨fun k hk p hp => by obtain ⟨bl, off, h1, h2, _⟩ := ps_one hr k hk p hp; exact ⟨bl, off, h1, h2⟩⟩
  have hGB : Kpt (∀ W, Below w.heap.size w W → Gl W) := ⟨fun W h => hGw.below h⟩
  have hGL : Kpt (∀ (W : World) (L : Nat), Below w.heap.size w W → w.heap.size ≤ L → ∀ W', W.grownBy W' (some L) → Gl W') := ⟨fun W L h hL W' hg => hGB.out W' (h.grown hg h.size (fun q e => by cases e; exact hL))⟩
  have fA : Kpt (∀ W : World, Calls Tryd.prog 6 #[] W fun e w' => e = .returned (.bool true) ∧ Below W.heap.size W w') := ⟨awake_any⟩
  have fN : Kpt (∀ (W : World) (x : Option Addr) (xc : Nat), StAt W (.slice x 1 xc) [vT] → Calls Tryd.prog 7 #[.agg #[.slice x 1 xc, .slice none 0 0, .bool b], .int .u8 1, .slice none 0 0] W fun e w' => (∃ L ta tc, e = .returned (.pointer (some ⟨L, 0, none⟩)) ∧ W.heap.size ≤ L ∧ Ns w' L (lgS b (.slice ta 1 tc)) ta tc ∧ Newer ta W.heap.size) ∧ Below W.heap.size W w') := ⟨fun W x xc h => new_ns b W x xc h⟩
  have hst : Kpt (∀ W : World, StAt (W.alloc (.cells #[.string ⟨#[116]⟩] 9)) (.slice (some ⟨W.heap.size, 0, none⟩) 1 1) [vT]) := ⟨fun W => st_one _ _ vT (bx_new W _ 9)⟩
  have hszK := Kpt.mk hsz
  have hNK := Kpt.mk hN
  have hRK := Kpt.mk hR
  have hNn : N ≤ n := by omega
  have hN30 : N ≤ 30 := by omega
  have hminI : min (n : Int) 30 = (N : Int) := by omega
  have fH : Kpt (∀ (W : World), Below w.heap.size w W → Calls Tryd.prog 9 #[.slice a N c] W fun e w' => ∃ ga gc, e = .returned (.slice ga (2 + N) gc) ∧ PsAt w' (.slice ga (2 + N) gc) ((kIni, vI) :: (kTgt, vT) :: ps.take N) ∧ Newer ga W.heap.size ∧ Below W.heap.size W w') := ⟨fun W h => hello_ps a N c (ps.take N) W ((hr0.out W h).take N hNn) (by omega)⟩
  have fH0 : Kpt (∀ W : World, Calls Tryd.prog 9 #[.slice none 0 0] W fun e w' => e = .returned (.slice (some ⟨W.heap.size, 0, none⟩) 2 2) ∧ PsAt w' (.slice (some ⟨W.heap.size, 0, none⟩) 2 2) [(kIni, vI), (kTgt, vT)] ∧ Below W.heap.size W w') := ⟨hello_0⟩
  have hszN : Kpt (∀ p ∈ ps.take N, p.2.size ≤ 281474976710656) := ⟨fun p hp => hszK.out p (List.mem_of_mem_take hp)⟩
  have fSa : Kpt ((∀ p ∈ ps, ¬ p.1 = kSes) → ∀ (W : World) (L : Nat) (ta : Option Addr) (tc : Nat), Ns W L (lgS b (.slice ta 1 tc)) ta tc → Below w.heap.size w W → w.heap.size ≤ L → ∀ (ha : Option Addr) (hc : Nat), PsAt W (.slice ha (2 + N) hc) ((kIni, vI) :: (kTgt, vT) :: ps.take N) → Off ha L → Calls Tryd.prog 8 #[.pointer (some ⟨L, 0, none⟩), .agg #[.int .u8 1, .int .u8 0, .bool false, .slice ha (2 + N) hc]] W fun e w' => e = .returned (.tuple #[.agg (ansF 1), .int .i64 0]) ∧ Ns w' L { (rsl b (ps.take N)).2.2 with tg := .slice ta 1 tc, over := true } ta tc ∧ W.grownBy w' (some L)) := ⟨fun hs W L ta tc k hb hL ha hc hp ho => fa_no b W L ta tc k ha (2 + N) hc (ps.take N) hp ho (by omega) hszN.out (fun p hp => hs p (List.mem_of_mem_take hp)) (hGL.out W L hb hL) hRK.out⟩
  have fSb0 : Kpt (∀ (W : World) (L : Nat) (ta : Option Addr) (tc : Nat), Ns W L (lgS b (.slice ta 1 tc)) ta tc → Below w.heap.size w W → w.heap.size ≤ L → ∀ (ha : Option Addr) (hc : Nat), PsAt W (.slice ha 2 hc) [(kIni, vI), (kTgt, vT)] → Off ha L → Calls Tryd.prog 8 #[.pointer (some ⟨L, 0, none⟩), .agg #[.int .u8 1, .int .u8 0, .bool false, .slice ha 2 hc]] W fun e w' => (∃ va vn vc, e = .returned (.tuple #[.agg (ansT 1 (.slice va vn vc)), .int .i64 0])) ∧ Ns w' L (s0 b (.slice ta 1 tc)) ta tc ∧ W.grownBy w' (some L)) := ⟨fun W L ta tc k hb hL ha hc hp ho => (fa_ok b W L ta tc k ha 2 hc [] hp ho (by omega) (fun p hp => by cases hp) (fun p hp => by cases hp) (hGL.out W L hb hL) rfl).mono fun e w' ⟨⟨va, vn, vc, h1, _⟩, h2, h3⟩ => ⟨⟨va, vn, vc, h1⟩, h2, h3⟩⟩
  have fBo : Kpt (∀ (W : World) (L : Nat) (ta : Option Addr) (tc : Nat) (sk : Lg) (p : ByteArray × ByteArray) (ha : Option Addr) (hc : Nat), sI sk → sJ b nilv sk → p ∈ ps → Ns W L { sk with tg := .slice ta 1 tc } ta tc → Below w.heap.size w W → w.heap.size ≤ L → PsAt W (.slice ha 1 hc) [p] → Off ha L → (sF i1 sk p).2.1 = true → Calls Tryd.prog 8 #[.pointer (some ⟨L, 0, none⟩), .agg #[.int .u8 1, .int .u8 0, .bool false, .slice ha 1 hc]] W fun e w' => (∃ va vn vc, e = .returned (.tuple #[.agg (ansT 1 (.slice va vn vc)), .int .i64 0]) ∧ PsAt w' (.slice va vn vc) (sF i1 sk p).1 ∧ vc ≤ maxLen ∧ Newer va W.heap.size) ∧ Ns w' L { (sF i1 sk p).2.2 with tg := .slice ta 1 tc } ta tc ∧ W.grownBy w' (some L)) := ⟨fun W L ta tc sk p ha hc h1 h2 h3 k hb hL hp ho hF => fb_ok b W L ta tc sk h1 h2 k ha hc p hp ho (hszK.out p h3) (hGL.out W L hb hL) hF⟩
  have fBn : Kpt (∀ (W : World) (L : Nat) (ta : Option Addr) (tc : Nat) (sk : Lg) (p : ByteArray × ByteArray) (ha : Option Addr) (hc : Nat), sI sk → sJ b nilv sk → p ∈ ps → Ns W L { sk with tg := .slice ta 1 tc } ta tc → Below w.heap.size w W → w.heap.size ≤ L → PsAt W (.slice ha 1 hc) [p] → Off ha L → (sF i1 sk p).2.1 = false → Calls Tryd.prog 8 #[.pointer (some ⟨L, 0, none⟩), .agg #[.int .u8 1, .int .u8 0, .bool false, .slice ha 1 hc]] W fun e w' => e = .returned (.tuple #[.agg (ansF 1), .int .i64 0]) ∧ W.grownBy w' (some L)) := ⟨fun W L ta tc sk p ha hc h1 h2 h3 k hb hL hp ho hF => fb_no b W L ta tc sk h1 h2 k ha hc p hp ho (hszK.out p h3) (hGL.out W L hb hL) hF⟩
  clear hr hsz hGw hN hR hl
  unfold maxLen at hn
  go_enter Tryd.func3, Tryd.ntmps3
  go_wp2_with (go_at_call 6; go_must (refine (fA.out _).mono ?_; rintro e w1 ⟨rfl, hb1⟩; replace hb1 := Kpt.mk hb1))
  go_loop [5] (fun t => ∃ k : Nat, k ≤ n ∧ t = .int .i64 k ∧ Kpt (∀ j p, j < k → ps[j]? = some p → ¬ p.1 = kSes)) (fun t => n - (intOf t).toNat)
  case atStart => exact ⟨0, by omega, rfl, ⟨fun j p hj => by omega⟩⟩
  case round =>
    obtain ⟨k, hk, rfl, hno⟩ := hrel
    by_cases hlt : k < n
    · have hltI : (k : Int) < n := by omega
      obtain ⟨p, hp⟩ : ∃ p, ps[k]? = some p := ⟨_, List.getElem?_eq_getElem (by rw [hl'.out]; exact hlt)⟩
      obtain ⟨bl, off, rfl, k1, _⟩ := ps_cells (hr0.out w1 hb1.out) k hlt p hp
      have hp' := Kpt.mk hp
      clear hp
      obtain ⟨K, V⟩ := p
      simp only at k1
      by_cases hKx : K = kSes
      · subst hKx
        unfold kSes at k1
        go_wp2
        go_ret
        exact ⟨rfl, hb1.out⟩
      · have hne := ne_lit tl_kSes hKx
        have hno2 : Kpt (∀ j p, j < k + 1 → ps[j]? = some p → ¬ p.1 = kSes) := ⟨fun j p hj hpj => by
          by_cases hjk : j < k
          · exact hno.out j p hjk hpj
          · obtain rfl : j = k := by omega
            rw [hp'.out] at hpj
            cases hpj
            exact hKx⟩
        clear hKx
        go_wp2
        go_round
        case rel => exact ⟨k + 1, by omega, by go_num, hno2⟩
        case measure => simp [intOf]; omega
    · have hltI : ¬ (k : Int) < n := by omega
      have hkn : n = k := by omega
      subst hkn
      have hses : Kpt (∀ p ∈ ps, ¬ p.1 = kSes) := ⟨fun p hp => by obtain ⟨j, hj⟩ := List.getElem?_of_mem hp; exact hno.out j p (by have := (List.getElem?_eq_some_iff.1 hj).1; rw [hl'.out] at this; exact this) hj⟩
      clear hno hltI hlt
      go_upto_region 9 with (first
        | (refine (?_ : wpList _ _ _ (Oper.mk none (Op.store 29 _ _) _ _ _ _ :: _) _ _); go_must (refine wpList_store_bx rfl 29 (.tmp 6) (.tmp 34) rfl C cfgZ #[.slice (some ⟨w1.heap.size, 0, none⟩) 1 1, .slice none 0 0, .bool b] rfl rfl hC3.out rfl szCfg (by simp [Value.oneCell']) rfl ?_; intro w4 hC4 hg4; have hb4 := Kpt.mk (hb3.out.grown hg4 hb3.out.size (fun q e => by injection e with e; subst e; exact hCw.out)); have hT4 := Kpt.mk (hT3.out.grown (fun x e => by cases e; have := hCT.out; simp; omega) hg4); replace hC4 := Kpt.mk hC4; clear hg4))
        | (refine wpList_var rfl 29 rfl cfgZ zCfg ?_; intro C w3 hCl hCx hb3q; have hb3 := Kpt.mk ((hb1.out.alloc hb1.out.size (.cells #[.string ⟨#[116]⟩] 9)).trans (hb3q.mono (by have := hb1.out.size; simp; omega))); have hCw : Kpt (w.heap.size ≤ C) := ⟨by have := hb1.out.size; simp at hCl; omega⟩; have hCT : Kpt (w1.heap.size < C) := ⟨by simp at hCl; omega⟩; have hC3 := Kpt.mk hCx; have hT3 := Kpt.mk ((hst.out w1).bel hb3q); clear hCl hCx hb3q))
      clear hT3 hC3 hb3 hb1
      go_upto_region 11 with (first
        | (go_at_call 7; have hm := m1; go_must (refine (fN.out _ _ _ hT5.out).mono ?_; rintro e w6 ⟨⟨Lb, tb, tcb, rfl, hLb, kb, hnb⟩, hb6q⟩; have hb6 := Kpt.mk (hb5.out.trans (hb6q.mono hb5.out.size)); have hab : Kpt (La < Lb) := ⟨Nat.lt_of_lt_of_le ka5.out.lg.lt hLb⟩; have oab : Kpt (Off ta Lb) := ⟨fun x e => by have := ka5.out.tl x e; omega⟩; have oba : Kpt (Off tb La) := ⟨fun x e => by have := hnb x e; have := ka5.out.lg.lt; omega⟩; have ka6 := Kpt.mk (ka5.out.below hb6q); have kb6 := Kpt.mk kb; clear hm m1 hLb kb hnb hb6q))
        | (go_at_call 7; go_must (refine (fN.out _ _ _ hT4.out).mono ?_; rintro e w5 ⟨⟨La, ta, tca, rfl, hLa, ka, hna⟩, hb5q⟩; have hb5 := Kpt.mk (hb4.out.trans (hb5q.mono hb4.out.size)); have hLaw : Kpt (w.heap.size ≤ La) := ⟨Nat.le_trans hb4.out.size hLa⟩; have hC5 := Kpt.mk (hC4.out.below hb5q hC4.out.lt); have hT5 := Kpt.mk (hT4.out.bel hb5q); have ka5 := Kpt.mk ka; have m1 : Kpt True := ⟨trivial⟩; clear hLa ka hna hb5q))
        | (refine (?_ : wpList _ _ _ (Oper.mk _ (Op.load 29 _) _ _ _ _ :: _) _ _); have hm := hC5; go_must (refine wpList_load_bx rfl 29 (.tmp 6) rfl C #[.slice (some ⟨w1.heap.size, 0, none⟩) 1 1, .slice none 0 0, .bool b] rfl hC5.out _ Tryd.underlying29 rfl szCfg ?_; clear hm))
        | (refine (?_ : wpList _ _ _ (Oper.mk _ (Op.load 29 _) _ _ _ _ :: _) _ _); go_must (refine wpList_load_bx rfl 29 (.tmp 6) rfl C #[.slice (some ⟨w1.heap.size, 0, none⟩) 1 1, .slice none 0 0, .bool b] rfl hC4.out _ Tryd.underlying29 rfl szCfg ?_)))
      clear hC4 hC5 hT4 hT5 hb4 hb5 ka5 fN fA hst
      have hLbw : Kpt (w.heap.size ≤ Lb) := ⟨by have := hab.out; have := hLaw.out; omega⟩
      go_upto_region 14 with (first
        | (refine (?_ : wpList _ _ _ (Oper.mk none (Op.store 33 (Operand.tmp 12) _) _ _ _ _ :: _) _ _); go_must (refine wpList_store_bx rfl 33 (.tmp 12) (.tmp 57) rfl Y ansZ (ansT 1 (.slice ya yn yc)) rfl rfl hY13.out rfl szAns (by simp [ansT, Value.oneCell']) rfl ?_; intro w14 hY14 hg14; have hb14 := Kpt.mk (hb13.out.grown hg14 hb13.out.size (fun q e => by injection e with e; subst e; exact hYw.out)); have ka14 := Kpt.mk (ka13.out.grown hg14 (by have := hYl.out; have := hab.out; omega) (fun x e => by have := hYa.out x e; omega)); have kb14 := Kpt.mk (kb13.out.grown hg14 (by have := hYl.out; omega) (fun x e => by have := kb12t.out x e; have := hYc.out; omega)); have hX14 := Kpt.mk (hX13.out.grown hg14 (fun e => by have := Option.some.inj e; have := hXY.out; omega)); have hs14 := Kpt.mk (show Lb < w14.heap.size by have := kb14.out.lg.lt; exact this); clear hY14 hg14))
        | (refine (?_ : wpList _ _ _ (Oper.mk (some 12) _ _ _ _ _ :: _) _ _); go_must (refine wpList_var rfl 33 rfl ansZ zAns ?_; intro Y w13 hYl0 hYx hb13q; have hb13 := Kpt.mk (hb12.out.trans (hb13q.mono hb12.out.size)); have hYw := Kpt.mk (Nat.le_trans hb12.out.size hYl0); have hYl : Kpt (Lb < Y) := ⟨Nat.lt_of_lt_of_le kb12.out.lg.lt hYl0⟩; have hYc : Kpt (w12.heap.size ≤ Y) := ⟨hYl0⟩; have hXY : Kpt (X < Y) := ⟨Nat.lt_of_lt_of_le hX12.out.lt hYl0⟩; have kb12t := Kpt.mk kb12.out.tl; have hY13 := Kpt.mk hYx; have ka13 := Kpt.mk (ka12.out.below hb13q); have kb13 := Kpt.mk (kb12.out.below hb13q); have hYa : Kpt (∀ x, ta = some x → x.block < Y) := ⟨fun x e => Nat.lt_of_lt_of_le (ka12.out.tl x e) hYl0⟩; have hX13 := Kpt.mk (hX12.out.below hb13q hX12.out.lt); clear hYl0 hYx hb13q))
        | (go_at_call 8; have hm := m2; go_must (refine (fSb0.out _ _ _ _ kb11.out hb11.out hLbw.out _ _ hp11.out ho11.out).mono ?_; rintro e w12 ⟨⟨ya, yn, yc, rfl⟩, kb12, hg12⟩; have hb12 := Kpt.mk (hb11.out.grown hg12 hb11.out.size (fun q e => by cases e; exact hLbw.out)); have ka12 := Kpt.mk (ka11.out.grown hg12 (by have := hab.out; omega) oab.out); have hX12 := Kpt.mk (hX11.out.grown hg12 (fun e => by have := Option.some.inj e; have := hXb.out; omega)); replace kb12 := Kpt.mk kb12; clear hm m2 hg12))
        | (go_at_call 9; have hm := m2; go_must (refine (fH0.out _).mono ?_; rintro e w11 ⟨rfl, hp11, hb11q⟩; have hb11 := Kpt.mk (hb10.out.trans (hb11q.mono hb10.out.size)); have ho11 : Kpt (Off (some ⟨w10.heap.size, 0, none⟩) Lb) := ⟨fun x e => by cases e; have := kb10.out.lg.lt; simp; omega⟩; have ka11 := Kpt.mk (ka10.out.below hb11q); have kb11 := Kpt.mk (kb10.out.below hb11q); have hX11 := Kpt.mk (hX10.out.below hb11q hX10.out.lt); replace hp11 := Kpt.mk hp11; clear hm hb11q))
        | (refine (?_ : wpList _ _ _ (Oper.mk none (Op.store 33 (Operand.tmp 10) _) _ _ _ _ :: _) _ _); go_must (refine wpList_store_bx rfl 33 (.tmp 10) (.tmp 50) rfl X ansZ (ansF 1) rfl rfl hX9.out rfl szAns (by simp [ansT, ansF, Value.oneCell']) rfl ?_; intro w10 hX10 hg10; have hb10 := Kpt.mk (hb9.out.grown hg10 hb9.out.size (fun q e => by injection e with e; subst e; exact hXw.out)); have ka10 := Kpt.mk (ka9.out.grown hg10 (by have := hXb.out; have := hab.out; omega) (fun x e => by have := hXa.out x e; omega)); have kb10 := Kpt.mk (kb9.out.grown hg10 (by have := hXb.out; omega) (fun x e => by have := hXt.out x e; omega)); replace hX10 := Kpt.mk hX10; have m2 : Kpt True := ⟨trivial⟩; clear hg10))
        | (refine (?_ : wpList _ _ _ (Oper.mk (some 10) _ _ _ _ _ :: _) _ _); go_must (refine wpList_var rfl 33 rfl ansZ zAns ?_; intro X w9 hXl hXx hb9q; have hb9 := Kpt.mk (hb8.out.trans (hb9q.mono hb8.out.size)); have hXw := Kpt.mk (Nat.le_trans hb8.out.size hXl); have hXb : Kpt (Lb < X) := ⟨Nat.lt_of_lt_of_le kb8.out.lg.lt hXl⟩; have hXa : Kpt (∀ x, ta = some x → x.block < X) := ⟨fun x e => Nat.lt_of_lt_of_le (ka8.out.tl x e) hXl⟩; have hXt : Kpt (∀ x, tb = some x → x.block < X) := ⟨fun x e => Nat.lt_of_lt_of_le (kb8.out.tl x e) hXl⟩; have hX9 := Kpt.mk hXx; have ka9 := Kpt.mk (ka8.out.below hb9q); have kb9 := Kpt.mk (kb8.out.below hb9q); clear hXl hXx hb9q))
        | (go_at_call 8; go_must (refine (fSa.out hses.out _ _ _ _ ka7.out hb7.out hLaw.out _ _ hp7.out ho7.out).mono ?_; rintro e w8 ⟨rfl, ka8, hg8⟩; have hb8 := Kpt.mk (hb7.out.grown hg8 hb7.out.size (fun q e => by cases e; exact hLaw.out)); have kb8 := Kpt.mk (kb7.out.grown hg8 (by have := hab.out; omega) oba.out); replace ka8 := Kpt.mk ka8; clear hg8))
        | (go_at_call 9; go_must (refine (fH.out _ hb6.out).mono ?_; rintro e w7 ⟨ga, gc, rfl, hp7, hn7, hb7q⟩; have hb7 := Kpt.mk (hb6.out.trans (hb7q.mono hb6.out.size)); have ho7 : Kpt (Off ga La) := ⟨fun x e => by have := hn7 x e; have := ka6.out.lg.lt; omega⟩; have ka7 := Kpt.mk (ka6.out.below hb7q); have kb7 := Kpt.mk (kb6.out.below hb7q); replace hp7 := Kpt.mk hp7; clear hb7q hn7)))
      have hB0L : Kpt (Lb < w14.heap.size) := ⟨kb14.out.lg.lt⟩
      have htaB := Kpt.mk ka14.out.tl
      have htbB := Kpt.mk kb14.out.tl
      have hXB := Kpt.mk hX14.out.lt
      clear hX13 hX12 hX11 hX10 hX9 ka6 ka7 ka8 ka9 ka10 ka11 ka12 ka13 kb6 kb7 kb8 kb9 kb10 kb11 kb12 kb13 hb6 hb7 hb8 hb9 hb10 hb11 hb12 hb13 hp7 ho7 hp11 ho11 hXa hXt hXw hY13 hYa hYc hYl hYw hXY kb12t fH fH0 fSa fSb0
      obtain ⟨B0, hB0⟩ : ∃ B0, w14.heap.size = B0 := ⟨_, rfl⟩
      rw [hB0] at hB0L htaB htbB hXB
      replace hB0 := Kpt.mk hB0
      go_wp2
      go_loopw [14, 15] (fun t14 t15 wr => ∃ (k : Nat) (va : Option Addr) (vn vc : Nat), k ≤ N ∧ t14 = .slice va vn vc ∧ t15 = .int .i64 k ∧ Kpt ((akF (sF i1) (s0 b nilv) ((ps.take N).take k)).2.1 = true) ∧ Kpt (wr.ownsRow B0 25 2 (.slice va vn vc) vn (cellsB (akF (sF i1) (s0 b nilv) ((ps.take N).take k)).1)) ∧ Kpt (vn ≤ 3 * k) ∧ Kpt (Below w.heap.size w wr) ∧ Kpt (B0 ≤ wr.heap.size) ∧ Kpt (Ns wr La { (rsl b (ps.take N)).2.2 with tg := .slice ta 1 tca, over := true } ta tca) ∧ Kpt (Ns wr Lb { (akF (sF i1) (s0 b nilv) ((ps.take N).take k)).2.2 with tg := .slice tb 1 tcb } tb tcb) ∧ Kpt (Bx wr X (ansF 1))) (fun _ t15 _ => N - (intOf t15).toNat)
      case atStart => exact ⟨0, none, 0, 0, by omega, rfl, rfl, ⟨rfl⟩, ⟨World.ownsRow_nil _ _ _ _⟩, ⟨by omega⟩, hb14, ⟨by rw [hB0.out]; exact Nat.le_refl _⟩, ka14, kb14, hX14⟩
      case round =>
        obtain ⟨k, va, vn, vc, hk, rfl, rfl, hgo, hown, hvn, hbr, hsr, kar, kbr, hXr⟩ := hrel
        clear hb14 ka14 kb14 hX14
        by_cases hlt : k < N
        · have hltI : (k : Int) < N := by omega
          obtain ⟨p, hp⟩ : ∃ p, (ps.take N)[k]? = some p := ⟨_, List.getElem?_eq_getElem (by rw [List.length_take, hl'.out]; omega)⟩
          have hpp : ps[k]? = some p := by rw [List.getElem?_take, if_pos hlt] at hp; exact hp
          obtain ⟨bl, off, rfl, hbl⟩ := hblk.out k (by omega) p hpp
          obtain ⟨hone⟩ : Kpt (PsAt wr (.slice (some ⟨bl, off + k * 2, none⟩) 1 (c - k)) [p]) := ⟨by obtain ⟨b', off', h1, _, _, h2⟩ := ps_one (hr0.out wr hbr.out) k (by omega) p hpp; cases h1; exact h2⟩
          have hpm := Kpt.mk (List.mem_of_getElem? hpp)
          have hgood := Kpt.mk (akF_good (F := sF i1) (s := s0 b nilv) hp hgo.out)
          have hbad := Kpt.mk (akF_bad (F := sF i1) (s := s0 b nilv) hp hgo.out)
          have hI := Kpt.mk (akF_inv i1 _ (s0 b nilv) (s0_I b nilv) hgo.out)
          have hJ := Kpt.mk (akF_keepJ i1 b nilv ((ps.take N).take k) (s0 b nilv) (s0_J b nilv))
          obtain ⟨sk, hsk⟩ : ∃ x, x = (akF (sF i1) (s0 b nilv) ((ps.take N).take k)).2.2 := ⟨_, rfl⟩
          obtain ⟨acc, hacc⟩ : ∃ x, x = (akF (sF i1) (s0 b nilv) ((ps.take N).take k)).1 := ⟨_, rfl⟩
          rw [← hsk] at kbr hgood hbad hI hJ
          rw [← hacc] at hown hgood
          have hlen := Kpt.mk (sF_len sk p)
          replace hone := Kpt.mk hone
          have hoff : Kpt (Off (some ⟨bl, off + k * 2, none⟩) Lb) := ⟨fun x e => by cases e; have := hLbw.out; simp; omega⟩
          have hck : ¬ c = k := by omega
          clear hp hpp hsk hacc
          cases hok : (sF i1 sk p).2.1
          · have hBn := Kpt.mk (fBn.out wr Lb tb tcb sk p _ _ hI.out hJ.out hpm.out kbr.out hbr.out hLbw.out hone.out hoff.out hok)
            clear hgood hbad hok
            go_wp2_with (first
              | (go_at_call 10; go_must (refine (over_any La _ _ ka17.out.lg).mono ?_; rintro e wx ⟨rfl, rfl⟩))
              | (refine (?_ : wpList _ _ _ (Oper.mk none (Op.store 33 _ _) _ _ _ _ :: _) _ _); go_must (refine wpList_store_bx rfl 33 (.tmp 16) (.tmp 79) rfl Y ansZ (ansF 1) rfl rfl hY16.out rfl szAns (by simp [ansF, Value.oneCell']) rfl ?_; intro w17 hY17 hg17; have hb17 := Kpt.mk (hb16.out.grown hg17 hb16.out.size (fun q e => by injection e with e; subst e; have := hYl.out; have := hb15.out.size; omega)); have ka17 := Kpt.mk (ka16.out.grown hg17 (by have := hYl.out; have := ka15.out.lg.lt; omega) (fun x e => by have := hYl.out; have := ka15.out.tl x e; omega)); have hX17 := hX16.out.grown hg17 (fun e => by have := Option.some.inj e; have := hX15.out.lt; have := hYl.out; omega); have c0 := hY17.cells 0 (by simp [ansF]); have c1 := hY17.cells 1 (by simp [ansF]); have d0 := hX17.cells 0 (by simp [ansF]); have d1 := hX17.cells 1 (by simp [ansF]); simp only [ansF, List.getElem?_toArray, List.getElem?_cons_succ, List.getElem?_cons_zero] at c0 c1 d0 d1; clear hY17 hg17 hX17))
              | (refine wpList_var rfl 33 rfl ansZ zAns ?_; intro Y w16 hYl0 hYx hb16q; have hYl : Kpt (w15.heap.size ≤ Y) := ⟨hYl0⟩; have hb16 := Kpt.mk (hb15.out.trans (hb16q.mono hb15.out.size)); have hY16 := Kpt.mk hYx; have ka16 := Kpt.mk (ka15.out.below hb16q); have hX16 := Kpt.mk (hX15.out.below hb16q hX15.out.lt); clear hYl0 hYx hb16q)
              | (go_at_call 8; go_must (refine hBn.out.mono ?_; rintro e w15 ⟨rfl, hg15⟩; have hb15 := Kpt.mk (hbr.out.grown hg15 hbr.out.size (fun q e => by cases e; exact hLbw.out)); have ka15 := Kpt.mk (kar.out.grown hg15 (by have := hab.out; omega) oab.out); have hX15 := Kpt.mk (hXr.out.grown hg15 (fun e => by have := Option.some.inj e; have := hXb.out; omega)); clear hg15)))
            go_ret
            exact ⟨rfl, hb17.out⟩
          · have hG := Kpt.mk (hgood.out hok)
            replace hok := Kpt.mk hok
            obtain ⟨xl, hxl⟩ : ∃ x, x = (sF i1 sk p).1 := ⟨_, rfl⟩
            obtain ⟨s2, hs2⟩ : ∃ x, x = (sF i1 sk p).2.2 := ⟨_, rfl⟩
            have hB := Kpt.mk (fBo.out wr Lb tb tcb sk p _ _ hI.out hJ.out hpm.out kbr.out hbr.out hLbw.out hone.out hoff.out hok.out)
            rw [← hxl, ← hs2] at hG
            rw [← hxl] at hlen
            rw [← hxl, ← hs2] at hB
            clear hxl hs2 hgood hbad
            go_wp2_with (first
              | (refine (?_ : wpList _ _ _ (Oper.mk (some 111) _ _ _ _ _ :: _) _ _); go_must (refine wpList_append_prL rfl (.tmp 108) (.tmp 110) rfl B0 (.slice va vn vc) acc xl vn ya yn yc rfl rfl ho17.out hy17.out (by have := hvn.out; have := hyn.out; omega) (by have := hs17.out; omega) ?_; intro v18 w18 ho18 hg18; obtain ⟨za, zc, rfl⟩ := own_sl2 ho18.out; have hgB : Kpt (∀ g, (Value.slice va vn vc).ownBlock = some g → B0 ≤ g) := ⟨fun g hg => (World.ownsRow.lt ho17.out g hg).1⟩; have hb18 := Kpt.mk (hb17.out.grown hg18.out hb17.out.size (fun q e => by have := hgB.out q e; have := hB0L.out; have := hLbw.out; omega)); have ka18 := Kpt.mk (ka17.out.grownR hg18.out B0 hgB.out (by have := hB0L.out; have := hab.out; omega) htaB.out); have kb18 := Kpt.mk (kb17.out.grownR hg18.out B0 hgB.out hB0L.out htbB.out); have hX18 := Kpt.mk (hX17.out.grown hg18.out (fun e => by have := hgB.out _ e; have := hXB.out; omega)); have hs18 := Kpt.mk (Nat.le_trans hs17.out hg18.out.size); clear hg18))
              | (refine (?_ : wpList _ _ _ (Oper.mk none (Op.store 33 _ _) _ _ _ _ :: _) _ _); go_must (refine wpList_store_bx rfl 33 (.tmp 16) (.tmp 79) rfl Y ansZ (ansT 1 (.slice ya yn yc)) rfl rfl hY16.out rfl szAns (by simp [ansT, Value.oneCell']) rfl ?_; intro w17 hY17 hg17; have hb17 := Kpt.mk (hb16.out.grown hg17 hb16.out.size (fun q e => by injection e with e; subst e; have := hYl.out; have := hb15.out.size; omega)); have ka17 := Kpt.mk (ka16.out.grown hg17 (by have := hYl.out; have := ka15.out.lg.lt; omega) (fun x e => by have := hYl.out; have := ka15.out.tl x e; omega)); have kb17 := Kpt.mk (kb16.out.grown hg17 (by have := hYl.out; have := kb15.out.lg.lt; omega) (fun x e => by have := hYl.out; have := kb15.out.tl x e; omega)); have hX17 := Kpt.mk (hX16.out.grown hg17 (fun e => by have := Option.some.inj e; have := hX15.out.lt; have := hYl.out; omega)); have ho17 : Kpt (w17.ownsRow B0 25 2 (.slice va vn vc) vn (cellsB acc)) := ⟨own_of_blk ho16.out fun g hg => hg17.block g (World.ownsRow.lt ho16.out g hg).2 (fun e => by injection e with e; have := (World.ownsRow.lt ho15.out g hg).2; have := hYl.out; omega)⟩; have hy17 := Kpt.mk (ps_older hy15.out hy16.out hYl.out hg17); have hs17 := Kpt.mk (Nat.le_trans hs16.out hg17.size); have c0 := hY17.cells 0 (by simp [ansT]); have c5 := hY17.cells 5 (by simp [ansT]); simp only [ansT, List.getElem?_toArray, List.getElem?_cons_succ, List.getElem?_cons_zero] at c0 c5; clear hY17 hg17))
              | (refine wpList_var rfl 33 rfl ansZ zAns ?_; intro Y w16 hYl0 hYx hb16q; have hYl : Kpt (w15.heap.size ≤ Y) := ⟨hYl0⟩; have hb16 := Kpt.mk (hb15.out.trans (hb16q.mono hb15.out.size)); have hY16 := Kpt.mk hYx; have ka16 := Kpt.mk (ka15.out.below hb16q); have kb16 := Kpt.mk (kb15.out.below hb16q); have hX16 := Kpt.mk (hX15.out.below hb16q hX15.out.lt); have ho16 : Kpt (w16.ownsRow B0 25 2 (.slice va vn vc) vn (cellsB acc)) := ⟨own_of_blk ho15.out fun g hg => hb16q.block g (World.ownsRow.lt ho15.out g hg).2⟩; have hy16 := Kpt.mk (hy15.out.bel hb16q); have hs16 := Kpt.mk (Nat.le_trans hs15.out hb16q.size); clear hYl0 hYx hb16q)
              | (go_at_call 8; go_must (refine hB.out.mono ?_; rintro e w15 ⟨⟨ya, yn, yc, rfl, hy15, hyc, hyw⟩, kb15, hg15⟩; have hb15 := Kpt.mk (hbr.out.grown hg15 hbr.out.size (fun q e => by cases e; exact hLbw.out)); have ka15 := Kpt.mk (kar.out.grown hg15 (by have := hab.out; omega) oab.out); have hX15 := Kpt.mk (hXr.out.grown hg15 (fun e => by have := Option.some.inj e; have := hXb.out; omega)); have ho15 : Kpt (w15.ownsRow B0 25 2 (.slice va vn vc) vn (cellsB acc)) := ⟨own_of_blk hown.out fun g hg => hg15.block g (World.ownsRow.lt hown.out g hg).2 (fun e => by injection e with e; have := (World.ownsRow.lt hown.out g hg).1; have := hB0L.out; omega)⟩; have hyn : Kpt (yn ≤ 3) := ⟨by obtain ⟨a', c', e2, _⟩ := hy15; simp only [Value.slice.injEq] at e2; have := hlen.out; omega⟩; have hs15 := Kpt.mk (Nat.le_trans hsr.out hg15.size); replace hy15 := Kpt.mk hy15; replace kb15 := Kpt.mk kb15; clear hg15 hyc hyw)))
            go_roundw
            case rel => exact ⟨k + 1, za, vn + yn, zc, by omega, rfl, by go_num, ⟨hG.out.1⟩, ⟨by rw [hG.out.2.1]; exact ho18.out⟩, ⟨by have := hvn.out; have := hyn.out; omega⟩, hb18, hs18, ka18, ⟨by rw [hG.out.2.2]; exact kb18.out⟩, hX18⟩
            case measure => simp [intOf]; omega
        · have hltI : ¬ (k : Int) < N := by omega
          have hkn : N = k := by omega
          have ht : (ps.take N).take k = ps.take N := by rw [hkn]; exact List.take_of_length_le (by rw [List.length_take]; omega)
          rw [ht] at hgo hown kbr
          exact absurd hgo.out (by rw [show (akF (sF i1) (s0 b nilv) (ps.take N)).2.1 = false from hRK.out]; decide)

end Go.Proofs.YtplifodddfjhdaaDoor
