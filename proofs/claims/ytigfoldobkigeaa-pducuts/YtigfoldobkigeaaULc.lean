/-
  pdu: PduCuts, the stream and what is fed.
-/
import Derived.Test.YtigfoldobkigeaaULc0
import Derived.Test.YtigfoldobkigeaaUAll
import Derived.Test.YtigfoldobkigeaaULen
import Derived.Test.YtigfoldobkigeaaURDA
import Derived.Deep.CutBlock
import Derived.Deep.CutRange
namespace Go.Proofs.Ytigfoldobkigeaa
open Go.RowKit
set_option linter.unusedVariables false
set_option linter.unusedSimpArgs false

/-- PDUs that came in, in a row. -/
structure PIn (w : World) (la : Option Addr) (ln : Nat) (ps : List Pd) : Prop where
  len : ps.length = ln
  nth : ∀ (j : Nat) p, ps[j]? = some p → p.ok ∧ ∃ b off a n c, la = some ⟨b, off, none⟩ ∧ b < w.heap.size ∧ w.rangeAt b (off + j * 14) (p.vals (.slice a n c)).toList ∧ RdAt w (.slice a n c) p.d ∧ n ≤ c ∧ c ≤ maxLen

/-- What has been put together. -/
def Al (base : Nat) (W : World) (v : Value) (k : Nat) : Prop := ∃ As, Bytes As ∧ As.length ≤ k ∧ Mid base W v As

/-- Next tells a PDU, in letters. -/
theorem next_okV (base R : Nat) (h d : Bool) (va : Option Addr) (n vc : Nat) (Wt : List Int) (w : World) (r : Re base w R h d 0 (.slice va n vc) Wt) (hby0 : Bytes Wt) (hn0 : n ≤ 140737488355328) (h8 : decE Wt h d = 0)
    (P : Pd) (hP : P = decP Wt h) (PN : Nat) (hPN : PN = P.d.length) (DN : List Int) (hDN : DN = Wt.drop (decN Wt h d)) :
    Calls Try.prog 19 #[.pointer (some ⟨R, 0, none⟩)] w fun e w' => ∃ V da dc v', e = .returned (.tuple #[.agg V, .int .i64 0]) ∧ V = P.vals (.slice da PN dc) ∧ (V.size = 14 ∧ V.all (·.oneCell') = true) ∧ Re base w' R h d 0 v' DN ∧ Row w' (.slice da PN dc) P.d ∧ (∀ g, (Value.slice da PN dc).ownBlock = some g → w.heap.size ≤ g) ∧ (∀ g, v'.ownBlock = some g → g < w'.heap.size) ∧ Below base w w' := by
  refine (next_ok base R h d va n vc Wt w r hby0 hn0 h8).mono ?_
  rintro e w' ⟨dv, v', rfl, hr, hv, hrow, hdv, hb⟩
  rw [← hP] at hrow ⊢
  obtain ⟨da, dc, rfl⟩ := rd_len (zs := P.d) (Row.rd hrow)
  rw [← hPN] at hrow hdv ⊢
  rw [← hDN] at hr
  exact ⟨_, da, dc, v', rfl, rfl, ⟨Pd.size (by rw [hP]; exact decP_len _ _) _, Pd.one _ _ _ _⟩, hr, hrow, hdv, fun g hg => (hr.mid.own hg).2, hb⟩
theorem exec_load_midP {W : World} {o : Oper} {a : Act} (ty : TypeId) (x : Operand) (ho : o.op = .load ty x) (g q : Nat) (V : Array Value) (hx : a.eval x = .pointer (some ⟨g, q, none⟩)) (hB : W.rangeAt g q V.toList) (d : TypeDesc)
    (hu : Try.prog.underlying ty = some d) (hd : d.isRow = true) (hi : (Try.prog.info? ty).map (·.size) = some V.size) :
    (execOp a.eval o).run Try.prog W = .ok (.value (.agg V)) W := by
  have := run_loadAt_mid (P := Try.prog) W g q ty V.toList d hB hu hd (by rw [Array.length_toList]; exact hi)
  unfold execOp
  simp only [ho, hx]
  simp [this]


set_option maxRecDepth 100000 in
set_option maxHeartbeats 4000000 in
theorem cuts_any (ps : List Pd) (la : Option Addr) (ln lc : Nat) (xa : Option Addr) (xn xc : Nat) (xs : List Int) (ca : Option Addr) (cn cc : Nat) (cs : List Int) (h d : Bool) (w : World)
    (hP : PIn w la ln ps) (hl : ln ≤ lc) (hlc : lc ≤ maxLen) (hx : RdAt w (.slice xa xn xc) xs) (hxb : Bytes xs) (hxc : xc ≤ maxLen) (hc : RdAt w (.slice ca cn cc) cs) (hcb : Bytes cs) (hcc : cc ≤ maxLen) :
    Calls Try.prog 6 #[.slice la ln lc, .slice xa xn xc, .slice ca cn cc, .bool h, .bool d] w fun e w' => e = .returned (.bool true) ∧ Below w.heap.size w w' := by
  have hPK := Kpt.mk hP
  have hxK := Kpt.mk hx
  have hcK := Kpt.mk hc
  have hxbK := Kpt.mk hxb
  have hcbK := Kpt.mk hcb
  have hlcI : (lc : Int) ≤ 9223372036854775807 := by unfold maxLen at hlc; omega
  have hxcI : (xc : Int) ≤ 9223372036854775807 := by unfold maxLen at hxc; omega
  have hccI : (cc : Int) ≤ 9223372036854775807 := by unfold maxLen at hcc; omega
  have hxl : xn ≤ xc := by obtain ⟨a', c', hv, _, h2, _⟩ := hx; simp only [Value.slice.injEq] at hv; obtain ⟨rfl, h3, rfl⟩ := hv; omega
  have hcl : cn ≤ cc := by obtain ⟨a', c', hv, _, h2, _⟩ := hc; simp only [Value.slice.injEq] at hv; obtain ⟨rfl, h3, rfl⟩ := hv; omega
  clear hP hx hc hxb hcb hlc hxc hcc
  go_enter Try.func6, Try.ntmps6
  go_upto_block 0 with (first
    | (go_at_call 9; go_must (refine (awake_any _).mono ?_; rintro e w1 ⟨rfl, hbe1⟩; have hb1 : Kpt (Below w.heap.size w w1) := ⟨hbe1⟩; clear hbe1)))
  go_cut [11, 12, 13, 14] from 31 to 62 (fun t11 t12 t13 t14 wc => ∃ (m : Nat) (va : Option Addr) (vc : Nat), t11 = .slice va m vc ∧ Kpt (Al w.heap.size wc (.slice va m vc) 10000) ∧ Kpt (Below w.heap.size w wc))
  case first =>
    go_wp2_with fail
    go_loopg [11, 12, 13, 14] 10 (fun i r11 r12 r13 r14 wr => ∃ (j m : Nat) (va : Option Addr) (vc : Nat), r11 = .slice va m vc ∧ r12 = .int .i64 (j : Int) ∧ j + i = 10 ∧ Kpt (Al w.heap.size wr (.slice va m vc) (1000 * j)) ∧ Kpt (Below w.heap.size w wr))
    case atStart => exact ⟨0, 0, none, 0, rfl, rfl, rfl, ⟨[], Bytes.nil, Nat.le_refl _, Mid.nil _ _⟩, hb1⟩
    case round =>
      obtain ⟨j, m, va, vc, rfl, rfl, hji, hal, hbw⟩ := hrel
      by_cases hj : j < ln
      · by_cases hj10 : j < 10
        · obtain ⟨p, hp⟩ : ∃ p, ps[j]? = some p := ⟨ps[j]'(by rw [hPK.out.len]; exact hj), List.getElem?_eq_getElem _⟩
          obtain ⟨hok, b, off, a, n, c, rfl, hbl, hrg, hrd, hnc, hcm⟩ := hPK.out.nth j p hp
          have e1 : (j : Int) < ln := by omega
          have e2 : (j : Int) < 10 := by omega
          have hlcI' : (ln : Int) ≤ lc := by omega
          have hr0 : wr.rangeAt b (off + j * 14) (p.vals (.slice a n c)).toList := rangeAt_block hrg (hbw.out.block b hbl)
          have hc13 : wr.cell? ⟨b, off + j * 14 + 13, none⟩ = some (.slice a n c) := hr0 13 _ (by obtain ⟨x0, x1, x2, x3, x4, x5, x6, hw⟩ := seven hok.len; simp [Pd.vals, Pd.cs, hw])
          have hE := Kpt.mk (enc_any p a n c h d wr hok (hrd.bel hbw.out))
          have hel := Kpt.mk (encL_len p hok h d)
          have hby := Kpt.mk (encL_bytes p hok h d)
          have hdl : Kpt (p.d.length = n) := ⟨(rd_row hrd).1⟩
          have hsz : Kpt ((p.vals (.slice a n c)).size = 14) := ⟨Pd.size hok.len _⟩
          obtain ⟨V, hV⟩ : ∃ V, V = p.vals (.slice a n c) := ⟨_, rfl⟩
          rw [← hV] at hr0 hE hsz
          replace hr0 := Kpt.mk hr0
          clear hV hrg hrd hp
          obtain ⟨As, hAb0, hAl0, hAm0⟩ := hal.out
          have hAb := Kpt.mk hAb0
          have hAl := Kpt.mk hAl0
          have hAm := Kpt.mk hAm0
          have hAn := Kpt.mk hAm0.cap
          clear hAb0 hAl0 hAm0 hal
          have hE6 : n ≤ 500 → Kpt ((encL p h d).length ≤ 700) := fun h5 => ⟨by rw [hel.out, bodyL_len, hdl.out]; have h1 := sz_le h; have h2 := sz_le (s2B d (n + padN n)); unfold padN at *; omega⟩
          by_cases h5 : n ≤ 500
          · have e5 : ¬ (n : Int) > 500 := by omega
            go_wp2_with (first
              | (go_at_call 10; go_must (refine (hE.out (by omega)).mono ?_; rintro e w2 ⟨g, cap, rfl, ho2, hg2, hcap2, hbe2⟩; have hb2 : Kpt (Below w.heap.size w w2) := ⟨hbw.out.trans (hbe2.mono hbw.out.size)⟩; have hrd2 := Kpt.mk (own_rd ho2); have hAm2 := Kpt.mk (hAm.out.of_block hbe2.size (fun g _ _ hlt => hbe2.block g hlt)); clear hbe2 ho2))
              | (refine (?_ : wpList _ _ _ (Oper.mk (some 62) _ _ _ _ _ :: _) _ _); go_must (refine wpList_append_mid rfl (.tmp 60) (.tmp 61) rfl w.heap.size (.slice va m vc) As (encL p h d) rfl hAm2.out _ rfl hrd2.out (by have := (hE6 h5).out; have := hAl.out; omega) hb2.out.size ?_; intro v3 w3 hM hg hn; obtain ⟨ya, yc, hv', -⟩ := hM.out.ex; obtain ⟨YL, hYL⟩ : ∃ n, n = (As ++ encL p h d).length := (⟨_, rfl⟩); rw [← hYL] at hv'; subst hv'; clear hYL; have hb3 : Kpt (Below w.heap.size w w3) := ⟨hb2.out.grown hg.out hb2.out.size (fun q e => (hAm2.out.own e).1)⟩; clear hg hn))
              | (refine (?_ : wpList _ _ _ (Oper.mk _ (Op.load 26 _) _ _ _ _ :: _) _ _); go_must (refine wpList_load_mid rfl 26 _ rfl b (off + j * 14) rfl V.toList _ hr0.out Try.underlying26 rfl (by rw [Array.length_toList, hsz.out]; exact sizeP) ?_)))
            go_roundg (10 - (j + 1))
            case measure => omega
            case rel => exact ⟨j + 1, _, _, _, rfl, by go_num, by omega, ⟨As ++ encL p h d, hAb.out.append hby.out, by rw [List.length_append]; have := (hE6 h5).out; have := hAl.out; omega, hM.out⟩, hb3⟩
          · have e5 : (n : Int) > 500 := by omega
            go_wp2_with fail
            go_ret
            exact ⟨rfl, hbw.out⟩
        · have e1 : (j : Int) < ln := by omega
          have e2 : ¬ (j : Int) < 10 := by omega
          go_wp2_with fail
          go_meet
          exact ⟨m, va, vc, rfl, ⟨by obtain ⟨As, h1, h2, h3⟩ := hal.out; exact ⟨As, h1, by omega, h3⟩⟩, hbw⟩
      · have e1 : ¬ (j : Int) < ln := by omega
        go_wp2_with fail
        go_meet
        exact ⟨m, va, vc, rfl, ⟨by obtain ⟨As, h1, h2, h3⟩ := hal.out; exact ⟨As, h1, by omega, h3⟩⟩, hbw⟩
  case rest =>
    obtain ⟨m, va, vc, rfl, hal, hbw⟩ := hcut
    obtain ⟨As, hAb0, hAl0, hAm0⟩ := hal.out
    have hAb := Kpt.mk hAb0
    have hAl := Kpt.mk hAl0
    have hAm := Kpt.mk hAm0
    clear hAb0 hAl0 hAm0 hal hb1
    by_cases hx2 : xn ≤ 2000
    · have e5 : ¬ (xn : Int) > 2000 := by omega
      have hxn : Kpt (xs.length = xn) := ⟨(rd_row hxK.out).1⟩
      obtain ⟨A, hA0⟩ : ∃ A, A = As ++ xs := ⟨_, rfl⟩
      have hA := Kpt.mk hA0
      have hAB : Kpt (Bytes A) := ⟨by rw [hA0]; exact hAb.out.append hxbK.out⟩
      have hAL : Kpt (A.length ≤ 12000) := ⟨by rw [hA0, List.length_append, hxn.out]; have := hAl.out; omega⟩
      clear hA0
      obtain ⟨K, hS0⟩ := strm A h d
      have hS := Kpt.mk hS0
      clear hS0
      obtain ⟨E, hE0⟩ : ∃ E, E = decE (A.drop (posL A h d K)) h d := ⟨_, rfl⟩
      have hE := Kpt.mk hE0
      clear hE0
      go_upto_block 2 with (first
        | (refine (?_ : wpList _ _ _ (Oper.mk (some 68) _ _ _ _ _ :: _) _ _); go_must (refine wpList_append_mid rfl (.tmp 66) (.tmp 67) rfl w.heap.size (.slice va m vc) As xs rfl hAm.out _ rfl (hxK.out.bel hbw.out) (by rw [hxn.out]; have := hAl.out; omega) hbw.out.size ?_; intro v3 w3 hM hg hgn; rw [← hA.out] at hM; obtain ⟨ya, yc, hv', -⟩ := hM.out.ex; obtain ⟨n, hn0⟩ : ∃ n, n = A.length := (⟨_, rfl⟩); rw [← hn0] at hv'; subst hv'; have hn := Kpt.mk hn0; clear hn0; have hb3 : Kpt (Below w.heap.size w w3) := ⟨hbw.out.grown hg.out hbw.out.size (fun q e => (hAm.out.own e).1)⟩; clear hg hgn))
        | (go_at_call 15; go_must (refine (all_any A h d K hS.out ya n yc _ hM.out.rd (by have := hAL.out; have := hn.out; omega) (by have := hM.out.cap; omega) hAB.out (fun pa m pc zs W h1 h2 h3 h4 => rdecode_any pa m pc zs h d W h1 h2 h3 h4)).mono ?_; rintro e w4 ⟨wa, wcp, rfl, hrow, hbe4⟩; have hb4 : Kpt (Below w.heap.size w w4) := ⟨hb3.out.trans (hbe4.mono hb3.out.size)⟩; have hM4 := Kpt.mk (hM.out.of_block hbe4.size (fun g _ _ hlt => hbe4.block g hlt)); rw [← hE.out]; replace hrow := Kpt.mk hrow; clear hbe4))
        | (go_at_call 16; go_must (refine (newR_any w4).mono ?_; rintro e w5 ⟨R, rfl, hr5, hbe5⟩; replace hr5 := Kpt.mk hr5; replace hbe5 := Kpt.mk hbe5))
        | (go_at_call 17; go_must (refine (digR_any w4.heap.size R false false h d 0 _ [] w5 hr5.out).mono ?_; rintro e w6 ⟨rfl, hr6, hbe6⟩; have hr := Kpt.mk hr6; have hb6 : Kpt (Below w4.heap.size w4 w6) := ⟨hbe5.out.trans hbe6⟩; clear hr6 hbe6)))
      have hEI := hE
      go_cut [18, 19, 20, 21, 22, 23, 24, 25, 26] from 81 to 151 (fun t18 t19 t20 t21 t22 t23 t24 t25 t26 wz => t19 = .int .i64 (K : Int) ∧ ∃ (en F : Int) (v : Value) (Wt : List Int), t20 = .int .i64 en ∧ (0 < n → en = E) ∧ (E ≠ 8 → F = E ∧ Wt = []) ∧ Kpt (Re w4.heap.size wz R h d F v Wt) ∧ Kpt (Below w4.heap.size w4 wz))
      case first =>
        have hM6 : Kpt (∀ W, Below w4.heap.size w4 W → Mid w.heap.size W (.slice ya n yc) A) := ⟨fun W hW => hM4.out.of_block hW.size (fun g _ _ hlt => hW.block g hlt)⟩
        have hrow6 : Kpt (∀ W, Below w4.heap.size w4 W → Rows' w3.heap.size W (.slice wa K wcp) A h d K) := ⟨fun W hW => hrow.out.below hW⟩
        have hcr6 : Kpt (∀ W, Below w4.heap.size w4 W → RdAt W (.slice ca cn cc) cs) := ⟨fun W hW => hcK.out.bel (hb4.out.trans (hW.mono hb4.out.size))⟩
        have hyc : Kpt ((yc : Int) ≤ 9223372036854775807 ∧ n ≤ yc) := ⟨by have := hM4.out.cap; unfold maxLen at this; omega⟩
        have hnL : Kpt (n ≤ 12000) := ⟨by have := hAL.out; have := hn.out; omega⟩
        clear hM hr5 hbe5 hM4 hrow hcK hb3 hbw hAm hPK hxK hxbK e5 hx2 hxn hA hAb hAl
        go_wp2_with fail
        go_loopg [18, 19, 20, 21, 22, 23, 24, 25, 26] (300 + n) (fun i r18 r19 r20 r21 r22 r23 r24 r25 r26 wr => ∃ (p k q : Nat) (en F : Int) (v : Value) (Wt : List Int), r18 = .int .i64 (p : Int) ∧ r19 = .int .i64 (k : Int) ∧ r20 = .int .i64 en ∧ r21 = .int .i64 (q : Int) ∧ p ≤ n ∧ i = (300 - q) + (n - p) ∧ q + i ≤ 300 + n ∧ Kpt (en = (if F = 0 then 8 else F)) ∧ Kpt (Rst A h d K p k F Wt) ∧ Kpt (F = 0 → decE Wt h d = 8) ∧ Kpt (Re w4.heap.size wr R h d F v Wt) ∧ Kpt (Below w4.heap.size w4 wr))
        case atStart => exact ⟨0, 0, 0, 8, 0, _, [], rfl, rfl, rfl, rfl, Nat.zero_le _, by omega, by omega, ⟨rfl⟩, ⟨Rst.start A h d K⟩, ⟨fun _ => dec_nil h d⟩, hr, hb6⟩
        case round =>
          obtain ⟨p, k, q, en, F, v, Wt, rfl, rfl, rfl, rfl, hpn, hi, hqi, hen, hrs, hd8, hre, hbw4⟩ := hrel
          by_cases hp : p < n
          · have e1 : (p : Int) < n := by omega
            have hwn : Kpt (wrap64 ((n : Int) - (p : Int)) = ((n - p : Nat) : Int)) := ⟨by have := hnL.out; rw [wrap64_in _ (by omega)]; omega⟩
            go_upto_region 26 with fail
            go_cut [98] from 81 to 151 (fun t98 wd => t98 = .bool (decide (q < cn ∧ q < 300)) ∧ wd = wr)
            case first =>
              by_cases h1 : q < cn
              · have e2 : (q : Int) < cn := by omega
                by_cases h2 : q < 300
                · have e3 : (q : Int) < 300 := by omega
                  go_wp2_with fail
                  go_meet
                  exact ⟨by simp [h1, h2], rfl⟩
                · have e3 : ¬ (q : Int) < 300 := by omega
                  go_wp2_with fail
                  go_meet
                  exact ⟨by simp [h2], rfl⟩
              · have e2 : ¬ (q : Int) < cn := by omega
                go_wp2_with fail
                go_meet
                exact ⟨by simp [h1], rfl⟩
            case rest =>
              obtain ⟨rfl, rfl⟩ := hcut
              go_upto_if 98 with fail
              go_cut [22] from 81 to 151 (fun t22 wd => (∃ u : Nat, t22 = .int .i64 (u : Int) ∧ u ≤ n - p ∧ (q < 300 ∨ u = n - p)) ∧ wd = wc)
              case first =>
                by_cases hq : q < cn ∧ q < 300
                · have hqd : decide (q < cn ∧ q < 300) = true := by simpa using hq
                  obtain ⟨a', c', hv, _, hcl2, hcb2⟩ := hcr6.out wc hbw4.out
                  simp only [Value.slice.injEq] at hv
                  obtain ⟨rfl, hcn, rfl⟩ := hv
                  rcases hcb2 with h0 | ⟨b, off, rfl, hcell⟩
                  · omega
                  have hcu := hcell q (.int .u8 (cs.getD q 0)) (by rw [cels, List.getElem?_map, List.getD_eq_getElem?_getD, List.getElem?_eq_getElem (by omega)]; rfl)
                  have hb := hcbK.out q
                  obtain ⟨x, hx⟩ : ∃ x : Nat, cs.getD q 0 = (x : Int) := ⟨(cs.getD q 0).toNat, by omega⟩
                  rw [hx] at hb hcu
                  replace hx := Kpt.mk hx
                  have e2 : (q : Int) < cn := by omega
                  have hccI2 : (cn : Int) ≤ cc := by omega
                  go_wp2_with fail
                  go_meet
                  exact ⟨⟨min (n - p) x, by rw [hwn.out]; congr 1; omega, by omega, .inl hq.2⟩, rfl⟩
                · have hqd : decide (q < cn ∧ q < 300) = false := by simpa using hq
                  go_wp2_with fail
                  go_meet
                  exact ⟨⟨n - p, by rw [hwn.out], Nat.le_refl _, .inr rfl⟩, rfl⟩
              case rest =>
                obtain ⟨⟨u, rfl, hun, huq⟩, rfl⟩ := hcut
                clear hcr6 hcbK hlcI hxcI hccI hxl hcl hl
                obtain ⟨g, off, rfl⟩ : ∃ g off, ya = some ⟨g, off, none⟩ := by
                  obtain ⟨ao, c, hv, h1, h2, h3, h4, h5⟩ := (hM6.out wc hbw4.out).ex
                  simp only [Value.slice.injEq] at hv
                  obtain ⟨rfl, hv2, rfl⟩ := hv
                  obtain ⟨g, off, e, _⟩ := h5 (by omega)
                  exact ⟨g, off, e⟩
                have hycn := hyc.out.2
                have hyci := hyc.out.1
                have hnc : ¬ yc = p := by omega
                have hyp : Kpt (p + u ≤ n) := ⟨by omega⟩
                have e2 : (p : Int) + u ≤ yc := by omega
                have hZ : Kpt (((A.drop p).take u).length = u) := ⟨by rw [List.length_take, List.length_drop, ← hn.out]; omega⟩
                have hZb : Kpt (Bytes ((A.drop p).take u)) := ⟨Bytes.take (hAB.out.drop p) u⟩
                have hrd0 : Kpt (RdAt wc (.slice (some ⟨g, off + p, none⟩) u (yc - p)) ((A.drop p).take u)) := ⟨by have h1 := rd_take (rd_drop (hM6.out wc hbw4.out).rd p (by omega)) u (by rw [List.length_drop, ← hn.out]; omega); rw [show offK yc off p = off + p from if_neg hnc] at h1; exact h1⟩
                have h12 := hnL.out
                have hWl : Kpt (Wt.length ≤ 12000) := ⟨by
                  rcases hrs.out.alt with ⟨_, _, h2⟩ | ⟨_, _, _, _, h2⟩
                  · rw [h2, List.length_drop, List.length_take]; omega
                  · rw [h2]; simp⟩
                have hzn : Kpt (∀ Z : List Int, Z = (A.drop p).take u → Z.length = u) := ⟨fun Z e => by rw [e]; exact hZ.out⟩
                obtain ⟨Z, hZe⟩ : ∃ Z, Z = (A.drop p).take u := ⟨_, rfl⟩
                rw [← hZe] at hrd0 hZ hZb
                replace hZe := Kpt.mk hZe
                go_upto_block 4 with (first
                  | (refine (?_ : wpList _ _ _ (Oper.mk (some 113) _ _ _ _ _ :: _) _ _); go_must (refine wpList_append_rd rfl (.tmp 106) (.tmp 112) rfl wc.heap.size (.slice none 0 0) [] rfl (World.ownsRow_nil _ _ 5 1) (.slice (some ⟨g, off + p, none⟩) (p + u - p) (yc - p)) Z rfl (by rw [Nat.add_sub_cancel_left]; exact hrd0.out) (by rw [hZ.out]; simp; omega) (Nat.le_refl _) ?_; intro v7 w7 ho7 hg7; rw [List.nil_append, hZ.out] at ho7; obtain ⟨pa, pc, rfl, hpr⟩ := own_parts ho7; have hbq : Kpt (Below wc.heap.size wc w7) := ⟨(Below.refl _ _).grown hg7 (Nat.le_refl _) (fun k h => by cases h)⟩; replace ho7 := Kpt.mk ho7; have hr7 := Kpt.mk (hre.out.below hbq.out); have hb7 : Kpt (Below w4.heap.size w4 w7) := ⟨hbw4.out.trans (hbq.out.mono hbw4.out.size)⟩; replace hpr := Kpt.mk hpr; clear hg7))
                  | (go_at_call 18; go_must (refine (feed_all w4.heap.size R h d F v _ Wt Z _ hr7.out (own_rd0' ho7.out hZ.out) (by rw [hZ.out]; have := hWl.out; omega)).mono ?_; rintro e w8 ⟨v8, rfl, hr8, hb8, hv8, hk8⟩; replace hr8 := Kpt.mk hr8; replace hb8 : Kpt (Below w4.heap.size w4 w8) := ⟨hb7.out.trans hb8⟩; replace hv8 := Kpt.mk hv8; replace hk8 := Kpt.mk hk8)))
                obtain ⟨Wt8, hWt8⟩ : ∃ X, X = (if F = 0 then Wt ++ Z else Wt) := ⟨_, rfl⟩
                rw [← hWt8] at hr8
                replace hWt8 := Kpt.mk hWt8
                have hp9 : Kpt (∀ g', (Value.slice pa u pc).ownBlock = some g' → g' ≠ R ∧ v8.ownBlock ≠ some g' ∧ w4.heap.size ≤ g' ∧ v.ownBlock ≠ some g' ∧ g' < w7.heap.size) := ⟨fun g' e => by
                  have h1 := hpr.out.2.2.2 g' e
                  have h2 : v.ownBlock ≠ some g' := fun e2 => by have := (hre.out.mid.own e2).2; omega
                  refine ⟨fun e2 => by have := hre.out.bx.lt; omega, fun e2 => ?_, Nat.le_trans hbw4.out.size h1.1, h2, h1.2⟩
                  rcases hv8.out with h3 | h3
                  · exact h2 (by rw [← h3]; exact e2)
                  · have := h3 g' e2; omega⟩
                have ho8 : Kpt (∃ Y, w8.ownsRow wc.heap.size 5 1 (.slice pa u pc) u (cels Y)) := ⟨Z, own_of_block ho7.out (fun g' e => hk8.out g' (hp9.out g' e).2.2.2.2 (hp9.out g' e).1 (hp9.out g' e).2.2.2.1)⟩
                have hpc1 := hpr.out.1
                have hpc2 := hpr.out.2.1
                have hpg : Kpt (0 < u → ∃ g, pa = some ⟨g, 0, none⟩) := ⟨hpr.out.2.2.1⟩
                clear ho7 hr7 hb7 hk8 hv8 hpr hrd0 hbq
                go_wp2_with fail
                go_loopg [24] u (fun i r24 wv => ∃ j : Nat, r24 = .int .i64 (j : Int) ∧ j + i = u ∧ Kpt (∃ Y, wv.ownsRow wc.heap.size 5 1 (.slice pa u pc) u (cels Y)) ∧ Kpt (Re w4.heap.size wv R h d F v8 Wt8) ∧ Kpt (Below w4.heap.size w4 wv))
                case atStart => exact ⟨0, rfl, by omega, ho8, hr8, hb8⟩
                case round =>
                  obtain ⟨j, rfl, hj, hY0, hrv, hbv⟩ := hrel
                  by_cases hju : j < u
                  · obtain ⟨pg, rfl⟩ := hpg.out (by omega)
                    obtain ⟨Y, hY1⟩ := hY0.out
                    have hY := Kpt.mk hY1
                    have hci := own_facts hY1 j hju
                    have hfi := World.ownsRow.frozenAt hY1 j
                    have e3 : (j : Int) < u := by omega
                    clear hY1 hY0
                    try clear hwn
                    try clear hM6
                    try clear hrow6
                    try clear hyc
                    try clear hnL
                    try clear hWl
                    try clear hzn
                    try clear hZ
                    try clear hZb
                    try clear hZe
                    try clear hWt8
                    try clear hyp
                    try clear hre
                    try clear hrs
                    try clear hd8
                    try clear hen
                    try clear hbw4
                    try clear hr8
                    try clear hb8
                    try clear ho8
                    try clear hAB
                    try clear hAL
                    try clear hS
                    try clear hE
                    try clear hEI
                    try clear hr
                    try clear hb6
                    try clear hb4
                    go_wp2_with fail
                    go_roundg (u - (j + 1))
                    case measure => omega
                    case rel => exact ⟨j + 1, by go_num, by omega, ⟨Y.set j 238, own_set hY.out j 238⟩, ⟨hrv.out.other (grown_setCellK wr ⟨pg, j, none⟩ _) (hp9.out pg rfl).1 (hp9.out pg rfl).2.1⟩, ⟨hbv.out.grown (grown_setCellK wr ⟨pg, j, none⟩ _) hbv.out.size (fun k h => by injection h with h; rw [← h]; exact (hp9.out pg rfl).2.2.1)⟩⟩
                  · have e3 : ¬ (j : Int) < u := by omega
                    have hrs8 : Kpt (Rst A h d K (p + u) k F Wt8) := ⟨by
                      have h1 := hrs.out.feed (m := u) (by have := hn.out; have := hyp.out; omega)
                      rw [← hZe.out] at h1
                      rw [hWt8.out]; exact h1⟩
                    have hkK : k ≤ K := hrs8.out.kK
                    clear hY0 ho8 hr8 hb8 hp9 hpg hWl hzn hZ hZb hZe hWt8 hre hrs hd8 hen hbw4 hwn
                    go_upto_block 6 with fail
                    go_wp2_with fail
                    go_loopg [19, 20, 25, 26] (K + 1 - k) (fun i r19 r20 r25 r26 wq => ∃ (k' : Nat) (F' : Int) (v' : Value) (Wt' : List Int), r19 = .int .i64 (k' : Int) ∧ i + k' = K + 1 ∧ Kpt (Rst A h d K (p + u) k' F' Wt') ∧ Kpt (Re w4.heap.size wq R h d F' v' Wt') ∧ Kpt (Below w4.heap.size w4 wq))
                    case atStart => exact ⟨k, F, v8, Wt8, rfl, by omega, hrs8, hrv, hbv⟩
                    case round =>
                      obtain ⟨k', F', v', Wt', rfl, hik, hrs', hrq, hbq⟩ := hrel
                      by_cases hF' : F' = 0
                      · subst hF'
                        have hW0 := hrs'.out.alt
                        have hWl : Wt'.length ≤ 12000 ∧ Bytes Wt' := by
                          rcases hW0 with ⟨_, _, h2⟩ | ⟨_, _, _, _, h2⟩
                          · rw [h2]; exact ⟨by rw [List.length_drop, List.length_take]; have := hAL.out; omega, (Bytes.take hAB.out _).drop _⟩
                          · rw [h2]; exact ⟨by simp, Bytes.nil⟩
                        obtain ⟨na, nc, rfl, -⟩ := hrq.out.mid.ex
                        obtain ⟨NL, hNL⟩ : ∃ x, x = Wt'.length := ⟨_, rfl⟩
                        rw [← hNL] at hrq hWl
                        have hWb := Kpt.mk hWl.2
                        have hNL2 : Kpt (NL ≤ 140737488355328) := ⟨by omega⟩
                        have hAn' : Kpt (p + u ≤ A.length) := ⟨by have := hn.out; have := hyp.out; omega⟩
                        replace hNL := Kpt.mk hNL
                        clear hW0 hWl
                        by_cases h8 : decE Wt' h d = 8
                        · have h8K := Kpt.mk h8
                          go_wp2_with (first
                            | (go_at_call 19; go_must (refine (next_wait w4.heap.size R h d na NL nc Wt' _ hrq.out hWb.out hNL2.out h8K.out).mono ?_; rintro e wa1 ⟨pv, rfl, OK0, hr10, hbe1⟩; have OK := Kpt.mk OK0; have hr1 := Kpt.mk hr10; have hb1' : Kpt (Below w4.heap.size w4 wa1) := ⟨hbq.out.trans (hbe1.mono hbq.out.size)⟩; clear hbe1 hr10 OK0))
                            | (refine wpList_var rfl 26 rfl (noP.vals (.slice none 0 0)) zeroPi ?_; intro B wa2 hBl hBx hbe; have hr2 := Kpt.mk (hr1.out.below hbe); have hX2 := Kpt.mk hBx; have hb2' : Kpt (Below w4.heap.size w4 wa2) := ⟨hb1'.out.trans (hbe.mono hb1'.out.size)⟩; have hB2 : Kpt (w4.heap.size ≤ B ∧ B ≠ R ∧ ∀ g', (Value.slice na NL nc).ownBlock = some g' → B ≠ g') := ⟨Nat.le_trans hb1'.out.size hBl, fun e => by subst e; exact absurd hr1.out.bx.lt (Nat.not_lt.2 hBl), fun g' e e2 => absurd (hr1.out.mid.own e).2 (Nat.not_lt.2 (e2 ▸ hBl))⟩; clear hBl hBx hbe)
                            | (refine (?_ : wpList _ _ _ (Oper.mk none (Op.store 26 _ _) _ _ _ _ :: _) _ _); go_must (refine wpList_store_bx rfl 26 (.tmp 25) (.tmp 132) rfl B (noP.vals (.slice none 0 0)) pv rfl rfl hX2.out (by rw [OK.out.1]; rfl) (by rw [OK.out.1]; exact sizeP) OK.out.2 rfl ?_; intro wa3 hX3 hg3; have hr3 := Kpt.mk (hr2.out.other hg3 hB2.out.2.1 (fun e => hB2.out.2.2 _ e rfl)); have hb3' : Kpt (Below w4.heap.size w4 wa3) := ⟨hb2'.out.grown hg3 hb2'.out.size (fun k h => by injection h with h; rw [← h]; exact hB2.out.1)⟩; clear hX3 hg3)))
                          go_roundg ((300 - (q + 1)) + (n - (p + u)))
                          case measure => omega
                          case rel => exact ⟨p + u, k', q + 1, 8, 0, _, Wt', by go_num, rfl, rfl, by go_num, hyp.out, rfl, by omega, ⟨rfl⟩, hrs', ⟨fun _ => h8K.out⟩, hr3, hb3'⟩
                        · by_cases h0' : decE Wt' h d = 0
                          · obtain ⟨hkK2, hPD, hrs2, hNl⟩ := hrs'.out.more hS.out hAn'.out h0'
                            obtain ⟨P, hP⟩ : ∃ x, x = decP Wt' h := ⟨_, rfl⟩
                            obtain ⟨PN, hPN⟩ : ∃ x, x = P.d.length := ⟨_, rfl⟩
                            obtain ⟨DN, hDN⟩ : ∃ x, x = Wt'.drop (decN Wt' h d) := ⟨_, rfl⟩
                            have hnx := Kpt.mk (next_okV w4.heap.size R h d na NL nc Wt' _ hrq.out hWb.out hNL2.out h0' P hP PN hPN DN hDN)
                            have hP7 : Kpt (P.ws.length = 7) := ⟨by rw [hP]; exact decP_len _ _⟩
                            rw [← hP] at hPD
                            rw [← hDN] at hrs2
                            have hel : Kpt (∀ W, Below w4.heap.size w4 W → ∃ gw Z db dd, wa = some ⟨gw, 0, none⟩ ∧ gw < W.heap.size ∧ Z = P.vals (.slice db PN dd) ∧ Z.size = 14 ∧ W.rangeAt gw (k' * 14) Z.toList ∧ Row W (.slice db PN dd) P.d) := ⟨fun W hW => by
                              obtain ⟨zs, hzl, ho, hp⟩ := (hrow6.out W hW).own
                              obtain ⟨a', c', hv, hs⟩ := ho.shape
                              simp only [Value.slice.injEq] at hv
                              rcases hs with ⟨_, _, h1⟩ | ⟨g, h1, hgl, _, _, _, h5⟩
                              · omega
                              · have hz : zs[k']? = some (zs[k']'(by omega)) := List.getElem?_eq_getElem (by omega)
                                obtain ⟨_, dv, hzv, hrw, _⟩ := hp k' _ hz
                                have h6 := h5 k' _ hz
                                rw [← hPD] at hzv hrw
                                obtain ⟨db, dd, rfl⟩ := rd_len (zs := P.d) (Row.rd hrw)
                                rw [← hPN] at hzv hrw
                                exact ⟨g, _, db, dd, by rw [hv.1, h1], hgl, hzv, by rw [hzv]; exact Pd.size hP7.out _, h6, hrw⟩⟩
                            obtain ⟨gw, -, -, -, rfl, -⟩ := hel.out _ hbq.out
                            have hrs2K := Kpt.mk hrs2
                            replace h8 := Kpt.mk h8
                            have h0K := Kpt.mk h0'
                            have hwcK : ((K : Int) ≤ wcp) := by have := (hrow6.out _ hbq.out).sl; obtain ⟨_, _, e, h1, _⟩ := this; simp only [Value.slice.injEq] at e; obtain ⟨-, -, rfl⟩ := e; omega
                            have hwcI : ((wcp : Int) ≤ 9223372036854775807) := by have := (hrow6.out _ hbq.out).sl; obtain ⟨_, _, e, _, h1⟩ := this; simp only [Value.slice.injEq] at e; obtain ⟨-, -, rfl⟩ := e; omega
                            have hge : ¬ (K : Int) ≤ k' := by omega
                            have hkki : (k' : Int) < K := by omega
                            clear hP hPN hDN hPD hNl h0' hrs2 hrow6
                            go_upto_region 39 with (first
                              | (go_at_call 19; go_must (refine hnx.out.mono ?_; rintro e wa1 ⟨V, da, dc, v2, rfl, hV0, hVs0, hr10, hrw0, hdv0, hvl0, hbe1⟩; have hV := Kpt.mk hV0; have hVs := Kpt.mk hVs0; have hr1 := Kpt.mk hr10; have hrw1 := Kpt.mk hrw0; have hdv := Kpt.mk hdv0; have hvl := Kpt.mk hvl0; have hb1' : Kpt (Below w4.heap.size w4 wa1) := ⟨hbq.out.trans hbe1⟩; clear hV0 hVs0 hrw0 hdv0 hvl0 hbe1 hr10 hnx))
                              | (refine wpList_var rfl 26 rfl (noP.vals (.slice none 0 0)) zeroPi ?_; intro B wa2 hBl hBx hbe; have hr2 := Kpt.mk (hr1.out.below hbe); have hX2 := Kpt.mk hBx; have hb2' : Kpt (Below w4.heap.size w4 wa2) := ⟨hb1'.out.trans (hbe.mono hb1'.out.size)⟩; have hrw2 : Kpt (Row wa2 (.slice da PN dc) P.d) := ⟨hrw1.out.of_block fun g' hg' => hbe.block g' (Row.lt hrw1.out hg')⟩; have hB2 : Kpt (w4.heap.size ≤ B ∧ B ≠ R ∧ (∀ g', v2.ownBlock = some g' → B ≠ g') ∧ (∀ g', (Value.slice da PN dc).ownBlock = some g' → B ≠ g')) := ⟨Nat.le_trans hb1'.out.size hBl, fun e => by subst e; exact absurd hr1.out.bx.lt (Nat.not_lt.2 hBl), fun g' e e2 => absurd (hr1.out.mid.own e).2 (Nat.not_lt.2 (e2 ▸ hBl)), fun g' e e2 => absurd (Row.lt hrw1.out e) (Nat.not_lt.2 (e2 ▸ hBl))⟩; clear hBl hBx hbe)
                              | (refine (?_ : wpList _ _ _ (Oper.mk none (Op.store 26 _ _) _ _ _ _ :: _) _ _); go_must (refine wpList_store_bx rfl 26 (.tmp 25) (.tmp 132) rfl B (noP.vals (.slice none 0 0)) V rfl rfl hX2.out (by rw [hVs.out.1]; rfl) (by rw [hVs.out.1]; exact sizeP) hVs.out.2 rfl ?_; intro wa3 hX30 hg3; have hX3 := Kpt.mk hX30; have hr3 := Kpt.mk (hr2.out.other hg3 hB2.out.2.1 (fun e => hB2.out.2.2.1 _ e rfl)); have hrw3 : Kpt (Row wa3 (.slice da PN dc) P.d) := ⟨hrw2.out.of_block fun g' hg' => hg3.block g' (Row.lt hrw2.out hg') (fun e => by injection e with e; exact hB2.out.2.2.2 g' hg' e.symm)⟩; have hb3' : Kpt (Below w4.heap.size w4 wa3) := ⟨hb2'.out.grown hg3 hb2'.out.size (fun k h => by injection h with h; rw [← h]; exact hB2.out.1)⟩; clear hX30 hg3)))
                            obtain ⟨gw', Z, db, dd, hgw, hgl0, hZ, hZs, hZr, hZw⟩ := hel.out _ hb3'.out
                            obtain rfl : gw = gw' := by simpa using hgw
                            have hSm : Kpt (∀ W, Below wa3.heap.size wa3 W → Calls Try.prog 13 #[.agg V, .agg Z] W fun e w' => e = .returned (.bool true) ∧ Below W.heap.size W w') := ⟨fun W hW => by
                              rw [hV.out, hZ]
                              exact same_any P da db PN dc dd W hP7.out (hrw3.out.rd.bel hW) (Row.rd hZw |>.bel hW)⟩
                            have hgl : Kpt (gw < wa3.heap.size) := ⟨hgl0⟩
                            have hcl : Kpt (Bx wa3 B V ∧ wa3.rangeAt gw (k' * 14) Z.toList) := ⟨hX3.out, hZr⟩
                            have hZs2 := Kpt.mk hZs
                            clear hgw hgl0 hZ hZr hZw hX3 hX2 hr2 hrw2 hrw3 hrw1 hr1 hb1' hb2' hdv hvl hel hV hP7 hZs
                            refine wp_region_any (by kernel_rfl) ?_
                            refine wpAny_of_C (C := fun W => Bx W B V ∧ W.rangeAt gw (k' * 14) Z.toList) _ _ _ _ ?_
                            refine wpAnyC_take 0 (.int .i64 k') rfl (by kernel_rfl) (by kernel_rfl) (by kernel_rfl) (fun _ _ _ h => h) (wanted_free rfl _) (fun W hW => by go_simp) ?_
                            try simp only [Act.put, List.getElem_toArray, List.getElem_cons_succ, List.getElem_cons_zero, List.setIfInBounds_toArray, List.set_cons_succ, List.set_cons_zero]
                            refine wpAnyC_take 1 (.slice (some ⟨gw, 0, none⟩) K wcp) rfl (by kernel_rfl) (by kernel_rfl) (by kernel_rfl) (fun _ _ _ h => h) (wanted_free rfl _) (fun W hW => by go_simp) ?_
                            try simp only [Act.put, List.getElem_toArray, List.getElem_cons_succ, List.getElem_cons_zero, List.setIfInBounds_toArray, List.set_cons_succ, List.set_cons_zero]
                            refine wpAnyC_take 2 (.int .i64 K) rfl (by kernel_rfl) (by kernel_rfl) (by kernel_rfl) (fun _ _ _ h => h) (wanted_free rfl _) (fun W hW => by go_simp) ?_
                            try simp only [Act.put, List.getElem_toArray, List.getElem_cons_succ, List.getElem_cons_zero, List.setIfInBounds_toArray, List.set_cons_succ, List.set_cons_zero]
                            refine wpAnyC_take 3 (.bool false) rfl (by kernel_rfl) (by kernel_rfl) (by kernel_rfl) (fun _ _ _ h => h) (wanted_free rfl _) (fun W hW => by go_simp) ?_
                            try simp only [Act.put, List.getElem_toArray, List.getElem_cons_succ, List.getElem_cons_zero, List.setIfInBounds_toArray, List.set_cons_succ, List.set_cons_zero]
                            refine wpAnyC_take 4 (.bool false) rfl (by kernel_rfl) (by kernel_rfl) (by kernel_rfl) (fun _ _ _ h => h) (wanted_free rfl _) (fun W hW => by go_simp) ?_
                            try simp only [Act.put, List.getElem_toArray, List.getElem_cons_succ, List.getElem_cons_zero, List.setIfInBounds_toArray, List.set_cons_succ, List.set_cons_zero]
                            refine wpAnyC_take 5 (.agg V) rfl (by kernel_rfl) (by kernel_rfl) (by kernel_rfl) (fun _ _ _ h => h) (wanted_at false rfl rfl rfl rfl) (fun W hW => exec_load_bx 26 (.tmp 25) rfl B V rfl hW.1 _ Try.underlying26 rfl (by rw [hVs.out.1]; exact sizeP)) ?_
                            try simp only [Act.put, List.getElem_toArray, List.getElem_cons_succ, List.getElem_cons_zero, List.setIfInBounds_toArray, List.set_cons_succ, List.set_cons_zero]
                            refine wpAnyC_take 6 (.slice (some ⟨gw, 0, none⟩) K wcp) rfl (by kernel_rfl) (by kernel_rfl) (by kernel_rfl) (fun _ _ _ h => h) (wanted_at false rfl rfl rfl rfl) (fun W hW => by go_simp) ?_
                            try simp only [Act.put, List.getElem_toArray, List.getElem_cons_succ, List.getElem_cons_zero, List.setIfInBounds_toArray, List.set_cons_succ, List.set_cons_zero]
                            refine wpAnyC_take 7 (.int .i64 k') rfl (by kernel_rfl) (by kernel_rfl) (by kernel_rfl) (fun _ _ _ h => h) (wanted_at false rfl rfl rfl rfl) (fun W hW => by go_simp) ?_
                            try simp only [Act.put, List.getElem_toArray, List.getElem_cons_succ, List.getElem_cons_zero, List.setIfInBounds_toArray, List.set_cons_succ, List.set_cons_zero]
                            refine wpAnyC_take 8 (.pointer (some ⟨gw, k' * 14, none⟩)) rfl (by kernel_rfl) (by kernel_rfl) (by kernel_rfl) (fun _ _ _ h => h) (wanted_at false rfl rfl rfl rfl) (fun W hW => by go_simp) ?_
                            try simp only [Act.put, List.getElem_toArray, List.getElem_cons_succ, List.getElem_cons_zero, List.setIfInBounds_toArray, List.set_cons_succ, List.set_cons_zero]
                            refine wpAnyC_take 9 (.agg Z) rfl (by kernel_rfl) (by kernel_rfl) (by kernel_rfl) (fun _ _ _ h => h) (wanted_at false rfl rfl rfl rfl) (fun W hW => exec_load_midP 26 (.tmp 145) rfl gw (k' * 14) Z rfl hW.2 _ Try.underlying26 rfl (by rw [hZs2.out]; exact sizeP)) ?_
                            try simp only [Act.put, List.getElem_toArray, List.getElem_cons_succ, List.getElem_cons_zero, List.setIfInBounds_toArray, List.set_cons_succ, List.set_cons_zero]
                            refine wpAnyC_one 10 (⟨hcl.out.1.of_block hcl.out.1.lt rfl, rangeAt_block hcl.out.2 rfl⟩) rfl (by kernel_rfl) (wanted_at false rfl rfl rfl rfl) (fun KA hKA => ?_)
                            go_simp
                            refine (hSm.out _ (below_drewN (Below.refl _ _) 1)).mono ?_
                            rintro e wa9 ⟨rfl, hbe9⟩
                            have hbb : Kpt (Below wa3.heap.size wa3 wa9) := ⟨(below_drewN (Below.refl _ _) 1).trans hbe9⟩
                            have hcl9 : Kpt (Bx wa9 B V ∧ wa9.rangeAt gw (k' * 14) Z.toList) := ⟨hcl.out.1.below hbb.out hcl.out.1.lt, rangeAt_block hcl.out.2 (hbb.out.block gw hgl.out)⟩
                            clear hbe9
                            refine hKA _ _ ?_
                            clear hKA KA
                            try simp only [Act.put, List.getElem_toArray, List.getElem_cons_succ, List.getElem_cons_zero, List.setIfInBounds_toArray, List.set_cons_succ, List.set_cons_zero]
                            refine wpAnyC_take 11 (.bool false) rfl (by kernel_rfl) (by kernel_rfl) (by kernel_rfl) (fun _ _ _ h => h) (wanted_at false rfl rfl rfl rfl) (fun W hW => by go_simp) ?_
                            try simp only [Act.put, List.getElem_toArray, List.getElem_cons_succ, List.getElem_cons_zero, List.setIfInBounds_toArray, List.set_cons_succ, List.set_cons_zero]
                            refine wpAnyC_take 12 (.bool false) rfl (by kernel_rfl) (by kernel_rfl) (by kernel_rfl) (fun _ _ _ h => h) (wanted_free rfl _) (fun W hW => by go_simp) ?_
                            try simp only [Act.put, List.getElem_toArray, List.getElem_cons_succ, List.getElem_cons_zero, List.setIfInBounds_toArray, List.set_cons_succ, List.set_cons_zero]
                            refine wpAnyC_done (hcl9.out) (by kernel_rfl) ?_
                            have hr9 := Kpt.mk (hr3.out.below hbb.out)
                            have hb9 : Kpt (Below w4.heap.size w4 wa9) := ⟨hb3'.out.trans (hbb.out.mono hb3'.out.size)⟩
                            clear hbb hr3 hb3' hSm hcl hcl9
                            go_wp2_with fail
                            go_roundg (K + 1 - (k' + 1))
                            case measure => omega
                            case rel => exact ⟨k' + 1, 0, v2, DN, by go_num, by omega, hrs2K, hr9, hb9⟩
                          · obtain ⟨FF, hFF0⟩ : ∃ x, x = decE Wt' h d := ⟨_, rfl⟩
                            have hbad := Kpt.mk (hrs'.out.bad hS.out hAn'.out h0' h8)
                            have hnF : FF ≠ 0 := by rw [hFF0]; exact h0'
                            have hnz : (FF != 0) = true := by simpa using hnF
                            have h0 := Kpt.mk h0'
                            replace h8 := Kpt.mk h8
                            have hFF := Kpt.mk hFF0
                            rw [← hFF0] at hbad
                            clear hFF0 h0'
                            go_wp2_with (first
                              | (go_at_call 19; go_must (refine (next_fault w4.heap.size R h d na NL nc Wt' _ hrq.out hWb.out hNL2.out h0.out h8.out).mono ?_; rintro e wa1 ⟨pv, rfl, OK0, hr10, hbe1⟩; rw [← hFF.out] at hr10 ⊢; have OK := Kpt.mk OK0; have hr1 := Kpt.mk hr10; have hb1' : Kpt (Below w4.heap.size w4 wa1) := ⟨hbq.out.trans hbe1⟩; clear hbe1 hr10 OK0))
                              | (refine wpList_var rfl 26 rfl (noP.vals (.slice none 0 0)) zeroPi ?_; intro B wa2 hBl hBx hbe; have hr2 := Kpt.mk (hr1.out.below hbe); have hX2 := Kpt.mk hBx; have hb2' : Kpt (Below w4.heap.size w4 wa2) := ⟨hb1'.out.trans (hbe.mono hb1'.out.size)⟩; have hB2 : Kpt (w4.heap.size ≤ B ∧ B ≠ R ∧ ∀ g', (Value.slice none 0 0).ownBlock = some g' → B ≠ g') := ⟨Nat.le_trans hb1'.out.size hBl, fun e => by subst e; exact absurd hr1.out.bx.lt (Nat.not_lt.2 hBl), fun g' e e2 => absurd (hr1.out.mid.own e).2 (Nat.not_lt.2 (e2 ▸ hBl))⟩; clear hBl hBx hbe)
                              | (refine (?_ : wpList _ _ _ (Oper.mk none (Op.store 26 _ _) _ _ _ _ :: _) _ _); go_must (refine wpList_store_bx rfl 26 (.tmp 25) (.tmp 132) rfl B (noP.vals (.slice none 0 0)) pv rfl rfl hX2.out (by rw [OK.out.1]; rfl) (by rw [OK.out.1]; exact sizeP) OK.out.2 rfl ?_; intro wa3 hX3 hg3; have hr3 := Kpt.mk (hr2.out.other hg3 hB2.out.2.1 (fun e => hB2.out.2.2 _ e rfl)); have hb3' : Kpt (Below w4.heap.size w4 wa3) := ⟨hb2'.out.grown hg3 hb2'.out.size (fun k h => by injection h with h; rw [← h]; exact hB2.out.1)⟩; clear hX3 hg3)))
                            go_roundg ((300 - (q + 1)) + (n - (p + u)))
                            case measure => omega
                            case rel => exact ⟨p + u, k', q + 1, FF, FF, _, [], by go_num, rfl, rfl, by go_num, hyp.out, rfl, by omega, ⟨by rw [if_neg hnF]⟩, hbad, ⟨fun e => absurd e hnF⟩, hr3, hb3'⟩
                      · have hnz : (F' != 0) = true := by simpa using hF'
                        go_wp2_with (first
                          | (go_at_call 19; go_must (refine (next_bad w4.heap.size R h d F' v' Wt' _ hrq.out hF').mono ?_; rintro e wa1 ⟨rfl, hbe1⟩; have hr1 := Kpt.mk (hrq.out.below hbe1); have hb1' : Kpt (Below w4.heap.size w4 wa1) := ⟨hbq.out.trans (hbe1.mono hbq.out.size)⟩; clear hbe1))
                          | (refine wpList_var rfl 26 rfl (noP.vals (.slice none 0 0)) zeroPi ?_; intro B wa2 hBl hBx hbe; have hr2 := Kpt.mk (hr1.out.below hbe); have hX2 := Kpt.mk hBx; have hb2' : Kpt (Below w4.heap.size w4 wa2) := ⟨hb1'.out.trans (hbe.mono hb1'.out.size)⟩; have hB2 : Kpt (w4.heap.size ≤ B ∧ B ≠ R ∧ v'.ownBlock ≠ some B) := ⟨Nat.le_trans hb1'.out.size hBl, fun e => by subst e; exact absurd hr1.out.bx.lt (Nat.not_lt.2 hBl), fun e => absurd (hr1.out.mid.own e).2 (Nat.not_lt.2 hBl)⟩; clear hBl hBx hbe)
                          | (refine (?_ : wpList _ _ _ (Oper.mk none (Op.store 26 _ _) _ _ _ _ :: _) _ _); go_must (refine wpList_store_bx rfl 26 (.tmp 25) (.tmp 132) rfl B (noP.vals (.slice none 0 0)) (noP.vals (.slice none 0 0)) rfl rfl hX2.out rfl sizeP (Pd.one noP none 0 0) rfl ?_; intro wa3 hX3 hg3; have hr3 := Kpt.mk (hr2.out.other hg3 hB2.out.2.1 hB2.out.2.2); have hb3' : Kpt (Below w4.heap.size w4 wa3) := ⟨hb2'.out.grown hg3 hb2'.out.size (fun k h => by injection h with h; rw [← h]; exact hB2.out.1)⟩; clear hX3 hg3)))
                        go_roundg ((300 - (q + 1)) + (n - (p + u)))
                        case measure => omega
                        case rel => exact ⟨p + u, k', q + 1, F', F', v', Wt', by go_num, rfl, rfl, by go_num, hyp.out, rfl, by omega, ⟨by rw [if_neg hF']⟩, hrs', ⟨fun e => absurd e hF'⟩, hr3, hb3'⟩
          · have e1 : ¬ (p : Int) < n := by omega
            obtain rfl : p = n := by omega
            have hfin : Kpt (k = K ∧ en = E) := ⟨by
              obtain ⟨f1, f2⟩ := (hn.out ▸ hrs.out : Rst A h d K A.length k F Wt).fin hS.out hd8.out
              exact ⟨f1, by rw [hen.out, f2, hE.out]⟩⟩
            go_wp2_with fail
            go_meet
            refine ⟨by rw [hfin.out.1], en, F, v, Wt, rfl, fun _ => hfin.out.2, fun h8 => ?_, hre, hbw4⟩
            have f2 := hfin.out.2
            by_cases hF0 : F = 0
            · exact absurd (by rw [hen.out, if_pos hF0] at f2; exact f2.symm) h8
            · rw [hen.out, if_neg hF0] at f2
              rcases hrs.out.alt with ⟨h1, _⟩ | ⟨_, _, _, _, h2⟩
              · exact absurd h1 hF0
              · exact ⟨f2, h2⟩
      case rest =>
        obtain ⟨rfl, en, F, v, Wt, rfl, hen, hF, hre, hbz⟩ := hcut
        have hbzw : Kpt (Below w.heap.size w wc) := ⟨hb4.out.trans (hbz.out.mono hb4.out.size)⟩
        have hK1 : ((K : Int) != K) = false := by simp
        by_cases heq : en = E
        · subst heq
          have hq : (en != en) = false := by simp
          by_cases h8 : en = 8
          · subst h8
            go_wp2_with fail
            go_ret
            exact ⟨rfl, hbzw.out⟩
          · have h8b : (en != 8) = true := by simpa using h8
            obtain ⟨rfl, rfl⟩ := hF h8
            have hE0 : F ≠ 0 := by rw [hE.out]; exact hS.out.last
            go_wp2_with (first
              | (go_at_call 18; go_must (refine (feed_bad w4.heap.size R h d F v _ [] _ (hre.out.below ((Below.refl _ _).alloc (Nat.le_refl _) _)) hE0).mono ?_; rintro e w7 ⟨rfl, hw7⟩; have hr7 : Kpt (Re w4.heap.size w7 R h d F v []) := ⟨by rw [hw7]; exact hre.out.below ((Below.refl _ _).alloc (Nat.le_refl _) _)⟩; have hb7 : Kpt (Below w.heap.size w w7) := ⟨by rw [hw7]; exact hbzw.out.trans (((Below.refl _ _).alloc (Nat.le_refl _) _).mono hbzw.out.size)⟩; clear hw7))
              | (go_at_call 19; go_must (refine (next_bad w4.heap.size R h d F v [] _ hr7.out hE0).mono ?_; rintro e w8 ⟨rfl, hbe8⟩; have hr8 := Kpt.mk (hr7.out.below hbe8); have hb8 : Kpt (Below w.heap.size w w8) := ⟨hb7.out.trans (hbe8.mono hb7.out.size)⟩; clear hbe8))
              | (refine wpList_var rfl 26 rfl (noP.vals (.slice none 0 0)) zeroPi ?_; intro B w9 hBl hBx hbe; have hr9 := Kpt.mk (hr8.out.below hbe); have hX9 := Kpt.mk hBx; have hb9 : Kpt (Below w.heap.size w w9) := ⟨hb8.out.trans (hbe.mono hb8.out.size)⟩; have hB9 : Kpt (w.heap.size ≤ B ∧ B ≠ R ∧ v.ownBlock ≠ some B) := ⟨Nat.le_trans hb8.out.size hBl, fun e => by subst e; exact absurd hr8.out.bx.lt (Nat.not_lt.2 hBl), fun e => absurd (hr8.out.mid.own e).2 (Nat.not_lt.2 hBl)⟩; clear hBl hBx hbe)
              | (refine (?_ : wpList _ _ _ (Oper.mk none (Op.store 26 _ _) _ _ _ _ :: _) _ _); go_must (refine wpList_store_bx rfl 26 (.tmp 27) (.tmp 174) rfl B (noP.vals (.slice none 0 0)) (noP.vals (.slice none 0 0)) rfl rfl hX9.out rfl sizeP (Pd.one noP none 0 0) rfl ?_; intro w10 hX10 hg10; have hr10 := Kpt.mk (hr9.out.other hg10 hB9.out.2.1 hB9.out.2.2); have hb10 : Kpt (Below w.heap.size w w10) := ⟨hb9.out.grown hg10 hb9.out.size (fun k h => by injection h with h; rw [← h]; exact hB9.out.1)⟩; clear hX10 hg10))
              | (go_at_call 20; go_must (refine (held_any w4.heap.size R h d F v [] _ hr10.out).mono ?_; rintro e w11 ⟨rfl, hw11⟩; subst hw11)))
            go_ret
            exact ⟨rfl, hb10.out⟩
        · have hn0 : n = 0 := by
            rcases Nat.eq_zero_or_pos n with h1 | h1
            · exact h1
            · exact absurd (hen h1) heq
          have hE8 : E = 8 := by
            have : A = [] := List.eq_nil_of_length_eq_zero (by rw [← hn.out]; exact hn0)
            rw [hE.out, this, List.drop_nil]; exact dec_nil h d
          have hq : (en != E) = true := by simpa using heq
          subst hE8 hn0
          go_wp2_with fail
          go_ret
          exact ⟨rfl, hbzw.out⟩
    · have e5 : (xn : Int) > 2000 := by omega
      go_wp2_with fail
      go_ret
      exact ⟨rfl, hbw.out⟩
end Go.Proofs.Ytigfoldobkigeaa
