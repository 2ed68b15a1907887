/-
  sess: SessNumbers' walk.
-/
import Derived.Test.YtdplndlmdhpfaaaENmM
import Derived.Lib.SlBytesConst
namespace Go.Proofs.Ytdplndlmdhpfaaa
open Go.RowKit
set_option linter.unusedVariables false
set_option linter.unusedSimpArgs false

theorem rd_marked (W : World) (zs : List Int) (kk : Nat × Nat) (n : Nat) (hn : n = zs.length) : RdAt (W.alloc (.cells (cels zs).toArray 5 kk)) (.slice (some ⟨W.heap.size, 0, none⟩) n n) zs := by
  subst hn
  refine ⟨_, _, rfl, (fun e => by cases e), Nat.le_refl _, .inr ⟨_, 0, rfl, fun j u hj => ?_⟩⟩
  rw [Nat.zero_add]
  have hh : (W.alloc (.cells (cels zs).toArray 5 kk)).heap[W.heap.size]? = some (.cells (cels zs).toArray 5 kk) := by show (W.heap.push _)[W.heap.size]? = _; simp
  simp only [World.cell?, hh]
  simpa using hj
theorem size_marked (W : World) (o : Obj) : W.heap.size < (W.alloc o).heap.size := by show W.heap.size < (W.heap.push _).size; simp
def outQ : Pd := { zP with op := 70, tg := 3 }
/-- What comes in turn. -/
def nmP (op : Int) (k : Nat) (dv : Value) : Pd := { zP with op := op, tg := (k : Int), da := dv }
set_option maxRecDepth 100000 in
set_option maxHeartbeats 16000000 in
theorem nums_any (a : Option Addr) (n c : Nat) (ks : List Int) (aa : Option Addr) (pn ac : Nat) (ps : List Pd) (w : World) (hk : RdAt w (.slice a n c) ks) (hkl : ks.length = n) (hby : Bytes ks) (hn : n ≤ maxLen) (hps : PRow w (.slice aa pn ac) ps) (hpn : ps.length = pn) :
    Calls Try.prog 6 #[.slice a n c, .slice aa pn ac] w fun e w' => e = .returned (.bool true) ∧ Below w.heap.size w w' := by
  have hA : Kpt (∀ W : World, Calls Try.prog 8 #[] W fun e w' => e = .returned (.bool true) ∧ Below W.heap.size W w') := ⟨awake_any⟩
  have hP : Kpt (∀ W : World, Calls Try.prog 10 #[] W fun e w' => e = .returned (.agg plainS.prm) ∧ Below W.heap.size W w') := ⟨plain_any⟩
  have hN : Kpt (∀ W : World, Calls Try.prog 9 #[.agg plainS.prm, .slice none 0 0, .int .u32 1] W fun e w' => (∃ S, e = .returned (.pointer (some ⟨S, 0, none⟩)) ∧ W.heap.size ≤ S ∧ Ss w' S (plainS.new 1) [] [] []) ∧ Below W.heap.size W w') := ⟨fun W => new_nil plainS 1 W⟩
  have hn63 : n ≤ 9223372036854775807 := by unfold maxLen at hn; omega
  replace hk := Kpt.mk hk
  replace hkl := Kpt.mk hkl
  replace hby := Kpt.mk hby
  replace hps := Kpt.mk hps
  replace hpn := Kpt.mk hpn
  go_enter Try.func6, Try.ntmps6
  go_wp2_with (first
    | (go_at_call 8; go_must (refine (hA.out _).mono ?_; rintro e w1 ⟨rfl, hb1⟩; replace hb1 := Kpt.mk hb1))
    | (go_at_call 10; go_must (refine (hP.out _).mono ?_; rintro e w2 ⟨rfl, hb2'⟩; have hb2 := Kpt.mk (hb1.out.trans (hb2'.mono hb1.out.size)); clear hb2'))
    | (go_at_call 9; go_must (refine (hN.out _).mono ?_; rintro e w3 ⟨⟨S, rfl, hSl, hS⟩, hb3⟩; have q3 := Kpt.mk hb3; have h3 : Kpt (NmSt w2.heap.size w3 S (plainS.new 1) 0) := ⟨⟨hS, rfl, rfl, rfl, rfl, by decide, fun b hb => by rcases hb with e | e | e | e; (rw [e]; exact hSl); all_goals (simp [Se.new, plainS, Value.ownBlock] at e)⟩⟩; clear hb3 hSl hS)))
  clear hA hP hN
  go_loopg [6, 7] 60 (fun i r6 r7 wr => ∃ (k : Nat) (s : Se), r6 = .int .u32 ((k : Int) + 1) ∧ r7 = .int .i64 (k : Int) ∧ k + i = 60 ∧ Kpt (NmSt w2.heap.size wr S s k) ∧ Kpt (Below w2.heap.size w2 wr))
  case atStart => exact ⟨0, plainS.new 1, rfl, rfl, rfl, h3, q3⟩
  case round =>
    obtain ⟨k, s, rfl, rfl, hki, hst, hq⟩ := hrel
    clear h3 q3
    by_cases hc : k < n ∧ k < 60
    · have x1 : (k : Int) < n := by omega
      have x2 : (k : Int) < 60 := by omega
      have x1d : decide ((k : Int) < n) = true := by simp; omega
      have x2d : decide ((k : Int) < 60) = true := by simp; omega
      have x3 : IntKind.u32.wrap (k : Int) = k := by rw [IntKind.wrap_u32]; omega
      have kc := fun (w : World) (C : Array Value) (n c : Nat) => Lib.run_convert_bytes_const (P := Try.prog) w 23 5 C n c Try.underlying23 Try.underlying5
      replace hc := Kpt.mk hc
      have hT : Kpt (Below wr.heap.size wr (wr.alloc (.cells (cels [112, 105, 110, 103]).toArray 5 (4, 5)))) := ⟨(Below.refl _ _).alloc (Nat.le_refl _) _⟩
      go_upto_region 9 with (first
        | (refine (?_ : wpList _ _ _ (Oper.mk _ (Op.alloc 37) _ _ _ _ :: _) _ _); go_must (refine wpList_var rfl 37 rfl _ zPdu ?_; intro Q w7 hQ hB7 hb7; have b7 : Kpt (Below wr.heap.size wr w7) := ⟨hT.out.trans (hb7.mono hT.out.size)⟩; have d7 : Kpt (RdAt w7 (.slice (some ⟨wr.heap.size, 0, none⟩) 4 4) [112, 105, 110, 103]) := ⟨(rd_marked wr [112, 105, 110, 103] (4, 5) 4 rfl).bel hb7⟩; have hQ' : Kpt (wr.heap.size < Q) := ⟨Nat.lt_of_lt_of_le (size_marked _ _) hQ⟩; have x7 := Kpt.mk hB7; clear hB7 hb7 hQ))
        | (refine (?_ : wpList _ _ _ (Oper.mk _ (Op.store 37 _ _) _ _ _ _ :: _) _ _); go_must (refine wpList_store_bx rfl 37 _ _ rfl Q zP.v (nmP 64 k (.slice (some ⟨wr.heap.size, 0, none⟩) 4 4)).v rfl rfl x7.out rfl szPdu (Pd.one (p := nmP 64 k (.slice (some ⟨wr.heap.size, 0, none⟩) 4 4)) rfl).2 rfl ?_; intro w8 hB8 hg8; have b8 := Kpt.mk (b7.out.grown hg8 b7.out.size (fun q e => by rw [← Option.some.inj e]; have := hQ'.out; omega)); have d8 : Kpt (RdAt w8 (.slice (some ⟨wr.heap.size, 0, none⟩) 4 4) [112, 105, 110, 103]) := ⟨d7.out.of_block (fun q e => hg8.block q (by have := x7.out.lt; have := hQ'.out; have e' : wr.heap.size = q := Option.some.inj e; omega) (fun e2 => by have e' : wr.heap.size = q := Option.some.inj e; have := Option.some.inj e2; have := hQ'.out; omega))⟩; have x8 := Kpt.mk hB8; clear hB8 hg8)))
      have hxk : ∃ (x m : Nat) (cb co : Nat), a = some ⟨cb, co, none⟩ ∧ (x : Int) = ks.getD k 0 ∧ x ≤ 255 ∧ m = x % 4 ∧ w8.cell? ⟨cb, co + k, none⟩ = some (.int .u8 x) := by
        have hb := hby.out k
        have h8 := (hk.out.bel hb2.out).bel (hq.out.trans (b8.out.mono hq.out.size))
        obtain ⟨_, _, e, _, _, h3⟩ := h8
        simp only [Value.slice.injEq] at e
        obtain ⟨rfl, -, rfl⟩ := e
        have hkn : k < ks.length := by have := hkl.out; have := hc.out; omega
        rcases h3 with h3 | ⟨cb, co, e', h3⟩
        · omega
        · refine ⟨(ks.getD k 0).toNat, _, cb, co, e', by omega, by omega, rfl, h3 k _ ?_⟩
          rw [show (((ks.getD k 0).toNat : Nat) : Int) = ks.getD k 0 from by omega]
          simp [cels, hkn]
      obtain ⟨x, m, cb, co, ha, hx, hx255, hm, hcell⟩ := hxk
      subst ha
      have m1 : (x : Int) % 4 = (m : Int) := by omega
      have m2 : (x : Int).tmod 4 = (m : Int) := by rw [Int.tmod_eq_emod_of_nonneg (by omega)]; omega
      have hm4 : m < 4 := by omega
      replace hx := Kpt.mk hx
      replace hm := Kpt.mk hm
      have q8 : Kpt (Below w2.heap.size w2 w8) := ⟨hq.out.trans (b8.out.mono hq.out.size)⟩
      have st8 := Kpt.mk (hst.out.below b8.out)
      have hbw : Kpt (w2.heap.size ≤ w8.heap.size) := ⟨Nat.le_trans hq.out.size b8.out.size⟩
      obtain ⟨N, hNN⟩ : ∃ N, N = wr.heap.size := ⟨_, rfl⟩
      have hNX : Kpt (¬ s.X S N) := ⟨fun e => by have := hst.out.ss.lt N e; omega⟩
      rw [← hNN] at x8 d8 ⊢
      have hNl : Kpt (N < w8.heap.size) := ⟨by have := x8.out.lt; have := hQ'.out; omega⟩
      have hD8 : Kpt (Dt (s.X S) w8 (.slice (some ⟨N, 0, none⟩) 4 4) [112, 105, 110, 103]) := ⟨d8.out, fun _ g hg => by have e' : N = g := Option.some.inj hg; rw [← e']; exact ⟨hNl.out, hNX.out⟩⟩
      have hQX : Kpt (¬ s.X S Q) := ⟨fun e => by have := hst.out.ss.lt Q e; have := hQ'.out; omega⟩
      have hQb : Kpt (w2.heap.size ≤ Q) := ⟨by have := hQ'.out; have := hq.out.size; omega⟩
      have hQN : Kpt (N < Q) := ⟨by have := hQ'.out; omega⟩
      replace hNN := Kpt.mk hNN
      clear d7 d8 x7 b7 hT hst hq
      rcases (by omega : m = 0 ∨ m = 1 ∨ m = 2 ∨ m = 3) with rfl | rfl | rfl | rfl
      · have hI : Kpt (Calls Try.prog 11 #[.pointer (some ⟨S, 0, none⟩), .agg (nmP 64 k (.slice (some ⟨N, 0, none⟩) 4 4)).v] w8 fun e w' => ∃ gv tv, e = .returned (.tuple #[gv, tv]) ∧ NmOne S s s.one w8 w' gv tv) := ⟨in_k0 S s (nmP 64 k (.slice (some ⟨N, 0, none⟩) 4 4)) _ 4 4 _ w8 st8.out.ss rfl st8.out.ov rfl hD8.out (by simp) (by show ¬ (k : Int) = 4294967295; omega) st8.out.nx⟩
        have stW := st8
        have qW := q8
        have hbW := hbw
        go_upto_region 18 with (first
          | (go_at_call 11; go_must (refine hI.out.mono ?_; rintro e w10 ⟨gv, tv, rfl, on0⟩))
          | (refine (?_ : wpList _ _ _ (Oper.mk _ (Op.load 37 _) _ _ _ _ :: _) _ _); go_must (refine wpList_load_bx rfl 37 _ rfl Q (nmP 64 k (.slice (some ⟨N, 0, none⟩) 4 4)).v rfl x8.out _ Try.underlying37 rfl szPdu ?_; have hm8 := hQN)))
        obtain ⟨st0, ou0, bl0⟩ := NmOne.next stW.out hbW.out (by omega) on0
        obtain ⟨b, bc, q, rfl, hbc0, hbc2, hBq, t7, t8, t9⟩ := ou0.ex
        have o7 := hBq.cells 7 (by simp [Pd.v])
        have o8 := hBq.cells 8 (by simp [Pd.v])
        have o9 := hBq.cells 9 (by simp [Pd.v])
        simp [Pd.v] at o7 o8 o9
        rw [t7] at o7
        rw [t8] at o8
        rw [t9] at o9
        obtain ⟨t, ht⟩ : ∃ t, t = s.one := ⟨_, rfl⟩
        rw [← ht] at st0 o8 o9
        have hstn := Kpt.mk st0
        have hqn := Kpt.mk (qW.out.trans bl0)
        have htv := on0.tv
        subst htv
        clear ht st0 ou0 bl0 on0 hBq t7 t8 t9 stW qW hbW
        obtain ⟨wx, hwx⟩ : ∃ W, W = w10 := ⟨_, rfl⟩
        rw [← hwx] at hstn hqn o7 o8 o9 ⊢
        clear hwx
        go_upto_region 19 with fail
        go_loopg [9, 11] 0 (fun i r9 r11 wv => r9 = .slice (some ⟨b, 0, none⟩) 1 bc ∧ r11 = .int .i64 0 ∧ wv = wx)
        case atStart => exact ⟨rfl, rfl, rfl⟩
        case round =>
          obtain ⟨rfl, rfl, hwv⟩ := hrel
          rw [hwv]
          clear hwv
          have z1 : IntKind.u32.wrap ((k : Int) + 1 + 1) = (k : Int) + 1 + 1 := by rw [IntKind.wrap_u32]; omega
          have z2 : IntKind.u32.wrap ((k : Int) + 5000) = (k : Int) + 5000 := by rw [IntKind.wrap_u32]; omega
          have z3 : IntKind.u32.wrap (t.next + 15) = (t.next + 15) % 4294967296 := by rw [IntKind.wrap_u32]
          have hbc1 : (1 : Int) ≤ bc := by omega
          have hEn : Kpt (∀ W, Ss W S t [] [] [] → Calls Try.prog 15 #[.pointer (some ⟨S, 0, none⟩), .int .u32 ((k : Int) + 5000), .agg (rsv (.slice none 0 0)), .bool false] W fun e w' => e = .returned (.slice none 0 0) ∧ Below W.heap.size W w') := ⟨fun W h => end_none S t [] [] [] ((k : Int) + 5000) (rsv (.slice none 0 0)) false W h hstn.out.ov (by simp) rfl⟩
          have hFg : Kpt (∀ W, Ss W S t [] [] [] → Calls Try.prog 16 #[.pointer (some ⟨S, 0, none⟩), .int .u32 ((k : Int) + 5000)] W fun e w' => e = .returned (.bool false) ∧ Below W.heap.size W w') := ⟨fun W h => forget_none S t [] [] [] ((k : Int) + 5000) W h (by simp) rfl⟩
          go_upto_region 22 with fail
          go_quiet ((go_at_call 13; exact Calls.quiet_of_same (next_any S t [] [] [] _ (hstn.out.ss.drewN _))))
          have stn1 : Kpt (NmSt w2.heap.size (wx.drewN nq) S t (k + 1)) := ⟨hstn.out.below (below_drewN (Below.refl _ _) nq)⟩
          have qn1 : Kpt (Below w2.heap.size w2 (wx.drewN nq)) := ⟨below_drewN hqn.out nq⟩
          obtain ⟨wy, hwy⟩ : ∃ W, W = wx.drewN nq := ⟨_, rfl⟩
          rw [← hwy] at stn1 qn1 ⊢
          clear hwy hstn hqn o7 o8 o9
          go_wp2_with (first
            | (go_at_call 15; go_must (refine (hEn.out _ stn1.out.ss).mono ?_; rintro e w20 ⟨rfl, hb20⟩; have st20 := Kpt.mk (stn1.out.below hb20); have q20 := Kpt.mk (qn1.out.trans (hb20.mono qn1.out.size)); clear hb20))
            | (go_at_call 16; go_must (refine (hFg.out _ st20.out.ss).mono ?_; rintro e w21 ⟨rfl, hb21⟩; have st21 := Kpt.mk (st20.out.below hb21); have q21 := Kpt.mk (q20.out.trans (hb21.mono q20.out.size)); clear hb21)))
          go_roundg (60 - k - 1)
          case measure => omega
          case rel => exact ⟨k + 1, t, by first | rfl | go_num, by first | rfl | go_num, by omega, st21, q21⟩
      · have c0 := x8.out.cells 0 (by simp [Pd.v])
        have f0 := x8.out.free 0
        simp [Pd.v, nmP, zP] at c0
        have hgr := grown_setCellK w8 ⟨Q, 0, none⟩ (.int .u8 68)
        have x9 : Kpt (Bx (w8.setCell ⟨Q, 0, none⟩ (.int .u8 68)) Q (nmP 68 k (.slice (some ⟨N, 0, none⟩) 4 4)).v) := ⟨by have := bx_setC (.int .u8 68) x8.out (j := 0) (by simp [Pd.v]); simpa [Pd.v, nmP, zP] using this⟩
        have st9 : Kpt (NmSt w2.heap.size (w8.setCell ⟨Q, 0, none⟩ (.int .u8 68)) S s k) := ⟨⟨st8.out.ss.frame (Y := fun b => b = Q) (Fr.of_grown hgr (fun b e => (Option.some.inj e).symm)) (fun b hx e => hQX.out (by rw [← e]; exact hx)), st8.out.ov, st8.out.ds, st8.out.sg, st8.out.st, st8.out.nx, st8.out.bs⟩⟩
        have q9 : Kpt (Below w2.heap.size w2 (w8.setCell ⟨Q, 0, none⟩ (.int .u8 68))) := ⟨q8.out.setCell (p := ⟨Q, 0, none⟩) hQb.out _⟩
        go_upto_region 12 with fail
        obtain ⟨w9, hw9⟩ : ∃ W, W = w8.setCell ⟨Q, 0, none⟩ (.int .u8 68) := ⟨_, rfl⟩
        rw [← hw9] at x9 st9 q9 ⊢
        clear hw9 c0 f0 hgr x8
        have xA : Kpt (Bx (w9.alloc (.cells #[.int .u8 97, .int .u8 61, .int .u8 98, .int .u8 0] 5 (4, 5))) Q (nmP 68 k (.slice (some ⟨N, 0, none⟩) 4 4)).v) := ⟨x9.out.alloc _⟩
        have c13 := xA.out.cells 13 (by simp [Pd.v])
        have f13 := xA.out.free 13
        simp [Pd.v, nmP, zP] at c13
        have hTb : Kpt (Below w9.heap.size w9 (w9.alloc (.cells #[.int .u8 97, .int .u8 61, .int .u8 98, .int .u8 0] 5 (4, 5)))) := ⟨(Below.refl _ _).alloc (Nat.le_refl _) _⟩
        have dA : Kpt (RdAt (w9.alloc (.cells #[.int .u8 97, .int .u8 61, .int .u8 98, .int .u8 0] 5 (4, 5))) (.slice (some ⟨w9.heap.size, 0, none⟩) 4 4) [97, 61, 98, 0]) := ⟨rd_marked w9 [97, 61, 98, 0] (4, 5) 4 rfl⟩
        have hgr := grown_setCellK (w9.alloc (.cells #[.int .u8 97, .int .u8 61, .int .u8 98, .int .u8 0] 5 (4, 5))) ⟨Q, 13, none⟩ (.slice (some ⟨w9.heap.size, 0, none⟩) 4 4)
        have hQ9 : Kpt (Q < w9.heap.size) := ⟨x9.out.lt⟩
        have stA := Kpt.mk (st9.out.below hTb.out)
        have xB : Kpt (Bx ((w9.alloc (.cells #[.int .u8 97, .int .u8 61, .int .u8 98, .int .u8 0] 5 (4, 5))).setCell ⟨Q, 13, none⟩ (.slice (some ⟨w9.heap.size, 0, none⟩) 4 4)) Q (nmP 68 k (.slice (some ⟨w9.heap.size, 0, none⟩) 4 4)).v) := ⟨by have := bx_setC (.slice (some ⟨w9.heap.size, 0, none⟩) 4 4) xA.out (j := 13) (by simp [Pd.v]); simpa [Pd.v, nmP, zP] using this⟩
        have stB : Kpt (NmSt w2.heap.size ((w9.alloc (.cells #[.int .u8 97, .int .u8 61, .int .u8 98, .int .u8 0] 5 (4, 5))).setCell ⟨Q, 13, none⟩ (.slice (some ⟨w9.heap.size, 0, none⟩) 4 4)) S s k) := ⟨⟨stA.out.ss.frame (Y := fun b => b = Q) (Fr.of_grown hgr (fun b e => (Option.some.inj e).symm)) (fun b hx e => hQX.out (by rw [← e]; exact hx)), stA.out.ov, stA.out.ds, stA.out.sg, stA.out.st, stA.out.nx, stA.out.bs⟩⟩
        have qW : Kpt (Below w2.heap.size w2 ((w9.alloc (.cells #[.int .u8 97, .int .u8 61, .int .u8 98, .int .u8 0] 5 (4, 5))).setCell ⟨Q, 13, none⟩ (.slice (some ⟨w9.heap.size, 0, none⟩) 4 4))) := ⟨(q9.out.trans (hTb.out.mono q9.out.size)).setCell (p := ⟨Q, 13, none⟩) hQb.out _⟩
        have dB : Kpt (Dt (s.X S) ((w9.alloc (.cells #[.int .u8 97, .int .u8 61, .int .u8 98, .int .u8 0] 5 (4, 5))).setCell ⟨Q, 13, none⟩ (.slice (some ⟨w9.heap.size, 0, none⟩) 4 4)) (.slice (some ⟨w9.heap.size, 0, none⟩) 4 4) [97, 61, 98, 0]) := ⟨dA.out.of_block (fun g e => hgr.block g (by have e' : w9.heap.size = g := Option.some.inj e; rw [← e']; exact size_marked _ _) (fun e2 => by have e' : w9.heap.size = g := Option.some.inj e; have e3 : g = Q := Option.some.inj e2; have := hQ9.out; omega)), fun _ g hg => by have e' : w9.heap.size = g := Option.some.inj hg; rw [← e']; exact ⟨Nat.lt_of_lt_of_le (size_marked _ _) hgr.size, fun e => by have := st9.out.ss.lt _ e; omega⟩⟩
        go_upto_region 17 with fail
        obtain ⟨wB, hwB⟩ : ∃ W, W = (w9.alloc (.cells #[.int .u8 97, .int .u8 61, .int .u8 98, .int .u8 0] 5 (4, 5))).setCell ⟨Q, 13, none⟩ (.slice (some ⟨w9.heap.size, 0, none⟩) 4 4) := ⟨_, rfl⟩
        rw [← hwB] at xB stB qW dB ⊢
        clear hwB c13 f13 hgr xA stA dA hTb x9
        have hI : Kpt (Calls Try.prog 11 #[.pointer (some ⟨S, 0, none⟩), .agg (nmP 68 k (.slice (some ⟨w9.heap.size, 0, none⟩) 4 4)).v] wB fun e w' => ∃ gv tv, e = .returned (.tuple #[gv, tv]) ∧ NmOne S s s.one wB w' gv tv) := ⟨in_k1 S s (nmP 68 k (.slice (some ⟨w9.heap.size, 0, none⟩) 4 4)) _ 4 wB stB.out.ss rfl stB.out.ov rfl dB.out (by unfold maxLen; omega) stB.out.nx⟩
        have stW := stB
        have hbW : Kpt (w2.heap.size ≤ wB.heap.size) := ⟨qW.out.size⟩
        go_upto_region 18 with (first
          | (go_at_call 11; go_must (refine hI.out.mono ?_; rintro e w10 ⟨gv, tv, rfl, on0⟩))
          | (refine (?_ : wpList _ _ _ (Oper.mk _ (Op.load 37 _) _ _ _ _ :: _) _ _); go_must (refine wpList_load_bx rfl 37 _ rfl Q (nmP 68 k (.slice (some ⟨w9.heap.size, 0, none⟩) 4 4)).v rfl xB.out _ Try.underlying37 rfl szPdu ?_; have hm8 := hQN)))
        obtain ⟨st0, ou0, bl0⟩ := NmOne.next stW.out hbW.out (by omega) on0
        obtain ⟨b, bc, q, rfl, hbc0, hbc2, hBq, t7, t8, t9⟩ := ou0.ex
        have o7 := hBq.cells 7 (by simp [Pd.v])
        have o8 := hBq.cells 8 (by simp [Pd.v])
        have o9 := hBq.cells 9 (by simp [Pd.v])
        simp [Pd.v] at o7 o8 o9
        rw [t7] at o7
        rw [t8] at o8
        rw [t9] at o9
        obtain ⟨t, ht⟩ : ∃ t, t = s.one := ⟨_, rfl⟩
        rw [← ht] at st0 o8 o9
        have hstn := Kpt.mk st0
        have hqn := Kpt.mk (qW.out.trans bl0)
        have htv := on0.tv
        subst htv
        clear ht st0 ou0 bl0 on0 hBq t7 t8 t9 stW qW hbW
        obtain ⟨wx, hwx⟩ : ∃ W, W = w10 := ⟨_, rfl⟩
        rw [← hwx] at hstn hqn o7 o8 o9 ⊢
        clear hwx
        go_upto_region 19 with fail
        go_loopg [9, 11] 0 (fun i r9 r11 wv => r9 = .slice (some ⟨b, 0, none⟩) 1 bc ∧ r11 = .int .i64 0 ∧ wv = wx)
        case atStart => exact ⟨rfl, rfl, rfl⟩
        case round =>
          obtain ⟨rfl, rfl, hwv⟩ := hrel
          rw [hwv]
          clear hwv
          have z1 : IntKind.u32.wrap ((k : Int) + 1 + 1) = (k : Int) + 1 + 1 := by rw [IntKind.wrap_u32]; omega
          have z2 : IntKind.u32.wrap ((k : Int) + 5000) = (k : Int) + 5000 := by rw [IntKind.wrap_u32]; omega
          have z3 : IntKind.u32.wrap (t.next + 15) = (t.next + 15) % 4294967296 := by rw [IntKind.wrap_u32]
          have hbc1 : (1 : Int) ≤ bc := by omega
          have hEn : Kpt (∀ W, Ss W S t [] [] [] → Calls Try.prog 15 #[.pointer (some ⟨S, 0, none⟩), .int .u32 ((k : Int) + 5000), .agg (rsv (.slice none 0 0)), .bool false] W fun e w' => e = .returned (.slice none 0 0) ∧ Below W.heap.size W w') := ⟨fun W h => end_none S t [] [] [] ((k : Int) + 5000) (rsv (.slice none 0 0)) false W h hstn.out.ov (by simp) rfl⟩
          have hFg : Kpt (∀ W, Ss W S t [] [] [] → Calls Try.prog 16 #[.pointer (some ⟨S, 0, none⟩), .int .u32 ((k : Int) + 5000)] W fun e w' => e = .returned (.bool false) ∧ Below W.heap.size W w') := ⟨fun W h => forget_none S t [] [] [] ((k : Int) + 5000) W h (by simp) rfl⟩
          go_upto_region 22 with fail
          go_quiet ((go_at_call 13; exact Calls.quiet_of_same (next_any S t [] [] [] _ (hstn.out.ss.drewN _))))
          have stn1 : Kpt (NmSt w2.heap.size (wx.drewN nq) S t (k + 1)) := ⟨hstn.out.below (below_drewN (Below.refl _ _) nq)⟩
          have qn1 : Kpt (Below w2.heap.size w2 (wx.drewN nq)) := ⟨below_drewN hqn.out nq⟩
          obtain ⟨wy, hwy⟩ : ∃ W, W = wx.drewN nq := ⟨_, rfl⟩
          rw [← hwy] at stn1 qn1 ⊢
          clear hwy hstn hqn o7 o8 o9
          go_wp2_with (first
            | (go_at_call 15; go_must (refine (hEn.out _ stn1.out.ss).mono ?_; rintro e w20 ⟨rfl, hb20⟩; have st20 := Kpt.mk (stn1.out.below hb20); have q20 := Kpt.mk (qn1.out.trans (hb20.mono qn1.out.size)); clear hb20))
            | (go_at_call 16; go_must (refine (hFg.out _ st20.out.ss).mono ?_; rintro e w21 ⟨rfl, hb21⟩; have st21 := Kpt.mk (st20.out.below hb21); have q21 := Kpt.mk (q20.out.trans (hb21.mono q20.out.size)); clear hb21)))
          go_roundg (60 - k - 1)
          case measure => omega
          case rel => exact ⟨k + 1, t, by first | rfl | go_num, by first | rfl | go_num, by omega, st21, q21⟩
      · have c0 := x8.out.cells 0 (by simp [Pd.v])
        have f0 := x8.out.free 0
        simp [Pd.v, nmP, zP] at c0
        have hgr := grown_setCellK w8 ⟨Q, 0, none⟩ (.int .u8 62)
        have x9 : Kpt (Bx (w8.setCell ⟨Q, 0, none⟩ (.int .u8 62)) Q (nmP 62 k (.slice (some ⟨N, 0, none⟩) 4 4)).v) := ⟨by have := bx_setC (.int .u8 62) x8.out (j := 0) (by simp [Pd.v]); simpa [Pd.v, nmP, zP] using this⟩
        have st9 : Kpt (NmSt w2.heap.size (w8.setCell ⟨Q, 0, none⟩ (.int .u8 62)) S s k) := ⟨⟨st8.out.ss.frame (Y := fun b => b = Q) (Fr.of_grown hgr (fun b e => (Option.some.inj e).symm)) (fun b hx e => hQX.out (by rw [← e]; exact hx)), st8.out.ov, st8.out.ds, st8.out.sg, st8.out.st, st8.out.nx, st8.out.bs⟩⟩
        have qW : Kpt (Below w2.heap.size w2 (w8.setCell ⟨Q, 0, none⟩ (.int .u8 62))) := ⟨q8.out.setCell (p := ⟨Q, 0, none⟩) hQb.out _⟩
        go_upto_region 17 with fail
        obtain ⟨w9, hw9⟩ : ∃ W, W = w8.setCell ⟨Q, 0, none⟩ (.int .u8 62) := ⟨_, rfl⟩
        rw [← hw9] at x9 st9 qW ⊢
        clear hw9 c0 f0 hgr x8
        have hI : Kpt (Calls Try.prog 11 #[.pointer (some ⟨S, 0, none⟩), .agg (nmP 62 k (.slice (some ⟨N, 0, none⟩) 4 4)).v] w9 fun e w' => ∃ gv tv, e = .returned (.tuple #[gv, tv]) ∧ NmOne S s s.one w9 w' gv tv) := ⟨in_k2 S s (nmP 62 k (.slice (some ⟨N, 0, none⟩) 4 4)) _ 4 4 w9 st9.out.ss rfl st9.out.ov rfl (by omega) (by intro x hx; simp [nmP, zP] at hx; omega) st9.out.nx⟩
        have stW := st9
        have hbW : Kpt (w2.heap.size ≤ w9.heap.size) := ⟨qW.out.size⟩
        go_upto_region 18 with (first
          | (go_at_call 11; go_must (refine hI.out.mono ?_; rintro e w10 ⟨gv, tv, rfl, on0⟩))
          | (refine (?_ : wpList _ _ _ (Oper.mk _ (Op.load 37 _) _ _ _ _ :: _) _ _); go_must (refine wpList_load_bx rfl 37 _ rfl Q (nmP 62 k (.slice (some ⟨N, 0, none⟩) 4 4)).v rfl x9.out _ Try.underlying37 rfl szPdu ?_; have hm8 := hQN)))
        obtain ⟨st0, ou0, bl0⟩ := NmOne.next stW.out hbW.out (by omega) on0
        obtain ⟨b, bc, q, rfl, hbc0, hbc2, hBq, t7, t8, t9⟩ := ou0.ex
        have o7 := hBq.cells 7 (by simp [Pd.v])
        have o8 := hBq.cells 8 (by simp [Pd.v])
        have o9 := hBq.cells 9 (by simp [Pd.v])
        simp [Pd.v] at o7 o8 o9
        rw [t7] at o7
        rw [t8] at o8
        rw [t9] at o9
        obtain ⟨t, ht⟩ : ∃ t, t = s.one := ⟨_, rfl⟩
        rw [← ht] at st0 o8 o9
        have hstn := Kpt.mk st0
        have hqn := Kpt.mk (qW.out.trans bl0)
        have htv := on0.tv
        subst htv
        clear ht st0 ou0 bl0 on0 hBq t7 t8 t9 stW qW hbW
        obtain ⟨wx, hwx⟩ : ∃ W, W = w10 := ⟨_, rfl⟩
        rw [← hwx] at hstn hqn o7 o8 o9 ⊢
        clear hwx
        go_upto_region 19 with fail
        go_loopg [9, 11] 0 (fun i r9 r11 wv => r9 = .slice (some ⟨b, 0, none⟩) 1 bc ∧ r11 = .int .i64 0 ∧ wv = wx)
        case atStart => exact ⟨rfl, rfl, rfl⟩
        case round =>
          obtain ⟨rfl, rfl, hwv⟩ := hrel
          rw [hwv]
          clear hwv
          have z1 : IntKind.u32.wrap ((k : Int) + 1 + 1) = (k : Int) + 1 + 1 := by rw [IntKind.wrap_u32]; omega
          have z2 : IntKind.u32.wrap ((k : Int) + 5000) = (k : Int) + 5000 := by rw [IntKind.wrap_u32]; omega
          have z3 : IntKind.u32.wrap (t.next + 15) = (t.next + 15) % 4294967296 := by rw [IntKind.wrap_u32]
          have hbc1 : (1 : Int) ≤ bc := by omega
          have hEn : Kpt (∀ W, Ss W S t [] [] [] → Calls Try.prog 15 #[.pointer (some ⟨S, 0, none⟩), .int .u32 ((k : Int) + 5000), .agg (rsv (.slice none 0 0)), .bool false] W fun e w' => e = .returned (.slice none 0 0) ∧ Below W.heap.size W w') := ⟨fun W h => end_none S t [] [] [] ((k : Int) + 5000) (rsv (.slice none 0 0)) false W h hstn.out.ov (by simp) rfl⟩
          have hFg : Kpt (∀ W, Ss W S t [] [] [] → Calls Try.prog 16 #[.pointer (some ⟨S, 0, none⟩), .int .u32 ((k : Int) + 5000)] W fun e w' => e = .returned (.bool false) ∧ Below W.heap.size W w') := ⟨fun W h => forget_none S t [] [] [] ((k : Int) + 5000) W h (by simp) rfl⟩
          go_upto_region 22 with fail
          go_quiet ((go_at_call 13; exact Calls.quiet_of_same (next_any S t [] [] [] _ (hstn.out.ss.drewN _))))
          have stn1 : Kpt (NmSt w2.heap.size (wx.drewN nq) S t (k + 1)) := ⟨hstn.out.below (below_drewN (Below.refl _ _) nq)⟩
          have qn1 : Kpt (Below w2.heap.size w2 (wx.drewN nq)) := ⟨below_drewN hqn.out nq⟩
          obtain ⟨wy, hwy⟩ : ∃ W, W = wx.drewN nq := ⟨_, rfl⟩
          rw [← hwy] at stn1 qn1 ⊢
          clear hwy hstn hqn o7 o8 o9
          go_wp2_with (first
            | (go_at_call 15; go_must (refine (hEn.out _ stn1.out.ss).mono ?_; rintro e w20 ⟨rfl, hb20⟩; have st20 := Kpt.mk (stn1.out.below hb20); have q20 := Kpt.mk (qn1.out.trans (hb20.mono qn1.out.size)); clear hb20))
            | (go_at_call 16; go_must (refine (hFg.out _ st20.out.ss).mono ?_; rintro e w21 ⟨rfl, hb21⟩; have st21 := Kpt.mk (st20.out.below hb21); have q21 := Kpt.mk (q20.out.trans (hb21.mono q20.out.size)); clear hb21)))
          go_roundg (60 - k - 1)
          case measure => omega
          case rel => exact ⟨k + 1, t, by first | rfl | go_num, by first | rfl | go_num, by omega, st21, q21⟩
      · have hNx : Kpt (Calls Try.prog 13 #[.pointer (some ⟨S, 0, none⟩)] w8 fun e w' => e = .returned (.int .u32 s.next) ∧ w' = w8) := ⟨next_any S s [] [] [] w8 st8.out.ss⟩
        have hRd : Kpt (∀ W : World, Calls Try.prog 12 #[.int .u32 (k : Int), .int .u32 s.next, .int .u32 0] W fun e w' => e = .returned (.agg (rdP k s.next 0).v) ∧ Below W.heap.size W w') := ⟨fun W => read_any k s.next 0 W⟩
        have hI3 : Kpt (∀ W, NmSt w2.heap.size W S s k → w2.heap.size ≤ W.heap.size → Calls Try.prog 11 #[.pointer (some ⟨S, 0, none⟩), .agg (rdP k s.next 0).v] W fun e w' => ∃ ga gc b c s', e = .returned (.tuple #[.slice ga 0 gc, .slice (some ⟨b, 0, none⟩) 1 c]) ∧ 1 ≤ c ∧ c ≤ 9223372036854775807 ∧ w'.cell? ⟨b, 0, none⟩ = some (.int .u32 k) ∧ NmMid w2.heap.size w' S s' k k ∧ s'.next = (s.next + 1) % 4294967296 ∧ Below w2.heap.size W w' ∧ OwnR 37 14 w' (.slice ga 0 gc) [] ∧ (∀ x, (Value.slice ga 0 gc).ownBlock = some x → ¬ s'.X S x ∧ w2.heap.size ≤ x)) := ⟨fun W h hb => in_n3 w2.heap.size S k s k W h hb (by omega)⟩
        go_upto_region 18 with (first
          | (go_at_call 13; go_must (refine hNx.out.mono ?_; rintro e wz ⟨rfl, hwz⟩; rw [hwz]; clear hwz))
          | (go_at_call 12; go_must (refine (hRd.out _).mono ?_; rintro e w9 ⟨rfl, hb9⟩; have x9 := Kpt.mk (x8.out.below hb9 x8.out.lt); have st9 := Kpt.mk (st8.out.below hb9); have q9 := Kpt.mk (q8.out.trans (hb9.mono hbw.out)); clear hb9))
          | (refine (?_ : wpList _ _ _ (Oper.mk _ (Op.store 37 _ _) _ _ _ _ :: _) _ _); go_must (refine wpList_store_bx rfl 37 _ _ rfl Q (nmP 64 k (.slice (some ⟨N, 0, none⟩) 4 4)).v (rdP k s.next 0).v rfl rfl x9.out rfl szPdu (Pd.one (p := rdP k s.next 0) rfl).2 rfl ?_; intro w11 hB11 hg11; have q11 := Kpt.mk (q9.out.grown hg11 q9.out.size (fun q e => by rw [← Option.some.inj e]; exact hQb.out)); have st11 : Kpt (NmSt w2.heap.size w11 S s k) := ⟨⟨st9.out.ss.frame (Y := fun b => b = Q) (Fr.of_grown hg11 (fun b e => (Option.some.inj e).symm)) (fun b hx e => hQX.out (by rw [← e]; exact hx)), st9.out.ov, st9.out.ds, st9.out.sg, st9.out.st, st9.out.nx, st9.out.bs⟩⟩; have x11 := Kpt.mk hB11; clear hB11 hg11))
          | (refine (?_ : wpList _ _ _ (Oper.mk _ (Op.load 37 _) _ _ _ _ :: _) _ _); go_must (refine wpList_load_bx rfl 37 _ rfl Q (rdP k s.next 0).v rfl x11.out _ Try.underlying37 rfl szPdu ?_; have hm8 := hQN))
          | (go_at_call 11; go_must (refine (hI3.out _ st11.out q11.out.size).mono ?_; rintro e w12 ⟨ga, gc, tb, tc, s', rfl, htc1, htc2, ct, hmid, hnx', hb12, hgo, hgx⟩; have q12 := Kpt.mk (q11.out.trans hb12); replace hmid := Kpt.mk hmid; replace hnx' := Kpt.mk hnx'; replace hgo := Kpt.mk hgo; replace hgx := Kpt.mk hgx; clear hb12)))
        have hEn3 : Kpt (∀ W, NmMid w2.heap.size W S s' k k → w2.heap.size ≤ W.heap.size → Calls Try.prog 15 #[.pointer (some ⟨S, 0, none⟩), .int .u32 (k : Int), .agg (rsv (.slice none 0 0)), .bool false] W fun e w' => ∃ v t q, e = .returned v ∧ NmSt w2.heap.size w' S t (k + 1) ∧ t.next = s'.next ∧ Below w2.heap.size W w' ∧ OwnR 37 14 w' v [Pd.v q] ∧ q.w1 = (k : Int) + 1 ∧ q.w2 = s'.next ∧ q.w3 = (s'.next + 15) % 4294967296 ∧ St S W w' s' t) := ⟨fun W h hb => end_n3 w2.heap.size S k s' k W h hb (by omega)⟩
        have htc3 : (1 : Int) ≤ tc := by omega
        clear x8 x9 x11 st8 st9 st11 q8 q9 q11 hNx hRd hI3 hD8
        go_upto_region 19 with fail
        go_loopg [9, 11] 1 (fun i r9 r11 wv => (i = 1 ∧ r9 = .slice ga 0 gc ∧ r11 = .int .i64 0 ∧ wv = w12) ∨ (i = 0 ∧ r11 = .int .i64 1 ∧ Kpt (∃ t b bc q, r9 = .slice (some ⟨b, 0, none⟩) 1 bc ∧ 1 ≤ bc ∧ bc ≤ 9223372036854775807 ∧ Bx wv b (Pd.v q) ∧ q.w1 = (k : Int) + 1 ∧ q.w2 = t.next ∧ q.w3 = (t.next + 15) % 4294967296 ∧ NmSt w2.heap.size wv S t (k + 1) ∧ Below w2.heap.size w2 wv)))
        case atStart => exact .inl ⟨rfl, rfl, rfl, rfl⟩
        case round =>
          rcases hrel with ⟨hi, rfl, rfl, hwv⟩ | ⟨hi, rfl, hex⟩
          · rw [hwv]
            clear hwv
            go_wp2_with (first
              | (go_at_call 15; go_must (refine (hEn3.out _ hmid.out q12.out.size).mono ?_; rintro e w13 ⟨v, t, q, rfl, hst13, hnt, hb13, ho13, t7, t8, t9, hS13⟩; have q13 := Kpt.mk (q12.out.trans hb13); have hgo13 : Kpt (OwnR 37 14 w13 (.slice ga 0 gc) []) := ⟨hgo.out.of_block (fun x hx => hS13.fr.block x (hgo.out.lt hx) (hgx.out x hx).1)⟩; have hgn : Kpt (∀ x, (Value.slice ga 0 gc).ownBlock = some x → ¬ t.X S x) := ⟨fun x hx e => by rcases hS13.new x e with e | e; exact (hgx.out x hx).1 e; have := hgo.out.lt hx; omega⟩; obtain ⟨vb, vc, rfl, _, _, _⟩ := ownR_oneS ho13; replace ho13 := Kpt.mk ho13; replace hst13 := Kpt.mk hst13; replace hnt := Kpt.mk hnt; replace t7 := Kpt.mk t7; replace t8 := Kpt.mk t8; replace t9 := Kpt.mk t9; clear hb13 hS13))
              | (refine (?_ : wpList _ _ _ (Oper.mk (some 81) _ _ _ _ _ :: _) _ _); go_must (refine wpList_append_row rfl 31 37 14 64 _ Try.underlying31 infoPdu rfl (by decide) (by decide) _ _ rfl (.slice ga 0 gc) (.slice (some ⟨vb, 0, none⟩) 1 vc) [] [Pd.v q] rfl rfl hgo13.out ho13.out.rd (by simp) (by simp) ?_; intro tv' w14 ho14 hg14 hor14)))
            go_roundg 0
            case measure => omega
            case rel =>
              refine .inr ⟨rfl, by first | rfl | go_num, ⟨?_⟩⟩
              have ho := ho14.out
              simp only [List.nil_append] at ho
              obtain ⟨b, bc, hv, _, hb1, hb2'⟩ := ownR_oneS ho
              rw [hv] at ho
              refine ⟨t, b, bc, q, hv, hb1, hb2', ownR_bx ho, t7.out, by rw [t8.out, hnt.out], by rw [t9.out, hnt.out], ⟨hst13.out.ss.frame (Y := fun x => (Value.slice ga 0 gc).ownBlock = some x) (Fr.of_grown hg14.out (fun x e => e)) (fun x hx e => hgn.out x e hx), hst13.out.ov, hst13.out.ds, hst13.out.sg, hst13.out.st, hst13.out.nx, hst13.out.bs⟩, q13.out.grown hg14.out q13.out.size (fun x e => (hgx.out x e).2)⟩
          · obtain ⟨t, b, bc, q, rfl, hbc0, hbc2, hBq, t7, t8, t9, hst0, hq0⟩ := hex.out
            have o7 := hBq.cells 7 (by simp [Pd.v])
            have o8 := hBq.cells 8 (by simp [Pd.v])
            have o9 := hBq.cells 9 (by simp [Pd.v])
            simp [Pd.v] at o7 o8 o9
            rw [t7] at o7
            rw [t8] at o8
            rw [t9] at o9
            have hstn := Kpt.mk hst0
            have hqn := Kpt.mk hq0
            clear hex hBq t7 t8 t9 hst0 hq0
            obtain ⟨wx, hwx⟩ : ∃ W, W = wr := ⟨_, rfl⟩
            rw [← hwx] at hstn hqn o7 o8 o9 ⊢
            clear hwx
            have z1 : IntKind.u32.wrap ((k : Int) + 1 + 1) = (k : Int) + 1 + 1 := by rw [IntKind.wrap_u32]; omega
            have z2 : IntKind.u32.wrap ((k : Int) + 5000) = (k : Int) + 5000 := by rw [IntKind.wrap_u32]; omega
            have z3 : IntKind.u32.wrap (t.next + 15) = (t.next + 15) % 4294967296 := by rw [IntKind.wrap_u32]
            have hbc1 : (1 : Int) ≤ bc := by omega
            have hEn : Kpt (∀ W, Ss W S t [] [] [] → Calls Try.prog 15 #[.pointer (some ⟨S, 0, none⟩), .int .u32 ((k : Int) + 5000), .agg (rsv (.slice none 0 0)), .bool false] W fun e w' => e = .returned (.slice none 0 0) ∧ Below W.heap.size W w') := ⟨fun W h => end_none S t [] [] [] ((k : Int) + 5000) (rsv (.slice none 0 0)) false W h hstn.out.ov (by simp) rfl⟩
            have hFg : Kpt (∀ W, Ss W S t [] [] [] → Calls Try.prog 16 #[.pointer (some ⟨S, 0, none⟩), .int .u32 ((k : Int) + 5000)] W fun e w' => e = .returned (.bool false) ∧ Below W.heap.size W w') := ⟨fun W h => forget_none S t [] [] [] ((k : Int) + 5000) W h (by simp) rfl⟩
            go_upto_region 22 with fail
            go_quiet ((go_at_call 13; exact Calls.quiet_of_same (next_any S t [] [] [] _ (hstn.out.ss.drewN _))))
            have stn1 : Kpt (NmSt w2.heap.size (wx.drewN nq) S t (k + 1)) := ⟨hstn.out.below (below_drewN (Below.refl _ _) nq)⟩
            have qn1 : Kpt (Below w2.heap.size w2 (wx.drewN nq)) := ⟨below_drewN hqn.out nq⟩
            obtain ⟨wy, hwy⟩ : ∃ W, W = wx.drewN nq := ⟨_, rfl⟩
            rw [← hwy] at stn1 qn1 ⊢
            clear hwy hstn hqn o7 o8 o9
            go_wp2_with (first
              | (go_at_call 15; go_must (refine (hEn.out _ stn1.out.ss).mono ?_; rintro e w20 ⟨rfl, hb20⟩; have st20 := Kpt.mk (stn1.out.below hb20); have q20 := Kpt.mk (qn1.out.trans (hb20.mono qn1.out.size)); clear hb20))
              | (go_at_call 16; go_must (refine (hFg.out _ st20.out.ss).mono ?_; rintro e w21 ⟨rfl, hb21⟩; have st21 := Kpt.mk (st20.out.below hb21); have q21 := Kpt.mk (q20.out.trans (hb21.mono q20.out.size)); clear hb21)))
            go_roundg (60 - k - 1)
            case measure => omega
            case rel => exact ⟨k + 1, t, by first | rfl | go_num, by first | rfl | go_num, by omega, st21, q21⟩
    · have hcond : (¬ (k : Int) < n ∧ decide ((k : Int) < n) = false) ∨ ((k : Int) < n ∧ decide ((k : Int) < n) = true ∧ ¬ (k : Int) < 60 ∧ decide ((k : Int) < 60) = false) := by
        by_cases h1 : k < n
        · right; refine ⟨by omega, by simp; omega, by omega, by simp; omega⟩
        · left; refine ⟨by omega, by simp; omega⟩
      have hI4 : Kpt (∀ W, NmSt w2.heap.size W S s k → Calls Try.prog 11 #[.pointer (some ⟨S, 0, none⟩), .agg outQ.v] W fun e w' => ∃ gv tv s', e = .returned (.tuple #[gv, tv]) ∧ s'.over = true ∧ Ss w' S s' [] [] [] ∧ St S W w' s s' ∧ ∃ b q, gv = .slice (some ⟨b, 0, none⟩) 1 1 ∧ Bx w' b (Pd.v q) ∧ q.op = 38) := ⟨fun W h => in_k4 S s outQ W h.ss rfl h.ov h.nx⟩
      have hIo : Kpt (∀ W s' (p : Pd), Ss W S s' [] [] [] → s'.over = true → Calls Try.prog 11 #[.pointer (some ⟨S, 0, none⟩), .agg p.v] W fun e w' => e = .returned (.tuple #[.slice none 0 0, .slice none 0 0]) ∧ Below W.heap.size W w') := ⟨fun W s' p h ho => in_over S s' [] [] [] p W h ho⟩
      replace hc := Kpt.mk hc
      rcases hcond with ⟨hd0, hd1⟩ | ⟨hd0, hd1, hd3, hd2⟩
      · go_upto_region 28 with (go_at_call 11; go_must (refine (hI4.out _ hst.out).mono ?_; rintro e w10 ⟨gv, tv, s', rfl, hov, hS10, hst10, b, q, rfl, hBq, t0⟩; have c0 := hBq.cells 0 (by simp [Pd.v]); simp [Pd.v] at c0; rw [t0] at c0; have q10 : Kpt (Below w2.heap.size w2 w10) := ⟨hq.out.trans (hst10.fr.below hq.out.size (fun x hx => hst.out.bs x hx))⟩; replace hS10 := Kpt.mk hS10; replace hov := Kpt.mk hov; clear hBq hst10 t0))
        go_wp2_with (go_at_call 17; go_must (refine (over_any S s' [] [] [] _ hS10.out).mono ?_; rintro e wz ⟨rfl, hwz⟩; rw [hwz, hov.out]; clear hwz))
        clear hst hq
        go_loopg [14] 20 (fun i r14 wv => ∃ j : Nat, r14 = .int .i64 (j : Int) ∧ j + i = 20 ∧ Kpt (Below w10.heap.size w10 wv))
        case atStart => exact ⟨0, rfl, rfl, ⟨Below.refl _ _⟩⟩
        case round =>
          obtain ⟨j, rfl, hji, hbv⟩ := hrel
          have hSv := Kpt.mk (hS10.out.below hbv.out)
          have qv : Kpt (Below w2.heap.size w2 wr) := ⟨q10.out.trans (hbv.out.mono q10.out.size)⟩
          by_cases hj : j < pn ∧ j < 20
          · have y1d : decide ((j : Int) < pn) = true := by simp; omega
            have y2d : decide ((j : Int) < 20) = true := by simp; omega
            have y1 : (j : Int) < pn := by omega
            have y2 : (j : Int) < 20 := by omega
            obtain ⟨a5, c5, e5, h51, h52, h53⟩ := hps.out.ex
            rw [hpn.out] at e5 h51 h53
            simp only [Value.slice.injEq] at e5
            obtain ⟨rfl, -, rfl⟩ := e5
            obtain ⟨pb, po, rfl, hpb, hpr⟩ := h53 (by omega)
            obtain ⟨pj, hpj⟩ : ∃ pj, ps[j]? = some pj := ⟨_, List.getElem?_eq_getElem (by have := hpn.out; omega)⟩
            have hw : Below w.heap.size w wr := hb2.out.trans (qv.out.mono hb2.out.size)
            have rz : Kpt (wr.rangeAt pb (po + j * 14) pj.v.toList) := ⟨rangeAt_block (hpr j pj hpj) (hw.block pb hpb)⟩
            have y3 : (pn : Int) ≤ ac := by omega
            have y4 : ac ≤ 9223372036854775807 := by unfold maxLen at h52; omega
            replace hj := Kpt.mk hj
            clear hpr hpj hw h51 h52
            go_wp2_with (first
              | (go_at_call 11; go_must (refine (hIo.out _ s' pj hSv.out hov.out).mono ?_; rintro e w12 ⟨rfl, hb12⟩; have S12 := Kpt.mk (hSv.out.below hb12); have b12 := Kpt.mk (hbv.out.trans (hb12.mono hbv.out.size)); clear hb12))
              | (go_at_call 18; go_must (refine (told_over S s' [] [] [] 1 0 _ S12.out hov.out).mono ?_; rintro e wz ⟨rfl, hwz⟩; rw [hwz]; clear hwz))
              | (refine (?_ : wpList _ _ _ (Oper.mk _ (Op.load 37 _) _ _ _ _ :: _) _ _); go_must (refine wpList_load_mid rfl 37 _ rfl pb (po + j * 14) rfl pj.v.toList _ rz.out Try.underlying37 rfl szPdu ?_; have hld := rz)))
            go_roundg (20 - j - 1)
            case measure => have := hj.out; omega
            case rel => exact ⟨j + 1, by first | rfl | go_num, by have := hj.out; omega, b12⟩
          · have hcj : (¬ (j : Int) < pn ∧ decide ((j : Int) < pn) = false) ∨ ((j : Int) < pn ∧ decide ((j : Int) < pn) = true ∧ ¬ (j : Int) < 20 ∧ decide ((j : Int) < 20) = false) := by
              by_cases h1 : j < pn
              · right; refine ⟨by omega, by simp; omega, by omega, by simp; omega⟩
              · left; refine ⟨by omega, by simp; omega⟩
            have hfin : Kpt (∀ W, Below wr.heap.size wr W → Below w.heap.size w W) := ⟨fun W hb => hb2.out.trans ((qv.out.trans (hb.mono qv.out.size)).mono hb2.out.size)⟩
            replace hj := Kpt.mk hj
            rcases hcj with ⟨hj0, hj1⟩ | ⟨hj0, hj1, hj3, hj2⟩
            · go_wp2_with (first
                | (go_at_call 11; go_must (refine (in_nil zP _).mono ?_; rintro e w13 ⟨rfl, hb13⟩; replace hb13 := Kpt.mk hb13))
                | (go_at_call 15; go_must (refine (end_nilS 0 true (.slice none 0 0) _).mono ?_; rintro e w14 ⟨rfl, hb14⟩; have b14 := Kpt.mk (hb13.out.trans (hb14.mono hb13.out.size)); clear hb14))
                | (go_at_call 18; go_must (refine (told_nil 0 0 _).mono ?_; rintro e wz ⟨rfl, hwz⟩; rw [hwz]; clear hwz))
                | (go_at_call 16; go_must (refine (forget_nil 0 _).mono ?_; rintro e wz ⟨rfl, hwz⟩; rw [hwz]; clear hwz))
                | (go_at_call 17; go_must (refine (over_nil _).mono ?_; rintro e wz ⟨rfl, hwz⟩; rw [hwz]; clear hwz))
                | (go_at_call 14; go_must (refine (waits_nil _).mono ?_; rintro e wz ⟨rfl, hwz⟩; rw [hwz]; clear hwz))
                | (go_at_call 13; go_must (refine (next_nil _).mono ?_; rintro e wz ⟨rfl, hwz⟩; rw [hwz]; clear hwz)))
              go_ret
              exact ⟨rfl, hfin.out _ b14.out⟩
            · go_wp2_with (first
                | (go_at_call 11; go_must (refine (in_nil zP _).mono ?_; rintro e w13 ⟨rfl, hb13⟩; replace hb13 := Kpt.mk hb13))
                | (go_at_call 15; go_must (refine (end_nilS 0 true (.slice none 0 0) _).mono ?_; rintro e w14 ⟨rfl, hb14⟩; have b14 := Kpt.mk (hb13.out.trans (hb14.mono hb13.out.size)); clear hb14))
                | (go_at_call 18; go_must (refine (told_nil 0 0 _).mono ?_; rintro e wz ⟨rfl, hwz⟩; rw [hwz]; clear hwz))
                | (go_at_call 16; go_must (refine (forget_nil 0 _).mono ?_; rintro e wz ⟨rfl, hwz⟩; rw [hwz]; clear hwz))
                | (go_at_call 17; go_must (refine (over_nil _).mono ?_; rintro e wz ⟨rfl, hwz⟩; rw [hwz]; clear hwz))
                | (go_at_call 14; go_must (refine (waits_nil _).mono ?_; rintro e wz ⟨rfl, hwz⟩; rw [hwz]; clear hwz))
                | (go_at_call 13; go_must (refine (next_nil _).mono ?_; rintro e wz ⟨rfl, hwz⟩; rw [hwz]; clear hwz)))
              go_ret
              exact ⟨rfl, hfin.out _ b14.out⟩
      · go_upto_region 28 with (go_at_call 11; go_must (refine (hI4.out _ hst.out).mono ?_; rintro e w10 ⟨gv, tv, s', rfl, hov, hS10, hst10, b, q, rfl, hBq, t0⟩; have c0 := hBq.cells 0 (by simp [Pd.v]); simp [Pd.v] at c0; rw [t0] at c0; have q10 : Kpt (Below w2.heap.size w2 w10) := ⟨hq.out.trans (hst10.fr.below hq.out.size (fun x hx => hst.out.bs x hx))⟩; replace hS10 := Kpt.mk hS10; replace hov := Kpt.mk hov; clear hBq hst10 t0))
        go_wp2_with (go_at_call 17; go_must (refine (over_any S s' [] [] [] _ hS10.out).mono ?_; rintro e wz ⟨rfl, hwz⟩; rw [hwz, hov.out]; clear hwz))
        clear hst hq
        go_loopg [14] 20 (fun i r14 wv => ∃ j : Nat, r14 = .int .i64 (j : Int) ∧ j + i = 20 ∧ Kpt (Below w10.heap.size w10 wv))
        case atStart => exact ⟨0, rfl, rfl, ⟨Below.refl _ _⟩⟩
        case round =>
          obtain ⟨j, rfl, hji, hbv⟩ := hrel
          have hSv := Kpt.mk (hS10.out.below hbv.out)
          have qv : Kpt (Below w2.heap.size w2 wr) := ⟨q10.out.trans (hbv.out.mono q10.out.size)⟩
          by_cases hj : j < pn ∧ j < 20
          · have y1d : decide ((j : Int) < pn) = true := by simp; omega
            have y2d : decide ((j : Int) < 20) = true := by simp; omega
            have y1 : (j : Int) < pn := by omega
            have y2 : (j : Int) < 20 := by omega
            obtain ⟨a5, c5, e5, h51, h52, h53⟩ := hps.out.ex
            rw [hpn.out] at e5 h51 h53
            simp only [Value.slice.injEq] at e5
            obtain ⟨rfl, -, rfl⟩ := e5
            obtain ⟨pb, po, rfl, hpb, hpr⟩ := h53 (by omega)
            obtain ⟨pj, hpj⟩ : ∃ pj, ps[j]? = some pj := ⟨_, List.getElem?_eq_getElem (by have := hpn.out; omega)⟩
            have hw : Below w.heap.size w wr := hb2.out.trans (qv.out.mono hb2.out.size)
            have rz : Kpt (wr.rangeAt pb (po + j * 14) pj.v.toList) := ⟨rangeAt_block (hpr j pj hpj) (hw.block pb hpb)⟩
            have y3 : (pn : Int) ≤ ac := by omega
            have y4 : ac ≤ 9223372036854775807 := by unfold maxLen at h52; omega
            replace hj := Kpt.mk hj
            clear hpr hpj hw h51 h52
            go_wp2_with (first
              | (go_at_call 11; go_must (refine (hIo.out _ s' pj hSv.out hov.out).mono ?_; rintro e w12 ⟨rfl, hb12⟩; have S12 := Kpt.mk (hSv.out.below hb12); have b12 := Kpt.mk (hbv.out.trans (hb12.mono hbv.out.size)); clear hb12))
              | (go_at_call 18; go_must (refine (told_over S s' [] [] [] 1 0 _ S12.out hov.out).mono ?_; rintro e wz ⟨rfl, hwz⟩; rw [hwz]; clear hwz))
              | (refine (?_ : wpList _ _ _ (Oper.mk _ (Op.load 37 _) _ _ _ _ :: _) _ _); go_must (refine wpList_load_mid rfl 37 _ rfl pb (po + j * 14) rfl pj.v.toList _ rz.out Try.underlying37 rfl szPdu ?_; have hld := rz)))
            go_roundg (20 - j - 1)
            case measure => have := hj.out; omega
            case rel => exact ⟨j + 1, by first | rfl | go_num, by have := hj.out; omega, b12⟩
          · have hcj : (¬ (j : Int) < pn ∧ decide ((j : Int) < pn) = false) ∨ ((j : Int) < pn ∧ decide ((j : Int) < pn) = true ∧ ¬ (j : Int) < 20 ∧ decide ((j : Int) < 20) = false) := by
              by_cases h1 : j < pn
              · right; refine ⟨by omega, by simp; omega, by omega, by simp; omega⟩
              · left; refine ⟨by omega, by simp; omega⟩
            have hfin : Kpt (∀ W, Below wr.heap.size wr W → Below w.heap.size w W) := ⟨fun W hb => hb2.out.trans ((qv.out.trans (hb.mono qv.out.size)).mono hb2.out.size)⟩
            replace hj := Kpt.mk hj
            rcases hcj with ⟨hj0, hj1⟩ | ⟨hj0, hj1, hj3, hj2⟩
            · go_wp2_with (first
                | (go_at_call 11; go_must (refine (in_nil zP _).mono ?_; rintro e w13 ⟨rfl, hb13⟩; replace hb13 := Kpt.mk hb13))
                | (go_at_call 15; go_must (refine (end_nilS 0 true (.slice none 0 0) _).mono ?_; rintro e w14 ⟨rfl, hb14⟩; have b14 := Kpt.mk (hb13.out.trans (hb14.mono hb13.out.size)); clear hb14))
                | (go_at_call 18; go_must (refine (told_nil 0 0 _).mono ?_; rintro e wz ⟨rfl, hwz⟩; rw [hwz]; clear hwz))
                | (go_at_call 16; go_must (refine (forget_nil 0 _).mono ?_; rintro e wz ⟨rfl, hwz⟩; rw [hwz]; clear hwz))
                | (go_at_call 17; go_must (refine (over_nil _).mono ?_; rintro e wz ⟨rfl, hwz⟩; rw [hwz]; clear hwz))
                | (go_at_call 14; go_must (refine (waits_nil _).mono ?_; rintro e wz ⟨rfl, hwz⟩; rw [hwz]; clear hwz))
                | (go_at_call 13; go_must (refine (next_nil _).mono ?_; rintro e wz ⟨rfl, hwz⟩; rw [hwz]; clear hwz)))
              go_ret
              exact ⟨rfl, hfin.out _ b14.out⟩
            · go_wp2_with (first
                | (go_at_call 11; go_must (refine (in_nil zP _).mono ?_; rintro e w13 ⟨rfl, hb13⟩; replace hb13 := Kpt.mk hb13))
                | (go_at_call 15; go_must (refine (end_nilS 0 true (.slice none 0 0) _).mono ?_; rintro e w14 ⟨rfl, hb14⟩; have b14 := Kpt.mk (hb13.out.trans (hb14.mono hb13.out.size)); clear hb14))
                | (go_at_call 18; go_must (refine (told_nil 0 0 _).mono ?_; rintro e wz ⟨rfl, hwz⟩; rw [hwz]; clear hwz))
                | (go_at_call 16; go_must (refine (forget_nil 0 _).mono ?_; rintro e wz ⟨rfl, hwz⟩; rw [hwz]; clear hwz))
                | (go_at_call 17; go_must (refine (over_nil _).mono ?_; rintro e wz ⟨rfl, hwz⟩; rw [hwz]; clear hwz))
                | (go_at_call 14; go_must (refine (waits_nil _).mono ?_; rintro e wz ⟨rfl, hwz⟩; rw [hwz]; clear hwz))
                | (go_at_call 13; go_must (refine (next_nil _).mono ?_; rintro e wz ⟨rfl, hwz⟩; rw [hwz]; clear hwz)))
              go_ret
              exact ⟨rfl, hfin.out _ b14.out⟩
end Go.Proofs.Ytdplndlmdhpfaaa
