/-
  sess: the answer to SendTargets: the targets.
-/
import Derived.Test.YtdplndlmdhpfaabEKyb
namespace Go.Proofs.Ytdplndlmdhpfaab
open Go.RowKit
set_option linter.unusedVariables false
set_option linter.unusedSimpArgs false

theorem own_down {w : World} {b b' n : Nat} {v : Value} {cs : List Value} (h : w.ownsRow b 5 1 v n cs) (hb : b' ≤ b) : w.ownsRow b' 5 1 v n cs := by
  refine ⟨h.1, ?_⟩
  rcases h.2 with h2 | ⟨g, cap, cur, h1, h2, h3⟩
  · exact .inl h2
  · exact .inr ⟨g, cap, cur, h1, Nat.le_trans hb h2, h3⟩

set_option maxRecDepth 100000 in
set_option maxHeartbeats 4000000 in
theorem keys_all_d (S : Nat) (s : Se) (H O T : List (Array Value)) (ta : Option Addr) (tn tc : Nat) (os : List ByteArray) (a : Option Addr) (n c : Nat) (w : World) (h : Ss w S s H O T) (hr : RdAt w (.slice a n c) (rowL (stB, ⟨#[65, 108, 108]⟩))) (hc : c ≤ maxLen) (hd : s.dis = true) (htt : s.tgt = ⟨#[116]⟩)
    (htg : s.tg = .slice ta tn tc) (hst : StAt w (.slice ta tn tc) os) (htc : tc ≤ maxLen) (hsum : (os.map ByteArray.size).sum + tn ≤ 1048576) :
    Calls Try.prog 41 #[.pointer (some ⟨S, 0, none⟩), .slice a n c] w fun e w' => ∃ v N, e = .returned v ∧ w'.ownsRow w.heap.size 5 1 v N (cels (tellL true os)) ∧ Below w.heap.size w w' := by
  have hE : wrE [(stB, ⟨#[65, 108, 108]⟩)] = 0 := by decide +kernel
  have hP : Kpt (Calls Try.prog 55 #[.slice a n c] w fun e w' => ∃ g cap, e = .returned (.tuple #[.slice (some ⟨g, 0, none⟩) 1 cap, .int .i64 0]) ∧ 1 ≤ cap ∧ cap ≤ 9223372036854775807 ∧ w'.rangeAt g 0 [.string stB, .string ⟨#[65, 108, 108]⟩] ∧ g < w'.heap.size ∧ Below w.heap.size w w') := ⟨parse_st stB ⟨#[65, 108, 108]⟩ hE a n c w hr hc⟩
  have kS := Kpt.mk h
  have hA : Kpt (∀ (W : World) (base : Nat) (va : Option Addr) (vc N : Nat) (zs : List Int) (o : ByteArray), W.ownsRow base 5 1 (.slice va N vc) N (cels zs) → N ≤ 14000000 → o.size ≤ 1048576 → base ≤ W.heap.size → Calls Try.prog 58 #[.slice va N vc, .string ⟨#[84, 97, 114, 103, 101, 116, 78, 97, 109, 101]⟩, .string o] W fun e w' => ∃ va' vc', e = .returned (.slice va' (N + (12 + o.size)) vc') ∧ Kpt (w'.ownsRow base 5 1 (.slice va' (N + (12 + o.size)) vc') (N + (12 + o.size)) (cels (zs ++ rowL (tnB, o)))) ∧ Kpt (W.grownBy w' (Value.slice va N vc).ownBlock)) := ⟨fun W base va vc N zs o hO hN ho hW => by
    have e12 : tnB.size + 1 + o.size + 1 = 12 + o.size := by rw [tnB_size]; omega
    have hx := appendPair_gen base (.slice va N vc) zs N tnB o W hO (by omega) hW
    rw [e12] at hx
    refine hx.mono ?_
    rintro e w' ⟨v', h1, h2, h3⟩
    obtain ⟨⟨va', vc', rfl⟩⟩ := own_slice h2
    exact ⟨va', vc', h1, ⟨h2⟩, ⟨h3⟩⟩⟩
  have hT : Kpt (∀ W : World, Ss W S s H O T → Calls Try.prog 56 #[.pointer (some ⟨S, 0, none⟩)] W fun e w' => e = .returned (.string ⟨#[65, 108, 108]⟩) ∧ w' = W) := ⟨fun W k => allT_dis S s H O T W k hd⟩
  have hTl : Kpt (∀ (W : World) (o : ByteArray), Ss W S s H O T → Calls Try.prog 57 #[.pointer (some ⟨S, 0, none⟩), .string o] W fun e w' => e = .returned (.bool (tellB true o)) ∧ Below W.heap.size W w') := ⟨fun W o k => (tells_dis S s H O T o W k hd).mono fun e w' h => ⟨by rw [h.1]; rfl, h.2⟩⟩
  have htgK := Kpt.mk htg
  have hos : Kpt (os.length = tn) := ⟨by obtain ⟨_, _, hv, _⟩ := hst; simp only [Value.slice.injEq] at hv; exact hv.2.1.symm⟩
  have hstK : Kpt (∀ W, Below w.heap.size w W → StAt W (.slice ta tn tc) os) := ⟨fun W hb => hst.bel hb⟩
  have hsumK := Kpt.mk hsum
  have htn : tn ≤ 1048576 := by omega
  have htc2 : tc ≤ 9223372036854775807 := by unfold maxLen at htc; omega
  have htnc : tn ≤ tc := by obtain ⟨_, _, hv, h1, _⟩ := hst; simp only [Value.slice.injEq] at hv; omega
  clear h hr hc hE hd htt htg hst htc hsum
  go_enter Try.func41, Try.ntmps41
  go_wp2_with (go_at_call 55; go_must (refine hP.out.mono ?_; rintro e w1 ⟨g, cap, rfl, hcap, hcap2, hrg, hgl, hb1⟩; replace hrg := Kpt.mk hrg; replace hb1 := Kpt.mk hb1))
  go_loopg [7, 21] 1 (fun i r7 r21 wr => Kpt (Below w1.heap.size w1 wr) ∧ ((i = 1 ∧ r7 = .slice none 0 0 ∧ r21 = .int .i64 0) ∨ (i = 0 ∧ r21 = .int .i64 1 ∧ ∃ a N c, r7 = .slice a N c ∧ Kpt (wr.ownsRow w.heap.size 5 1 (.slice a N c) N (cels (tellL true os))))))
  case atStart => exact ⟨⟨Below.refl _ _⟩, .inl ⟨rfl, rfl, rfl⟩⟩
  case round =>
    obtain ⟨hbr, ⟨hi, rfl, rfl⟩ | ⟨hi, rfl, a', N', c', rfl, ho'⟩⟩ := hrel
    · have hrr : Kpt (wr.rangeAt g 0 [.string stB, .string ⟨#[65, 108, 108]⟩]) := ⟨rangeAt_block hrg.out (hbr.out.block g hgl)⟩
      have hc1 : (1 : Int) ≤ cap := by omega
      go_upto_region 9 with (first
        | (refine (?_ : wpList _ _ _ (Oper.mk _ (Op.load 34 _) _ _ _ _ :: _) _ _); go_must (refine wpList_load_mid rfl 34 _ rfl g 0 rfl [.string stB, .string ⟨#[65, 108, 108]⟩] _ hrr.out Try.underlying34 rfl szPr ?_; have hm := hc1))
        | (refine (?_ : wpList _ _ _ (Oper.mk _ (Op.alloc 34) _ _ _ _ :: _) _ _); go_must (refine wpList_var rfl 34 rfl _ zPair ?_; intro Q w3 hQ hB3 hb3; have q3 := Kpt.mk (hbr.out.trans (hb3.mono hbr.out.size)); have x3 := Kpt.mk hB3; have hQn := Kpt.mk (Nat.le_trans hbr.out.size hQ); clear hQ hB3 hb3))
        | (refine (?_ : wpList _ _ _ (Oper.mk _ (Op.store 34 _ _) _ _ _ _ :: _) _ _); go_must (refine wpList_store_bx rfl 34 _ _ rfl Q _ #[.string stB, .string ⟨#[65, 108, 108]⟩] rfl rfl x3.out rfl szPr (by simp [Value.oneCell']) rfl ?_; intro w4 hB4 hg4; have q4 := Kpt.mk (q3.out.grown hg4 q3.out.size (fun q e => by injection e with e; subst e; exact hQn.out)); have x4 := Kpt.mk hB4; clear hB4 hg4)))
      have c0 : w4.cell? ⟨Q, 0, none⟩ = some (.string ⟨#[83, 101, 110, 100, 84, 97, 114, 103, 101, 116, 115]⟩) := x4.out.cells 0 (by simp)
      have c1 : w4.cell? ⟨Q, 1, none⟩ = some (.string ⟨#[65, 108, 108]⟩) := x4.out.cells 1 (by simp)
      have kW : Kpt (∀ m, Ss (w4.drewN m) S s H O T) := ⟨fun m => ((kS.out.below hb1.out).below (q4.out)).drewN m⟩
      go_quiet ((go_at_call 56; exact Calls.quiet_of_same (hT.out _ (kW.out _))))
      have q5 : Kpt (Below w1.heap.size w1 (w4.drewN nq)) := ⟨below_drewN q4.out nq⟩
      have k5 := Kpt.mk (kW.out nq)
      obtain ⟨w5, hw5⟩ : ∃ x, x = w4.drewN nq := ⟨_, rfl⟩
      rw [← hw5] at q5 k5 ⊢
      clear hw5 x3 q3 q4 c0 c1 kW hbr hrr
      have c10 : w5.cell? ⟨S, 10, none⟩ = some (.slice ta tn tc) := by
        have := (k5.out.cell 10 (by omega)).1
        simp only [Se.v, List.getElem?_toArray, List.getElem?_cons_succ, List.getElem?_cons_zero] at this
        rw [htgK.out] at this
        exact this
      have hb5 : Kpt (Below w.heap.size w w5) := ⟨hb1.out.trans (q5.out.mono hb1.out.size)⟩
      go_wp2
      go_loopw [7, 45] (fun t7 t45 wx => ∃ (k N : Nat) (va : Option Addr) (vc : Nat), k ≤ tn ∧ t45 = .int .i64 k ∧ t7 = .slice va N vc ∧ Kpt (N = (tellL true (os.take k)).length) ∧ Kpt (wx.ownsRow w1.heap.size 5 1 (.slice va N vc) N (cels (tellL true (os.take k)))) ∧ Kpt (Below w.heap.size w wx) ∧ Kpt (Below w1.heap.size w1 wx)) (fun _ t _ => tn - (intOf t).toNat)
      case atStart => exact ⟨0, 0, none, 0, by omega, rfl, rfl, ⟨by simp [tellL, rowsL]⟩, ⟨by simpa [tellL, rowsL, cels] using World.ownsRow_nil w5 w1.heap.size 5 1⟩, hb5, q5⟩
      case round =>
        obtain ⟨k, N, va, vc, hk, rfl, rfl, hN, hown, hbk, hbk1⟩ := hrel
        by_cases hlt : k < tn
        · have hltI : (k : Int) < tn := by omega
          obtain ⟨o, ho⟩ : ∃ o, os[k]? = some o := ⟨_, List.getElem?_eq_getElem (by rw [hos.out]; exact hlt)⟩
          obtain ⟨-, -, b, off, hta, hbl, hcell⟩ := (hstK.out wr hbk.out).cellAt hlt
          rw [List.getD_eq_getElem?_getD, ho] at hcell
          simp only [Option.getD_some] at hcell
          have hta2 := Kpt.mk hta
          subst hta
          have htk : Kpt (os.take (k + 1) = os.take k ++ [o]) := ⟨by
            obtain ⟨h9, rfl⟩ := List.getElem?_eq_some_iff.1 ho
            exact List.take_succ_eq_append_getElem h9⟩
          have hosz : o.size ≤ 1048576 := by have := sum_mem os k o ho; have := hsumK.out; omega
          have hNb : N ≤ 14000000 := by
            have h1 := rowsL_le (tellB true) (os.take k)
            have h2 := sum_take os k
            have h3 := hsumK.out
            have h4 := hN.out
            unfold tellL at h4
            rw [List.length_take] at h1
            omega
          clear ho
          cases hb : tellB true o with
          | true =>
            have hT1 := Kpt.mk (fun W => hTl.out W o)
            rw [hb] at hT1
            have hln : Kpt ((tellL true (os.take (k + 1))).length = N + (12 + o.size)) := ⟨by rw [htk.out, tellL_snoc, hb]; have := hN.out; have := rowL_len tnB o; rw [tnB_size] at this; simp; omega⟩
            have hrw : Kpt (tellL true (os.take (k + 1)) = tellL true (os.take k) ++ rowL (tnB, o)) := ⟨by rw [htk.out, tellL_snoc, hb]; rfl⟩
            clear hb
            go_wp2_with (first
              | (go_at_call 57; go_must (refine (hT1.out _ (kS.out.below hbk.out)).mono ?_; rintro e w7 ⟨rfl, hb7⟩; have ho7 : Kpt (w7.ownsRow w1.heap.size 5 1 (.slice va N vc) N (cels (tellL true (os.take k)))) := ⟨own_of_block hown.out fun g hg => hb7.block g (World.ownsRow.lt hown.out g hg).2⟩; have hbk7 : Kpt (Below w.heap.size w w7) := ⟨hbk.out.trans (hb7.mono hbk.out.size)⟩; have hbk17 : Kpt (Below w1.heap.size w1 w7) := ⟨hbk1.out.trans (hb7.mono hbk1.out.size)⟩; clear hb7))
              | (go_at_call 58; go_must (refine (hA.out w7 w1.heap.size va vc N _ o ho7.out hNb hosz hbk17.out.size).mono ?_; rintro e w8 ⟨va8, vc8, rfl, ho8, hg8⟩; have hbk8 : Kpt (Below w.heap.size w w8) := ⟨hbk7.out.grown hg8.out hbk7.out.size (fun q h => Nat.le_trans hb1.out.size (World.ownsRow.lt ho7.out q h).1)⟩; have hbk18 : Kpt (Below w1.heap.size w1 w8) := ⟨hbk17.out.grown hg8.out hbk17.out.size (fun q h => (World.ownsRow.lt ho7.out q h).1)⟩; clear hg8)))
            go_roundw
            case rel => exact ⟨k + 1, N + (12 + o.size), va8, vc8, by omega, by go_num, rfl, ⟨hln.out.symm⟩, ⟨by rw [hrw.out]; exact ho8.out⟩, hbk8, hbk18⟩
            case measure => simp [intOf]; omega
          | false =>
            have hT1 := Kpt.mk (fun W => hTl.out W o)
            rw [hb] at hT1
            have hrw : Kpt (tellL true (os.take (k + 1)) = tellL true (os.take k)) := ⟨by rw [htk.out, tellL_snoc, hb]; rfl⟩
            clear hb
            go_wp2_with (go_at_call 57; go_must (refine (hT1.out _ (kS.out.below hbk.out)).mono ?_; rintro e w7 ⟨rfl, hb7⟩; have ho7 : Kpt (w7.ownsRow w1.heap.size 5 1 (.slice va N vc) N (cels (tellL true (os.take k)))) := ⟨own_of_block hown.out fun g hg => hb7.block g (World.ownsRow.lt hown.out g hg).2⟩; have hbk7 : Kpt (Below w.heap.size w w7) := ⟨hbk.out.trans (hb7.mono hbk.out.size)⟩; have hbk17 : Kpt (Below w1.heap.size w1 w7) := ⟨hbk1.out.trans (hb7.mono hbk1.out.size)⟩; clear hb7))
            go_roundw
            case rel => exact ⟨k + 1, N, va, vc, by omega, by go_num, rfl, ⟨by rw [hrw.out]; exact hN.out⟩, ⟨by rw [hrw.out]; exact ho7.out⟩, hbk7, hbk17⟩
            case measure => simp [intOf]; omega
        · have hltI : ¬ (k : Int) < tn := by omega
          obtain rfl : k = tn := by omega
          have htt : Kpt (os.take k = os) := ⟨List.take_of_length_le (Nat.le_of_eq hos.out)⟩
          rw [htt.out] at hown
          go_wp2
          go_roundg 0
          case measure => omega
          case rel => exact ⟨hbk1, .inr ⟨rfl, by first | rfl | go_num, _, _, _, rfl, ⟨own_down hown.out hb1.out.size⟩⟩⟩
    · go_wp2
      go_ret
      exact ⟨_, _, rfl, ho'.out, hb1.out.trans (hbr.out.mono hb1.out.size)⟩

set_option maxRecDepth 100000 in
set_option maxHeartbeats 4000000 in
theorem keys_all_n (S : Nat) (s : Se) (H O T : List (Array Value)) (ta : Option Addr) (tn tc : Nat) (os : List ByteArray) (a : Option Addr) (n c : Nat) (w : World) (h : Ss w S s H O T) (hr : RdAt w (.slice a n c) (rowL (stB, ⟨#[]⟩))) (hc : c ≤ maxLen) (hd : s.dis = false) (htt : s.tgt = ⟨#[116]⟩)
    (htg : s.tg = .slice ta tn tc) (hst : StAt w (.slice ta tn tc) os) (htc : tc ≤ maxLen) (hsum : (os.map ByteArray.size).sum + tn ≤ 1048576) :
    Calls Try.prog 41 #[.pointer (some ⟨S, 0, none⟩), .slice a n c] w fun e w' => ∃ v N, e = .returned v ∧ w'.ownsRow w.heap.size 5 1 v N (cels (tellL false os)) ∧ Below w.heap.size w w' := by
  have hE : wrE [(stB, ⟨#[]⟩)] = 0 := by decide +kernel
  have hP : Kpt (Calls Try.prog 55 #[.slice a n c] w fun e w' => ∃ g cap, e = .returned (.tuple #[.slice (some ⟨g, 0, none⟩) 1 cap, .int .i64 0]) ∧ 1 ≤ cap ∧ cap ≤ 9223372036854775807 ∧ w'.rangeAt g 0 [.string stB, .string ⟨#[]⟩] ∧ g < w'.heap.size ∧ Below w.heap.size w w') := ⟨parse_st stB ⟨#[]⟩ hE a n c w hr hc⟩
  have kS := Kpt.mk h
  have hA : Kpt (∀ (W : World) (base : Nat) (va : Option Addr) (vc N : Nat) (zs : List Int) (o : ByteArray), W.ownsRow base 5 1 (.slice va N vc) N (cels zs) → N ≤ 14000000 → o.size ≤ 1048576 → base ≤ W.heap.size → Calls Try.prog 58 #[.slice va N vc, .string ⟨#[84, 97, 114, 103, 101, 116, 78, 97, 109, 101]⟩, .string o] W fun e w' => ∃ va' vc', e = .returned (.slice va' (N + (12 + o.size)) vc') ∧ Kpt (w'.ownsRow base 5 1 (.slice va' (N + (12 + o.size)) vc') (N + (12 + o.size)) (cels (zs ++ rowL (tnB, o)))) ∧ Kpt (W.grownBy w' (Value.slice va N vc).ownBlock)) := ⟨fun W base va vc N zs o hO hN ho hW => by
    have e12 : tnB.size + 1 + o.size + 1 = 12 + o.size := by rw [tnB_size]; omega
    have hx := appendPair_gen base (.slice va N vc) zs N tnB o W hO (by omega) hW
    rw [e12] at hx
    refine hx.mono ?_
    rintro e w' ⟨v', h1, h2, h3⟩
    obtain ⟨⟨va', vc', rfl⟩⟩ := own_slice h2
    exact ⟨va', vc', h1, ⟨h2⟩, ⟨h3⟩⟩⟩
  have hT : Kpt (∀ W : World, Ss W S s H O T → Calls Try.prog 56 #[.pointer (some ⟨S, 0, none⟩)] W fun e w' => e = .returned (.string ⟨#[]⟩) ∧ w' = W) := ⟨fun W k => allT_one S s H O T W k hd⟩
  have hTl : Kpt (∀ (W : World) (o : ByteArray), Ss W S s H O T → Calls Try.prog 57 #[.pointer (some ⟨S, 0, none⟩), .string o] W fun e w' => e = .returned (.bool (tellB false o)) ∧ Below W.heap.size W w') := ⟨fun W o k => tells_one S s H O T o W k hd htt _ (by simp [tellB])⟩
  have htgK := Kpt.mk htg
  have hos : Kpt (os.length = tn) := ⟨by obtain ⟨_, _, hv, _⟩ := hst; simp only [Value.slice.injEq] at hv; exact hv.2.1.symm⟩
  have hstK : Kpt (∀ W, Below w.heap.size w W → StAt W (.slice ta tn tc) os) := ⟨fun W hb => hst.bel hb⟩
  have hsumK := Kpt.mk hsum
  have htn : tn ≤ 1048576 := by omega
  have htc2 : tc ≤ 9223372036854775807 := by unfold maxLen at htc; omega
  have htnc : tn ≤ tc := by obtain ⟨_, _, hv, h1, _⟩ := hst; simp only [Value.slice.injEq] at hv; omega
  clear h hr hc hE hd htt htg hst htc hsum
  go_enter Try.func41, Try.ntmps41
  go_wp2_with (go_at_call 55; go_must (refine hP.out.mono ?_; rintro e w1 ⟨g, cap, rfl, hcap, hcap2, hrg, hgl, hb1⟩; replace hrg := Kpt.mk hrg; replace hb1 := Kpt.mk hb1))
  go_loopg [7, 21] 1 (fun i r7 r21 wr => Kpt (Below w1.heap.size w1 wr) ∧ ((i = 1 ∧ r7 = .slice none 0 0 ∧ r21 = .int .i64 0) ∨ (i = 0 ∧ r21 = .int .i64 1 ∧ ∃ a N c, r7 = .slice a N c ∧ Kpt (wr.ownsRow w.heap.size 5 1 (.slice a N c) N (cels (tellL false os))))))
  case atStart => exact ⟨⟨Below.refl _ _⟩, .inl ⟨rfl, rfl, rfl⟩⟩
  case round =>
    obtain ⟨hbr, ⟨hi, rfl, rfl⟩ | ⟨hi, rfl, a', N', c', rfl, ho'⟩⟩ := hrel
    · have hrr : Kpt (wr.rangeAt g 0 [.string stB, .string ⟨#[]⟩]) := ⟨rangeAt_block hrg.out (hbr.out.block g hgl)⟩
      have hc1 : (1 : Int) ≤ cap := by omega
      go_upto_region 9 with (first
        | (refine (?_ : wpList _ _ _ (Oper.mk _ (Op.load 34 _) _ _ _ _ :: _) _ _); go_must (refine wpList_load_mid rfl 34 _ rfl g 0 rfl [.string stB, .string ⟨#[]⟩] _ hrr.out Try.underlying34 rfl szPr ?_; have hm := hc1))
        | (refine (?_ : wpList _ _ _ (Oper.mk _ (Op.alloc 34) _ _ _ _ :: _) _ _); go_must (refine wpList_var rfl 34 rfl _ zPair ?_; intro Q w3 hQ hB3 hb3; have q3 := Kpt.mk (hbr.out.trans (hb3.mono hbr.out.size)); have x3 := Kpt.mk hB3; have hQn := Kpt.mk (Nat.le_trans hbr.out.size hQ); clear hQ hB3 hb3))
        | (refine (?_ : wpList _ _ _ (Oper.mk _ (Op.store 34 _ _) _ _ _ _ :: _) _ _); go_must (refine wpList_store_bx rfl 34 _ _ rfl Q _ #[.string stB, .string ⟨#[]⟩] rfl rfl x3.out rfl szPr (by simp [Value.oneCell']) rfl ?_; intro w4 hB4 hg4; have q4 := Kpt.mk (q3.out.grown hg4 q3.out.size (fun q e => by injection e with e; subst e; exact hQn.out)); have x4 := Kpt.mk hB4; clear hB4 hg4)))
      have c0 : w4.cell? ⟨Q, 0, none⟩ = some (.string ⟨#[83, 101, 110, 100, 84, 97, 114, 103, 101, 116, 115]⟩) := x4.out.cells 0 (by simp)
      have c1 : w4.cell? ⟨Q, 1, none⟩ = some (.string ⟨#[]⟩) := x4.out.cells 1 (by simp)
      have kW : Kpt (∀ m, Ss (w4.drewN m) S s H O T) := ⟨fun m => ((kS.out.below hb1.out).below (q4.out)).drewN m⟩
      go_quiet ((go_at_call 56; exact Calls.quiet_of_same (hT.out _ (kW.out _))))
      have q5 : Kpt (Below w1.heap.size w1 (w4.drewN nq)) := ⟨below_drewN q4.out nq⟩
      have k5 := Kpt.mk (kW.out nq)
      obtain ⟨w5, hw5⟩ : ∃ x, x = w4.drewN nq := ⟨_, rfl⟩
      rw [← hw5] at q5 k5 ⊢
      clear hw5 x3 q3 q4 c0 c1 kW hbr hrr
      have c10 : w5.cell? ⟨S, 10, none⟩ = some (.slice ta tn tc) := by
        have := (k5.out.cell 10 (by omega)).1
        simp only [Se.v, List.getElem?_toArray, List.getElem?_cons_succ, List.getElem?_cons_zero] at this
        rw [htgK.out] at this
        exact this
      have hb5 : Kpt (Below w.heap.size w w5) := ⟨hb1.out.trans (q5.out.mono hb1.out.size)⟩
      go_wp2
      go_loopw [7, 45] (fun t7 t45 wx => ∃ (k N : Nat) (va : Option Addr) (vc : Nat), k ≤ tn ∧ t45 = .int .i64 k ∧ t7 = .slice va N vc ∧ Kpt (N = (tellL false (os.take k)).length) ∧ Kpt (wx.ownsRow w1.heap.size 5 1 (.slice va N vc) N (cels (tellL false (os.take k)))) ∧ Kpt (Below w.heap.size w wx) ∧ Kpt (Below w1.heap.size w1 wx)) (fun _ t _ => tn - (intOf t).toNat)
      case atStart => exact ⟨0, 0, none, 0, by omega, rfl, rfl, ⟨by simp [tellL, rowsL]⟩, ⟨by simpa [tellL, rowsL, cels] using World.ownsRow_nil w5 w1.heap.size 5 1⟩, hb5, q5⟩
      case round =>
        obtain ⟨k, N, va, vc, hk, rfl, rfl, hN, hown, hbk, hbk1⟩ := hrel
        by_cases hlt : k < tn
        · have hltI : (k : Int) < tn := by omega
          obtain ⟨o, ho⟩ : ∃ o, os[k]? = some o := ⟨_, List.getElem?_eq_getElem (by rw [hos.out]; exact hlt)⟩
          obtain ⟨-, -, b, off, hta, hbl, hcell⟩ := (hstK.out wr hbk.out).cellAt hlt
          rw [List.getD_eq_getElem?_getD, ho] at hcell
          simp only [Option.getD_some] at hcell
          have hta2 := Kpt.mk hta
          subst hta
          have htk : Kpt (os.take (k + 1) = os.take k ++ [o]) := ⟨by
            obtain ⟨h9, rfl⟩ := List.getElem?_eq_some_iff.1 ho
            exact List.take_succ_eq_append_getElem h9⟩
          have hosz : o.size ≤ 1048576 := by have := sum_mem os k o ho; have := hsumK.out; omega
          have hNb : N ≤ 14000000 := by
            have h1 := rowsL_le (tellB false) (os.take k)
            have h2 := sum_take os k
            have h3 := hsumK.out
            have h4 := hN.out
            unfold tellL at h4
            rw [List.length_take] at h1
            omega
          clear ho
          cases hb : tellB false o with
          | true =>
            have hT1 := Kpt.mk (fun W => hTl.out W o)
            rw [hb] at hT1
            have hln : Kpt ((tellL false (os.take (k + 1))).length = N + (12 + o.size)) := ⟨by rw [htk.out, tellL_snoc, hb]; have := hN.out; have := rowL_len tnB o; rw [tnB_size] at this; simp; omega⟩
            have hrw : Kpt (tellL false (os.take (k + 1)) = tellL false (os.take k) ++ rowL (tnB, o)) := ⟨by rw [htk.out, tellL_snoc, hb]; rfl⟩
            clear hb
            go_wp2_with (first
              | (go_at_call 57; go_must (refine (hT1.out _ (kS.out.below hbk.out)).mono ?_; rintro e w7 ⟨rfl, hb7⟩; have ho7 : Kpt (w7.ownsRow w1.heap.size 5 1 (.slice va N vc) N (cels (tellL false (os.take k)))) := ⟨own_of_block hown.out fun g hg => hb7.block g (World.ownsRow.lt hown.out g hg).2⟩; have hbk7 : Kpt (Below w.heap.size w w7) := ⟨hbk.out.trans (hb7.mono hbk.out.size)⟩; have hbk17 : Kpt (Below w1.heap.size w1 w7) := ⟨hbk1.out.trans (hb7.mono hbk1.out.size)⟩; clear hb7))
              | (go_at_call 58; go_must (refine (hA.out w7 w1.heap.size va vc N _ o ho7.out hNb hosz hbk17.out.size).mono ?_; rintro e w8 ⟨va8, vc8, rfl, ho8, hg8⟩; have hbk8 : Kpt (Below w.heap.size w w8) := ⟨hbk7.out.grown hg8.out hbk7.out.size (fun q h => Nat.le_trans hb1.out.size (World.ownsRow.lt ho7.out q h).1)⟩; have hbk18 : Kpt (Below w1.heap.size w1 w8) := ⟨hbk17.out.grown hg8.out hbk17.out.size (fun q h => (World.ownsRow.lt ho7.out q h).1)⟩; clear hg8)))
            go_roundw
            case rel => exact ⟨k + 1, N + (12 + o.size), va8, vc8, by omega, by go_num, rfl, ⟨hln.out.symm⟩, ⟨by rw [hrw.out]; exact ho8.out⟩, hbk8, hbk18⟩
            case measure => simp [intOf]; omega
          | false =>
            have hT1 := Kpt.mk (fun W => hTl.out W o)
            rw [hb] at hT1
            have hrw : Kpt (tellL false (os.take (k + 1)) = tellL false (os.take k)) := ⟨by rw [htk.out, tellL_snoc, hb]; rfl⟩
            clear hb
            go_wp2_with (go_at_call 57; go_must (refine (hT1.out _ (kS.out.below hbk.out)).mono ?_; rintro e w7 ⟨rfl, hb7⟩; have ho7 : Kpt (w7.ownsRow w1.heap.size 5 1 (.slice va N vc) N (cels (tellL false (os.take k)))) := ⟨own_of_block hown.out fun g hg => hb7.block g (World.ownsRow.lt hown.out g hg).2⟩; have hbk7 : Kpt (Below w.heap.size w w7) := ⟨hbk.out.trans (hb7.mono hbk.out.size)⟩; have hbk17 : Kpt (Below w1.heap.size w1 w7) := ⟨hbk1.out.trans (hb7.mono hbk1.out.size)⟩; clear hb7))
            go_roundw
            case rel => exact ⟨k + 1, N, va, vc, by omega, by go_num, rfl, ⟨by rw [hrw.out]; exact hN.out⟩, ⟨by rw [hrw.out]; exact ho7.out⟩, hbk7, hbk17⟩
            case measure => simp [intOf]; omega
        · have hltI : ¬ (k : Int) < tn := by omega
          obtain rfl : k = tn := by omega
          have htt : Kpt (os.take k = os) := ⟨List.take_of_length_le (Nat.le_of_eq hos.out)⟩
          rw [htt.out] at hown
          go_wp2
          go_roundg 0
          case measure => omega
          case rel => exact ⟨hbk1, .inr ⟨rfl, by first | rfl | go_num, _, _, _, rfl, ⟨own_down hown.out hb1.out.size⟩⟩⟩
    · go_wp2
      go_ret
      exact ⟨_, _, rfl, ho'.out, hb1.out.trans (hbr.out.mono hb1.out.size)⟩
end Go.Proofs.Ytdplndlmdhpfaab
