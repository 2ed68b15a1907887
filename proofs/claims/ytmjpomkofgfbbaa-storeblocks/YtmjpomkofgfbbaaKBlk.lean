/-
  StoreBlocks: the walk.
-/
import Derived.Test.YtmjpomkofgfbbaaKBlkP
import Derived.Deep.DeepMust
namespace Go.Proofs.Ytmjpomkofgfbbaa
open Go.RowKit
set_option linter.unusedVariables false
set_option linter.unusedSimpArgs false

/-- An act that came in. -/
structure Ac where
  kd : Int
  a : Int
  n : Int
  la : Option Addr
  ll : Nat
  lc : Nat
  on : Bool
  bs : List Bk
def Ac.cs (x : Ac) : List Value := [.int .u8 x.kd, .int .i64 x.a, .int .i64 x.n, .slice x.la x.ll x.lc, .bool x.on]
/-- Acts that can be read. -/
def Acts (w : World) (a : Option Addr) (n : Nat) : Prop := ∀ j, j < n → ∃ x : Ac, (0 ≤ x.kd ∧ x.kd ≤ 255) ∧ (-9223372036854775808 ≤ x.a ∧ x.a ≤ 9223372036854775807) ∧ x.bs.length = x.ll ∧ x.ll ≤ x.lc ∧ x.ll ≤ maxLen ∧ Bks w (.slice x.la x.ll x.lc) x.bs ∧ ∃ g o, a = some ⟨g, o, none⟩ ∧ g < w.heap.size ∧ w.rangeAt g (o + j * 5) x.cs
theorem infoAct : (Try.prog.info? 37).map (·.size) = some 5 := by kernel_rfl
theorem bks_cut {w w' : World} {a : Option Addr} {l c : Nat} {bs : List Bk} (h : Bks w (.slice a l c) bs) (hb : Below w.heap.size w w') (n : Nat) (hn : n ≤ l) : Bks w' (.slice a n c) (bs.take n) ∧ (bs.take n).length = n := by
  obtain ⟨a', c', hv, hm, hbs⟩ := h
  simp only [Value.slice.injEq] at hv
  obtain ⟨rfl, rfl, rfl⟩ := hv
  have hl : (bs.take n).length = n := by rw [List.length_take]; omega
  refine ⟨⟨a, c, by rw [hl], by rw [hl]; omega, fun j b hj => ?_⟩, hl⟩
  rw [List.getElem?_take] at hj
  split at hj
  · obtain ⟨h1, g, o, h2, h3, h4⟩ := hbs j b hj
    exact ⟨h1, g, o, h2, Nat.lt_of_lt_of_le h3 hb.size, rangeAt_keep h4 (hb.block g h3)⟩
  · cases hj
theorem bks_ok {w : World} {a : Option Addr} {l c : Nat} {bs : List Bk} (h : Bks w (.slice a l c) bs) : ∀ b ∈ bs, b.ok := fun b hb => by
  obtain ⟨a', c', hv, hm, hbs⟩ := h
  obtain ⟨j, hj, rfl⟩ := List.getElem_of_mem hb
  exact (hbs j _ (List.getElem?_eq_getElem hj)).1
theorem bks_lt {w : World} {a : Option Addr} {l c : Nat} {bs : List Bk} (h : Bks w (.slice a l c) bs) (h0 : 0 < bs.length) : ∀ g, (Value.slice a l c).ownBlock = some g → g < w.heap.size := fun g hg => by
  obtain ⟨a', c', hv, hm, hbs⟩ := h
  obtain ⟨_, g', o, h2, h3, _⟩ := hbs 0 _ (List.getElem?_eq_getElem h0)
  simp only [Value.slice.injEq] at hv
  obtain ⟨rfl, _, _⟩ := hv
  subst h2
  simp [Value.ownBlock] at hg
  omega

set_option maxRecDepth 100000 in
set_option maxHeartbeats 3000000 in
theorem blocks_go (a : Option Addr) (n c : Nat) (w : World) (hA : Acts w a n) (hn : n ≤ maxLen) :
    Calls Try.prog 5 #[.slice a n c] w fun e w' => e = .returned (.bool true) ∧ Below w.heap.size w w' := by
  unfold maxLen at hn
  have HA := Kpt.mk (awake_any w)
  replace hA := Kpt.mk hA
  obtain ⟨Z, hZs, hZ⟩ := alloc69
  replace hZ := Kpt.mk hZ
  replace hZs := Kpt.mk hZs
  go_enter Try.func5, Try.ntmps5
  go_wp2_with fail
  refine HA.out.mono ?_
  rintro e w1 ⟨rfl, hb1⟩
  have HN := Kpt.mk (new_any w1)
  replace hb1 := Kpt.mk hb1
  clear HA
  go_wp2_with fail
  refine HN.out.mono ?_
  rintro e w2 ⟨B, tag, rfl, hW2, hg2, ht2⟩
  have hb2 : Kpt (Below w.heap.size w w2) := ⟨hb1.out.trans (((Below.refl _ _).grown hg2 (Nat.le_refl _) (fun k hk => by cases hk)).mono hb1.out.size)⟩
  have HO := Kpt.mk (kopen_any w2 B 32 nmF true (by decide) (by decide) (by decide) (by decide))
  replace hW2 := Kpt.mk hW2
  replace ht2 := Kpt.mk ht2
  clear HN hg2
  go_wp2_with fail
  refine HO.out.mono ?_
  rintro e w3 ⟨rfl, hw3⟩
  have hS3 : Kpt (Sto w3 tag w2.heap.size B nmF 32 true) := ⟨by rw [hw3]; exact sto_new w2 tag B 32 nmF true (wd_none hW2.out (Nat.le_refl _))⟩
  have hbe3 : Below w2.heap.size w2 w3 := by rw [hw3]; exact (Below.refl _ _).alloc (Nat.le_refl _) _
  have hs3 : w3.heap.size = w2.heap.size + 1 := by rw [hw3]; simp
  have hW3 := Kpt.mk (hW2.out.step (step_below hbe3 tag (fun _ => False)))
  have hb3 : Kpt (Below w.heap.size w w3) := ⟨hb2.out.trans (hbe3.mono hb2.out.size)⟩
  have ht3 : Kpt (∀ i, i < w.heap.size → tag i = none) := ⟨fun i hi => ht2.out i (Nat.lt_of_lt_of_le hi hb1.out.size)⟩
  obtain ⟨S, hS⟩ : ∃ S, S = w2.heap.size := ⟨_, rfl⟩
  rw [← hS] at hS3 ⊢
  have hL0 : Kpt (Lp w (w3.alloc (.cells Z 69)) B tag st0 S w3.heap.size 0 (fun _ => emptyB)) := ⟨by
    have hbA := (Below.refl w3.heap.size w3).alloc (Nat.le_refl _) (.cells Z 69)
    exact ⟨hW3.out.step (step_below hbA tag (fun _ => False)), hS3.out.below hbA, ⟨by simp, wd_none hW3.out (Nat.le_refl _), (by have := (bx_new w3 Z 69).there; rw [hZs.out] at this; exact this), fun j hj => by omega⟩, fun _ _ => empty_ok, hb3.out.trans (hbA.mono hb3.out.size), ht3.out, hb3.out.size, by omega⟩⟩
  clear HO hw3 hbe3 hW2 hb2 ht2 hS hs3 hW3 hb3 ht3 hS3 hb1
  go_wp2_with (refine (?_ : wpList _ _ _ (Oper.mk (some 5) (Op.alloc 69) _ _ _ _ :: _) _ _); go_must (refine Go.Great.wpList_allocTo rfl (some 5) rfl (.pointer (some ⟨w3.heap.size, 0, none⟩)) (.cells Z 69) (hZ.out _ _ _ rfl) ?_))
  obtain ⟨G, hG⟩ : ∃ G, G = w3.heap.size := ⟨_, rfl⟩
  rw [← hG] at hL0 ⊢
  obtain ⟨w4, hw4⟩ : ∃ w4, w4 = w3.alloc (.cells Z 69) := ⟨_, rfl⟩
  rw [← hw4] at hL0 ⊢
  clear hG hw4 hZ hZs
  have HE := Kpt.mk rempty_any
  have hEs : Kpt (emptyB.vals.size = 19) := ⟨Bk.size empty_ok⟩
  have hEl : Kpt (emptyB.vals.toList = emptyB.cs) := ⟨rfl⟩
  have hE1 := Kpt.mk (Bk.one emptyB)
  obtain ⟨E, hE⟩ : ∃ E, E = emptyB.vals := ⟨_, rfl⟩
  rw [← hE] at HE hEs hE1 hEl
  clear hE
  go_loopw [6] (fun t wr => ∃ k : Nat, k ≤ 32 ∧ t = .int .i64 k ∧ Kpt (Lp w wr B tag st0 S G k (fun _ => emptyB))) (fun t _ => 32 - (intOf t).toNat)
  case atStart => exact ⟨0, Nat.zero_le _, rfl, hL0⟩
  case round =>
    obtain ⟨k, hk, rfl, hL⟩ := hrel
    clear hL0
    by_cases hlt : k < 32
    · go_wp2_with (first | (refine (?_ : wpList _ _ _ (Oper.mk none (Op.store 66 (.tmp 39) (.tmp 38)) _ _ _ _ :: _) _ _); go_must (refine wpList_store_mid rfl 66 (.tmp 39) (.tmp 38) rfl G (k * 19) E rfl rfl (by rw [hEs.out]; exact hL2.out.there k hlt) (by rw [hEs.out]; exact infoB) hE1.out ?_; rw [hEl.out]; have hL3 := Kpt.mk (hL2.out.fill hlt); clear hL2)) | (go_at_call 30; go_must (refine (HE.out _).mono ?_; rintro e x2 ⟨rfl, hz⟩; have hL2 := Kpt.mk (hL.out.below hz); clear hz hL)))
      go_roundw
      case rel => exact ⟨k + 1, by omega, by go_num, hL3⟩
      case measure => simp [intOf]; omega
    · obtain rfl : k = 32 := by omega
      rw [show ((32 : Nat) : Int) = 32 from rfl]
      go_wp2_with fail
      have hview0 : Kpt (∀ j, j < 32 → (fun _ => emptyB : Nat → Bk) j = blkAt (st0.seen nmF) j) := ⟨fun j _ => (blk_none j).symm⟩
      go_loopw [7] (fun t wr => ∃ (i : Nat) (tag1 : Tags) (st1 : St) (bl1 : Nat → Bk), i ≤ n ∧ i ≤ 60 ∧ t = .int .i64 i ∧ Kpt (Lp w wr B tag1 st1 S G 32 bl1) ∧ Kpt (Fin i st1) ∧ Kpt (∀ j, j < 32 → bl1 j = blkAt (st1.seen nmF) j)) (fun t _ => n - (intOf t).toNat)
      case atStart => exact ⟨0, tag, st0, _, Nat.zero_le _, Nat.zero_le _, rfl, hL, ⟨fin0⟩, hview0⟩
      case round =>
        obtain ⟨i, tag1, st1, bl1, hin, hi60, rfl, hL1, hF1, hV1⟩ := hrel
        clear hL hview0
        by_cases hgo : i < n ∧ i < 60
        · obtain ⟨hlt, hl60⟩ := hgo
          have e1 : (i : Int) < n := by omega
          have e2 : (i : Int) < 60 := by omega
          obtain ⟨x, hkd, hxa, hxl, hxc, hxm, hxb, ga, oa, rfl, hga, hra⟩ := hA.out i hlt
          obtain ⟨kd, A, N, la, ll, lc, on, bs⟩ := x
          simp only [Ac.cs] at hkd hxa hxl hxc hxm hxb hra
          have hr : Kpt (wr.rangeAt ga (oa + i * 5) [.int .u8 kd, .int .i64 A, .int .i64 N, .slice la ll lc, .bool on]) := ⟨rangeAt_keep hra (hL1.out.bel.block ga hga)⟩
          obtain ⟨p, hp⟩ : ∃ p : Nat, A % 32 = (p : Int) := ⟨(A % 32).toNat, by omega⟩
          have hp32 : p < 32 := by omega
          obtain ⟨U, hU⟩ : ∃ U, IntKind.u64.wrap A = U := ⟨_, rfl⟩
          have hUb : 0 ≤ U ∧ U < 18446744073709551616 := by rw [← hU, IntKind.wrap_u64]; omega
          have hUp : U % 32 = (p : Int) := by rw [← hU, IntKind.wrap_u64]; omega
          obtain ⟨m, hm⟩ : ∃ m, m = min ll (32 - p) := ⟨_, rfl⟩
          have hmin : min (ll : Int) (32 - (p : Int)) = (m : Int) := by omega
          have hm1 : m ≤ ll := by omega
          have hm2 : p + m ≤ 32 := by omega
          have hmc : (m : Int) ≤ lc := by omega
          obtain ⟨hcut, hcl⟩ := bks_cut hxb (w' := w) (Below.refl _ _) m hm1
          obtain ⟨us, hus⟩ : ∃ us, us = bs.take m := ⟨_, rfl⟩
          rw [← hus] at hcut hcl
          replace hcut := Kpt.mk hcut
          replace hcl := Kpt.mk hcl
          have hok := Kpt.mk (bks_ok hcut.out)
          have hmm : Kpt (∀ X : World, Lp w X B tag1 st1 S G 32 bl1 → Bks X (.slice la m lc) us) := ⟨fun X hX => by
            have := (bks_cut hcut.out hX.bel m (Nat.le_refl _)).1
            rw [List.take_of_length_le (by rw [hcl.out]; exact Nat.le_refl _)] at this
            exact this⟩
          have hF := hF1.out
          have q1 : st1.cnt < 500000000000 := by have := hF.cnt; omega
          have q2 : st1.waits.length < 1000000 := by have := hF.wl; omega
          clear hra hxb hus hm hxm hF hga hxl
          by_cases hpar : kd % 2 = 0
          · have e3 : (kd % 2 == 0) = true := by simpa using hpar
            have HW : Kpt (∀ X : World, Lp w X B tag1 st1 S G 32 bl1 → Calls Try.prog 16 #[.pointer (some ⟨S, 0, none⟩), .int .i64 p, .slice la m lc, .bool on] X fun e w' => e = .returned (.tuple #[.int .i64 m, .int .i64 0]) ∧ ∃ tag', Lp w w' B tag' (if settled true on us.length then wrSt st1 nmF p us us.length else syncSt (wrSt st1 nmF p us us.length)) S G 32 bl1) := ⟨fun X hX => by
              have := kwrite_gen X B tag1 st1 S 32 p nmF true on (.slice la m lc) us hX.wd hX.sto (by decide) (by decide) (by decide) q1 q2 hF1.out.fl hF1.out.wr (hmm.out X hX) (fun h0 g hg => hX.lo g (bks_lt hcut.out h0 g hg)) (by rw [hcl.out]; exact hm2)
              rw [hcl.out] at this ⊢
              refine this.mono ?_
              rintro e w' ⟨rfl, tag', hW', hs'⟩
              exact ⟨rfl, tag', hX.step hW' hs'⟩⟩
            obtain ⟨st2, hst2⟩ : ∃ s, s = (if settled true on us.length then wrSt st1 nmF p us us.length else syncSt (wrSt st1 nmF p us us.length)) := ⟨_, rfl⟩
            rw [← hst2] at HW
            have hF2 : Kpt (Fin (i + 1) st2) := ⟨by rw [hst2]; exact hF1.out.write hl60 p us hok.out _ (by rw [hcl.out]; omega)⟩
            have hV2 : Kpt (∀ j, j < 32 → upds bl1 p us m j = blkAt (st2.seen nmF) j) := ⟨by rw [hst2, ← hcl.out]; exact upds_wr bl1 st1 p us hF1.out.good hok.out _ hV1.out⟩
            clear hst2 hpar hV1 hF1
            go_wp2_with (first | (refine (?_ : wpList _ _ _ (Oper.mk (some 53) (Op.load 37 (.tmp 52)) _ _ _ _ :: _) _ _); go_must (refine wpList_load_mid rfl 37 (.tmp 52) rfl ga (oa + i * 5) rfl [.int .u8 kd, .int .i64 A, .int .i64 N, .slice la ll lc, .bool on] _ hr.out Try.underlying37 rfl infoAct ?_)) | (go_at_call 16; go_must (refine (HW.out _ (hL1.out.below ((Below.refl _ _).alloc (Nat.le_refl _) _))).mono ?_; rintro e x2 ⟨rfl, tag2, hL2⟩; replace hL2 := Kpt.mk hL2; clear HW hL1)))
            go_loopw [13] (fun t wr => ∃ j : Nat, j ≤ m ∧ t = .int .i64 j ∧ Kpt (Lp w wr B tag2 st2 S G 32 (upds bl1 p us j))) (fun t _ => m - (intOf t).toNat)
            case atStart => exact ⟨0, Nat.zero_le _, rfl, ⟨by have := hL2.out; rw [show upds bl1 p us 0 = bl1 from by funext j; unfold upds; rw [if_neg (by omega)]]; exact this⟩⟩
            case round =>
              obtain ⟨j, hj, rfl, hL3⟩ := hrel
              clear hL2
              by_cases hjm : j < m
              · have e4 : (j : Int) < m := by omega
                obtain ⟨b, hjb⟩ : ∃ b, us[j]? = some b := ⟨_, List.getElem?_eq_getElem (by rw [hcl.out]; exact hjm)⟩
                obtain ⟨a', c', hv, _, hbs'⟩ := hcut.out
                obtain ⟨hbok, gl, ol, h2, hgl, hrl⟩ := hbs' j b hjb
                simp only [Value.slice.injEq] at hv
                obtain ⟨rfl, -, -⟩ := hv
                subst h2
                have hrb : Kpt (wr.rangeAt gl (ol + j * 19) b.cs) := ⟨rangeAt_keep hrl (hL3.out.bel.block gl hgl)⟩
                have hcl19 : Kpt (b.cs.length = 19) := ⟨cs_len b hbok⟩
                have hone := Kpt.mk (Bk.one b)
                have hsz : Kpt (b.vals.size = 19) := ⟨Bk.size hbok⟩
                have hvl : Kpt (b.vals.toList = b.cs) := ⟨rfl⟩
                have hva : Kpt (b.cs.toArray = b.vals) := ⟨rfl⟩
                obtain ⟨V, hV⟩ : ∃ V, V = b.vals := ⟨_, rfl⟩
                rw [← hV] at hone hsz hvl hva
                have hL4 := hL3.out.upd (p + j) b (by omega) hbok
                rw [upds_step bl1 p us j b hjb] at hL4
                replace hL4 := Kpt.mk hL4
                have hth : Kpt (wr.there G ((p + j) * 19) 19) := ⟨hL3.out.there (p + j) (by omega)⟩
                have hpj : (p : Int) + j < 32 := by omega
                clear hV hrl hgl hbok hbs' hL3 hjb
                go_wp2_with (first | (refine (?_ : wpList _ _ _ (Oper.mk (some 101) (Op.load 66 (.tmp 100)) _ _ _ _ :: _) _ _); go_must (refine wpList_load_mid rfl 66 (.tmp 100) rfl gl (ol + j * 19) rfl b.cs _ hrb.out Try.underlying66 rfl (by rw [hcl19.out]; exact infoB) ?_; rw [hva.out])) | (refine (?_ : wpList _ _ _ (Oper.mk none (Op.store 66 (.tmp 102) (.tmp 101)) _ _ _ _ :: _) _ _); go_must (refine wpList_store_mid rfl 66 (.tmp 102) (.tmp 101) rfl G ((p + j) * 19) V rfl rfl (by rw [hsz.out]; exact hth.out) (by rw [hsz.out]; exact infoB) hone.out ?_; rw [hvl.out])))
                go_roundw
                case rel => exact ⟨j + 1, by omega, by go_num, hL4⟩
                case measure => simp [intOf]; omega
              · have e4 : ¬ (j : Int) < m := by omega
                obtain rfl : j = m := by omega
                go_wp2_with fail
                go_roundw
                case rel => exact ⟨i + 1, tag2, st2, _, by omega, by omega, by go_num, hL3, hF2, hV2⟩
                case measure => simp [intOf]; omega
          · have e3 : (kd % 2 == 0) = false := by simpa using hpar
            have HW : Kpt (∀ X : World, Lp w X B tag1 st1 S G 32 bl1 → Calls Try.prog 18 #[.pointer (some ⟨S, 0, none⟩), .int .i64 p, .int .i64 m] X fun e w' => e = .returned (.tuple #[.int .i64 m, .int .i64 0]) ∧ ∃ tag', Lp w w' B tag' (if settled true false m then unSt st1 nmF p m else syncSt (unSt st1 nmF p m)) S G 32 bl1) := ⟨fun X hX => by
              refine (kunmap_any X B tag1 st1 S 32 p m nmF true hX.wd hX.sto (by decide) (by decide) (by decide) q1 q2 hF1.out.fl hF1.out.wr hm2).mono ?_
              rintro e w' ⟨rfl, tag', hW', hs'⟩
              exact ⟨rfl, tag', hX.step hW' hs'⟩⟩
            obtain ⟨st2, hst2⟩ : ∃ s, s = (if settled true false m then unSt st1 nmF p m else syncSt (unSt st1 nmF p m)) := ⟨_, rfl⟩
            rw [← hst2] at HW
            have hF2 : Kpt (Fin (i + 1) st2) := ⟨by rw [hst2]; exact hF1.out.unmap hl60 p m _ (by omega)⟩
            have hV2 : Kpt (∀ j, j < 32 → upds bl1 p (List.replicate m emptyB) m j = blkAt (st2.seen nmF) j) := ⟨by rw [hst2]; exact upds_un bl1 st1 p m hF1.out.good _ hV1.out⟩
            clear hst2 hpar hV1 hF1
            go_wp2_with (first | (refine (?_ : wpList _ _ _ (Oper.mk (some 53) (Op.load 37 (.tmp 52)) _ _ _ _ :: _) _ _); go_must (refine wpList_load_mid rfl 37 (.tmp 52) rfl ga (oa + i * 5) rfl [.int .u8 kd, .int .i64 A, .int .i64 N, .slice la ll lc, .bool on] _ hr.out Try.underlying37 rfl infoAct ?_)) | (go_at_call 18; go_must (refine (HW.out _ (hL1.out.below ((Below.refl _ _).alloc (Nat.le_refl _) _))).mono ?_; rintro e x2 ⟨rfl, tag2, hL2⟩; replace hL2 := Kpt.mk hL2; clear HW hL1)))
            go_loopw [16] (fun t wr => ∃ j : Nat, j ≤ m ∧ t = .int .i64 j ∧ Kpt (Lp w wr B tag2 st2 S G 32 (upds bl1 p (List.replicate m emptyB) j))) (fun t _ => m - (intOf t).toNat)
            case atStart => exact ⟨0, Nat.zero_le _, rfl, ⟨by have := hL2.out; rw [show upds bl1 p (List.replicate m emptyB) 0 = bl1 from by funext j; unfold upds; rw [if_neg (by omega)]]; exact this⟩⟩
            case round =>
              obtain ⟨j, hj, rfl, hL3⟩ := hrel
              clear hL2
              by_cases hjm : j < m
              · have e4 : (j : Int) < m := by omega
                have hjb : (List.replicate m emptyB)[j]? = some emptyB := by rw [List.getElem?_replicate, if_pos hjm]
                have hst := Kpt.mk (upds_step bl1 p (List.replicate m emptyB) j emptyB hjb)
                have hpj : (p : Int) + j < 32 := by omega
                have hpn : p + j < 32 := by omega
                clear hjb
                go_wp2_with (first | (refine (?_ : wpList _ _ _ (Oper.mk none (Op.store 66 (.tmp 129) (.tmp 128)) _ _ _ _ :: _) _ _); go_must (refine wpList_store_mid rfl 66 (.tmp 129) (.tmp 128) rfl G ((p + j) * 19) E rfl rfl (by rw [hEs.out]; exact hL5.out.there (p + j) hpn) (by rw [hEs.out]; exact infoB) hE1.out ?_; rw [hEl.out]; have hL6 := hL5.out.upd (p + j) emptyB hpn empty_ok; rw [hst.out] at hL6; replace hL6 := Kpt.mk hL6; clear hL5)) | (go_at_call 30; go_must (refine (HE.out _).mono ?_; rintro e x5 ⟨rfl, hz⟩; have hL5 := Kpt.mk (hL3.out.below hz); clear hz hL3)))
                go_roundw
                case rel => exact ⟨j + 1, by omega, by go_num, hL6⟩
                case measure => simp [intOf]; omega
              · have e4 : ¬ (j : Int) < m := by omega
                obtain rfl : j = m := by omega
                go_wp2_with fail
                go_roundw
                case rel => exact ⟨i + 1, tag2, st2, _, by omega, by omega, by go_num, hL3, hF2, hV2⟩
                case measure => simp [intOf]; omega
        · have hgo' : ¬ (i : Int) < n ∨ ((i : Int) < n ∧ ¬ (i : Int) < 60) := by omega
          have hF := hF1.out
          have HR := Kpt.mk (kread_any wr B tag1 st1 S 32 0 32 nmF true hL1.out.wd hL1.out.sto (by decide) (by decide) (by decide) (by have := hF.cnt; omega) hF.fl (fun zs hz => (hF.good zs hz).1) (by decide))
          have HS : Kpt (∀ (X : World) (g : Nat), Rw X tag1 g 32 32 (fun j => upB (bytesAt (st1.seen nmF) (0 + j))) → Rw X tag1 G 32 32 bl1 → Calls Try.prog 15 #[.slice (some ⟨g, 0, none⟩) 32 32, .slice (some ⟨G, 0, none⟩) 32 32] X fun e w' => e = .returned (.bool true) ∧ Below X.heap.size X w') := ⟨fun X g h1 h2 => by
            refine same_any X (some ⟨g, 0, none⟩) (some ⟨G, 0, none⟩) 32 32 32 bl1 (by decide) (fun j hj => ⟨hL1.out.ok j hj, g, 0, rfl, h1.lt, ?_⟩) (fun j hj => ⟨hL1.out.ok j hj, G, 0, rfl, h2.lt, ?_⟩)
            · have := h1.done j hj
              rw [Nat.zero_add] at this ⊢
              rw [hV1.out j hj]
              exact this
            · rw [Nat.zero_add]; exact h2.done j hj⟩
          clear hF hA HE
          rcases hgo' with e1 | ⟨e1, e2⟩
          all_goals
            go_wp2_with (first | (go_at_call 13; go_must (refine HR.out.mono ?_; rintro e x3 ⟨g3, rfl, hW3, hs3, hR3, hg3⟩; have hL3 := hL1.out.step hW3 hs3; replace hL3 := Kpt.mk hL3; replace hR3 := Kpt.mk hR3; clear hW3 hs3 hg3)) | (go_at_call 15; go_must (refine (HS.out _ g3 hR3.out hL3.out.row).mono ?_; rintro e x4 ⟨rfl, hz⟩; have hx4 : Kpt (Below w.heap.size w x4) := ⟨hL3.out.bel.trans (hz.mono hL3.out.bel.size)⟩; clear hz)))
            go_ret
            exact ⟨rfl, hx4.out⟩
end Go.Proofs.Ytmjpomkofgfbbaa
