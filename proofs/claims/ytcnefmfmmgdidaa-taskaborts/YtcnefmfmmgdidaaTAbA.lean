/-
  TaskAborts: all.
-/
import Derived.Test.YtcnefmfmmgdidaaTAb
namespace Go.Proofs.Ytcnefmfmmgdidaa.taskAborts
open Go.Proofs.Ytcnefmfmmgdidaa
open Go.RowKit
set_option linter.unusedVariables false
set_option linter.unusedSimpArgs false

set_option maxRecDepth 100000 in
set_option maxHeartbeats 3000000 in
theorem ab_true (a0 : Option Addr) (l0 c0 : Nat) (z0 : List Int) (a : Int) (w : World) (h0 : Came w a0 l0 z0) (ha : 0 ≤ a ∧ a ≤ 255) :
    Calls Try.prog 7 #[.slice a0 l0 c0, .int .u8 a, .bool true] w fun e w' => e = .returned (.bool true) ∧ Below w.heap.size w w' := by
  replace h0 := Kpt.mk h0
  have HW := Kpt.mk (awake_any w)
  obtain ⟨n, hn⟩ : ∃ n : Int, n = a % 3 := ⟨_, rfl⟩
  have hn3 : 0 ≤ n ∧ n < 3 := by omega
  have en : a % 3 = n := hn.symm
  obtain ⟨p, hp⟩ : ∃ p : Tk → Bool, p = fun t => decide (t.nx = n) := ⟨_, rfl⟩
  replace hp := Kpt.mk hp
  clear hn
  go_enter Try.func7, Try.ntmps7
  go_wp2_with (first
    | (go_at_call 25; go_must (refine HB.out.mono ?_; rintro e w4 ⟨y1, v4, rfl, ho1, h4, ht4, hb4, hd4⟩; have HC := Kpt.mk (clear_any wB.heap.size B _ (-1) v4 w4 h4); have hst : Kpt (St wB.heap.size w4 B (ts.filter (fun t => !p t)) (-1) v4) := ⟨h4⟩; replace ho1 := Kpt.mk ho1; replace ht4 := Kpt.mk ht4; replace hb4 := Kpt.mk hb4; replace hd4 := Kpt.mk hd4; clear h4 HB))
    | (go_at_call 14; have hm := m2; go_must (refine HT.out.mono ?_; rintro e w3 ⟨y0, rfl, ho0, hb3⟩; have HB := Kpt.mk (abortAll_any wB.heap.size B ts (-1) v2 n w3 (hS2.out.below hb3)); rw [← hp.out] at HB; have hS3 := Kpt.mk (hS2.out.below hb3); have hB3 : Kpt (Below wB.heap.size wB w3) := ⟨hB2.out.trans (hb3.mono hB2.out.size)⟩; have hr0 := Kpt.mk (rowB_new (b1 := 0) hS2.out ho0); have hl0 : Kpt (∀ g, y0.ownBlock = some g → g < w3.heap.size) := ⟨fun g hg => (ho0.lt hg).2⟩; clear HT hm m2 ho0 hb3))
    | (go_at_call 24; go_must (refine HL.out.mono ?_; rintro e w2 ⟨B, ts, rfl, hs2, hg2⟩; obtain ⟨v2, hS2, hB2, _⟩ := hs2; have HT := Kpt.mk (tasks_any wB.heap.size B ts (-1) v2 w2 hS2); have m2 : Kpt True := ⟨trivial⟩; replace hS2 := Kpt.mk hS2; replace hB2 := Kpt.mk hB2; replace hg2 := Kpt.mk hg2))
    | (go_at_call 9; go_must (refine HW.out.mono ?_; rintro e wB ⟨rfl, hbB⟩; have HL := Kpt.mk (fill_any a0 l0 c0 z0 w wB hbB h0.out); replace hbB := Kpt.mk hbB)))
  refine HC.out.mono ?_
  rintro e w5 ⟨yc, v5, rfl, hoc, h5, ht5, hb5, _⟩
  have ho15 : Own w3.heap.size w5 y1 (ts.filter p) := ho1.out.of_block (fun g hg => ht5.block g (ho1.out.lt hg).2 (fun e => by have a1 := (ho1.out.lt hg).1; have a2 := hS3.out.lt; omega) (hd4.out g hg))
  have hrowc := hoc.row
  have h5K := Kpt.mk h5
  have ht5K := Kpt.mk ht5
  have hb5K := Kpt.mk hb5
  have ho15K := Kpt.mk ho15
  have hrowcK := Kpt.mk hrowc
  have hlen : Kpt ((ts.filter p).length + (ts.filter (fun t => !p t)).length ≤ 100) := ⟨by have := filt_len p ts; have := hS2.out.few; omega⟩
  have hszz : Kpt (w3.heap.size ≤ w5.heap.size) := ⟨Nat.le_trans hb4.out.size hb5.size⟩
  clear HC hoc h5 ht5 hb5 ho15 hrowc
  go_wp2_with (first
    | (at_builtin; go_must (refine wpList_append_row rfl (.tmp 30) (.tmp 32) rfl w3.heap.size y1 yc (ts.filter p) (ts.filter (fun t => !p t)) rfl rfl hrowcK.out ho15K.out hlen.out hszz.out ?_; intro yg w6 ho3 hg6 hor; have h6 : St wB.heap.size w6 B [] (-1) v5 := h5K.out.keep hg6.out.size (hg6.out.block B h5K.out.lt (fun e => by have a1 := (ho1.out.lt (g := B) e.symm).1; have a2 := hS3.out.lt; omega)) (fun g hg => hg6.out.block g (h5K.out.own.lt hg).2 (fun e => by rcases ht5K.out.came g hg with x | x; exact hd4.out g e.symm x; have := (ho1.out.lt (g := g) e.symm).2; omega)); have HD := Kpt.mk (tasks_any wB.heap.size B [] (-1) v5 w6 h6); clear h6; have HC : Kpt True := ⟨trivial⟩))
    | (go_at_call 14; go_must (refine HD.out.mono ?_; rintro e w7 ⟨y2, rfl, ho2, hb7⟩; have hA : Kpt (Ahead wB w7 B y0 yg y2 ts (ts.filter p ++ ts.filter (fun t => !p t)) []) := ⟨ahead_all (yc := y0) hS3.out hB3.out hr0.out hl0.out ho1.out hst.out ht4.out hb4.out hd4.out h5K.out ht5K.out hb5K.out ho3.out hg6.out hor.out ho2 hb7⟩; have hstop : Kpt True := ⟨trivial⟩; clear ho2 hb7 HD)))
  obtain ⟨gs, hgs⟩ : ∃ gs, gs = ts.filter p ++ ts.filter (fun t => !p t) := ⟨_, rfl⟩
  obtain ⟨ls, hls⟩ : ∃ ls, ls = ([] : List Tk) := ⟨_, rfl⟩
  have F1 : Kpt (∀ k t, ts[k]? = some t → p t = true → gs[(goneL p ts k).length]? = some t) := ⟨fun k t hk ht => by rw [hgs]; have := filter_at p ts k t hk ht; rw [List.getElem?_append_left (List.getElem?_eq_some_iff.1 this).1]; exact this⟩
  have F3 : gs.length + ls.length = ts.length := by rw [hgs, hls]; rw [List.length_append]; have := filt_len p ts; simp; omega
  have F4 : Kpt (∀ u, gs[0]? = some u → entR ls (-1) ⟨u.nx, u.tg, 0, false⟩ = (0, 0)) := ⟨fun u hu => by
    have hm : u ∈ gs := List.mem_of_getElem? hu
    rw [hgs] at hm
    rw [hls]; refine enter_back [] u.nx u.tg (hg2.out u ?_) (by simp) (by simp); rw [List.mem_append, List.mem_filter, List.mem_filter] at hm; rcases hm with h | h; exact h.1; exact h.1⟩
  have F2 : Kpt (∀ k t, ts[k]? = some t → p t = false → ls[(goneL (fun t => !p t) ts k).length]? = some t ∨ True) := ⟨fun k t hk ht => by exact .inr trivial⟩
  have hA2 : Kpt (Ahead wB w7 B y0 yg y2 ts gs ls) := ⟨by rw [hgs, hls]; exact hA.out⟩
  have hbw : Kpt (Below w.heap.size w w7) := ⟨by obtain ⟨_, _, h, _⟩ := hA.out; exact hbB.out.trans (h.mono hbB.out.size)⟩
  clear hA hgs hls
  obtain ⟨v7, hS7, hB7, hR0, hR1, hR2⟩ := hA2.out
  have hfew := hS7.few
  have hts16 := hS2.out.few
  obtain ⟨x0, d0, hx0, hs0⟩ := RowB.rd hR0
  obtain ⟨x1, d1, hx1, hs1⟩ := RowB.rd hR1
  obtain ⟨x2, d2, hx2, hs2⟩ := RowB.rd hR2
  subst hx0
  subst hx1
  subst hx2
  obtain ⟨m, hm⟩ : ∃ m, m = ts.length := ⟨_, rfl⟩
  obtain ⟨mg, hmg⟩ : ∃ mg, mg = gs.length := ⟨_, rfl⟩
  obtain ⟨ml, hml⟩ : ∃ ml, ml = ls.length := ⟨_, rfl⟩
  rw [← hm] at hs0 hts16 F3 ⊢
  rw [← hmg] at hs1 F3 ⊢
  rw [← hml] at hs2 F3 hfew ⊢
  have hR1K := Kpt.mk hR1
  have hS7K := Kpt.mk hS7
  replace hs0 := Kpt.mk hs0
  replace hs1 := Kpt.mk hs1
  replace hs2 := Kpt.mk hs2
  replace hm := Kpt.mk hm
  replace hmg := Kpt.mk hmg
  replace hml := Kpt.mk hml
  replace hB7 := Kpt.mk hB7
  have F3' : (mg : Int) + ml = m := by omega
  clear hS7 hR0 hR1 hR2 hA2 HC ho1 ht4 hb4 hd4 hst hS2 hB2 hS3 hB3 hr0 hl0 HL HW
  go_wp2_with fail
  go_loopw [12, 13, 14] (fun r s t wq => ∃ (k : Nat), k ≤ m ∧ r = .int .i64 ((goneL p ts k).length : Nat) ∧ s = .int .i64 ((0 : Nat) : Int) ∧ t = .int .i64 k ∧ Kpt (∃ q, wq = w7.drewN q)) (fun _ _ t _ => m - (intOf t).toNat)
  case atStart => exact ⟨0, Nat.zero_le _, by simp [goneL], by simp [goneL], rfl, ⟨0, rfl⟩⟩
  case round =>
    obtain ⟨k, hk, rfl, rfl, rfl, hq⟩ := hrel
    by_cases hlt : k < m
    · have e5 : (k : Int) < m := by omega
      have hkz : k < ts.length := by rw [← hm.out]; exact hlt
      obtain ⟨t, ht⟩ : ∃ t, ts[k]? = some t := ⟨_, List.getElem?_eq_getElem hkz⟩
      obtain ⟨q, hq'⟩ := hq.out
      have hst1 := gone_step p ts k t ht
      have hst2 := gone_step (fun t => !p t) ts k t ht
      rcases hs0.out with ⟨_, _, hz⟩ | ⟨g0, rfl, hd01, hd02, hr0⟩
      · omega
      obtain ⟨r0, r1, r2, r3⟩ := range4 (t := t) (fun j v hv => (by rw [hq']; exact hr0 k t ht j v hv : wr.cell? ⟨g0, k * 4 + j, none⟩ = some v))
      have hnext : Kpt (∃ q, wr = w7.drewN q) := ⟨q, hq'⟩
      by_cases hpt : t.nx = n
      · have hp1 : p t = true := by rw [hp.out]; simpa using hpt
        have hf1 := F1.out k t ht hp1
        have hi1 : (goneL p ts k).length < gs.length := (List.getElem?_eq_some_iff.1 hf1).1
        rw [← hmg.out] at hi1
        rw [hp1] at hst1 hst2
        simp only [if_pos, Bool.not_true, Bool.false_eq_true, if_false, List.append_nil] at hst1 hst2
        have hl1 := congrArg List.length hst1
        have hl2 := congrArg List.length hst2
        rw [List.length_append] at hl1
        simp only [List.length_cons, List.length_nil, Nat.zero_add] at hl1
        rcases hs1.out with ⟨_, _, hz⟩ | ⟨g1, rfl, hd11, hd12, hr1⟩
        · omega
        obtain ⟨s0, s1, s2, s3⟩ := range4 (t := t) (fun j v hv => (by rw [hq']; exact hr1 _ t hf1 j v hv : wr.cell? ⟨g1, (goneL p ts k).length * 4 + j, none⟩ = some v))
        obtain ⟨i, hi⟩ : ∃ i, i = (goneL p ts k).length := ⟨_, rfl⟩
        rw [← hi] at s0 s1 s2 s3 hi1 hl1 ⊢
        have e6 : (i : Int) < mg := by omega
        have hdd : decide ((mg : Int) ≤ (i : Int)) = false := by simp; omega
        have hi32 : i ≤ 16 := by omega
        replace hl1 := Kpt.mk hl1
        replace hl2 := Kpt.mk hl2
        clear hr0 hr1 ht hq' hst1 hst2 hf1 hi hp1
        skip
        go_wp2_with fail
        go_quiet (fail)
        go_wp2
        go_roundw
        case rel => exact ⟨k + 1, by omega, by rw [hl1.out]; go_num, by first | rfl | simp, by go_num, ⟨by obtain ⟨q, hq⟩ := hnext.out; exact ⟨_, by rw [hq, World.drewN_drewN]⟩⟩⟩
        case measure => simp [intOf]; omega
      · have hp1 : p t = false := by rw [hp.out]; simpa using hpt
        rw [hp1] at hst1 hst2
        simp only [if_pos, Bool.not_false, Bool.false_eq_true, if_false, List.append_nil] at hst1 hst2
        have hl1 := congrArg List.length hst1
        have hl2 := congrArg List.length hst2
        rw [List.length_append] at hl2
        simp only [List.length_cons, List.length_nil, Nat.zero_add] at hl2
        replace hl1 := Kpt.mk hl1
        obtain ⟨i1, hi1⟩ : ∃ i1, i1 = (goneL p ts k).length := ⟨_, rfl⟩
        rw [← hi1] at hl1 ⊢
        clear hr0 ht hq' hst1 hst2 hp1 hi1 hl2
        go_wp2
        go_roundw
        case rel => exact ⟨k + 1, by omega, by rw [hl1.out], rfl, by go_num, hnext⟩
        case measure => simp [intOf]; omega
    · have e5 : ¬ (k : Int) < m := by omega
      obtain ⟨q, hq'⟩ := hq.out
      by_cases hg0 : mg = 0
      · have e6 : (mg : Int) = 0 := by omega
        go_wp2
        go_ret
        exact ⟨rfl, by first | exact below_drewN hbw.out q | (rw [hq']; exact below_drewN hbw.out q)⟩
      · have e6 : ¬ (mg : Int) = 0 := by omega
        have hgz : 0 < gs.length := by rw [← hmg.out]; omega
        obtain ⟨u, hu⟩ : ∃ u, gs[0]? = some u := ⟨_, List.getElem?_eq_getElem hgz⟩
        rcases hs1.out with ⟨_, _, hz⟩ | ⟨g1, rfl, hd11, hd12, hr1⟩
        · omega
        have hS8 : St wB.heap.size wr B ls (-1) v7 := by rw [hq']; exact hS7K.out.below (below_drewN (Below.refl _ _) q)
        have hB8 : Below wB.heap.size wB wr := by rw [hq']; exact below_drewN hB7.out q
        have hR8 : RowB wr B v7 (.slice (some ⟨g1, 0, none⟩) mg d1) gs := by have := hR1K.out.keep (Trn.of_below B v7 (below_drewN (Below.refl _ _) q)); rw [← hmg.out] at this; rw [hq']; exact this
        have HE : Kpt (∀ W, Ss wB W B ls (-1) (.slice (some ⟨g1, 0, none⟩) mg d1) gs → Calls Try.prog 18 #[.pointer (some ⟨B, 0, none⟩), .agg #[.int .i64 u.nx, .int .u32 u.tg, .int .u8 0, .bool false]] W fun e w' => e = .returned (.tuple #[.int .u8 0, .int .i64 0]) ∧ Ss wB w' B (entL ls (-1) ⟨u.nx, u.tg, 0, false⟩) (-1) (.slice (some ⟨g1, 0, none⟩) mg d1) gs) := ⟨fun W hW => by have := ss_enter ⟨u.nx, u.tg, 0, false⟩ hW; rw [F4.out u hu] at this; exact this⟩
        have hs8 : Kpt (Ss wB wr B ls (-1) (.slice (some ⟨g1, 0, none⟩) mg d1) gs) := ⟨⟨v7, hS8, hB8, hR8⟩⟩
        obtain ⟨r0, r1, r2, r3⟩ := range4 (t := u) (fun j v hv => (by rw [hq']; have := hr1 0 u hu j v hv; simpa using this : wr.cell? ⟨g1, 0 + j, none⟩ = some v))
        have hcl : ∀ W, Ss wB W B (entL ls (-1) ⟨u.nx, u.tg, 0, false⟩) (-1) (.slice (some ⟨g1, 0, none⟩) mg d1) gs → W.rangeAt g1 0 u.vals.toList := fun W hW => by
          obtain ⟨v9, _, _, hR9⟩ := hW
          obtain ⟨a9, c9, hv9, hs9⟩ := RowB.rd hR9
          rcases hs9 with ⟨_, _, hz⟩ | ⟨g9, e9, _, _, hr9⟩
          · omega
          · simp only [Value.slice.injEq] at hv9
            have e10 : (⟨g1, 0, none⟩ : Addr) = ⟨g9, 0, none⟩ := by rw [← hv9.1] at e9; exact Option.some.inj e9
            injection e10 with e11
            have := hr9 0 u hu
            rw [e11]; simpa using this
        replace hcl := Kpt.mk hcl
        have hrg : Kpt (wr.rangeAt g1 0 u.vals.toList) := ⟨fun j v hv => by rw [hq']; have := hr1 0 u hu j v hv; simpa using this⟩
        have hlen : (0 : Int) < mg := by omega
        clear hS8 hB8 hR8 hr1 hq' hu
        go_wp2
        refine wp_region_any (by kernel_rfl) ?_
        refine wpAny_of_C (C := fun W => W.rangeAt g1 0 u.vals.toList) _ _ _ _ ?_
        refine wpAnyC_take 0 (.pointer (some ⟨B, 0, none⟩)) rfl (by kernel_rfl) (by kernel_rfl) (by kernel_rfl) (fun _ _ _ h => h) (wanted_free rfl _) (fun W hW => by go_simp) ?_
        try simp only [Act.put, List.setIfInBounds_toArray, List.set_cons_succ, List.set_cons_zero]
        refine wpAnyC_take 1 (.slice (some ⟨g1, 0, none⟩) mg d1) rfl (by kernel_rfl) (by kernel_rfl) (by kernel_rfl) (fun _ _ _ h => h) (wanted_free rfl _) (fun W hW => by go_simp) ?_
        try simp only [Act.put, List.setIfInBounds_toArray, List.set_cons_succ, List.set_cons_zero]
        refine wpAnyC_take 2 (.pointer (some ⟨g1, 0, none⟩)) rfl (by kernel_rfl) (by kernel_rfl) (by kernel_rfl) (fun _ _ _ h => h) (wanted_free rfl _) (fun W hW => by go_simp) ?_
        try simp only [Act.put, List.setIfInBounds_toArray, List.set_cons_succ, List.set_cons_zero]
        refine wpAnyC_take 3 (.pointer (some ⟨g1, 0, none⟩)) rfl (by kernel_rfl) (by kernel_rfl) (by kernel_rfl) (fun _ _ _ h => h) (wanted_free rfl _) (fun W hW => by go_simp) ?_
        try simp only [Act.put, List.setIfInBounds_toArray, List.set_cons_succ, List.set_cons_zero]
        refine wpAnyC_take 4 (.int .i64 u.nx) rfl (by kernel_rfl) (by kernel_rfl) (by kernel_rfl) (fun _ _ _ h => h) (wanted_free rfl _) (fun W hW => by obtain ⟨z0, z1, z2, z3⟩ := range4 hW; go_simp) ?_
        try simp only [Act.put, List.setIfInBounds_toArray, List.set_cons_succ, List.set_cons_zero]
        refine wpAnyC_take 5 (.slice (some ⟨g1, 0, none⟩) mg d1) rfl (by kernel_rfl) (by kernel_rfl) (by kernel_rfl) (fun _ _ _ h => h) (wanted_free rfl _) (fun W hW => by go_simp) ?_
        try simp only [Act.put, List.setIfInBounds_toArray, List.set_cons_succ, List.set_cons_zero]
        refine wpAnyC_take 6 (.pointer (some ⟨g1, 0, none⟩)) rfl (by kernel_rfl) (by kernel_rfl) (by kernel_rfl) (fun _ _ _ h => h) (wanted_free rfl _) (fun W hW => by go_simp) ?_
        try simp only [Act.put, List.setIfInBounds_toArray, List.set_cons_succ, List.set_cons_zero]
        refine wpAnyC_take 7 (.pointer (some ⟨g1, 1, none⟩)) rfl (by kernel_rfl) (by kernel_rfl) (by kernel_rfl) (fun _ _ _ h => h) (wanted_free rfl _) (fun W hW => by go_simp) ?_
        try simp only [Act.put, List.setIfInBounds_toArray, List.set_cons_succ, List.set_cons_zero]
        refine wpAnyC_take 8 (.int .u32 u.tg) rfl (by kernel_rfl) (by kernel_rfl) (by kernel_rfl) (fun _ _ _ h => h) (wanted_free rfl _) (fun W hW => by obtain ⟨z0, z1, z2, z3⟩ := range4 hW; go_simp) ?_
        try simp only [Act.put, List.setIfInBounds_toArray, List.set_cons_succ, List.set_cons_zero]
        refine wpAnyC_take 9 (.agg #[.int .i64 u.nx, .int .u32 u.tg, .int .u8 0, .bool false]) rfl (by kernel_rfl) (by kernel_rfl) (by kernel_rfl) (fun _ _ _ h => h) (wanted_free rfl _) (fun W hW => by go_simp) ?_
        try simp only [Act.put, List.setIfInBounds_toArray, List.set_cons_succ, List.set_cons_zero]
        refine wpAnyC_one 10 hrg.out rfl (by kernel_rfl) (wanted_free rfl _) (fun KA hKA => ?_)
        go_simp
        refine (HE.out _ (hs8.out.grow (below_drewN (Below.refl _ _) 1))).mono ?_
        rintro e w9 ⟨rfl, hs9⟩
        refine hKA _ _ ?_
        clear hKA KA
        try simp only [Act.put, List.setIfInBounds_toArray, List.set_cons_succ, List.set_cons_zero]
        refine wpAnyC_take 11 (.tuple #[.int .u8 0, .int .i64 0]) rfl (by kernel_rfl) (by kernel_rfl) (by kernel_rfl) (fun _ _ _ h => h) (wanted_free rfl _) (fun W hW => by go_simp) ?_
        try simp only [Act.put, List.setIfInBounds_toArray, List.set_cons_succ, List.set_cons_zero]
        refine wpAnyC_take 12 (.int .u8 0) rfl (by kernel_rfl) (by kernel_rfl) (by kernel_rfl) (fun _ _ _ h => h) (wanted_free rfl _) (fun W hW => by go_simp) ?_
        try simp only [Act.put, List.setIfInBounds_toArray, List.set_cons_succ, List.set_cons_zero]
        refine wpAnyC_take 13 (.int .i64 0) rfl (by kernel_rfl) (by kernel_rfl) (by kernel_rfl) (fun _ _ _ h => h) (wanted_free rfl _) (fun W hW => by go_simp) ?_
        try simp only [Act.put, List.setIfInBounds_toArray, List.set_cons_succ, List.set_cons_zero]
        refine wpAnyC_take 14 (.int .u8 0) rfl (by kernel_rfl) (by kernel_rfl) (by kernel_rfl) (fun _ _ _ h => h) (wanted_free rfl _) (fun W hW => by go_simp) ?_
        try simp only [Act.put, List.setIfInBounds_toArray, List.set_cons_succ, List.set_cons_zero]
        refine wpAnyC_take 15 (.int .i64 0) rfl (by kernel_rfl) (by kernel_rfl) (by kernel_rfl) (fun _ _ _ h => h) (wanted_free rfl _) (fun W hW => by go_simp) ?_
        try simp only [Act.put, List.setIfInBounds_toArray, List.set_cons_succ, List.set_cons_zero]
        refine wpAnyC_done (hcl.out w9 hs9) (by kernel_rfl) ?_
        have hb9 : Kpt (Below w.heap.size w w9) := ⟨hbB.out.trans (hs9.below.mono hbB.out.size)⟩
        clear hs9
        go_wp2
        go_ret
        exact ⟨rfl, hb9.out⟩
theorem ab_walk (a0 : Option Addr) (l0 c0 : Nat) (z0 : List Int) (a : Int) (all : Bool) (w : World) (h0 : Came w a0 l0 z0) (ha : 0 ≤ a ∧ a ≤ 255) :
    Calls Try.prog 7 #[.slice a0 l0 c0, .int .u8 a, .bool all] w fun e w' => e = .returned (.bool true) ∧ Below w.heap.size w w' := by
  cases all with
  | false => exact ab_false a0 l0 c0 z0 a w h0 ha
  | true => exact ab_true a0 l0 c0 z0 a w h0 ha
end Go.Proofs.Ytcnefmfmmgdidaa.taskAborts
