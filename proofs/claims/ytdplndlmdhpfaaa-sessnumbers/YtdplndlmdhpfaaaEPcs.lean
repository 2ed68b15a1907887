/-
  sess: pieces.
-/
import Derived.Test.YtdplndlmdhpfaaaEPcs0
namespace Go.Proofs.Ytdplndlmdhpfaaa
open Go.RowKit
set_option linter.unusedVariables false
set_option linter.unusedSimpArgs false

theorem rd_cut {W : World} {b off n c : Nat} {ds : List Int} (hr : ∀ j u, (cels ds)[j]? = some u → W.cell? ⟨b, off + j, none⟩ = some u) (hn : n = ds.length) (hc : n ≤ c) (g k : Nat) (hk : k * g < n) : RdAt W (.slice (some ⟨b, off + k * g, none⟩) (min (k * g + g) n - k * g) (c - k * g)) (cutAt ds g k) := by
  have hl : (cutAt ds g k).length = min (k * g + g) n - k * g := by rw [cutAt_len]; omega
  refine ⟨some ⟨b, off + k * g, none⟩, c - k * g, by rw [hl], fun h => (by cases h), (by rw [hl]; omega), .inr ⟨_, _, rfl, fun j u hj => ?_⟩⟩
  rw [Nat.add_assoc]
  refine hr _ _ ?_
  rw [← hj]
  have hjl : j < (cutAt ds g k).length := by have := (List.getElem?_eq_some_iff.1 hj).1; simpa using this
  have hjg : j < g := by rw [hl] at hjl; omega
  simp only [cels, cutAt, List.getElem?_map, List.getElem?_take, List.getElem?_drop, if_pos hjg]

set_option maxRecDepth 100000 in
set_option maxHeartbeats 8000000 in
theorem pieces_any (S : Nat) (s : Se) (H O T : List (Array Value)) (c : Cm) (dv : Value) (ds : List Int) (g : Nat) (w : World) (h : Ss w S s H O T) (hd : RdAt w dv ds) (hg : s.seg = g) (hg0 : 0 < g ∧ g ≤ 100000) (hl : ds.length ≤ 5000) (hcap : ∀ a n m, dv = .slice a n m → m ≤ 9223372036854775807) (hn : 0 ≤ s.next ∧ s.next < 4294967296) :
    Calls Try.prog 29 #[.pointer (some ⟨S, 0, none⟩), .agg c.v, dv] w fun e w' => ∃ v zs k, e = .returned v ∧ PcF w w' v g ds c.tg k zs ∧ ds.length ≤ k * g ∧ (k = 0 ∨ (k - 1) * g < ds.length) := by
  have hN : Kpt (∀ W (q : Pd) (a : Option Addr) (n c : Nat), Below w.heap.size w W → q.da = .slice a n c → Calls Try.prog 50 #[.pointer (some ⟨S, 0, none⟩), .agg q.v] W fun e w' => e = .returned (.agg (q.num s).v) ∧ Below W.heap.size W w') := ⟨fun W q a n c hb hq => numbered_any S s H O T q a n c W (h.below hb) hq hn⟩
  have hS : Kpt (∀ W, Below w.heap.size w W → W.cell? ⟨S, 5, none⟩ = some (.int .i64 g)) := ⟨fun W hb => by have := ((h.below hb).cell 5 (by omega)).1; simp only [Se.v, List.getElem?_toArray, List.getElem?_cons_succ, List.getElem?_cons_zero] at this; rw [hg] at this; exact this⟩
  obtain ⟨a, m, rfl, hnil, hm, hat⟩ := hd
  have hm63 := hcap _ _ _ rfl
  obtain ⟨n, hnn⟩ : ∃ n, n = ds.length := ⟨_, rfl⟩
  rw [← hnn] at hnil hm hat hl ⊢
  have hcl : Kpt (∀ W, Below w.heap.size w W → ∀ b off, a = some ⟨b, off, none⟩ → ∀ j u, (cels ds)[j]? = some u → W.cell? ⟨b, off + j, none⟩ = some u) := ⟨fun W hb b off ha j u hj => by
    have hr0 : RdAt w (.slice a n m) ds := ⟨a, m, by rw [hnn], by rw [← hnn]; exact hnil, by rw [← hnn]; exact hm, by rw [← hnn]; exact hat⟩
    obtain ⟨a', c', e, _, _, hh⟩ := hr0.bel hb
    injection e with e1 e2 e3
    rcases hh with hh | ⟨b', off', e', hh⟩
    · have := (List.getElem?_eq_some_iff.1 hj).1; simp at this; omega
    · rw [← e1, ha] at e'
      injection e' with e'
      injection e' with e1' e2'
      rw [e1', e2']
      exact hh j u hj⟩
  replace hat := Kpt.mk hat
  replace hnn := Kpt.mk hnn
  replace hnil := Kpt.mk hnil
  replace hg := Kpt.mk hg
  replace h := Kpt.mk h
  clear hcap
  go_enter Try.func29, Try.ntmps29
  go_wp2_with (refine (?_ : wpList _ _ _ (Oper.mk _ (Op.box 71 _) _ _ _ _ :: _) _ _); go_must (refine wpList_box rfl 71 _ rfl c.v rfl ?_; intro P w1 hP hB hb _; have c5 := hS.out _ hb; have hmx : max (g : Int) 1 = g := (by omega); replace hB := Kpt.mk hB; replace hb := Kpt.mk hb; replace hP := Kpt.mk hP))
  try rw [hmx]
  go_loopg [7, 9] n (fun i r7 r9 wr => ∃ (k : Nat) (zs : List (Array Value)), r9 = .int .i64 ((k * g : Nat) : Int) ∧ k + i = n ∧ Kpt (k = 0 ∨ (k - 1) * g < n) ∧ Kpt (Pc w1 wr r7 g ds c.tg k zs))
  case atStart => exact ⟨0, [], by simp, by omega, ⟨.inl rfl⟩, ⟨Pc.start w1 g ds c.tg⟩⟩
  case round =>
    obtain ⟨k, zs, rfl, hki, hkl, hpc⟩ := hrel
    obtain ⟨va, vc, hv, _⟩ := hpc.out.own.shape
    have hlz := hpc.out.len
    rw [hlz] at hv
    subst hv
    clear hlz
    obtain ⟨B, hBk⟩ : ∃ B, B = k * g := ⟨_, rfl⟩
    rw [← hBk]
    replace hBk := Kpt.mk hBk
    by_cases hlt : B < n
    · have hbw : Kpt (Below w.heap.size w wr) := ⟨hb.out.trans (hpc.out.bel.mono hb.out.size)⟩
      have hPw := Kpt.mk (hB.out.below hpc.out.bel hB.out.lt)
      have p0 := hPw.out.cells 0 (by simp [Cm.v])
      have p1 := hPw.out.cells 1 (by simp [Cm.v])
      simp [Cm.v] at p0 p1
      have hkn : k < n := by have := hBk.out; have : k * 1 ≤ k * g := Nat.mul_le_mul_left k hg0.1; omega
      have e1 : (B : Int) < n := by omega
      have e2 : IntKind.u32.wrap (k : Int) = k := by rw [IntKind.wrap_u32]; omega
      have e3 : IntKind.u32.wrap (B : Int) = B := by rw [IntKind.wrap_u32]; omega
      have e4 : IntKind.i64.wrap ((B : Int) + g) = (B : Int) + g := by rw [IntKind.wrap_i64]; omega
      go_upto_region 7 with (first
        | (go_at_call 50; go_must (refine (hN.out _ { zP with op := 37, lu := c.lu, tg := c.tg } _ _ _ hbw.out rfl).mono ?_; rintro e w2 ⟨rfl, hb2⟩; have k2 := Kpt.mk (hpc.out.below hb2); clear hb2))
        | (refine (?_ : wpList _ _ _ (Oper.mk _ (Op.alloc 37) _ _ _ _ :: _) _ _); go_must (refine wpList_var rfl 37 rfl _ zPdu ?_; intro Q w3 hQ hB3 hb3; have k3 := Kpt.mk hb3; have hQ3 := Kpt.mk hB3; have hQn := Kpt.mk hQ; clear hQ hB3 hb3))
        | (refine (?_ : wpList _ _ _ (Oper.mk _ (Op.store 37 _ _) _ _ _ _ :: _) _ _); go_must (refine wpList_store_bx rfl 37 _ _ rfl Q zP.v (({ zP with op := 37, lu := c.lu, tg := c.tg } : Pd).num s).v rfl rfl hQ3.out rfl szPdu (Pd.one rfl).2 rfl ?_; intro w4 hB4 hg4; have k4 := Kpt.mk (k3.out.grown hg4 k3.out.size (fun q e => by injection e with e; subst e; exact hQn.out)); have hQ4 := Kpt.mk hB4; clear hB4 hg4)))
      clear k3 hQ3 p0 p1
      have x := hQ4.out.cells 6 (by simp [Pd.v])
      have f := hQ4.out.free 6
      simp [Pd.v] at x
      have hQ5 : Kpt (Bx (w4.setCell ⟨Q, 6, none⟩ (.int .u32 4294967295)) Q ({ (({ zP with op := 37, lu := c.lu, tg := c.tg } : Pd).num s) with w0 := 4294967295 } : Pd).v) := ⟨by have := bx_setC (.int .u32 4294967295) hQ4.out (j := 6) (by simp [Pd.v]); simpa [Pd.v] using this⟩
      have k5 : Kpt (Below w2.heap.size w2 (w4.setCell ⟨Q, 6, none⟩ (.int .u32 4294967295))) := ⟨k4.out.setCell (p := ⟨Q, 6, none⟩) hQn.out _⟩
      go_upto_region 8 with fail
      obtain ⟨w5, hw5⟩ : ∃ x, x = w4.setCell ⟨Q, 6, none⟩ (.int .u32 4294967295) := ⟨_, rfl⟩
      rw [← hw5] at k5 hQ5 ⊢
      clear hw5 k4 hQ4 x f
      have x := hQ5.out.cells 7 (by simp [Pd.v])
      have f := hQ5.out.free 7
      simp [Pd.v] at x
      have hQ6 : Kpt (Bx (w5.setCell ⟨Q, 7, none⟩ (.int .u32 0)) Q ({ (({ zP with op := 37, lu := c.lu, tg := c.tg } : Pd).num s) with w0 := 4294967295, w1 := 0 } : Pd).v) := ⟨by have := bx_setC (.int .u32 0) hQ5.out (j := 7) (by simp [Pd.v]); simpa [Pd.v] using this⟩
      have k6 : Kpt (Below w2.heap.size w2 (w5.setCell ⟨Q, 7, none⟩ (.int .u32 0))) := ⟨k5.out.setCell (p := ⟨Q, 7, none⟩) hQn.out _⟩
      go_upto_region 9 with fail
      obtain ⟨w6, hw6⟩ : ∃ x, x = w5.setCell ⟨Q, 7, none⟩ (.int .u32 0) := ⟨_, rfl⟩
      rw [← hw6] at k6 hQ6 ⊢
      clear hw6 k5 hQ5 x f
      have x := hQ6.out.cells 10 (by simp [Pd.v])
      have f := hQ6.out.free 10
      simp [Pd.v] at x
      have hQ7 : Kpt (Bx (w6.setCell ⟨Q, 10, none⟩ (.int .u32 k)) Q ({ (({ zP with op := 37, lu := c.lu, tg := c.tg } : Pd).num s) with w0 := 4294967295, w1 := 0, w4 := (k : Int) } : Pd).v) := ⟨by have := bx_setC (.int .u32 k) hQ6.out (j := 10) (by simp [Pd.v]); simpa [Pd.v] using this⟩
      have k7 : Kpt (Below w2.heap.size w2 (w6.setCell ⟨Q, 10, none⟩ (.int .u32 k))) := ⟨k6.out.setCell (p := ⟨Q, 10, none⟩) hQn.out _⟩
      go_upto_region 10 with fail
      obtain ⟨w7, hw7⟩ : ∃ x, x = w6.setCell ⟨Q, 10, none⟩ (.int .u32 k) := ⟨_, rfl⟩
      rw [← hw7] at k7 hQ7 ⊢
      clear hw7 k6 hQ6 x f
      have x := hQ7.out.cells 11 (by simp [Pd.v])
      have f := hQ7.out.free 11
      simp [Pd.v] at x
      have hQ8 : Kpt (Bx (w7.setCell ⟨Q, 11, none⟩ (.int .u32 B)) Q ({ (({ zP with op := 37, lu := c.lu, tg := c.tg } : Pd).num s) with w0 := 4294967295, w1 := 0, w4 := (k : Int), w5 := (B : Int) } : Pd).v) := ⟨by have := bx_setC (.int .u32 B) hQ7.out (j := 11) (by simp [Pd.v]); simpa [Pd.v] using this⟩
      have k8 : Kpt (Below w2.heap.size w2 (w7.setCell ⟨Q, 11, none⟩ (.int .u32 B))) := ⟨k7.out.setCell (p := ⟨Q, 11, none⟩) hQn.out _⟩
      go_upto_region 11 with fail
      obtain ⟨w8, hw8⟩ : ∃ x, x = w7.setCell ⟨Q, 11, none⟩ (.int .u32 B) := ⟨_, rfl⟩
      rw [← hw8] at k8 hQ8 ⊢
      clear hw8 k7 hQ7 x f
      rcases hat.out with h0 | ⟨b, off, rfl, _⟩
      · omega
      obtain ⟨E, hE⟩ : ∃ E, E = min (B + g) n := ⟨_, rfl⟩
      have e5 : (if (n : Int) < (B : Int) + g then (n : Int) else (B : Int) + g) = (E : Int) := by split <;> omega
      have e6 : (B : Int) ≤ E := by omega
      have e7 : (E : Int) ≤ m := by omega
      have e8 : B ≤ E ∧ E ≤ m := by omega
      have e9 : Kpt ((if (n : Int) < (B : Int) + g then (n : Int) else (B : Int) + g).toNat = E) := ⟨by split <;> omega⟩
      replace hE := Kpt.mk hE
      have hb8 : Kpt (Below w.heap.size w w8) := ⟨hb.out.trans ((k2.out.bel.trans (k8.out.mono k2.out.bel.size)).mono hb.out.size)⟩
      have hC : Kpt (Calls Try.prog 26 #[.slice (some ⟨b, off + B, none⟩) (E - B) (m - B)] w8 fun e w' => ∃ v', e = .returned v' ∧ Row w' v' (cutAt ds g k) ∧ w8.grownBy w' none ∧ ∀ g, v'.ownBlock = some g → w8.heap.size ≤ g) := ⟨by
        have hr := rd_cut (hcl.out _ hb8.out b off rfl) hnn.out hm g k (by rw [← hBk.out]; exact hlt)
        rw [← hBk.out, ← hE.out] at hr
        exact clone_any w8 _ _ hr (by have := cutAt_le ds g k; omega)⟩
      go_upto_region 12 with (go_at_call 26; go_must (refine hC.out.mono ?_; rintro e w9 ⟨v', rfl, hr9, hg9, hn9⟩; obtain ⟨ca, cc, hv'⟩ := rd_len hr9.rd; obtain ⟨cn, hcn⟩ : ∃ n, n = (cutAt ds g k).length := (⟨_, rfl⟩); rw [← hcn] at hv'; subst hv'; clear hcn; have hQ9 := Kpt.mk (hQ8.out.below (below_none hg9) hQ8.out.lt); have k9 := Kpt.mk (k8.out.trans ((below_none hg9).mono k8.out.size)); replace hr9 := Kpt.mk hr9; replace hn9 := Kpt.mk hn9; replace hg9 := Kpt.mk hg9; have x := hQ9.out.cells 13 (by simp [Pd.v]); have f := hQ9.out.free 13; simp [Pd.v] at x))
      obtain ⟨p, hp⟩ : ∃ p : Pd, p = { (({ zP with op := 37, lu := c.lu, tg := c.tg } : Pd).num s) with w0 := 4294967295, w1 := 0, w4 := (k : Int), w5 := (B : Int), da := .slice ca cn cc } := ⟨_, rfl⟩
      have hQ10 : Kpt (Bx (w9.setCell ⟨Q, 13, none⟩ (.slice ca cn cc)) Q p.v) := ⟨by rw [hp]; have := bx_setC (.slice ca cn cc) hQ9.out (j := 13) (by simp [Pd.v]); simpa [Pd.v] using this⟩
      have k10 : Kpt (Below w2.heap.size w2 (w9.setCell ⟨Q, 13, none⟩ (.slice ca cn cc))) := ⟨k9.out.setCell (p := ⟨Q, 13, none⟩) hQn.out _⟩
      have hQl := hQ8.out.lt
      have hr10 : Kpt (RdAt (w9.setCell ⟨Q, 13, none⟩ (.slice ca cn cc)) (.slice ca cn cc) (cutAt ds g k)) := ⟨hr9.out.rd.of_block (fun b e => (grown_setCellK w9 ⟨Q, 13, none⟩ (.slice ca cn cc)).block b (World.ownsRow.lt hr9.out b e).2 (fun e' => by have := hn9.out b e; injection e' with e'; have e2 : b = Q := e'; omega))⟩
      have hd10 : Kpt (∀ b, (Value.slice ca cn cc).ownBlock = some b → w2.heap.size ≤ b ∧ b < (w9.setCell ⟨Q, 13, none⟩ (.slice ca cn cc)).heap.size) := ⟨fun b e => ⟨Nat.le_trans k8.out.size (hn9.out b e), Nat.lt_of_lt_of_le (World.ownsRow.lt hr9.out b e).2 (grown_setCellK w9 ⟨Q, 13, none⟩ (.slice ca cn cc)).size⟩⟩
      obtain ⟨w10, hw10⟩ : ∃ x, x = w9.setCell ⟨Q, 13, none⟩ (.slice ca cn cc) := ⟨_, rfl⟩
      rw [← hw10] at hQ10 k10 hr10 hd10 ⊢
      have hone : Kpt (p.v.all (·.oneCell') = true) := ⟨by rw [hp]; exact (Pd.one rfl).2⟩
      clear hw10 x f k9 hQ9 hr9 hn9 hg9 hC k8 hQ8
      replace hp := Kpt.mk hp
      have hzl : Kpt (zs.length = k) := ⟨hpc.out.len⟩
      go_wp2_with (first
        | (refine (?_ : wpList _ _ _ (Oper.mk _ (Op.load 37 _) _ _ _ _ :: _) _ _); go_must (refine wpList_load_bx rfl 37 _ rfl Q p.v rfl hQ10.out _ Try.underlying37 rfl szPdu ?_; have hm1 := hone))
        | (refine (?_ : wpList _ _ _ (Oper.mk _ (Op.buildSlice 31 _ _) _ _ _ _ :: _) _ _); go_must (refine wpList_build1 rfl 31 37 14 64 _ Try.underlying31 infoPdu (by decide) (by decide) _ rfl p.v rfl rfl ?_; intro N w11 hN1 hNB hNb _; have k11 := Kpt.mk (k2.out.below (k10.out.trans (hNb.mono k10.out.size))); have hR11 := Kpt.mk (hNB.one (k := 14) ⟨rfl, hone.out⟩); have hr11 := Kpt.mk (hr10.out.bel hNb); have hd11 : Kpt (∀ b, (Value.slice ca cn cc).ownBlock = some b → w2.heap.size ≤ b ∧ b < w11.heap.size) := (⟨fun b e => ⟨(hd10.out b e).1, Nat.lt_of_lt_of_le (hd10.out b e).2 hNb.size⟩⟩); clear hN1 hNB hNb))
        | (refine (?_ : wpList _ _ _ (Oper.mk (some 58) _ _ _ _ _ :: _) _ _); go_must (refine wpList_append_row rfl 31 37 14 64 _ Try.underlying31 infoPdu rfl (by decide) (by decide) _ _ rfl (.slice va k vc) (.slice (some ⟨N, 0, none⟩) 1 1) zs [p.v] rfl rfl k11.out.own hR11.out (by simp) (by have := hzl.out; simp; omega) ?_; intro tv' w12 ho12 hg12 hor12)))
      have hBs : (k + 1) * g = B + g := by rw [Nat.succ_mul, hBk.out]
      go_roundg (n - k - 1)
      case measure => omega
      case rel =>
        refine ⟨k + 1, zs ++ [p.v], by rw [hBs]; go_num, by omega, ⟨.inr (by rw [Nat.add_sub_cancel, ← hBk.out]; exact hlt)⟩, ⟨?_⟩⟩
        refine k11.out.step p (by rw [hp.out]; rfl) (by rw [hp.out]; rfl) (by rw [hp.out]; rfl) (by rw [hp.out]) (by rw [hp.out, hBk.out]) (by rw [hp.out]; exact hr11.out) (fun b e => ?_) ho12.out hg12.out hor12.out
        rw [hp.out] at e
        obtain ⟨h1, h2⟩ := hd11.out b e
        exact ⟨Nat.le_trans k2.out.bel.size h1, h2, fun e' => by have := k2.out.own.lt e'; omega⟩
    · have e1 : ¬ (B : Int) < n := by omega
      have hend : Kpt (ds.length ≤ k * g) := ⟨by rw [← hnn.out, ← hBk.out]; omega⟩
      have hkn5 : k ≤ 5000 := by omega
      rcases Nat.eq_zero_or_pos k with hk0 | hk0
      · have e2 : ¬ (0 : Int) < k := by omega
        replace hk0 := Kpt.mk hk0
        go_wp2_with fail
        try rw [Exit.noGoto_ret]
        refine bodyPost_ret (v := .slice va k vc) (by simp [results, Try.results29, asAddr, Act.put]) rfl ?_
        refine ⟨_, rfl, zs, k, ?_, by rw [hnn.out]; exact hend.out, hkl.out⟩
        have hpc0 := hpc.out
        rw [hk0.out] at hpc0 ⊢
        exact (pc_none hpc0).from hb.out
      · have e2 : (0 : Int) < k := by omega
        obtain ⟨q, hq⟩ : ∃ q, k = q + 1 := ⟨k - 1, by omega⟩
        subst hq
        have e3 : IntKind.i64.wrap (((q + 1 : Nat) : Int) - 1) = q := by rw [IntKind.wrap_i64]; omega
        obtain ⟨a', c', hv', hs'⟩ := hpc.out.own.shape
        have hlz := hpc.out.len
        rw [hlz] at hv' hs'
        simp only [Value.slice.injEq] at hv'
        obtain ⟨rfl, -, rfl⟩ := hv'
        rcases hs' with ⟨_, _, hx⟩ | ⟨r, rfl, hr, hc1, hc2, hfz, hrg⟩
        · omega
        obtain ⟨z, hz⟩ : ∃ z, zs[q]? = some z := ⟨_, List.getElem?_eq_getElem (by omega)⟩
        obtain ⟨p, hzp, _, hfl, _⟩ := (hpc.out.each q z hz).pd
        have cz := hrg q z hz 1 (.int .u8 0) (by rw [hzp]; simp [Pd.v, hfl])
        have fz := hfz (q * 14 + 1)
        have hc3 : vc ≤ 9223372036854775807 := by unfold maxLen at hc2; omega
        clear hrg hfz hc2 hz hzp hfl hlz
        go_wp2_with fail
        try rw [Exit.noGoto_ret]
        obtain ⟨zs', hf⟩ := hpc.out.fin
        refine bodyPost_ret (v := .slice (some ⟨r, 0, none⟩) (q + 1) vc) (by simp [results, Try.results29, asAddr, Act.put]) rfl ?_
        exact ⟨_, rfl, zs', q + 1, hf.from hb.out, by rw [hnn.out]; exact hend.out, hkl.out⟩
end Go.Proofs.Ytdplndlmdhpfaaa
