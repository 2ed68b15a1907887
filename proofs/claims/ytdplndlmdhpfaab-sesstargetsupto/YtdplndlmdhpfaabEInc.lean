/-
  sess: In, of a PDU whose turn it is; its data's room is told.
-/
import Derived.Test.YtdplndlmdhpfaabEIn
namespace Go.Proofs.Ytdplndlmdhpfaab
open Go.RowKit
set_option linter.unusedVariables false
set_option linter.unusedSimpArgs false

theorem row_capx {w : World} {a : Option Addr} {n c : Nat} {ds : List Int} (h : Row w (.slice a n c) ds) : c ≤ maxLen := by
  rcases h.2 with h2 | ⟨g, cap, cur, e, h1, h2, h3, h4, h5⟩
  · have e := h2.1
    simp only [Value.slice.injEq] at e
    rw [e.2.2]; exact Nat.zero_le _
  · simp only [Value.slice.injEq] at e
    rw [e.2.2]; exact h4
set_option maxRecDepth 100000 in
set_option maxHeartbeats 8000000 in
theorem in_turnc (S : Nat) (s : Se) (O T : List (Array Value)) (p : Pd) (a : Option Addr) (n c : Nat) (ds : List Int) (R : World → Se → List (Array Value) → List (Array Value) → Prop) (w : World) (h : Ss w S s [] O T) (hop : p.op = 0 ∨ p.op = 1 ∨ p.op = 4) (hw1 : p.w1 = s.next) (hov : s.over = false)
    (hda : p.da = .slice a n c) (hD : Dt (s.X S) w p.da ds) (hdl : ds.length ≤ 100000)
    (hRb : ∀ W W' s3 gs ts, Below W.heap.size W W' → R W s3 gs ts → R W' s3 gs ts)
    (hRs : ∀ W s3 gs ts, R W s3 gs ts → s3.over = false ∧ ∃ O3 T3, Ss W S s3 [] O3 T3)
    (HD : ∀ W da' v', (∀ a n c, da' = .slice a n c → c ≤ maxLen) → Ss W S (s.step v') [] O T → St S w W s (s.step v') → Dt ((s.step v').X S) W da' ds → Calls Try.prog 24 #[.pointer (some ⟨S, 0, none⟩), .agg ({ p with da := da' } : Pd).v] W fun e w' => ∃ gv tv gs ts s3, e = .returned (.tuple #[gv, tv]) ∧ R w' s3 gs ts ∧ St S W w' (s.step v') s3 ∧ Got w' S s3 42 14 gv gs ∧ Got w' S s3 60 8 tv ts) :
    Calls Try.prog 10 #[.pointer (some ⟨S, 0, none⟩), .agg p.v] w fun e w' => ∃ gv tv gs ts s3, e = .returned (.tuple #[gv, tv]) ∧ R w' s3 gs ts ∧ St S w w' s s3 ∧ Gots w w' S s3 42 14 gv gs ∧ Gots w w' S s3 60 8 tv ts := by
  have k0 := Kpt.mk (Lo.start h)
  have hO : Kpt (∀ W : World, Calls Try.prog 20 #[.agg p.v] W fun e w' => e = .returned (.int .u8 p.op) ∧ Below W.heap.size W w') := ⟨fun W => by
    have := operation_any p W (by rcases hop with h | h | h <;> simp [Pd.opk, h])
    rwa [show p.op % 64 = p.op from by rcases hop with h | h | h <;> rw [h] <;> rfl] at this⟩
  have hI : Kpt (∀ W : World, Calls Try.prog 22 #[.int .u8 p.op] W fun e w' => e = .returned (.bool true) ∧ w' = W) := ⟨fun W => by
    have := isKnown_any p.op W (by rcases hop with h | h | h <;> simp [h])
    rwa [show decide (p.op ≤ 6) = true from by rcases hop with h | h | h <;> rw [h] <;> rfl] at this⟩
  have hH : Kpt (∀ W, Ss W S s [] O T → Calls Try.prog 25 #[.pointer (some ⟨S, 0, none⟩), .int .u32 s.next] W fun e w' => e = .returned (.bool false) ∧ Below W.heap.size W w') := ⟨fun W h => holds_any S s [] O T s.next W h (by simp)⟩
  have hC : Kpt (∀ W L, Lo w W S s s [] O T L → Calls Try.prog 26 #[p.da] W fun e w' => ∃ v', e = .returned v' ∧ Row w' v' ds ∧ W.grownBy w' none ∧ ∀ g, v'.ownBlock = some g → W.heap.size ≤ g) := ⟨fun W L k => clone_any W p.da ds (hD.st k.st).rd (by omega)⟩
  have hF : Kpt (∀ W (v1 : Value) da' b m d, da' = .slice b m d → d ≤ maxLen → Ss W S { s with held := v1 } [({ p with da := da' } : Pd).v] O T → St S w W s { s with held := v1 } → Dt (({ s with held := v1 } : Se).X S) W da' ds → Calls Try.prog 27 #[.pointer (some ⟨S, 0, none⟩)] W fun e w' => ∃ gv tv gs ts s3, e = .returned (.tuple #[gv, tv]) ∧ R w' s3 gs ts ∧ St S W w' { s with held := v1 } s3 ∧ Gots W w' S s3 42 14 gv gs ∧ Gots W w' S s3 60 8 tv ts) := ⟨fun W v1 da' b m d hd hcap h1 h2 h3 => doHeld_one S { s with held := v1 } O T { p with da := da' } R W h1 hw1 hov hRb hRs (fun W2 v2 g1 g2 => HD W2 da' v2 (by rintro a n c e; rw [hd] at e; injection e with _ _ e; omega) g1 (h2.trans g2) (h3.st g2))⟩
  replace hdl := Kpt.mk hdl
  replace hov := Kpt.mk hov
  replace hw1 := Kpt.mk hw1
  have hdaK := Kpt.mk hda
  clear h hRb hRs HD hD hda
  rcases hop with hop | hop | hop
  all_goals
    rw [hop] at hO hI
    go_enter Try.func10, Try.ntmps10
    go_upto_region 14 with (first
      | (go_at_call 20; go_must (refine (hO.out _).mono ?_; rintro e w2 ⟨rfl, hb2⟩; have k2 := Kpt.mk (k1.out.below hb2); have c0 := k2.out.b0.cells 0 (by simp [Pd.v]); have c7 := k2.out.b0.cells 7 (by simp [Pd.v]); simp [Pd.v] at c0 c7; rw [hop] at c0; rw [hw1.out] at c7; have c11 := (k2.out.ss.cell 11 (by omega)).1; simp only [Se.v, List.getElem?_toArray, List.getElem?_cons_succ, List.getElem?_cons_zero] at c11; clear hb2))
      | (go_at_call 22; go_must (refine (hI.out _).mono ?_; rintro e wx ⟨rfl, hwx⟩; rw [hwx]; clear hwx))
      | (go_at_call 25; go_must (refine (hH.out _ k2.out.ss).mono ?_; rintro e w3 ⟨rfl, hb3⟩; have k3 := Kpt.mk (k2.out.below hb3); have c13 := k3.out.b0.cells 13 (by simp [Pd.v]); simp [Pd.v] at c13; clear hb3))
      | (go_at_call 26; go_must (refine (hC.out _ _ k3.out).mono ?_; rintro e w4 ⟨v', rfl, hr2, hg2, hn2⟩; obtain ⟨da', dc', hv'⟩ := rd_len hr2.rd; obtain ⟨dn', hdn'⟩ : ∃ n, n = ds.length := ⟨_, rfl⟩; rw [← hdn'] at hv'; subst hv'; have CP : Kpt (dc' ≤ maxLen) := ⟨row_capx hr2⟩; have k4 := Kpt.mk (k3.out.below (below_none hg2)); have D1 : Kpt (Dt (s.X S) w4 (.slice da' dn' dc') ds) := ⟨Row.dt k3.out.ss hr2 hn2⟩; have N1 : Kpt (0 < ds.length → ∀ g, (Value.slice da' dn' dc').ownBlock = some g → g ≠ P) := ⟨fun _ g hg => by have := hn2 g hg; have := k3.out.b0.lt; omega⟩; have c13 := k4.out.b0.cells 13 (by simp [Pd.v]); have f13 := k4.out.b0.free 13; simp [Pd.v] at c13; rw [hdaK.out] at c13; have k5 : Kpt (Lo w (w4.setCell ⟨P, 13, none⟩ (.slice da' dn' dc')) S s s [] O T [(P, ({ p with da := .slice da' dn' dc' } : Pd).v)]) := ⟨k4.out.put0 (by have := bx_setC (.slice da' dn' dc') k4.out.b0 (j := 13) (by simp [Pd.v]); simpa [Pd.v] using this) (grown_setCellK _ _ _)⟩; have D2 : Kpt (Dt (s.X S) (w4.setCell ⟨P, 13, none⟩ (.slice da' dn' dc')) (.slice da' dn' dc') ds) := ⟨D1.out.put (grown_setCellK _ _ _) N1.out⟩; clear hr2 hg2 hn2 hdn'))
      | (refine (?_ : wpList _ _ _ (Oper.mk _ (Op.load 42 _) _ _ _ _ :: _) _ _); go_must (refine wpList_load_bx rfl 42 _ rfl P p.v rfl k1.out.b0 _ Try.underlying42 rfl szPdu ?_; have hm := hdl))
      | (refine (?_ : wpList _ _ _ (Oper.mk _ (Op.box 42 _) _ _ _ _ :: _) _ _); go_must (refine wpList_box rfl 42 _ rfl p.v rfl ?_; intro P w1 hP hB hb _; have k1 := Kpt.mk (k0.out.add hb hP hB); have c17 := (k1.out.ss.cell 17 (by omega)).1; simp only [Se.v, List.getElem?_toArray, List.getElem?_cons_succ, List.getElem?_cons_zero] at c17; rw [hov.out] at c17; clear hb hP hB)))
    obtain ⟨w5, hw5⟩ : ∃ x, x = w4.setCell ⟨P, 13, none⟩ (.slice da' dn' dc') := ⟨_, rfl⟩
    rw [← hw5] at k5 D2 ⊢
    clear hw5 k1 k2 k3 k4 c0 c7 c11 c17 c13 f13 hO hI hH hC D1
    obtain ⟨q, hq⟩ : ∃ q : Pd, q = { p with da := .slice da' dn' dc' } := ⟨_, rfl⟩
    have hqda : Kpt (q.da = .slice da' dn' dc') := ⟨by rw [hq]⟩
    have hq1 : Kpt (q.v.size = 14 ∧ q.v.all (·.oneCell') = true) := ⟨Pd.one hqda.out⟩
    rw [← hq] at k5
    replace hF : Kpt (∀ W (v1 : Value), Ss W S { s with held := v1 } [q.v] O T → St S w W s { s with held := v1 } → Dt (({ s with held := v1 } : Se).X S) W (.slice da' dn' dc') ds → Calls Try.prog 27 #[.pointer (some ⟨S, 0, none⟩)] W fun e w' => ∃ gv tv gs ts s3, e = .returned (.tuple #[gv, tv]) ∧ R w' s3 gs ts ∧ St S W w' { s with held := v1 } s3 ∧ Gots W w' S s3 42 14 gv gs ∧ Gots W w' S s3 60 8 tv ts) := ⟨fun W v1 h1 h2 h3 => hF.out W v1 _ _ _ _ rfl CP.out (by rw [← hq]; exact h1) h2 h3⟩
    clear hq N1
    go_cut [3] from 68 to 77 (fun t3 wc => ∃ v1 : Value, t3 = .pointer (some ⟨P, 0, none⟩) ∧ Kpt (Lo w wc S s { s with held := v1 } [q.v] O T [(P, q.v)]) ∧ Kpt (Dt (({ s with held := v1 } : Se).X S) wc (.slice da' dn' dc') ds))
    case first =>
      refine wp_region_any (by kernel_rfl) ?_
      refine wpAny_of_C (C := fun W => Bx W P q.v) _ _ _ _ ?_
      refine wpAnyC_take 0 (.pointer (some ⟨S, 0, none⟩)) rfl (by kernel_rfl) (by kernel_rfl) (by kernel_rfl) (fun _ _ _ h => h) (wanted_free rfl _) (fun W hW => by go_simp) ?_
      try simp only [Act.put, List.getElem_toArray, List.getElem_cons_succ, List.getElem_cons_zero, List.setIfInBounds_toArray, List.set_cons_succ, List.set_cons_zero]
      refine wpAnyC_take 1 (.pointer (some ⟨S, 0, none⟩)) rfl (by kernel_rfl) (by kernel_rfl) (by kernel_rfl) (fun _ _ _ h => h) (wanted_free rfl _) (fun W hW => by go_simp) ?_
      try simp only [Act.put, List.getElem_toArray, List.getElem_cons_succ, List.getElem_cons_zero, List.setIfInBounds_toArray, List.set_cons_succ, List.set_cons_zero]
      refine wpAnyC_take 2 (.pointer (some ⟨S, 0, none⟩)) rfl (by kernel_rfl) (by kernel_rfl) (by kernel_rfl) (fun _ _ _ h => h) (wanted_free rfl _) (fun W hW => by go_simp) ?_
      try simp only [Act.put, List.getElem_toArray, List.getElem_cons_succ, List.getElem_cons_zero, List.setIfInBounds_toArray, List.set_cons_succ, List.set_cons_zero]
      refine wpAnyC_take 3 (.pointer (some ⟨S, 14, none⟩)) rfl (by kernel_rfl) (by kernel_rfl) (by kernel_rfl) (fun _ _ _ h => h) (wanted_free rfl _) (fun W hW => by go_simp) ?_
      try simp only [Act.put, List.getElem_toArray, List.getElem_cons_succ, List.getElem_cons_zero, List.setIfInBounds_toArray, List.set_cons_succ, List.set_cons_zero]
      refine wpAnyC_take 5 (.agg q.v) rfl (by kernel_rfl) (by kernel_rfl) (by kernel_rfl) (fun _ _ _ h => h) (wanted_free rfl _) (fun W hW => exec_load_bx 42 (.tmp 3) rfl P _ rfl hW _ Try.underlying42 rfl szPdu) ?_
      try simp only [Act.put, List.getElem_toArray, List.getElem_cons_succ, List.getElem_cons_zero, List.setIfInBounds_toArray, List.set_cons_succ, List.set_cons_zero]
      have K0 := Kpt.mk k5.out.drew
      have D20 := Kpt.mk (D2.out.fr (Fr.drew _ _) (fun b h => .inl h))
      obtain ⟨W0, hW0⟩ : ∃ W, W = w5.drew := ⟨_, rfl⟩
      rw [← hW0] at K0 D20
      refine wpAnyC_world hW0 ?_
      clear hW0
      obtain ⟨fa, fc, hfv, _⟩ := K0.out.ss.held.shape
      obtain ⟨fn, hfn⟩ : ∃ n, n = (([] : List (Array Value))).length := ⟨_, rfl⟩
      rw [← hfn] at hfv
      have cF := (K0.out.ss.cell 14 (by omega)).1
      simp only [Se.v, List.getElem?_toArray, List.getElem?_cons_succ, List.getElem?_cons_zero] at cF
      rw [hfv] at cF
      replace hfv := Kpt.mk hfv
      clear hfn
      refine wpAnyC_two 4 6 (K0.out.b0) rfl rfl (by kernel_rfl) (wanted_free rfl _) (wanted_free rfl _) (fun KA hKA => ?_) (fun KA hKA => ?_)
      · go_simp
        refine hKA _ _ ?_
        clear hKA KA
        try simp only [Act.put, List.getElem_toArray, List.getElem_cons_succ, List.getElem_cons_zero, List.setIfInBounds_toArray, List.set_cons_succ, List.set_cons_zero]
        refine wpAnyC_one 6 (K0.out.b0) rfl (by kernel_rfl) (wanted_free rfl _) (fun KA hKA => ?_)
        unfold Oper.wp
        rw [exec_build1 36 42 14 64 _ Try.underlying36 infoPdu (by decide) (by decide) (.tmp 73) rfl q.v rfl rfl]
        refine hKA _ (W0.alloc (.cells q.v 42)) ?_
        clear hKA KA
        have hb1 : Below W0.heap.size W0 (W0.alloc (.cells q.v 42)) := (Below.refl _ _).alloc (Nat.le_refl _) _
        have K1 := Kpt.mk (K0.out.below hb1)
        have hN : Kpt (Bx (W0.alloc (.cells q.v 42)) W0.heap.size q.v) := ⟨bx_new _ _ _⟩
        have D21 := Kpt.mk (D20.out.fr (Fr.of_below hb1) (fun b h => .inl h))
        obtain ⟨N, hNN⟩ : ∃ N, N = W0.heap.size := ⟨_, rfl⟩
        rw [← hNN] at hN ⊢
        obtain ⟨W1, hW1⟩ : ∃ W1, W1 = W0.alloc (.cells q.v 42) := ⟨_, rfl⟩
        rw [← hW1] at K1 hN D21 ⊢
        clear hNN hW1 hb1
        try simp only [Act.put, List.getElem_toArray, List.getElem_cons_succ, List.getElem_cons_zero, List.setIfInBounds_toArray, List.set_cons_succ, List.set_cons_zero]
        refine wpAnyC_one 7 (K1.out.b0) rfl (by kernel_rfl) (wanted_free rfl _) (fun KA hKA => ?_)
        refine wp_append_row 36 42 14 64 _ Try.underlying36 infoPdu rfl (by decide) (by decide) _ _ rfl (.slice fa fn fc) (.slice (some ⟨N, 0, none⟩) 1 1) (([] : List (Array Value))) [q.v] rfl rfl (by rw [← hfv.out]; exact K1.out.ss.held) (hN.out.one hq1.out) (by simp) (by first | (simp; done) | (simp; omega)) ?_
        intro v5 W5 ho5 hg5 hor
        rw [← hfv.out] at hg5 hor
        obtain ⟨q1, q2, q3, q4⟩ := K1.out.ss.setHeld hg5 ho5 (fun b hb => by rcases hor with e | e; exact .inl (e ▸ hb); rw [e] at hb; injection hb with hb; exact .inr (Nat.le_of_eq hb))
        rw [hfv.out] at q3
        obtain ⟨va, vc, hv5, _⟩ := ho5.shape
        obtain ⟨vn, hvn⟩ : ∃ n, n = (([] : List (Array Value)) ++ [q.v]).length := ⟨_, rfl⟩
        rw [← hvn] at hv5
        subst hv5
        clear hvn
        have hF5 : Kpt (Fr (s.X S) W1 W5) := ⟨Fr.of_grown hg5 (fun b e => .inr (.inl e))⟩
        replace q1 := Kpt.mk q1
        replace q2 := Kpt.mk q2
        have q2' := Kpt.mk ((Fr.of_grown (X := s.X S) (grown_setCellK W5 ⟨S, 14, none⟩ (.slice va vn vc)) (fun b e => .inl (by injection e with e; exact e.symm))))
        clear ho5 hg5 hor
        refine hKA _ _ ?_
        clear hKA KA
        try simp only [Act.put, List.getElem_toArray, List.getElem_cons_succ, List.getElem_cons_zero, List.setIfInBounds_toArray, List.set_cons_succ, List.set_cons_zero]
        refine wpAnyC_take 8 (.pointer (some ⟨S, 0, none⟩)) rfl (by kernel_rfl) (by kernel_rfl) (by kernel_rfl) (fun _ _ _ h => h) (wanted_free rfl _) (fun W hW => by go_simp) ?_
        try simp only [Act.put, List.getElem_toArray, List.getElem_cons_succ, List.getElem_cons_zero, List.setIfInBounds_toArray, List.set_cons_succ, List.set_cons_zero]
        refine wpAnyC_take 9 (.pointer (some ⟨S, 14, none⟩)) rfl (by kernel_rfl) (by kernel_rfl) (by kernel_rfl) (fun _ _ _ h => h) (wanted_free rfl _) (fun W hW => by go_simp) ?_
        try simp only [Act.put, List.getElem_toArray, List.getElem_cons_succ, List.getElem_cons_zero, List.setIfInBounds_toArray, List.set_cons_succ, List.set_cons_zero]
        refine wpAnyC_one 10 (K1.out.b0.of_block (Nat.lt_of_lt_of_le K1.out.b0.lt hF5.out.size) (hF5.out.block _ K1.out.b0.lt (K1.out.bx (P, q.v) (by simp)).2.1)) rfl (by kernel_rfl) (wanted_free rfl _) (fun KA hKA => ?_)
        go_simp
        have K6 := Kpt.mk (K1.out.turn q1.out q2.out)
        have D26 := Kpt.mk (D21.out.fr q2.out.fr q2.out.new)
        obtain ⟨W6, hW6⟩ : ∃ W6, W6 = W5.setCell ⟨S, 14, none⟩ (.slice va vn vc) := ⟨_, rfl⟩
        refine hKA _ (W5.setCell ⟨S, 14, none⟩ (.slice va vn vc)) ?_
        rw [← hW6] at K6 D26 ⊢
        clear hKA KA hW6
        try simp only [Act.put, List.getElem_toArray, List.getElem_cons_succ, List.getElem_cons_zero, List.setIfInBounds_toArray, List.set_cons_succ, List.set_cons_zero]
        refine wpAnyC_done (K6.out.b0) (by kernel_rfl) ?_
        go_wp2_with fail
        go_meet
        exact ⟨_, rfl, K6, D26⟩
      · unfold Oper.wp
        rw [exec_build1 36 42 14 64 _ Try.underlying36 infoPdu (by decide) (by decide) (.tmp 73) rfl q.v rfl rfl]
        refine hKA _ (W0.alloc (.cells q.v 42)) ?_
        clear hKA KA
        have hb1 : Below W0.heap.size W0 (W0.alloc (.cells q.v 42)) := (Below.refl _ _).alloc (Nat.le_refl _) _
        have K1 := Kpt.mk (K0.out.below hb1)
        have hN : Kpt (Bx (W0.alloc (.cells q.v 42)) W0.heap.size q.v) := ⟨bx_new _ _ _⟩
        have D21 := Kpt.mk (D20.out.fr (Fr.of_below hb1) (fun b h => .inl h))
        obtain ⟨N, hNN⟩ : ∃ N, N = W0.heap.size := ⟨_, rfl⟩
        rw [← hNN] at hN ⊢
        obtain ⟨W1, hW1⟩ : ∃ W1, W1 = W0.alloc (.cells q.v 42) := ⟨_, rfl⟩
        rw [← hW1] at K1 hN D21 ⊢
        clear hNN hW1 hb1
        try simp only [Act.put, List.getElem_toArray, List.getElem_cons_succ, List.getElem_cons_zero, List.setIfInBounds_toArray, List.set_cons_succ, List.set_cons_zero]
        have cF1 := (K1.out.ss.cell 14 (by omega)).1
        simp only [Se.v, List.getElem?_toArray, List.getElem?_cons_succ, List.getElem?_cons_zero] at cF1
        rw [hfv.out] at cF1
        refine wpAnyC_one 4 (K1.out.b0) rfl (by kernel_rfl) (wanted_free rfl _) (fun KA hKA => ?_)
        go_simp
        refine hKA _ _ ?_
        clear hKA KA
        try simp only [Act.put, List.getElem_toArray, List.getElem_cons_succ, List.getElem_cons_zero, List.setIfInBounds_toArray, List.set_cons_succ, List.set_cons_zero]
        refine wpAnyC_one 7 (K1.out.b0) rfl (by kernel_rfl) (wanted_free rfl _) (fun KA hKA => ?_)
        refine wp_append_row 36 42 14 64 _ Try.underlying36 infoPdu rfl (by decide) (by decide) _ _ rfl (.slice fa fn fc) (.slice (some ⟨N, 0, none⟩) 1 1) (([] : List (Array Value))) [q.v] rfl rfl (by rw [← hfv.out]; exact K1.out.ss.held) (hN.out.one hq1.out) (by simp) (by first | (simp; done) | (simp; omega)) ?_
        intro v5 W5 ho5 hg5 hor
        rw [← hfv.out] at hg5 hor
        obtain ⟨q1, q2, q3, q4⟩ := K1.out.ss.setHeld hg5 ho5 (fun b hb => by rcases hor with e | e; exact .inl (e ▸ hb); rw [e] at hb; injection hb with hb; exact .inr (Nat.le_of_eq hb))
        rw [hfv.out] at q3
        obtain ⟨va, vc, hv5, _⟩ := ho5.shape
        obtain ⟨vn, hvn⟩ : ∃ n, n = (([] : List (Array Value)) ++ [q.v]).length := ⟨_, rfl⟩
        rw [← hvn] at hv5
        subst hv5
        clear hvn
        have hF5 : Kpt (Fr (s.X S) W1 W5) := ⟨Fr.of_grown hg5 (fun b e => .inr (.inl e))⟩
        replace q1 := Kpt.mk q1
        replace q2 := Kpt.mk q2
        have q2' := Kpt.mk ((Fr.of_grown (X := s.X S) (grown_setCellK W5 ⟨S, 14, none⟩ (.slice va vn vc)) (fun b e => .inl (by injection e with e; exact e.symm))))
        clear ho5 hg5 hor
        refine hKA _ _ ?_
        clear hKA KA
        try simp only [Act.put, List.getElem_toArray, List.getElem_cons_succ, List.getElem_cons_zero, List.setIfInBounds_toArray, List.set_cons_succ, List.set_cons_zero]
        refine wpAnyC_take 8 (.pointer (some ⟨S, 0, none⟩)) rfl (by kernel_rfl) (by kernel_rfl) (by kernel_rfl) (fun _ _ _ h => h) (wanted_free rfl _) (fun W hW => by go_simp) ?_
        try simp only [Act.put, List.getElem_toArray, List.getElem_cons_succ, List.getElem_cons_zero, List.setIfInBounds_toArray, List.set_cons_succ, List.set_cons_zero]
        refine wpAnyC_take 9 (.pointer (some ⟨S, 14, none⟩)) rfl (by kernel_rfl) (by kernel_rfl) (by kernel_rfl) (fun _ _ _ h => h) (wanted_free rfl _) (fun W hW => by go_simp) ?_
        try simp only [Act.put, List.getElem_toArray, List.getElem_cons_succ, List.getElem_cons_zero, List.setIfInBounds_toArray, List.set_cons_succ, List.set_cons_zero]
        refine wpAnyC_one 10 (K1.out.b0.of_block (Nat.lt_of_lt_of_le K1.out.b0.lt hF5.out.size) (hF5.out.block _ K1.out.b0.lt (K1.out.bx (P, q.v) (by simp)).2.1)) rfl (by kernel_rfl) (wanted_free rfl _) (fun KA hKA => ?_)
        go_simp
        have K6 := Kpt.mk (K1.out.turn q1.out q2.out)
        have D26 := Kpt.mk (D21.out.fr q2.out.fr q2.out.new)
        obtain ⟨W6, hW6⟩ : ∃ W6, W6 = W5.setCell ⟨S, 14, none⟩ (.slice va vn vc) := ⟨_, rfl⟩
        refine hKA _ (W5.setCell ⟨S, 14, none⟩ (.slice va vn vc)) ?_
        rw [← hW6] at K6 D26 ⊢
        clear hKA KA hW6
        try simp only [Act.put, List.getElem_toArray, List.getElem_cons_succ, List.getElem_cons_zero, List.setIfInBounds_toArray, List.set_cons_succ, List.set_cons_zero]
        refine wpAnyC_done (K6.out.b0) (by kernel_rfl) ?_
        go_wp2_with fail
        go_meet
        exact ⟨_, rfl, K6, D26⟩
    case rest =>
      obtain ⟨v1, rfl, k6, E2⟩ := hcut
      clear k5 D2
      go_wp2_with (go_at_call 27; go_must (refine (hF.out _ _ k6.out.ss k6.out.st E2.out).mono ?_; rintro e w7 ⟨gv, tv, gs, ts, s3, rfl, hR7, ht7, hG7, hT7⟩; have st7 := Kpt.mk (k6.out.st.trans ht7); have hsz := k6.out.st.fr.size; replace hR7 := Kpt.mk hR7; replace hG7 := Kpt.mk hG7; replace hT7 := Kpt.mk hT7; clear ht7))
      go_ret2
      exact ⟨gv, tv, gs, ts, s3, rfl, hR7.out, st7.out, ⟨hG7.out.own, fun b hb => ⟨(hG7.out.off b hb).1, Nat.le_trans hsz (hG7.out.off b hb).2⟩⟩, ⟨hT7.out.own, fun b hb => ⟨(hT7.out.off b hb).1, Nat.le_trans hsz (hT7.out.off b hb).2⟩⟩⟩
end Go.Proofs.Ytdplndlmdhpfaab
