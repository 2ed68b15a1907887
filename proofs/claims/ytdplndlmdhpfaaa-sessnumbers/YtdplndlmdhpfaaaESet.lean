/-
  sess: settle and Forget.
-/
import Derived.Test.YtdplndlmdhpfaaaETkw
import Derived.Deep.DeepCutAuto
namespace Go.Proofs.Ytdplndlmdhpfaaa
open Go.RowKit
set_option linter.unusedVariables false
set_option linter.unusedSimpArgs false

theorem tagOf_w (r : Wr) : tagOf r.v = r.t.tg := rfl
theorem settle1_any (r : Wr) (q : Nat) (n : Int) (w : World) (hq : w.cell? ⟨q, 0, none⟩ = some (.int .u32 n)) (hql : q < w.heap.size) :
    Calls Try.prog 48 #[.agg r.v, .pointer (some ⟨q, 0, none⟩)] w fun e w' => e = .returned (.bool (isC n r.v)) ∧ Below w.heap.size w w' := by
  have hI : Kpt (isC n r.v = (r.t.tg == n)) := ⟨by simp only [isC, tagOf_w]; exact decide_eq_beq_int _ _⟩
  go_enter Try.func48, Try.ntmps48
  go_wp2_with (refine (?_ : wpList _ _ _ (Oper.mk _ (Op.box 81 _) _ _ _ _ :: _) _ _); go_must (refine wpList_box rfl 81 _ rfl r.v rfl ?_; intro P w1 hP hB hb _; have q7 := hB.cells 0 (by simp [Wr.v]); simp [Wr.v] at q7; have hq1 := (hb.cell (p := ⟨q, 0, none⟩) hql).trans hq; replace hb := Kpt.mk hb; clear hB hP))
  go_ret
  exact ⟨by rw [hI.out]; rfl, hb.out⟩
theorem hcfS : ∀ (args : Array Value) (W : World), (callFunc 48 args).run Try.prog W = .ok (Next.enter 48 args) W := fun args W => Go.MuLone.run_callFunc_enter (P := Try.prog) Try.func48 (by kernel_rfl) rfl args W

set_option maxRecDepth 100000 in
set_option maxHeartbeats 4000000 in
theorem settle_none (S : Nat) (s : Se) (H : List (Array Value)) (O : List Cm) (T : List (Array Value)) (n : Int) (w : World) (h : Ss w S s H (O.map Cm.v) T) (hl : O.length ≤ 5000) (hno : fidx (isC n) (O.map Cm.v) 0 = -1) :
    Calls Try.prog 28 #[.pointer (some ⟨S, 0, none⟩), .int .u32 n] w fun e w' => e = .returned (.tuple #[.agg (Cm.v ⟨0, 0, false, 0⟩), .bool false]) ∧ Below w.heap.size w w' := by
  have hF : Kpt (∀ W, Ss W S s H (O.map Cm.v) T → Calls Try.prog 47 #[.pointer (some ⟨S, 0, none⟩), .int .u32 n] W fun e w' => e = .returned (.int .i64 (-1)) ∧ Below W.heap.size W w') := ⟨fun W h => by have := findOpen_any S s H O T n W h (by omega); rw [hno] at this; exact this⟩
  have hb0 : Kpt (Below w.heap.size w (w.alloc (.cells #[.int .u32 n] 22))) := ⟨(Below.refl _ _).alloc (Nat.le_refl _) _⟩
  have hK := Kpt.mk h
  clear h hno
  go_enter Try.func28, Try.ntmps28
  go_wp2_with (first
    | (go_at_call 47; go_must (refine (hF.out _ (hK.out.below hb1.out)).mono ?_; rintro e w2 ⟨rfl, hb2⟩; have hB2 := Kpt.mk (hB1.out.below hb2 hB1.out.lt); have hbw2 := Kpt.mk (hb1.out.trans (hb2.mono hb1.out.size)); clear hb2))
    | (refine (?_ : wpList _ _ _ (Oper.mk _ (Op.alloc 71) _ _ _ _ :: _) _ _); go_must (refine wpList_var rfl 71 rfl _ zCmd ?_; intro R w1 hR hB1 hb1'; have cq : w1.cell? ⟨w.heap.size, 0, none⟩ = some (.int .u32 n) := (hb1'.cell (p := ⟨w.heap.size, 0, none⟩) (by simp)).trans (by simp); have hb1 := Kpt.mk (hb0.out.trans (hb1'.mono hb0.out.size)); have hRw := Kpt.mk (Nat.le_trans hb0.out.size hR); replace hB1 := Kpt.mk hB1; clear hb1' hR))
    | (refine (?_ : wpList _ _ _ (Oper.mk _ (Op.store 71 _ _) _ _ _ _ :: _) _ _); go_must (refine wpList_store_bx rfl 71 _ _ rfl R _ (Cm.v ⟨0, 0, false, 0⟩) rfl rfl hB2.out rfl szCmd (Cm.one ⟨0, 0, false, 0⟩).2 rfl ?_; intro w3 hB3 hg3; have hb3 := Kpt.mk (hbw2.out.grown hg3 hbw2.out.size (fun q e => by injection e with e; subst e; exact hRw.out)); replace hB3 := Kpt.mk hB3; clear hg3)))
  refine bodyPost_ret (v := .tuple #[.agg (Cm.v ⟨0, 0, false, 0⟩), .bool false]) (by simp [results, Try.results28, asAddr, Act.put, run_res hB3.out 71 _ Try.underlying71 rfl szCmd]) rfl ⟨rfl, hb3.out⟩

theorem Lo.setOpnP {w W W1 : World} {S P : Nat} {s0 s : Se} {H O T O' : List (Array Value)} {L : List (Nat × Array Value)} {pv pv' : Array Value} {v' : Value} (k : Lo w W S s0 s H O T ((P, pv) :: L)) (hf : Fr (fun b => s.opn.ownBlock = some b ∨ b = P) W W1) (hB : Bx W1 P pv') (hv : OwnR 71 4 W1 v' O') (hn : v'.ownBlock = s.opn.ownBlock) :
    Lo w (W1.setCell ⟨S, 15, none⟩ v') S s0 { s with opn := v' } H O' T ((P, pv') :: L) ∧ W1.cell? ⟨S, 15, none⟩ = some s.opn ∧ W1.frozen? ⟨S, 15, none⟩ = false := by
  obtain ⟨b1, b2, b3⟩ := k.bx (P, pv) (by simp)
  have h := k.ss
  have hSP : ¬ S = P := fun e => b2 (.inl e.symm)
  have hbx : Bx W1 S s.v := h.bx.of_block (Nat.lt_of_lt_of_le h.bx.lt hf.size) (hf.block S h.bx.lt (fun e => by rcases e with e | e; exact h.no e; exact hSP e))
  have hs := grown_setCellK W1 ⟨S, 15, none⟩ v'
  have hX : ∀ b, ({ s with opn := v' } : Se).X S b → s.X S b := fun b hb => by
    rcases hb with hb | hb | hb | hb
    · exact .inl hb
    · exact .inr (.inl hb)
    · exact .inr (.inr (.inl (by rw [← hn]; exact hb)))
    · exact .inr (.inr (.inr hb))
  refine ⟨⟨⟨?_, ?_, ?_, ?_, h.nh, by rw [hn]; exact h.no, h.nw, by rw [hn]; exact h.ho, h.hw, by rw [hn]; exact h.ow⟩, ⟨⟨?_, ?_, ?_, ?_, ?_⟩, fun b hb => k.st.new b (hX b hb)⟩, fun x hx => ?_, k.nd⟩, hbx.cells 15 (by rw [Se.v_size]; omega), hbx.free 15⟩
  · exact bx_setC v' hbx (by rw [Se.v_size]; omega)
  · exact h.held.of_block (fun g hgg => (hs.block g (Nat.lt_of_lt_of_le (h.held.lt hgg) hf.size) (fun e => h.nh (by rw [hgg]; exact e))).trans (hf.block g (h.held.lt hgg) (fun e => by rcases e with e | e; exact h.ho g hgg e; subst e; exact b2 (.inr (.inl hgg)))))
  · exact hv.of_block (fun g hgg => hs.block g (hv.lt hgg) (fun e => h.no (by rw [← hn, hgg]; exact e)))
  · exact h.wts.of_block (fun g hgg => (hs.block g (Nat.lt_of_lt_of_le (h.wts.lt hgg) hf.size) (fun e => h.nw (by rw [hgg]; exact e))).trans (hf.block g (h.wts.lt hgg) (fun e => by rcases e with e | e; exact h.ow g e hgg; subst e; exact b2 (.inr (.inr (.inr hgg))))))
  · exact hs.os.trans (hf.os.trans k.st.fr.os)
  · exact hs.tape.trans (hf.tape.trans k.st.fr.tape)
  · exact hs.output.trans (hf.output.trans k.st.fr.output)
  · exact Nat.le_trans k.st.fr.size (Nat.le_trans hf.size hs.size)
  · intro b hb hx
    have hbW := Nat.lt_of_lt_of_le hb k.st.fr.size
    have hnx : ¬ s.X S b := fun e => by rcases k.st.new b e with e | e; exact hx e; omega
    exact ((hs.block b (Nat.lt_of_lt_of_le hbW hf.size) (fun e => hnx (.inl (by injection e)))).trans (hf.block b hbW (fun e => by rcases e with e | e; exact hnx (.inr (.inr (.inl e))); simp only at b3; omega))).trans (k.st.fr.block b hb hx)
  · rcases List.mem_cons.1 hx with rfl | hx
    · exact ⟨hB.grown hs (fun e => hSP (by injection e)), fun e => b2 (hX _ e), b3⟩
    · obtain ⟨g1, g2, g3⟩ := k.bx x (List.mem_cons_of_mem _ hx)
      have hne : x.1 ≠ P := fun e => by
        have := k.nd
        simp only [List.map_cons, List.nodup_cons] at this
        exact this.1 (by rw [← e]; exact List.mem_map_of_mem hx)
      exact ⟨(g1.of_block (Nat.lt_of_lt_of_le g1.lt hf.size) (hf.block _ g1.lt (fun e => by rcases e with e | e; exact g2 (.inr (.inr (.inl e))); exact hne e))).grown hs (fun e => g2 (.inl (by injection e with e; exact e.symm))), fun e => g2 (hX _ e), g3⟩

theorem ownR_oneS {ty k : Nat} {w : World} {v : Value} {z : Array Value} (h : OwnR ty k w v [z]) : ∃ g c, v = .slice (some ⟨g, 0, none⟩) 1 c ∧ g < w.heap.size ∧ 1 ≤ c ∧ c ≤ 9223372036854775807 := by
  obtain ⟨a, c, hv, hs⟩ := h.shape
  rcases hs with ⟨_, _, hx⟩ | ⟨g, rfl, hg, hc, hm, _, _⟩
  · simp at hx
  · exact ⟨g, c, hv, hg, by simpa using hc, by unfold maxLen at hm; omega⟩

set_option maxRecDepth 100000 in
set_option maxHeartbeats 8000000 in
theorem settle_one (S : Nat) (s : Se) (H : List (Array Value)) (c : Cm) (T : List Wr) (w : World) (h : Ss w S s H [c.v] (T.map Wr.v)) (hT : T = [] ∨ ∃ r : Wr, T = [r] ∧ r.t.tg = c.tg) :
    Calls Try.prog 28 #[.pointer (some ⟨S, 0, none⟩), .int .u32 c.tg] w fun e w' => ∃ v1 v2, e = .returned (.tuple #[.agg c.v, .bool true]) ∧ Ss w' S { s with opn := v1, wts := v2 } H [] [] ∧ St S w w' s { s with opn := v1, wts := v2 } := by
  have hF : Kpt (∀ W, Ss W S s H [c.v] (T.map Wr.v) → Calls Try.prog 47 #[.pointer (some ⟨S, 0, none⟩), .int .u32 c.tg] W fun e w' => e = .returned (.int .i64 0) ∧ Below W.heap.size W w') := ⟨fun W h => by
    have := findOpen_any S s H [c] (T.map Wr.v) c.tg W h (by simp)
    rw [show fidx (isC c.tg) ([c].map Cm.v) 0 = 0 from by simp [fidx, isC, tagOf_v]] at this
    exact this⟩
  have hXw : Kpt (∀ W q, Ss W S s H [c.v] (T.map Wr.v) → W.cell? ⟨q, 0, none⟩ = some (.int .u32 c.tg) → q < W.heap.size → Calls Try.prog 34 #[s.wts, .func (.func 48) #[] #[.pointer (some ⟨q, 0, none⟩)]] W fun e w' => e = .returned (.int .i64 (fidx (isC c.tg) (T.map Wr.v) 0)) ∧ Below W.heap.size W w') := ⟨fun W q h hq hql => idxW_any 48 #[.pointer (some ⟨q, 0, none⟩)] (isC c.tg) s.wts (T.map Wr.v) W h.wts.rd (by rcases hT with rfl | ⟨r, rfl, _⟩ <;> simp) hcfS (fun W2 hW t ht => by
    obtain ⟨r, _, rfl⟩ := List.mem_map.1 ht
    exact settle1_any r q c.tg W2 ((hW.cell (p := ⟨q, 0, none⟩) hql).trans hq) (Nat.lt_of_lt_of_le hql hW.size))⟩
  have hb0 : Kpt (Below w.heap.size w (w.alloc (.cells #[.int .u32 c.tg] 22))) := ⟨(Below.refl _ _).alloc (Nat.le_refl _) _⟩
  have k0 : Kpt (Lo w (w.alloc (.cells #[.int .u32 c.tg] 22)) S s s H [c.v] (T.map Wr.v) [(w.heap.size, #[.int .u32 c.tg])]) := ⟨(Lo.start h).add hb0.out (Nat.le_refl _) (bx_new _ _ _)⟩
  obtain ⟨og, oc, hov, hogl, hoc1, hoc2⟩ := ownR_oneS h.opn
  have hovK := Kpt.mk hov
  have hTc : Kpt (∀ (W : World) (s1 : Se) (T1 : List (Array Value)) L, s1.opn = s.opn → Lo w W S s s1 H [c.v] T1 L → Calls Try.prog 49 #[.slice (some ⟨og, 0, none⟩) 1 oc, .int .i64 0] W fun e w' => e = .returned (.tuple #[.agg c.v, .slice (some ⟨og, 0, none⟩) 0 oc]) ∧ OwnR 71 4 w' (.slice (some ⟨og, 0, none⟩) 0 oc) [] ∧ W.grownBy w' (some og)) := ⟨fun W s1 T1 L e k => takeC_any og oc 0 1 [c.v] c.v W (by have := k.ss.opn; rw [e, hovK.out] at this; exact this) rfl rfl (by omega) hoc1 hoc2⟩
  have hmm := hmf
  rcases hT with rfl | ⟨r, rfl, hrt⟩
  · have hxe : fidx (isC c.tg) (([] : List Wr).map Wr.v) 0 = -1 := rfl
    rw [hxe] at hXw
    clear h hov hxe
    go_enter Try.func28, Try.ntmps28
    go_wp2_with (first
      | (go_at_call 47; go_must (refine (hF.out _ k1.out.ss).mono ?_; rintro e w2 ⟨rfl, hb2⟩; have k2 := Kpt.mk (k1.out.below hb2); have c16 := (k2.out.ss.cell 16 (by omega)).1; simp only [Se.v, List.getElem?_toArray, List.getElem?_cons_succ, List.getElem?_cons_zero] at c16; clear hb2))
      | (go_at_call 34; go_must (refine (hXw.out _ _ k2.out.ss (k2.out.b1.cells 0 (by simp)) k2.out.b1.lt).mono ?_; rintro e w3 ⟨rfl, hb3⟩; have k3 := Kpt.mk (k2.out.below hb3); clear hb3))
      | (go_at_call 49; go_must (refine (hTc.out _ _ _ _ rfl k4.out).mono ?_; rintro e w5 ⟨rfl, ho5, hg5⟩; have hV5 := Kpt.mk (k4.out.b0.grown hg5 (fun e => (k4.out.bx (V, Cm.v ⟨0, 0, false, 0⟩) (by simp)).2.1 (.inr (.inr (.inl (by rw [hovK.out]; injection e with e; rw [e]; rfl)))))); replace ho5 := Kpt.mk ho5; replace hg5 := Kpt.mk hg5))
      | (refine (?_ : wpList _ _ _ (Oper.mk _ (Op.alloc 71) _ _ _ _ :: _) _ _); have m := k3; go_must (refine wpList_var rfl 71 rfl _ zCmd ?_; intro V w4 hV hB hb; have k4 := Kpt.mk (k3.out.add hb hV hB); have c15 := (k4.out.ss.cell 15 (by omega)).1; simp only [Se.v, List.getElem?_toArray, List.getElem?_cons_succ, List.getElem?_cons_zero] at c15; rw [hovK.out] at c15; clear hb hV hB m))
      | (refine (?_ : wpList _ _ _ (Oper.mk _ (Op.alloc 71) _ _ _ _ :: _) _ _); go_must (refine wpList_var rfl 71 rfl _ zCmd ?_; intro R w1 hR hB hb; have k1 := Kpt.mk (k0.out.add hb hR hB); have cq := k1.out.b1.cells 0 (by simp); simp at cq; clear hb hR hB))
      | (refine (?_ : wpList _ _ _ (Oper.mk _ (Op.store 71 _ _) _ _ _ _ :: _) _ _); have m := k7; go_must (refine wpList_store_bx rfl 71 _ _ rfl R (Cm.v ⟨0, 0, false, 0⟩) c.v rfl rfl k7.out.b1 rfl szCmd c.one.2 rfl ?_; intro w8 hB hg; have k8 := Kpt.mk (k7.out.put1 hB hg); clear hB hg m))
      | (refine (?_ : wpList _ _ _ (Oper.mk _ (Op.store 71 _ _) _ _ _ _ :: _) _ _); go_must (refine wpList_store_bx rfl 71 _ _ rfl V (Cm.v ⟨0, 0, false, 0⟩) c.v rfl rfl hV5.out rfl szCmd c.one.2 rfl ?_; intro w6 hB6 hg6; obtain ⟨k7, c7, f7⟩ := k4.out.setOpnP (W1 := w6) (v' := .slice (some ⟨og, 0, none⟩) 0 oc) (O' := []) ⟨hg6.os.trans hg5.out.os, hg6.tape.trans hg5.out.tape, hg6.output.trans hg5.out.output, Nat.le_trans hg5.out.size hg6.size, fun b hb hx => (hg6.block b (Nat.lt_of_lt_of_le hb hg5.out.size) (fun e => hx (.inr (by injection e)))).trans (hg5.out.block b hb (fun e => hx (.inl (by rw [hovK.out]; exact e.symm))))⟩ hB6 (ho5.out.of_block (fun q hq => hg6.block q (ho5.out.lt hq) (fun e => (k4.out.bx (V, Cm.v ⟨0, 0, false, 0⟩) (by simp)).2.1 (.inr (.inr (.inl (by rw [hovK.out]; injection e with e; rw [← e]; exact hq))))))) (by rw [hovK.out]; rfl); rw [hovK.out] at c7; replace k7 := Kpt.mk k7; clear hB6 hg6))
      | (refine (?_ : wpList _ _ _ (Oper.mk _ (Op.load 71 _) _ _ _ _ :: _) _ _); go_must (refine wpList_load_bx rfl 71 _ rfl V c.v rfl k7.out.b0 _ Try.underlying71 rfl szCmd ?_; have hm8 := hmm)))
    refine bodyPost_ret (v := .tuple #[.agg c.v, .bool true]) (by simp [results, Try.results28, asAddr, Act.put, run_res k8.out.b1 71 _ Try.underlying71 rfl szCmd]) rfl ⟨_, s.wts, rfl, k8.out.ss, k8.out.st⟩
  · have hxe : fidx (isC c.tg) (([r] : List Wr).map Wr.v) 0 = 0 := by simp [fidx, isC, tagOf_w, hrt]
    rw [hxe] at hXw
    obtain ⟨wg, wc, hwv, hwgl, hwc1, hwc2⟩ := ownR_oneS h.wts
    have hwvK := Kpt.mk hwv
    rw [hwv] at hXw
    have hTw : Kpt (∀ (W : World) L, Lo w W S s s H [c.v] ([r].map Wr.v) L → Calls Try.prog 37 #[.slice (some ⟨wg, 0, none⟩) 1 wc, .int .i64 0] W fun e w' => e = .returned (.tuple #[.agg r.v, .slice (some ⟨wg, 0, none⟩) 0 wc]) ∧ OwnR 81 11 w' (.slice (some ⟨wg, 0, none⟩) 0 wc) [] ∧ W.grownBy w' (some wg)) := ⟨fun W L k => takeW_any wg wc 0 1 [r.v] r.v W (by have := k.ss.wts; rw [hwvK.out] at this; exact this) rfl rfl (by omega) hwc1 hwc2⟩
    clear h hov hxe hwv
    go_enter Try.func28, Try.ntmps28
    go_wp2_with (first
      | (go_at_call 47; go_must (refine (hF.out _ k1.out.ss).mono ?_; rintro e w2 ⟨rfl, hb2⟩; have k2 := Kpt.mk (k1.out.below hb2); have c16 := (k2.out.ss.cell 16 (by omega)).1; simp only [Se.v, List.getElem?_toArray, List.getElem?_cons_succ, List.getElem?_cons_zero] at c16; rw [hwvK.out] at c16; clear hb2))
      | (go_at_call 34; go_must (refine (hXw.out _ _ k2.out.ss (k2.out.b1.cells 0 (by simp)) k2.out.b1.lt).mono ?_; rintro e w3 ⟨rfl, hb3⟩; have k3 := Kpt.mk (k2.out.below hb3); have c16b := (k3.out.ss.cell 16 (by omega)).1; simp only [Se.v, List.getElem?_toArray, List.getElem?_cons_succ, List.getElem?_cons_zero] at c16b; rw [hwvK.out] at c16b; clear hb3))
      | (go_at_call 37; go_must (refine (hTw.out _ _ k3.out).mono ?_; rintro e w3 ⟨rfl, ho3, hg3⟩; obtain ⟨q1, q2, q3, q4⟩ := k3.out.ss.setWts (w1 := w3) (by rw [hwvK.out]; exact hg3) ho3 (fun b hb => .inl (by rw [hwvK.out]; exact hb)); rw [hwvK.out] at q3; have k3b := Kpt.mk (k3.out.turn q1 q2); clear q1 q2 ho3 hg3))
      | (go_at_call 49; go_must (refine (hTc.out _ { s with wts := .slice (some ⟨wg, 0, none⟩) 0 wc } _ _ rfl k4.out).mono ?_; rintro e w5 ⟨rfl, ho5, hg5⟩; have hV5 := Kpt.mk (k4.out.b0.grown hg5 (fun e => (k4.out.bx (V, Cm.v ⟨0, 0, false, 0⟩) (by simp)).2.1 (.inr (.inr (.inl (by rw [hovK.out]; injection e with e; rw [e]; rfl)))))); replace ho5 := Kpt.mk ho5; replace hg5 := Kpt.mk hg5))
      | (refine (?_ : wpList _ _ _ (Oper.mk _ (Op.alloc 71) _ _ _ _ :: _) _ _); have m := k3b; go_must (refine wpList_var rfl 71 rfl _ zCmd ?_; intro V w4 hV hB hb; have k4 := Kpt.mk (k3b.out.add hb hV hB); have c15 := (k4.out.ss.cell 15 (by omega)).1; simp only [Se.v, List.getElem?_toArray, List.getElem?_cons_succ, List.getElem?_cons_zero] at c15; rw [hovK.out] at c15; clear hb hV hB m))
      | (refine (?_ : wpList _ _ _ (Oper.mk _ (Op.alloc 71) _ _ _ _ :: _) _ _); go_must (refine wpList_var rfl 71 rfl _ zCmd ?_; intro R w1 hR hB hb; have k1 := Kpt.mk (k0.out.add hb hR hB); have cq := k1.out.b1.cells 0 (by simp); simp at cq; clear hb hR hB))
      | (refine (?_ : wpList _ _ _ (Oper.mk _ (Op.store 71 _ _) _ _ _ _ :: _) _ _); have m := k7; go_must (refine wpList_store_bx rfl 71 _ _ rfl R (Cm.v ⟨0, 0, false, 0⟩) c.v rfl rfl k7.out.b1 rfl szCmd c.one.2 rfl ?_; intro w8 hB hg; have k8 := Kpt.mk (k7.out.put1 hB hg); clear hB hg m))
      | (refine (?_ : wpList _ _ _ (Oper.mk _ (Op.store 71 _ _) _ _ _ _ :: _) _ _); go_must (refine wpList_store_bx rfl 71 _ _ rfl V (Cm.v ⟨0, 0, false, 0⟩) c.v rfl rfl hV5.out rfl szCmd c.one.2 rfl ?_; intro w6 hB6 hg6; obtain ⟨k7, c7, f7⟩ := k4.out.setOpnP (W1 := w6) (v' := .slice (some ⟨og, 0, none⟩) 0 oc) (O' := []) ⟨hg6.os.trans hg5.out.os, hg6.tape.trans hg5.out.tape, hg6.output.trans hg5.out.output, Nat.le_trans hg5.out.size hg6.size, fun b hb hx => (hg6.block b (Nat.lt_of_lt_of_le hb hg5.out.size) (fun e => hx (.inr (by injection e)))).trans (hg5.out.block b hb (fun e => hx (.inl (by rw [hovK.out]; exact e.symm))))⟩ hB6 (ho5.out.of_block (fun q hq => hg6.block q (ho5.out.lt hq) (fun e => (k4.out.bx (V, Cm.v ⟨0, 0, false, 0⟩) (by simp)).2.1 (.inr (.inr (.inl (by rw [hovK.out]; injection e with e; rw [← e]; exact hq))))))) (by rw [hovK.out]; rfl); rw [hovK.out] at c7; replace k7 := Kpt.mk k7; clear hB6 hg6))
      | (refine (?_ : wpList _ _ _ (Oper.mk _ (Op.load 71 _) _ _ _ _ :: _) _ _); go_must (refine wpList_load_bx rfl 71 _ rfl V c.v rfl k7.out.b0 _ Try.underlying71 rfl szCmd ?_; have hm8 := hmm)))
    refine bodyPost_ret (v := .tuple #[.agg c.v, .bool true]) (by simp [results, Try.results28, asAddr, Act.put, run_res k8.out.b1 71 _ Try.underlying71 rfl szCmd]) rfl ?_
    first
      | exact ⟨_, _, rfl, k8.out.ss, k8.out.st⟩
      | exact ⟨rfl, _, _, k8.out.ss, k8.out.st⟩
end Go.Proofs.Ytdplndlmdhpfaaa
