/-
  pdu: the document's All.
-/
import Derived.Test.YtigfoldobkigeaaUAll0
namespace Go.Proofs.Ytigfoldobkigeaa
open Go.RowKit
set_option linter.unusedVariables false
set_option linter.unusedSimpArgs false

theorem Rows'.push {base : Nat} {W W' : World} {v v' : Value} {A : List Int} {h d : Bool} {k : Nat} {zs : List (Array Value)} {z : Array Value} (hl : zs.length = k) (ho : OwnR 26 14 W v zs) (hp : ∀ j z, zs[j]? = some z → PEl base W (decP (A.drop (posL A h d j)) h) z) (hz : PEl base W (decP (A.drop (posL A h d k)) h) z) (hn : OwnR 26 14 W' v' (zs ++ [z])) (hg : W.grownBy W' v.ownBlock) (hge : ∀ g, v.ownBlock = some g → base ≤ g) (hor : v'.ownBlock = v.ownBlock ∨ v'.ownBlock = some W.heap.size) (hbw : base ≤ W.heap.size) : Rows' base W' v' A h d (k + 1) := by
  have keep : ∀ g cur, base ≤ g → W.heap[g]? = some (.cells cur 5 (0, 0)) → W'.heap[g]? = W.heap[g]? := fun g cur _ hc => by
    refine hg.block g (Array.getElem?_eq_some_iff.1 hc).1 (fun e => ?_)
    rcases ho.own.2 with ⟨rfl, _⟩ | ⟨g', cap, cur', rfl, _, hc', _⟩
    · simp [Value.ownBlock] at e
    · simp only [Value.ownBlock, Option.some.injEq] at e
      subst e
      rw [hc] at hc'
      simp only [Option.some.injEq, Obj.cells.injEq] at hc'
      exact absurd hc'.2.1 (by decide)
  refine ⟨⟨zs ++ [z], by rw [List.length_append, hl]; rfl, hn, fun j y e => ?_⟩, fun g e => by rcases hor with h1 | h1; (exact hge g (by rw [← h1]; exact e)); (rw [h1] at e; injection e with e; omega)⟩
  by_cases hj : j < zs.length
  · rw [List.getElem?_append_left hj] at e
    exact (hp j y e).keep keep
  · rw [List.getElem?_append_right (by omega)] at e
    have h0 : j - zs.length = 0 := by
      have := (List.getElem?_eq_some_iff.1 e).1
      simp at this
      omega
    rw [h0] at e
    simp at e
    subst e
    rw [show j = k by omega]
    exact hz.keep keep

set_option maxRecDepth 100000 in
set_option maxHeartbeats 4000000 in
theorem all_any (A : List Int) (h d : Bool) (K : Nat) (S : Strm A h d K) (a : Option Addr) (n c : Nat) (w : World) (hr : RdAt w (.slice a n c) A) (hn : n ≤ 100000) (hc : c ≤ maxLen) (hb : Bytes A)
    (hD : ∀ (pa : Option Addr) (m pc : Nat) (zs : List Int) (W : World), RdAt W (.slice pa m pc) zs → m ≤ 140737488355328 → pc ≤ maxLen → Bytes zs → Calls Try.prog 14 #[.slice pa m pc, .bool h, .bool d] W (DecOut zs h d W)) :
    Calls Try.prog 15 #[.slice a n c, .bool h, .bool d] w fun e w' => ∃ va vc, e = .returned (.tuple #[.slice va K vc, .int .i64 (decE (A.drop (posL A h d K)) h d)]) ∧ Rows' w.heap.size w' (.slice va K vc) A h d K ∧ Below w.heap.size w w' := by
  have hAn : A.length = n := by obtain ⟨a', c', hv, _⟩ := hr; simp only [Value.slice.injEq] at hv; exact hv.2.1.symm
  have hdec : Kpt (∀ (pa : Option Addr) (m pc j : Nat) (W : World), RdAt W (.slice pa m pc) (A.drop (posL A h d j)) → m ≤ 100000 → pc ≤ maxLen → Calls Try.prog 14 #[.slice pa m pc, .bool h, .bool d] W fun e w' => ∃ pv nn er, e = .returned (.tuple #[.agg pv, .int .i64 nn, .int .i64 er]) ∧ DecK W w' h d (A.drop (posL A h d j)) pv nn er) := ⟨fun pa m pc j W h1 h2 h3 => by
    refine (hD pa m pc _ W h1 (by omega) h3 (hb.drop _)).mono ?_
    rintro e w' ⟨hb', ⟨h0, rfl⟩ | ⟨h0, v, rfl, hR, hg⟩⟩
    · exact ⟨_, _, _, rfl, hb', noP_ok, rfl, fun e => absurd e h0⟩
    · obtain ⟨a, n, c, rfl⟩ := row_sl hR
      exact ⟨_, _, _, rfl, hb', ⟨Pd.size (decP_len _ _) _, Pd.one _ _ _ _⟩, h0.symm, fun _ => ⟨rfl, _, rfl, hR, hg⟩⟩⟩
  have hSK := Kpt.mk S
  have hAnK := Kpt.mk hAn
  have hK0 : Kpt (48 * K ≤ n) := ⟨by have := pos_le K S.ok; omega⟩
  have hrK := Kpt.mk hr
  obtain ⟨E, hE⟩ : ∃ E, E = decE (A.drop (posL A h d K)) h d := ⟨_, rfl⟩
  rw [← hE]
  have hEK := Kpt.mk hE
  clear hr hD S hb hAn hE
  go_enter Try.func15, Try.ntmps15
  go_wp2
  go_loopg [0, 8] K (fun i r0 r8 wr => ∃ (j m : Nat) (pa : Option Addr) (pc : Nat) (xa : Option Addr) (xc : Nat), r0 = .slice pa m pc ∧ r8 = .slice xa j xc ∧ j + i = K ∧ m ≤ 100000 ∧ Kpt (∀ W, Below w.heap.size w W → RdAt W (.slice pa m pc) (A.drop (posL A h d j))) ∧ Kpt (pc ≤ maxLen) ∧ Kpt (Rows' w.heap.size wr (.slice xa j xc) A h d j) ∧ Kpt (Below w.heap.size w wr))
  case atStart => exact ⟨0, n, a, c, none, 0, rfl, rfl, by omega, hn, ⟨fun W hW => by simpa [posL] using hrK.out.bel hW⟩, ⟨hc⟩, ⟨Rows'.nil _ _ _ _ _⟩, ⟨Below.refl _ _⟩⟩
  case round =>
    obtain ⟨j, m, pa, pc, xa, xc, rfl, rfl, hji, hm, hrd, hpc, hrow, hbw⟩ := hrel
    have hml : Kpt ((A.drop (posL A h d j)).length = m) := ⟨by obtain ⟨a', c', hv, _⟩ := hrd.out _ hbw.out; simp only [Value.slice.injEq] at hv; exact hv.2.1.symm⟩
    by_cases hj : j < K
    · have he0 := hSK.out.ok j hj
      obtain ⟨zs, hzl0, ho0, hp0⟩ := hrow.out.own
      have hzl := Kpt.mk hzl0
      have hor := Kpt.mk ho0
      have hpr := Kpt.mk hp0
      have hdl := dec_len _ h d he0
      rw [hml.out] at hdl
      obtain ⟨k, hk⟩ : ∃ k, k = decN (A.drop (posL A h d j)) h d := ⟨_, rfl⟩
      rw [← hk] at hdl
      have hpos : Kpt (posL A h d (j + 1) = posL A h d j + k) := ⟨by rw [hk]; rfl⟩
      replace hk := Kpt.mk hk
      replace he0 := Kpt.mk he0
      have hkm := hdl.1
      have hk48 := hdl.2
      have hmc : m ≤ pc := by obtain ⟨a', c', hv, _, h2, _⟩ := hrd.out _ hbw.out; simp only [Value.slice.injEq] at hv; obtain ⟨rfl, h3, rfl⟩ := hv; omega
      have hcm : (pc : Int) ≤ 9223372036854775807 := by have := hpc.out; unfold maxLen at this; omega
      obtain ⟨b, off, rfl⟩ : ∃ b off, pa = some ⟨b, off, none⟩ := by
        obtain ⟨a', c', hv, h1, h2, h3⟩ := hrd.out _ hbw.out
        simp only [Value.slice.injEq] at hv
        obtain ⟨rfl, -, rfl⟩ := hv
        rcases h3 with h3 | ⟨b, off, e, _⟩
        · have := hml.out; omega
        · exact ⟨b, off, e⟩
      obtain ⟨ao2, hof⟩ : ∃ x, (if pc = k then some ⟨b, off, none⟩ else some ⟨b, off + k, none⟩ : Option Addr) = x := ⟨_, rfl⟩
      have hao : Kpt (ao2 = some ⟨b, if pc = k then off else off + k, none⟩) := ⟨by rw [← hof]; split <;> rfl⟩
      have hrd2 : Kpt (∀ W, Below w.heap.size w W → RdAt W (.slice ao2 (m - k) (pc - k)) (A.drop (posL A h d (j + 1)))) := ⟨fun W hW => by
        rw [hpos.out, ← List.drop_drop, hao.out]
        exact rd_drop (hrd.out W hW) k hkm⟩
      have hge0 := Kpt.mk hrow.out.ge
      clear hzl0 ho0 hp0 hrow
      go_wp2_with (first
        | (refine (?_ : wpList _ _ _ (Oper.mk (some 27) _ _ _ _ _ :: _) _ _); go_must (refine wpList_append_row rfl 42 26 14 64 _ Try.underlying42 infoPd rfl (by decide) (by decide) (.tmp 24) (.tmp 26) rfl (.slice xa j xc) (.slice (some ⟨N, 0, none⟩) 1 1) zs [pv] rfl rfl ho5.out hR5.out (by simp) (by rw [hzl.out]; have := hK0.out; simp; omega) ?_; intro v6 w6 ho6 hg6 hor6; have hrow6 : Kpt (Rows' w.heap.size w6 v6 A h d (j + 1)) := ⟨Rows'.push hzl.out ho5.out hp5.out hz5.out ho6.out hg6.out hge0.out hor6.out hb5.out.size⟩; have hb6 : Kpt (Below w.heap.size w w6) := ⟨hb5.out.grown hg6.out hb5.out.size (fun q e => hge0.out q e)⟩; obtain ⟨ya, yc, rfl, -⟩ := hrow6.out.sl; clear ho6 hg6))
        | (refine (?_ : wpList _ _ _ (Oper.mk _ (Op.buildSlice 42 _ _) _ _ _ _ :: _) _ _); go_must (refine wpList_build1 rfl 42 26 14 64 _ Try.underlying42 infoPd (by decide) (by decide) _ rfl pv OK.out.1 rfl ?_; intro N w5 hN1 hNB hNb _; have hR5 := Kpt.mk (hNB.one (k := 14) OK.out); have hb5 : Kpt (Below w.heap.size w w5) := ⟨hb4.out.trans (hNb.mono hb4.out.size)⟩; have ho5 := Kpt.mk (ho4.out.of_block (fun g hg => hNb.block g (ho4.out.lt hg))); have hp5 : Kpt (∀ j z, zs[j]? = some z → PEl w.heap.size w5 (decP (A.drop (posL A h d j)) h) z) := ⟨fun j z e => (hp4.out j z e).below hNb⟩; have hz5 := Kpt.mk (hz4.out.below hNb); clear hN1 hNB hNb))
        | (refine (?_ : wpList _ _ _ (Oper.mk _ (Op.load 26 _) _ _ _ _ :: _) _ _); go_must (refine wpList_load_bx rfl 26 (.tmp 9) rfl B pv rfl hX4.out _ Try.underlying26 rfl (by rw [OK.out.1]; exact sizeP) ?_))
        | (refine (?_ : wpList _ _ _ (Oper.mk none (Op.store 26 _ _) _ _ _ _ :: _) _ _); go_must (refine wpList_store_bx rfl 26 (.tmp 9) (.tmp 17) rfl B (noP.vals (.slice none 0 0)) pv rfl rfl hX3.out (by rw [OK.out.1]; rfl) (by rw [OK.out.1]; exact sizeP) OK.out.2 rfl ?_; intro w4 hX4q hg4; have hX4 := Kpt.mk hX4q; have hb4 : Kpt (Below w.heap.size w w4) := ⟨hb3.out.grown hg4 hb3.out.size (fun q e => by injection e with e; rw [← e]; exact hBw.out)⟩; have ho4 := Kpt.mk (ho3.out.of_block (fun g hg => hg4.block g (ho3.out.lt hg) (fun e => by injection e with e; have := hBo.out g hg; omega))); have hp4 : Kpt (∀ j z, zs[j]? = some z → PEl w.heap.size w4 (decP (A.drop (posL A h d j)) h) z) := ⟨fun j z e => (hp2.out j z e).keep (fun g cur _ hc => (hg4.block g (Nat.lt_of_lt_of_le (Array.getElem?_eq_some_iff.1 hc).1 hbB.out.size) (fun e => by injection e with e; have h1 := (Array.getElem?_eq_some_iff.1 hc).1; have h2 := hBL.out; omega)).trans (hbB.out.block g (Array.getElem?_eq_some_iff.1 hc).1))⟩; have hz4 := Kpt.mk (hz2.out.keep (fun g cur _ hc => (hg4.block g (Nat.lt_of_lt_of_le (Array.getElem?_eq_some_iff.1 hc).1 hbB.out.size) (fun e => by injection e with e; have h1 := (Array.getElem?_eq_some_iff.1 hc).1; have h2 := hBL.out; omega)).trans (hbB.out.block g (Array.getElem?_eq_some_iff.1 hc).1))); clear hX4q hg4))
        | (refine wpList_var rfl 26 rfl (noP.vals (.slice none 0 0)) zeroPi ?_; intro B w3 hBl hBx hbe; have hX3 := Kpt.mk hBx; have hBw : Kpt (w.heap.size ≤ B) := ⟨Nat.le_trans hb2.out.size hBl⟩; have hb3 : Kpt (Below w.heap.size w w3) := ⟨hb2.out.trans (hbe.mono hb2.out.size)⟩; have hBo : Kpt (∀ g, (Value.slice xa j xc).ownBlock = some g → g < B) := ⟨fun g hg => Nat.lt_of_lt_of_le (ho2.out.lt hg) hBl⟩; have ho3 := Kpt.mk (ho2.out.of_block (fun g hg => hbe.block g (ho2.out.lt hg))); have hbB := Kpt.mk hbe; have hBL := Kpt.mk hBl; clear hBl hBx hbe)
        | (go_at_call 14; go_must (refine (hdec.out _ m pc j _ (hrd.out _ hbw.out) hm hpc.out).mono ?_; rintro e w2 ⟨pv, nn, er, rfl, K2⟩; have her : er = 0 := (by rw [K2.num, he0.out]); subst her; obtain ⟨hnn, dv, hpv, hdr, hdg⟩ := K2.good rfl; rw [← hk.out] at hnn; subst hnn; have hb2 : Kpt (Below w.heap.size w w2) := ⟨hbw.out.trans (K2.bel.mono hbw.out.size)⟩; have OK := Kpt.mk K2.ok; have ho2 := Kpt.mk (hor.out.of_block (fun g hg => K2.bel.block g (hor.out.lt hg))); have hp2 : Kpt (∀ j z, zs[j]? = some z → PEl w.heap.size w2 (decP (A.drop (posL A h d j)) h) z) := ⟨fun j z e => (hpr.out j z e).below K2.bel⟩; have hz2 : Kpt (PEl w.heap.size w2 (decP (A.drop (posL A h d j)) h) pv) := ⟨⟨decP_len _ _, dv, hpv, hdr, fun g hg => Nat.le_trans hbw.out.size (hdg g hg)⟩⟩; clear K2 hpv hdr hdg)))
      go_roundg (K - (j + 1))
      case measure => omega
      case rel => exact ⟨j + 1, m - k, ao2, pc - k, _, _, rfl, rfl, by omega, by omega, hrd2, ⟨by have := hpc.out; omega⟩, hrow6, hb6⟩
    · have hjk : j = K := by have := hji; omega
      subst hjk
      go_wp2_with (first
        | (go_at_call 14; go_must (refine (hdec.out _ m pc j _ (hrd.out _ hbw.out) hm hpc.out).mono ?_; rintro e w2 ⟨pv, nn, er, rfl, K2⟩; have her : er = E := (by rw [K2.num, hEK.out]); have hE0 : E ≠ 0 := (by rw [hEK.out]; exact hSK.out.last); subst her; have hrow2 : Kpt (Rows' w.heap.size w2 (.slice xa j xc) A h d j) := ⟨hrow.out.below K2.bel⟩; have hb2 : Kpt (Below w.heap.size w w2) := ⟨hbw.out.trans (K2.bel.mono hbw.out.size)⟩; have OK := Kpt.mk K2.ok; clear K2))
        | (refine wpList_var rfl 26 rfl (noP.vals (.slice none 0 0)) zeroPi ?_; intro B w3 hBl hBx hbe; have hX3 := Kpt.mk hBx; have hbB := Kpt.mk hbe; have hBL := Kpt.mk hBl; clear hBl hBx hbe)
        | (refine (?_ : wpList _ _ _ (Oper.mk none (Op.store 26 _ _) _ _ _ _ :: _) _ _); go_must (refine wpList_store_bx rfl 26 (.tmp 9) (.tmp 17) rfl B (noP.vals (.slice none 0 0)) pv rfl rfl hX3.out (by rw [OK.out.1]; rfl) (by rw [OK.out.1]; exact sizeP) OK.out.2 rfl ?_; intro w4 hX4 hg4; have hB4 : Kpt (Below w2.heap.size w2 w4) := ⟨hbB.out.grown hg4 hbB.out.size (fun q e => by injection e with e; rw [← e]; exact hBL.out)⟩; have hb4 : Kpt (Below w.heap.size w w4) := ⟨hb2.out.trans (hB4.out.mono hb2.out.size)⟩; have hrow4 := Kpt.mk (hrow2.out.below hB4.out); clear hX4 hg4)))
      exact bodyPost_ret (v := .tuple #[.slice xa j xc, .int .i64 er]) (by simp [results, Try.results15, asAddr, Act.put]) rfl ⟨xa, xc, rfl, hrow4.out, hb4.out⟩
end Go.Proofs.Ytigfoldobkigeaa
