/-
  login: no login; what is handed in may be written over: the walk.
-/
import Derived.Test.YtplifodddfjhdaaDoorXLnV
namespace Go.Proofs.YtplifodddfjhdaaDoor
open Go.RowKit
set_option linter.unusedVariables false
set_option linter.unusedSimpArgs false

theorem mine_of {W : World} {base n : Nat} {v : Value} {zs : List Int} (h : W.ownsRow base 5 1 v n (cels zs)) : (v = .slice none 0 0 ∧ n = 0) ∨ ∃ g c, v = .slice (some ⟨g, 0, none⟩) n c ∧ base ≤ g ∧ g < W.heap.size := by
  rcases id h.2 with ⟨rfl, h0⟩ | ⟨g, cap, cur, rfl, hbb, hg, _⟩
  · exact .inl ⟨rfl, h0⟩
  · exact .inr ⟨g, cap, rfl, hbb, (Array.getElem?_eq_some_iff.1 hg).1⟩
theorem ps_lt {w : World} {va : Option Addr} {vn vc : Nat} {ps : Prs} (h : PsAt w (.slice va vn vc) ps) (h0 : 0 < ps.length) : ∀ x, va = some x → x.block < w.heap.size := fun x e => by
  obtain ⟨a', c', e2, _, _, h3⟩ := h
  simp only [Value.slice.injEq] at e2
  rcases h3 with h3 | ⟨b, off, e3, h4, _⟩
  · omega
  · rw [← e2.1, e] at e3
    cases e3
    exact h4
/-- append of bytes to nothing. -/
theorem wpList_append_mine {w : World} {ops : Array Oper} {rest : List Oper} {o : Oper} {a : Act} {Q : Exit → Act → World → Prop} (hgd : o.guard = none) (d s : Operand)
    (ho : o.op = .call { callee := .builtin .append, args := #[d, s], argTypes := #[45, 45] })
    (sa : Option Addr) (n sc : Nat) (zs : List Int) (hd : a.eval d = .slice none 0 0) (hs : a.eval s = .slice sa n sc) (hr : RdAt w (.slice sa n sc) zs) (hn : n ≤ 140737488355328)
    (h : ∀ ma mc w', w'.ownsRow w.heap.size 5 1 (.slice ma n mc) n (cels zs) → (ma = none ∨ 0 < n) → Below w.heap.size w w' → wpList Tryd.prog ops Q rest (a.put o.dst (.slice ma n mc)) w') : wpList Tryd.prog ops Q (o :: rest) a w := by
  obtain ⟨i0, hi0, hz0, hz1, hz2⟩ := info_parts Tryd.info5
  obtain ⟨sa', sc', hv, h1, h2, h3⟩ := hr
  simp only [Value.slice.injEq] at hv
  obtain ⟨rfl, rfl, rfl⟩ := hv
  have hnil := World.ownsRow_nil w w.heap.size 5 1
  cases sa with
  | none =>
    obtain ⟨e1, rfl⟩ := h1 rfl
    obtain rfl : zs = [] := List.eq_nil_of_length_eq_zero e1
    exact wpList_append_own_none hgd d s 45 ho w.heap.size 5 i0 1 Tryd.underlying45 hi0 (.slice none 0 0) 0 [] hd hnil hs (h none 0 w hnil (.inl rfl) (Below.refl _ _))
  | some x =>
    have hcell : ∀ j u, (cels zs)[j]? = some u → w.cell? (x.add j) = some u := fun j u hu => by
      rcases h3 with h3 | ⟨b, soff, e, hc⟩
      · have := (List.getElem?_eq_some_iff.1 hu).1
        simp at this; omega
      · cases e; rw [Go.WideShapes.add_plain]; exact hc j u hu
    refine wpList_append_own _ hgd d s 45 ho w.heap.size 5 i0 (.int .u8 0) 1 1 Tryd.underlying45 hi0 hz0 hz1 hz2 rfl (by decide) (.slice none 0 0) 0 [] hd hnil x zs.length sc (cels zs) hs (by simp) hcell (cels_one _) (by unfold maxLen; omega) (by omega) (Nat.le_refl _) ?_
    intro v1 w1 hown1 hg1 hiff
    rw [Nat.zero_add, List.nil_append] at hown1
    have hb : Below w.heap.size w w1 := ⟨hg1.os, hg1.tape, hg1.output, hg1.size, fun k hk => hg1.block k hk (fun e => by cases e)⟩
    rcases mine_of hown1 with ⟨rfl, h0⟩ | ⟨g, c, rfl, hg, _⟩
    · obtain rfl : zs = [] := List.eq_nil_of_length_eq_zero h0
      exact h none 0 w1 hown1 (.inl rfl) hb
    · refine h (some ⟨g, 0, none⟩) c w1 hown1 (.inr ?_) hb
      rcases Nat.eq_zero_or_pos zs.length with e | e
      · have := hiff.2 ⟨rfl, e⟩; cases this
      · exact e

set_option maxRecDepth 100000 in
set_option maxHeartbeats 8000000 in
theorem nil_any (q0 q1 q2 q3 : Value) (a : Option Addr) (n c : Nat) (zs : List Int) (w : World) (hr : RdAt w (.slice a n c) zs) (hz : Bytes zs) (hn : n ≤ 50000000000000) :
    Calls Tryd.prog 4 #[.agg #[q0, q1, q2, q3], .slice a n c] w fun e w' => e = .returned (.bool true) ∧ Below w.heap.size w w' := by
  have fS : Kpt (∀ W : World, Calls Tryd.prog 8 #[.pointer none, .agg #[q0, q1, q2, q3]] W fun e w' => e = .returned (.tuple #[.agg ansZ, .int .i64 8]) ∧ Below W.heap.size W w') := ⟨fun W => step_none _ rfl W⟩
  have fA : Kpt (∀ W : World, Calls Tryd.prog 6 #[] W fun e w' => e = .returned (.bool true) ∧ Below W.heap.size W w') := ⟨awake_any⟩
  have fO : Kpt (∀ W : World, Calls Tryd.prog 10 #[.pointer none] W fun e w' => e = .returned (.bool false) ∧ w' = W) := ⟨over_none⟩
  have fD : Kpt (∀ W : World, Calls Tryd.prog 13 #[.pointer none] W fun e w' => e = .returned (.bool false) ∧ w' = W) := ⟨done_none⟩
  have fP : Kpt (∀ W : World, Calls Tryd.prog 12 #[.pointer none] W fun e w' => e = .returned (.agg prmZ) ∧ Below W.heap.size W w') := ⟨params_none⟩
  have hrB : Kpt (∀ W, Below w.heap.size w W → RdAt W (.slice a n c) zs) := ⟨fun W h => hr.bel h⟩
  have fN : Kpt (∀ (wa : World) (ma : Option Addr) (mc : Nat), RdAt wa (.slice ma n mc) zs → (ma = none ∨ 0 < n) → Calls Tryd.prog 7 #[.agg #[.slice (some ⟨wa.heap.size, 0, none⟩) 1 1, .slice (some ⟨wa.heap.size + 1, 0, none⟩) 1 1, .bool false], .int .u8 3, .slice ma n mc] ((wa.alloc (.cells #[.string ⟨#[116]⟩] 9)).alloc (.cells #[.string ⟨#[117]⟩, .string ⟨#[115]⟩] 47)) fun e w' => (∃ L ta tc us uc ca cc, e = .returned (.pointer (some ⟨L, 0, none⟩)) ∧ Nl (wa.heap.size + 2) w' L (lgU 3 (.slice ta 1 tc) (.slice us 1 uc) (.slice ca n cc)) ta tc ca n cc zs) ∧ Below (wa.heap.size + 2) ((wa.alloc (.cells #[.string ⟨#[116]⟩] 9)).alloc (.cells #[.string ⟨#[117]⟩, .string ⟨#[115]⟩] 47)) w') := ⟨fun wa ma mc h1 h2 => by
    have hs2 : ((wa.alloc (.cells #[.string ⟨#[116]⟩] 9)).alloc (.cells #[.string ⟨#[117]⟩, .string ⟨#[115]⟩] 47)).heap.size = wa.heap.size + 2 := by simp
    have b1 : Below wa.heap.size wa (wa.alloc (.cells #[.string ⟨#[116]⟩] 9)) := (Below.refl _ _).alloc (Nat.le_refl _) _
    have b2 : Below wa.heap.size wa ((wa.alloc (.cells #[.string ⟨#[116]⟩] 9)).alloc (.cells #[.string ⟨#[117]⟩, .string ⟨#[115]⟩] 47)) := b1.alloc (by simp) _
    have hT := (bx_new wa #[.string ⟨#[116]⟩] 9).alloc (.cells #[.string ⟨#[117]⟩, .string ⟨#[115]⟩] 47)
    have hU := bx_new (wa.alloc (.cells #[.string ⟨#[116]⟩] 9)) #[.string ⟨#[117]⟩, .string ⟨#[115]⟩] 47
    rw [show (wa.alloc (.cells #[.string ⟨#[116]⟩] 9)).heap.size = wa.heap.size + 1 from by simp] at hU
    have := new_u 3 (some ⟨wa.heap.size, 0, none⟩) 1 1 [vT] (wa.heap.size + 1) 0 1 ⟨#[117]⟩ ⟨#[115]⟩ ma n mc zs _ (st_one _ _ vT hT) (by omega) hU.lt hU.range (h1.bel b2) (by omega) h2
    rw [hs2] at this
    refine this.mono ?_
    rintro e w' ⟨⟨L, ta, tc, ug, ug', ca, cc, rfl, z1, z2, z3, z4, z5, z6, z7, z8, z9, z10, z11, z12⟩, hb⟩
    exact ⟨⟨L, ta, tc, some ⟨ug, 0, none⟩, ug', ca, cc, rfl, z2, z3, z9, z1, z5, z11, z4, z10, z12⟩, hb⟩⟩
  have fH : Kpt (∀ W : World, Calls Tryd.prog 9 #[.slice (some ⟨W.heap.size, 0, none⟩) 2 2] (W.alloc (.cells #[.string ⟨#[65, 117, 116, 104, 77, 101, 116, 104, 111, 100]⟩, .string ⟨#[67, 72, 65, 80]⟩, .string ⟨#[67, 72, 65, 80, 95, 65]⟩, .string ⟨#[53]⟩] 25)) fun e w' => ∃ ga gc, e = .returned (.slice ga 4 gc) ∧ PsAt w' (.slice ga 4 gc) keysN ∧ Newer ga (W.heap.size + 1) ∧ (∀ x, ga = some x → x.block < w'.heap.size) ∧ Below W.heap.size W w') := ⟨fun W => by
    have hp : PsAt (W.alloc (.cells #[.string ⟨#[65, 117, 116, 104, 77, 101, 116, 104, 111, 100]⟩, .string ⟨#[67, 72, 65, 80]⟩, .string ⟨#[67, 72, 65, 80, 95, 65]⟩, .string ⟨#[53]⟩] 25)) (.slice (some ⟨W.heap.size, 0, none⟩) 2 2) [(kAut, vCh), (kCA, v5)] := ps_bx (ps := [(kAut, vCh), (kCA, v5)]) (bx_new W #[.string ⟨#[65, 117, 116, 104, 77, 101, 116, 104, 111, 100]⟩, .string ⟨#[67, 72, 65, 80]⟩, .string ⟨#[67, 72, 65, 80, 95, 65]⟩, .string ⟨#[53]⟩] 25)
    refine (hello_any _ 2 2 _ _ hp (by omega)).mono ?_
    rintro e w' ⟨ga, gc, rfl, ho, hb⟩
    obtain ⟨p1, xa, xc, hv, _, _, p4, _⟩ := psB_of ho
    simp only [Value.slice.injEq] at hv
    obtain ⟨rfl, _, rfl⟩ := hv
    refine ⟨ga, gc, rfl, p1, fun x e => by have := p4 x e; simp at this; omega, fun x e => by have := (World.ownsRow.lt ho x.block (by subst e; rcases ho.2 with ⟨h, _⟩ | ⟨g, cap, cur, h, _⟩ <;> cases h; rfl)).2; exact this, ((Below.refl W.heap.size W).alloc (Nat.le_refl _) _).trans (hb.mono (by simp))⟩⟩
  have fT : Kpt (∀ (cl : Nat) (W : World) (L : Nat) (us : Option Addr) (uc : Nat) (ta : Option Addr) (tc : Nat) (ca : Option Addr) (cc : Nat), Nl cl W L (lgU 3 (.slice ta 1 tc) (.slice us 1 uc) (.slice ca n cc)) ta tc ca n cc zs → ∀ (ha : Option Addr) (hc : Nat), PsAt W (.slice ha 4 hc) keysN → Off ha L →
      Calls Tryd.prog 8 #[.pointer (some ⟨L, 0, none⟩), .agg #[.int .u8 0, .int .u8 0, .bool false, .slice ha 4 hc]] W fun e w' => (∃ va vn vc, e = .returned (.tuple #[.agg (ansT 0 (.slice va vn vc)), .int .i64 0]) ∧ PsAt w' (.slice va vn vc) (ansQ zs) ∧ vc ≤ maxLen) ∧ W.grownBy w' (some L)) := ⟨fun cl W L us uc ta tc ca cc k ha hc hp ho => step_nil cl W L us uc ta tc ca n cc zs k ha hc hp ho hz hn⟩
  have fX : Kpt (∀ W, Below w.heap.size w W → Calls Tryd.prog 15 #[.slice a n c] W fun e w' => e = .returned (.string (hexS zs)) ∧ Below W.heap.size W w') := ⟨fun W hb => rhex_any a n c zs W (hrB.out W hb) hz hn⟩
  have fR : Kpt (∀ (W : World) (va : Option Addr) (vn vc : Nat), PsAt W (.slice va vn vc) (ansQ zs) → vc ≤ maxLen → Calls Tryd.prog 14 #[.slice va vn vc, .string ⟨#[67, 72, 65, 80, 95, 67]⟩] W fun e w' => e = .returned (.tuple #[.string (hexS zs), .bool true]) ∧ w' = W) := ⟨fun W va vn vc hp hv => by
    have hle : vn ≤ maxLen := by obtain ⟨a', c', e, _, h, _⟩ := hp; simp only [Value.slice.injEq] at e; obtain ⟨_, e1, e2⟩ := e; omega
    have := rfind_any va vn vc (ansQ zs) kCC W hp hle
    rw [kn_find] at this
    exact this⟩
  obtain ⟨H, hH⟩ : ∃ H, H = hexS zs := ⟨_, rfl⟩
  rw [← hH] at fX fR
  clear hH
  unfold prmZ at fP
  replace hz := Kpt.mk hz
  clear hr
  go_enter Tryd.func4, Tryd.ntmps4
  go_upto_region 6 with (first
    | (go_at_call 12; go_must (refine (fP.out _).mono ?_; rintro e w7 ⟨rfl, hb7q⟩; have hb7 := Kpt.mk (hb6.out.trans (hb7q.mono hb6.out.size)); clear hb7q))
    | (go_at_call 10; go_must (refine (fO.out _).mono ?_; rintro e wx ⟨rfl, rfl⟩))
    | (go_at_call 13; go_must (refine (fD.out _).mono ?_; rintro e wx ⟨rfl, rfl⟩))
    | (go_at_call 6; go_must (refine (fA.out _).mono ?_; rintro e w6 ⟨rfl, hb6q⟩; have hb6 := Kpt.mk (hb5.out.trans (hb6q.mono hb5.out.size)); have hA6 := Kpt.mk (hA5.out.below hb6q hA5.out.lt); have c0 := hA6.out.cells 0 (by simp [ansZ]); have c5 := hA6.out.cells 5 (by simp [ansZ]); simp only [ansZ, List.getElem?_toArray, List.getElem?_cons_succ, List.getElem?_cons_zero] at c0 c5; clear hb6q))
    | (refine (?_ : wpList _ _ _ (Oper.mk none (Op.store 33 _ _) _ _ _ _ :: _) _ _); go_must (refine wpList_store_bx rfl 33 (.tmp 6) (.tmp 21) rfl A ansZ ansZ rfl rfl hA4.out rfl szAns (by simp [ansZ, Value.oneCell']) rfl ?_; intro w5 hA5 hg5; have hb5 := Kpt.mk (hb4.out.grown hg5 hb4.out.size (fun q e => by injection e with e; subst e; exact hAw.out)); replace hA5 := Kpt.mk hA5; clear hg5))
    | (refine wpList_var rfl 33 rfl ansZ zAns ?_; intro A w4 hAl hAx hb4q; have hb4 := Kpt.mk (hb3.out.trans (hb4q.mono hb3.out.size)); have hAw := Kpt.mk (Nat.le_trans hb3.out.size hAl); have hA4 := Kpt.mk hAx; clear hAl hAx hb4q)
    | (go_at_call 8; go_must (refine (fS.out _).mono ?_; rintro e w3 ⟨rfl, hb3q⟩; have hb3 := Kpt.mk (hb1.out.trans (hb3q.mono hb1.out.size)); clear hb3q))
    | (refine (?_ : wpList _ _ _ (Oper.mk _ (Op.load 39 _) _ _ _ _ :: _) _ _); go_must (refine wpList_load_bx rfl 39 (.tmp 2) rfl R #[q0, q1, q2, q3] rfl hR1.out _ Tryd.underlying39 rfl szReq ?_))
    | (refine (?_ : wpList _ _ _ (Oper.mk _ (Op.box 39 _) _ _ _ _ :: _) _ _); go_must (refine wpList_box rfl 39 (.tmp 0) rfl #[q0, q1, q2, q3] rfl ?_; intro R w1 hR hBq hbe _; have hb1 := Kpt.mk hbe; have hR1 := Kpt.mk hBq; clear hR hBq hbe)))
  clear hA6 c0 c5 hb1 hR1 hb3 hb4 hAw hA4 hb5 hA5 hb6 fS fA fO fD fP
  go_upto_region 10 with (first
    | (go_at_call 7; go_must (refine (fN.out wa ma mc hrd8.out hne8.out).mono ?_; rintro e w9 ⟨⟨L, ta, tc, us, uc, ca, cc, rfl, hN⟩, hbn⟩; have hU9 := Kpt.mk (hU8.out.below hbn (by omega)); have hT9 := Kpt.mk (hT8.out.below hbn (by omega)); have hM9 := Kpt.mk (own_of_block hM8.out fun g hg => hbn.block g (by have := hMl.out g hg; omega)); have hb9 := Kpt.mk (hbA.out.trans (hbn.mono (by have := hb8.out.size; omega))); have hs9 := Kpt.mk (show wa.heap.size + 2 ≤ w9.heap.size by have := hbn.size; simp at this; omega); replace hN := Kpt.mk hN; clear hbn hM8 hU8 hT8 hbA))
    | (refine (?_ : wpList _ _ _ (Oper.mk (some 56) _ _ _ _ _ :: _) _ _); go_must (refine wpList_append_mine rfl (.tmp 54) (.tmp 55) rfl a n c zs rfl rfl (hrB.out _ hb7.out) (by omega) ?_; intro ma mc wa hown hne hba; have hb8 := Kpt.mk (hb7.out.trans (hba.mono hb7.out.size)); have hrd8 : Kpt (RdAt wa (.slice ma n mc) zs) := ⟨by rcases mine_of hown with ⟨e, h0⟩ | ⟨g, cc, e, _, _⟩ <;> rw [e] at hown ⊢ <;> first | exact own_rd hown | (have : zs = [] := List.eq_nil_of_length_eq_zero (by have := hown.1; simp at this; omega); subst this; exact rd_nil wa)⟩; have hMb : Kpt (∀ g, (Value.slice ma n mc).ownBlock = some g → w.heap.size ≤ g) := ⟨fun g hg => Nat.le_trans hb7.out.size (World.ownsRow.lt hown g hg).1⟩; have hMl : Kpt (∀ g, (Value.slice ma n mc).ownBlock = some g → g < wa.heap.size) := ⟨fun g hg => (World.ownsRow.lt hown g hg).2⟩; have hM8 := Kpt.mk ((hown.alloc (.cells #[.string ⟨#[116]⟩] 9)).alloc (.cells #[.string ⟨#[117]⟩, .string ⟨#[115]⟩] 47)); have hT8 := Kpt.mk ((bx_new wa #[.string ⟨#[116]⟩] 9).alloc (.cells #[.string ⟨#[117]⟩, .string ⟨#[115]⟩] 47)); have hU8 : Kpt (Bx ((wa.alloc (.cells #[.string ⟨#[116]⟩] 9)).alloc (.cells #[.string ⟨#[117]⟩, .string ⟨#[115]⟩] 47)) (wa.heap.size + 1) #[.string ⟨#[117]⟩, .string ⟨#[115]⟩]) := ⟨by have h := bx_new (wa.alloc (.cells #[.string ⟨#[116]⟩] 9)) #[.string ⟨#[117]⟩, .string ⟨#[115]⟩] 47; rw [show (wa.alloc (.cells #[.string ⟨#[116]⟩] 9)).heap.size = wa.heap.size + 1 from by simp] at h; exact h⟩; have hbA := Kpt.mk ((hb8.out.alloc hb8.out.size (.cells #[.string ⟨#[116]⟩] 9)).alloc (by have := hb8.out.size; simp; omega) (.cells #[.string ⟨#[117]⟩, .string ⟨#[115]⟩] 47)); have hne8 := Kpt.mk hne; clear hown hne hba)))
  clear hb7 hrd8 hne8 fN
  go_wp2
  go_loopw [12] (fun t wr => ∃ (k : Nat) (ys : List Int), k ≤ n ∧ t = .int .i64 k ∧ Kpt (wr.ownsRow w7.heap.size 5 1 (.slice ma n mc) n (cels ys)) ∧ Kpt (w9.grownBy wr (Value.slice ma n mc).ownBlock)) (fun t _ => n - (intOf t).toNat)
  case atStart => exact ⟨0, zs, by omega, rfl, hM9, ⟨⟨rfl, rfl, rfl, Nat.le_refl _, fun _ _ _ => rfl⟩⟩⟩
  case round =>
    obtain ⟨k, ys, hk, rfl, hM, hgr⟩ := hrel
    clear hM9
    by_cases hlt : k < n
    · have hltI : (k : Int) < n := by omega
      obtain ⟨gm, rfl⟩ : ∃ gm, ma = some ⟨gm, 0, none⟩ := by
        rcases mine_of hM.out with ⟨_, h0⟩ | ⟨g, c', e, _, _⟩
        · omega
        · simp only [Value.slice.injEq] at e; exact ⟨g, e.1⟩
      have hcell := own_facts hM.out k hlt
      have hfr := World.ownsRow.frozenAt hM.out k
      have hM2 : Kpt (∀ x, (wr.setCell ⟨gm, k, none⟩ (.int .u8 x)).ownsRow w7.heap.size 5 1 (.slice (some ⟨gm, 0, none⟩) n mc) n (cels (ys.set k x)) ∧ w9.grownBy (wr.setCell ⟨gm, k, none⟩ (.int .u8 x)) (Value.slice (some ⟨gm, 0, none⟩) n mc).ownBlock) := ⟨fun x => ⟨own_set hM.out k x, grown_tr hgr.out (grown_setCellK wr ⟨gm, k, none⟩ (.int .u8 x))⟩⟩
      generalize ys.getD k 0 = z at hcell
      go_wp2
      go_roundw
      case rel => exact ⟨k + 1, _, by omega, by go_num, ⟨(hM2.out _).1⟩, ⟨(hM2.out _).2⟩⟩
      case measure => simp [intOf]; omega
    · have hltI : ¬ (k : Int) < n := by omega
      have hT10 := Kpt.mk (hT9.out.grown hgr.out (fun e => by have := hMl.out _ e; omega))
      have hU10 := Kpt.mk (hU9.out.grown hgr.out (fun e => by have := hMl.out _ e; omega))
      have hb10 := Kpt.mk (hb9.out.grown hgr.out hb9.out.size (fun q e => hMb.out q e))
      have hs10 := Kpt.mk (Nat.le_trans hs9.out hgr.out.size)
      have hN10 : Kpt (Nl (wa.heap.size + 2) wr L (lgU 3 (.slice ta 1 tc) (.slice us 1 uc) (.slice ca n cc)) ta tc ca n cc zs) := ⟨by
        have hg := hgr.out
        cases hr : (Value.slice ma n mc).ownBlock with
        | none =>
          rw [hr] at hg
          exact hN.out.below ⟨hg.os, hg.tape, hg.output, hg.size, fun k hk => hg.block k hk (fun e => by cases e)⟩
        | some g =>
          rw [hr] at hg
          exact hN.out.grown hg (by have := hMl.out g hr; omega)⟩
      clear hT9 hU9 hb9 hs9 hN hM hgr hMl hMb
      have c1 := hT10.out.cells 0 (by simp)
      have f1 := hT10.out.free 0
      simp only [List.getElem?_toArray, List.getElem?_cons_succ, List.getElem?_cons_zero] at c1
      have hg1 := grown_setCellK wr ⟨wa.heap.size, 0, none⟩ (.string ⟨#[120]⟩)
      have hU11 := Kpt.mk (hU10.out.grown hg1 (fun e => by have e2 : wa.heap.size = wa.heap.size + 1 := Option.some.inj e; omega))
      have hN11 := Kpt.mk (hN10.out.grown hg1 (show wa.heap.size < wa.heap.size + 2 by omega))
      have hb11 := Kpt.mk (hb10.out.grown hg1 hb10.out.size (fun q e => by have := Option.some.inj e; subst this; exact hb8.out.size))
      have hs11 := Kpt.mk (Nat.le_trans hs10.out hg1.size)
      have c2 := hU11.out.cells 1 (by simp)
      have f2 := hU11.out.free 1
      simp only [List.getElem?_toArray, List.getElem?_cons_succ, List.getElem?_cons_zero] at c2
      have hg2 := grown_setCellK (wr.setCell ⟨wa.heap.size, 0, none⟩ (.string ⟨#[120]⟩)) ⟨wa.heap.size + 1, 1, none⟩ (.string ⟨#[121]⟩)
      have hN12 := Kpt.mk (hN11.out.grown hg2 (show wa.heap.size + 1 < wa.heap.size + 2 by omega))
      have hb12 := Kpt.mk (hb11.out.grown hg2 hb11.out.size (fun q e => by have := Option.some.inj e; have := hb8.out.size; simp at *; omega))
      have hs12 := Kpt.mk (Nat.le_trans hs11.out hg2.size)
      clear hg1 hg2 hT10 hU10 hb10 hs10 hN10 hU11 hN11 hb11 hs11
      go_upto_region 16 with (fail)
      clear c1 f1 c2 f2
      obtain ⟨w12, hw12⟩ : ∃ W, W = (wr.setCell ⟨wa.heap.size, 0, none⟩ (.string ⟨#[120]⟩)).setCell ⟨wa.heap.size + 1, 1, none⟩ (.string ⟨#[121]⟩) := ⟨_, rfl⟩
      rw [← hw12] at hN12 hb12 hs12 ⊢
      clear hw12
      go_wp2_with (first
        | (go_at_call 15; go_must (refine (fX.out _ hb16.out).mono ?_; rintro e w17 ⟨rfl, hb17q⟩; have hb17 := Kpt.mk (hb16.out.trans (hb17q.mono hb16.out.size)); have hA17 := Kpt.mk (hA16.out.below hb17q hA16.out.lt); clear hb17q))
        | (go_at_call 14; go_must (refine (fR.out _ va vn vc hp16.out hvc.out).mono ?_; rintro e wx ⟨rfl, rfl⟩))
        | (refine (?_ : wpList _ _ _ (Oper.mk none (Op.store 33 _ _) _ _ _ _ :: _) _ _); go_must (refine wpList_store_bx rfl 33 (.tmp 13) (.tmp 92) rfl A ansZ (ansT 0 (.slice va vn vc)) rfl rfl hA15.out rfl szAns (by simp [ansT, Value.oneCell']) rfl ?_; intro w16 hA16 hg16; have hb16 := Kpt.mk (hb15.out.grown hg16 hb15.out.size (fun q e => by injection e with e; subst e; exact hAw.out)); have hp16 := Kpt.mk (hp15.out.grown (fun x e => by have := hpA.out x e; omega) hg16); have c0 := hA16.cells 0 (by simp [ansT]); have c5 := hA16.cells 5 (by simp [ansT]); simp only [ansT, List.getElem?_toArray, List.getElem?_cons_succ, List.getElem?_cons_zero] at c0 c5; replace hA16 := Kpt.mk hA16; clear hg16))
        | (refine wpList_var rfl 33 rfl ansZ zAns ?_; intro A w15 hAl hAx hb15q; have hb15 := Kpt.mk (hb14.out.trans (hb15q.mono hb14.out.size)); have hAw := Kpt.mk (Nat.le_trans hb14.out.size hAl); have hA15 := Kpt.mk hAx; have hpA : Kpt (∀ x, va = some x → x.block < A) := ⟨fun x e => Nat.lt_of_lt_of_le (ps_lt hp14.out (by simp [ansQ]) x e) hAl⟩; have hp15 := Kpt.mk (hp14.out.bel hb15q); clear hAl hAx hb15q)
        | (go_at_call 8; go_must (refine (fT.out (wa.heap.size + 2) _ L us uc ta tc ca cc hN13.out ga gc hp13.out ho13.out).mono ?_; rintro e w14 ⟨⟨va, vn, vc, rfl, hp14, hvc⟩, hg14⟩; have hb14 := Kpt.mk (hb13.out.grown hg14 hb13.out.size (fun q e => by injection e with e; have := hN13.out.lc; have := hb8.out.size; omega)); replace hp14 := Kpt.mk hp14; replace hvc := Kpt.mk hvc; clear hg14))
        | (go_at_call 9; go_must (refine (fH.out w12).mono ?_; rintro e w13 ⟨ga, gc, rfl, hp13, hn13, hl13, hb13q⟩; have hb13 := Kpt.mk (hb12.out.trans (hb13q.mono hb12.out.size)); have ho13 : Kpt (Off ga L) := ⟨fun x e => by have := hn13 x e; have := hN12.out.lg.lt; omega⟩; have hN13 := Kpt.mk (hN12.out.below hb13q); replace hp13 := Kpt.mk hp13; clear hb13q hn13 hl13)))
      go_ret
      exact ⟨rfl, hb17.out⟩
end Go.Proofs.YtplifodddfjhdaaDoor
