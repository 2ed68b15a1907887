/-
  The document's Decode.
-/
import Derived.Test.YtglfkpdbgddpdaaSRGuess
import Derived.Test.YtglfkpdbgddpdaaSSpA
namespace Go.Proofs.Ytglfkpdbgddpdaa
open Go.RowKit
set_option linter.unusedVariables false
set_option linter.unusedSimpArgs false

theorem bne_SRDb (a b : Int) : (a != b) = decide (a ≠ b) := by by_cases h : a = b <;> simp [h]

set_option maxRecDepth 100000 in
set_option maxHeartbeats 4000000 in
theorem rdec_F01 (b off c : Nat) (zs : List Int) (w : World) (hr : RdAt w (.slice (some ⟨b, off, none⟩) zs.length c) zs) (hb : B.Bytes zs) (hl : zs.length ≤ maxLen) (hblt : b < w.heap.size) (hL : zs.length = 18) (hx0 : zs.getD 0 0 < 128) (hxa : 128 ≤ zs.getD 15 0) (hx8 : bits .and .u8 (zs.getD 15 0) 8 = 0) :
    Calls Try.prog 16 #[.slice (some ⟨b, off, none⟩) zs.length c] w fun e w' => e = .returned (decRes zs) ∧ Below w.heap.size w w' := by
  have hcell := (rd_cells hr).2
  have hrw : Kpt (∀ W, Below w.heap.size w W → RdAt W (.slice (some ⟨b, off, none⟩) zs.length c) zs) := ⟨fun W hW => hr.of_block (fun g hg => by
    have hgb : g = b := by simp [Value.ownBlock] at hg; first | exact hg.symm | exact hg.1.symm | (split at hg <;> simp_all)
    rw [hgb]; exact hW.block _ hblt)⟩
  have HN : ∀ i n : Nat, 1 ≤ n → n ≤ 8 → i + n ≤ zs.length → ∀ W, Below w.heap.size w W → Calls Try.prog 26 #[.slice (some ⟨b, off, none⟩) zs.length c, .int .i64 i, .int .i64 n] W fun e w' => e = .returned (.int .u64 (B.num zs i n)) ∧ w' = W :=
    fun i n h1 h2 h3 W hW => rnum_any b off zs.length c i n zs W hl h1 h2 h3 hb (fun j hj => (hW.cell (p := ⟨b, off + j, none⟩) hblt).trans (hcell j hj))
  have hwf := hF_wf hb
  have hin := hF_info hb
  have hdec := Kpt.mk (dec_fixed hb hL)
  have hk := hb 2
  have pk := hcell 2 (by omega)
  have gk : getN zs 2 1 = zs.getD 2 0 := getN_one zs 2 (by omega)
  have gc : getN zs 12 2 = B.num zs 12 2 := by unfold getN; rw [if_pos (by omega)]
  have bc := B.num_bd zs 12 hb 2
  simp at bc
  have NC : Kpt (∀ W, Below w.heap.size w W → Calls Try.prog 26 #[.slice (some ⟨b, off, none⟩) zs.length c, .int .i64 12, .int .i64 2] W fun e w' => e = .returned (.int .u64 (B.num zs 12 2)) ∧ w' = W) := ⟨HN 12 2 (by decide) (by decide) (by omega)⟩
  obtain ⟨xk, exk⟩ : ∃ x, x = zs.getD 2 0 := ⟨_, rfl⟩
  obtain ⟨nc, enc⟩ : ∃ x, x = B.num zs 12 2 := ⟨_, rfl⟩
  rw [← exk] at hk pk gk
  rw [← enc] at bc NC gc
  have h0 := hb 0
  have p0 := hcell 0 (by omega)
  rw [Nat.add_zero] at p0
  have g0 : getN zs 0 1 = zs.getD 0 0 := getN_one zs 0 (by omega)
  obtain ⟨x0, ex0⟩ : ∃ x, x = zs.getD 0 0 := ⟨_, rfl⟩
  rw [← ex0] at h0 p0 g0 hx0
  have ha := hb 15
  have pa := hcell 15 (by omega)
  have ga : getN zs 15 1 = zs.getD 15 0 := getN_one zs 15 (by omega)
  have gf : getN zs (15 + 1) 2 = B.num zs 16 2 := by unfold getN; rw [if_pos (by omega)]
  have bf := B.num_bd zs 16 hb 2
  simp at bf
  have NF : Kpt (∀ W, Below w.heap.size w W → Calls Try.prog 26 #[.slice (some ⟨b, off, none⟩) zs.length c, .int .i64 16, .int .i64 2] W fun e w' => e = .returned (.int .u64 (B.num zs 16 2)) ∧ w' = W) := ⟨HN 16 2 (by decide) (by decide) (by omega)⟩
  obtain ⟨xa, exa⟩ : ∃ x, x = zs.getD 15 0 := ⟨_, rfl⟩
  obtain ⟨nf, enf⟩ : ∃ x, x = B.num zs 16 2 := ⟨_, rfl⟩
  have a128 := and128 (zs.getD 15 0) ha
  rw [← exa] at ha pa ga a128 hxa hx8
  rw [← enf] at bf NF gf
  have hS : hF zs = ⟨xk, nc, 0, false, nf, -1, true, (bits .and .u8 xa 64 != 0)⟩ := by
    rw [bne_SRDb]
    unfold hF tF
    rw [gk, gc, g0]
    rw [if_neg (by omega), decide_eq_false (by omega)]
    unfold Sn.withF
    rw [ga, gf]
    rw [if_neg (fun e => by have := a128.1 e; omega), if_neg (by simp [hx8])]
  obtain ⟨S, eS⟩ : ∃ S, S = hF zs := ⟨_, rfl⟩
  rw [← eS] at hS hwf hdec hin
  have hbb : Kpt (S.form = true → B.Bytes S.fixedB) := ⟨fun h => bytes_of_wf_fixed hwf h hin⟩
  have H12 : Kpt (∀ (s : Sn) (W : World), s = S → Calls Try.prog 12 #[.agg s.vals] W fun e w' => ∃ v x, e = .returned (.tuple #[v, .int .i64 x]) ∧ Below W.heap.size W w' ∧ ((S.form = true ∧ x = 0 ∧ RdAt w' v S.descB ∧ ∀ g, v.ownBlock = some g → g < w'.heap.size) ∨ (S.form = false ∧ x = 3 ∧ v = .slice none 0 0))) := ⟨fun s W e => by subst e; exact rdesc_gen s hwf W⟩
  have H11 : Kpt (∀ (s : Sn) (W : World), s = S → Calls Try.prog 11 #[.agg s.vals] W fun e w' => ∃ v x, e = .returned (.tuple #[v, .int .i64 x]) ∧ Below W.heap.size W w' ∧ ((S.form = true ∧ x = 0 ∧ RdAt w' v S.fixedB ∧ ∀ g, v.ownBlock = some g → g < w'.heap.size) ∨ (S.form = false ∧ x = 3 ∧ v = .slice none 0 0))) := ⟨fun s W e => by subst e; exact rfix_gen s hwf hin W⟩
  have hSv : Kpt (S.vals = #[.int .u8 xk, .int .u16 nc, .int .u64 (0), .bool false, .int .i64 (nf), .int .i64 (-1), .bool true, .bool (bits .and .u8 xa 64 != 0)]) := ⟨by rw [hS]; rfl⟩
  replace hS := Kpt.mk hS
  have hbK := Kpt.mk hb
  have hres0 : Kpt (Blk (w.alloc (.cells #[.int .u8 0, .int .u16 0, .int .u64 0, .bool false, .int .i64 0, .int .i64 0, .bool false, .bool false] 25)) w.heap.size sn0) := ⟨blk_alloc w sn0⟩
  rw [hL] at hl NC hrw ⊢
  rw [hL] at NF
  unfold maxLen at hl
  clear hr hb hcell HN hwf gk gc eS exk enc g0 ex0 hin ga gf exa enf a128 hL
  have hb8 : (bits .and .u8 xa 8 != 0) = false := by simp [hx8]
  have hx0b : ¬ 128 ≤ x0 := by omega
  go_enter Try.func16, Try.ntmps16
  have hNB : ∀ (cs : Array Value), Below w.heap.size w ((w.alloc (.cells #[.int .u8 0, .int .u16 0, .int .u64 0, .bool false, .int .i64 0, .int .i64 0, .bool false, .bool false] 25)).alloc (.cells cs 25)) := fun cs => ((Below.refl _ _).alloc (Nat.le_refl _) _).alloc (by simp) _
  go_wp2_with (first
    | (go_at_call 26; have hm := mC; refine (NF.out _ (hNB _)).mono ?_; rintro e wN ⟨rfl, hw⟩; subst hw; clear hm)
    | (go_at_call 26; refine (NC.out _ (hNB _)).mono ?_; rintro e wN ⟨rfl, hw⟩; subst hw; have mC : Kpt True := ⟨trivial⟩)
    | fail)
  rw [decide_eq_false (show ¬ 128 ≤ x0 by omega)]
  rw [← hSv.out]
  obtain ⟨W1, hW1⟩ : ∃ W1, W1 = (w.alloc (.cells #[.int .u8 0, .int .u16 0, .int .u64 0, .bool false, .int .i64 0, .int .i64 0, .bool false, .bool false] 25)).alloc (.cells S.vals 25) := ⟨_, rfl⟩
  rw [← hW1]
  have hb1 : Kpt (Below w.heap.size w W1) := ⟨by rw [hW1]; exact hNB _⟩
  have hS1 : Kpt (Blk W1 (w.heap.size + 1) S) := ⟨by rw [hW1]; have := blk_alloc (w.alloc (.cells #[.int .u8 0, .int .u16 0, .int .u64 0, .bool false, .int .i64 0, .int .i64 0, .bool false, .bool false] 25)) S; rw [World.size_alloc] at this; exact this⟩
  have hR1 : Kpt (Blk W1 w.heap.size sn0) := ⟨by rw [hW1]; exact hres0.out.below ((Below.refl _ _).alloc (Nat.le_refl _) _) (by simp)⟩
  clear hW1 hres0 hSv hS hNB
  refine (H12.out S _ rfl).mono ?_
  rintro e w2 ⟨v2, x2, rfl, hb2, ho2⟩
  have hS2 : Kpt (Blk w2 (w.heap.size + 1) S) := ⟨hS1.out.below hb2 hS1.out.lt⟩
  have hR2 : Kpt (Blk w2 w.heap.size sn0) := ⟨hR1.out.below hb2 hR1.out.lt⟩
  have hB2 : Kpt (Below w.heap.size w w2) := ⟨hb1.out.trans (hb2.mono hb1.out.size)⟩
  obtain ⟨key, code, info, hiv, field, bit, hfv, icv, hv⟩ : ∃ key code info hiv field bit hfv icv, S.vals = #[.int .u8 key, .int .u16 code, .int .u64 info, .bool hiv, .int .i64 field, .int .i64 bit, .bool hfv, .bool icv] := ⟨_, _, _, _, _, _, _, _, rfl⟩
  replace hv := Kpt.mk hv
  replace ho2 := Kpt.mk ho2
  clear hS1 hR1 hb1 hb2
  have r0 := hR2.out.box 0
  simp [Sn.vals, sn0] at r0
  have z0 := hR2.out.fz 0
  have q0 := hS2.out.box 0
  rw [hv.out] at q0
  simp at q0
  have r1 := hR2.out.box 1
  simp [Sn.vals, sn0] at r1
  have z1 := hR2.out.fz 1
  have q1 := hS2.out.box 1
  rw [hv.out] at q1
  simp at q1
  have r2 := hR2.out.box 2
  simp [Sn.vals, sn0] at r2
  have z2 := hR2.out.fz 2
  have q2 := hS2.out.box 2
  rw [hv.out] at q2
  simp at q2
  have r3 := hR2.out.box 3
  simp [Sn.vals, sn0] at r3
  have z3 := hR2.out.fz 3
  have q3 := hS2.out.box 3
  rw [hv.out] at q3
  simp at q3
  have r4 := hR2.out.box 4
  simp [Sn.vals, sn0] at r4
  have z4 := hR2.out.fz 4
  have q4 := hS2.out.box 4
  rw [hv.out] at q4
  simp at q4
  have r5 := hR2.out.box 5
  simp [Sn.vals, sn0] at r5
  have z5 := hR2.out.fz 5
  have q5 := hS2.out.box 5
  rw [hv.out] at q5
  simp at q5
  have r6 := hR2.out.box 6
  simp [Sn.vals, sn0] at r6
  have z6 := hR2.out.fz 6
  have q6 := hS2.out.box 6
  rw [hv.out] at q6
  simp at q6
  have r7 := hR2.out.box 7
  simp [Sn.vals, sn0] at r7
  have z7 := hR2.out.fz 7
  have q7 := hS2.out.box 7
  rw [hv.out] at q7
  simp at q7
  have hlR := hR2.out.lt
  have hlS := hS2.out.lt
  go_wp2_with fail
  rw [← hv.out]
  refine (H11.out S _ rfl).mono ?_
  rintro e w3 ⟨v3, x3, rfl, hb3, ho3⟩
  have hS3 : Kpt (Blk w3 (w.heap.size + 1) S) := ⟨hS2.out.below hb3 hS2.out.lt⟩
  have hR3 : Kpt (Blk w3 w.heap.size sn0) := ⟨hR2.out.below hb3 hR2.out.lt⟩
  have hB3 : Kpt (Below w.heap.size w w3) := ⟨hB2.out.trans (hb3.mono hB2.out.size)⟩
  replace ho3 := Kpt.mk ho3
  clear hS2 hR2 hb3 ho2 hB2 r0 r1 r2 r3 r4 r5 r6 r7 z0 z1 z2 z3 z4 z5 z6 z7 q0 q1 q2 q3 q4 q5 q6 q7 hlR hlS
  have r0 := hR3.out.box 0
  simp [Sn.vals, sn0] at r0
  have z0 := hR3.out.fz 0
  have q0 := hS3.out.box 0
  rw [hv.out] at q0
  simp at q0
  have r1 := hR3.out.box 1
  simp [Sn.vals, sn0] at r1
  have z1 := hR3.out.fz 1
  have q1 := hS3.out.box 1
  rw [hv.out] at q1
  simp at q1
  have r2 := hR3.out.box 2
  simp [Sn.vals, sn0] at r2
  have z2 := hR3.out.fz 2
  have q2 := hS3.out.box 2
  rw [hv.out] at q2
  simp at q2
  have r3 := hR3.out.box 3
  simp [Sn.vals, sn0] at r3
  have z3 := hR3.out.fz 3
  have q3 := hS3.out.box 3
  rw [hv.out] at q3
  simp at q3
  have r4 := hR3.out.box 4
  simp [Sn.vals, sn0] at r4
  have z4 := hR3.out.fz 4
  have q4 := hS3.out.box 4
  rw [hv.out] at q4
  simp at q4
  have r5 := hR3.out.box 5
  simp [Sn.vals, sn0] at r5
  have z5 := hR3.out.fz 5
  have q5 := hS3.out.box 5
  rw [hv.out] at q5
  simp at q5
  have r6 := hR3.out.box 6
  simp [Sn.vals, sn0] at r6
  have z6 := hR3.out.fz 6
  have q6 := hS3.out.box 6
  rw [hv.out] at q6
  simp at q6
  have r7 := hR3.out.box 7
  simp [Sn.vals, sn0] at r7
  have z7 := hR3.out.fz 7
  have q7 := hS3.out.box 7
  rw [hv.out] at q7
  simp at q7
  have hlR := hR3.out.lt
  have hlS := hS3.out.lt
  rcases ho3.out with ⟨hf, rfl, hrd, _⟩ | ⟨hf, rfl, rfl⟩
  · have cq := conv_rd w3 v3 S.fixedB hrd
    have cp := conv_rd w3 _ zs (hrw.out w3 hB3.out)
    by_cases heq : S.fixedB = zs
    · have hdn : Kpt (decS zs = some S) := ⟨by rw [hdec.out, if_pos ⟨hf, heq⟩]⟩
      rw [heq] at cq
      obtain ⟨T, hT⟩ : ∃ T, T = strOfNums zs := ⟨_, rfl⟩
      rw [← hT] at cq cp
      clear hT heq hdec hrd H12 ho3 hf hbb
      go_wp2_with fail
      all_goals (
        refine bodyPost_ret (v := .tuple #[.agg #[.int .u8 key, .int .u16 code, .int .u64 info, .bool hiv, .int .i64 field, .int .i64 bit, .bool hfv, .bool icv], .int .i64 0]) (by simp [results, Try.results16, go_sem, r0, r1, r2, r3, r4, r5, r6, r7]) rfl ⟨by unfold decRes; rw [hdn.out]; simp only [hv.out], ?_⟩
        iterate 8 (refine Below.setCell ?_ (by simp) _)
        exact hB3.out)
    · have hdn : Kpt (decS zs = none) := ⟨by rw [hdec.out, if_neg (fun h => heq h.2)]⟩
      have hne : ((strOfNums S.fixedB).toList == (strOfNums zs).toList) = false := by
        rw [beq_eq_false_iff_ne]
        intro e
        rw [Go.Lib.strOfNums_toList, Go.Lib.strOfNums_toList] at e
        exact heq (str_inj (hbb.out hf) hbK.out (by unfold strOfNums; exact congrArg (fun l => ByteArray.mk l.toArray) e))
      obtain ⟨T, hT⟩ : ∃ T, T = strOfNums zs := ⟨_, rfl⟩
      obtain ⟨Q, hQ⟩ : ∃ Q, Q = strOfNums S.fixedB := ⟨_, rfl⟩
      rw [← hT] at cp hne
      rw [← hQ] at cq hne
      clear hT hQ heq hdec hrd H12 ho3 hf hbb
      go_wp2_with fail
      all_goals (
        refine bodyPost_ret (v := .tuple #[.agg #[.int .u8 0, .int .u16 0, .int .u64 0, .bool false, .int .i64 0, .int .i64 0, .bool false, .bool false], .int .i64 3]) (by simp [results, Try.results16, go_sem, r0, r1, r2, r3, r4, r5, r6, r7]) rfl ⟨by unfold decRes; rw [hdn.out]; rfl, ?_⟩
        iterate 8 (refine Below.setCell ?_ (by simp) _)
        exact hB3.out)
  · have hdn : Kpt (decS zs = none) := ⟨by rw [hdec.out, if_neg (by simp [hf])]⟩
    clear hdec H12 ho3 hf hbb
    go_wp2_with fail
    all_goals (
        refine bodyPost_ret (v := .tuple #[.agg #[.int .u8 0, .int .u16 0, .int .u64 0, .bool false, .int .i64 0, .int .i64 0, .bool false, .bool false], .int .i64 3]) (by simp [results, Try.results16, go_sem, r0, r1, r2, r3, r4, r5, r6, r7]) rfl ⟨by unfold decRes; rw [hdn.out]; rfl, ?_⟩
        iterate 8 (refine Below.setCell ?_ (by simp) _)
        exact hB3.out)

set_option maxRecDepth 100000 in
set_option maxHeartbeats 4000000 in
theorem rdec_F02 (b off c : Nat) (zs : List Int) (w : World) (hr : RdAt w (.slice (some ⟨b, off, none⟩) zs.length c) zs) (hb : B.Bytes zs) (hl : zs.length ≤ maxLen) (hblt : b < w.heap.size) (hL : zs.length = 18) (hx0 : zs.getD 0 0 < 128) (hxa : 128 ≤ zs.getD 15 0) (hx8 : bits .and .u8 (zs.getD 15 0) 8 ≠ 0) :
    Calls Try.prog 16 #[.slice (some ⟨b, off, none⟩) zs.length c] w fun e w' => e = .returned (decRes zs) ∧ Below w.heap.size w w' := by
  have hcell := (rd_cells hr).2
  have hrw : Kpt (∀ W, Below w.heap.size w W → RdAt W (.slice (some ⟨b, off, none⟩) zs.length c) zs) := ⟨fun W hW => hr.of_block (fun g hg => by
    have hgb : g = b := by simp [Value.ownBlock] at hg; first | exact hg.symm | exact hg.1.symm | (split at hg <;> simp_all)
    rw [hgb]; exact hW.block _ hblt)⟩
  have HN : ∀ i n : Nat, 1 ≤ n → n ≤ 8 → i + n ≤ zs.length → ∀ W, Below w.heap.size w W → Calls Try.prog 26 #[.slice (some ⟨b, off, none⟩) zs.length c, .int .i64 i, .int .i64 n] W fun e w' => e = .returned (.int .u64 (B.num zs i n)) ∧ w' = W :=
    fun i n h1 h2 h3 W hW => rnum_any b off zs.length c i n zs W hl h1 h2 h3 hb (fun j hj => (hW.cell (p := ⟨b, off + j, none⟩) hblt).trans (hcell j hj))
  have hwf := hF_wf hb
  have hin := hF_info hb
  have hdec := Kpt.mk (dec_fixed hb hL)
  have hk := hb 2
  have pk := hcell 2 (by omega)
  have gk : getN zs 2 1 = zs.getD 2 0 := getN_one zs 2 (by omega)
  have gc : getN zs 12 2 = B.num zs 12 2 := by unfold getN; rw [if_pos (by omega)]
  have bc := B.num_bd zs 12 hb 2
  simp at bc
  have NC : Kpt (∀ W, Below w.heap.size w W → Calls Try.prog 26 #[.slice (some ⟨b, off, none⟩) zs.length c, .int .i64 12, .int .i64 2] W fun e w' => e = .returned (.int .u64 (B.num zs 12 2)) ∧ w' = W) := ⟨HN 12 2 (by decide) (by decide) (by omega)⟩
  obtain ⟨xk, exk⟩ : ∃ x, x = zs.getD 2 0 := ⟨_, rfl⟩
  obtain ⟨nc, enc⟩ : ∃ x, x = B.num zs 12 2 := ⟨_, rfl⟩
  rw [← exk] at hk pk gk
  rw [← enc] at bc NC gc
  have h0 := hb 0
  have p0 := hcell 0 (by omega)
  rw [Nat.add_zero] at p0
  have g0 : getN zs 0 1 = zs.getD 0 0 := getN_one zs 0 (by omega)
  obtain ⟨x0, ex0⟩ : ∃ x, x = zs.getD 0 0 := ⟨_, rfl⟩
  rw [← ex0] at h0 p0 g0 hx0
  have ha := hb 15
  have pa := hcell 15 (by omega)
  have ga : getN zs 15 1 = zs.getD 15 0 := getN_one zs 15 (by omega)
  have gf : getN zs (15 + 1) 2 = B.num zs 16 2 := by unfold getN; rw [if_pos (by omega)]
  have bf := B.num_bd zs 16 hb 2
  simp at bf
  have NF : Kpt (∀ W, Below w.heap.size w W → Calls Try.prog 26 #[.slice (some ⟨b, off, none⟩) zs.length c, .int .i64 16, .int .i64 2] W fun e w' => e = .returned (.int .u64 (B.num zs 16 2)) ∧ w' = W) := ⟨HN 16 2 (by decide) (by decide) (by omega)⟩
  obtain ⟨xa, exa⟩ : ∃ x, x = zs.getD 15 0 := ⟨_, rfl⟩
  obtain ⟨nf, enf⟩ : ∃ x, x = B.num zs 16 2 := ⟨_, rfl⟩
  have a128 := and128 (zs.getD 15 0) ha
  rw [← exa] at ha pa ga a128 hxa hx8
  rw [← enf] at bf NF gf
  have hS : hF zs = ⟨xk, nc, 0, false, nf, xa % 8, true, (bits .and .u8 xa 64 != 0)⟩ := by
    rw [bne_SRDb]
    unfold hF tF
    rw [gk, gc, g0]
    rw [if_neg (by omega), decide_eq_false (by omega)]
    unfold Sn.withF
    rw [ga, gf]
    rw [if_neg (fun e => by have := a128.1 e; omega), if_pos hx8]
  obtain ⟨S, eS⟩ : ∃ S, S = hF zs := ⟨_, rfl⟩
  rw [← eS] at hS hwf hdec hin
  have hbb : Kpt (S.form = true → B.Bytes S.fixedB) := ⟨fun h => bytes_of_wf_fixed hwf h hin⟩
  have H12 : Kpt (∀ (s : Sn) (W : World), s = S → Calls Try.prog 12 #[.agg s.vals] W fun e w' => ∃ v x, e = .returned (.tuple #[v, .int .i64 x]) ∧ Below W.heap.size W w' ∧ ((S.form = true ∧ x = 0 ∧ RdAt w' v S.descB ∧ ∀ g, v.ownBlock = some g → g < w'.heap.size) ∨ (S.form = false ∧ x = 3 ∧ v = .slice none 0 0))) := ⟨fun s W e => by subst e; exact rdesc_gen s hwf W⟩
  have H11 : Kpt (∀ (s : Sn) (W : World), s = S → Calls Try.prog 11 #[.agg s.vals] W fun e w' => ∃ v x, e = .returned (.tuple #[v, .int .i64 x]) ∧ Below W.heap.size W w' ∧ ((S.form = true ∧ x = 0 ∧ RdAt w' v S.fixedB ∧ ∀ g, v.ownBlock = some g → g < w'.heap.size) ∨ (S.form = false ∧ x = 3 ∧ v = .slice none 0 0))) := ⟨fun s W e => by subst e; exact rfix_gen s hwf hin W⟩
  have hSv : Kpt (S.vals = #[.int .u8 xk, .int .u16 nc, .int .u64 (0), .bool false, .int .i64 (nf), .int .i64 (xa % 8), .bool true, .bool (bits .and .u8 xa 64 != 0)]) := ⟨by rw [hS]; rfl⟩
  replace hS := Kpt.mk hS
  have hbK := Kpt.mk hb
  have hres0 : Kpt (Blk (w.alloc (.cells #[.int .u8 0, .int .u16 0, .int .u64 0, .bool false, .int .i64 0, .int .i64 0, .bool false, .bool false] 25)) w.heap.size sn0) := ⟨blk_alloc w sn0⟩
  rw [hL] at hl NC hrw ⊢
  rw [hL] at NF
  unfold maxLen at hl
  clear hr hb hcell HN hwf gk gc eS exk enc g0 ex0 hin ga gf exa enf a128 hL
  have hb8 : (bits .and .u8 xa 8 != 0) = true := by simp [hx8]
  have hx0b : ¬ 128 ≤ x0 := by omega
  go_enter Try.func16, Try.ntmps16
  have hNB : ∀ (cs : Array Value), Below w.heap.size w ((w.alloc (.cells #[.int .u8 0, .int .u16 0, .int .u64 0, .bool false, .int .i64 0, .int .i64 0, .bool false, .bool false] 25)).alloc (.cells cs 25)) := fun cs => ((Below.refl _ _).alloc (Nat.le_refl _) _).alloc (by simp) _
  go_wp2_with (first
    | (go_at_call 26; have hm := mC; refine (NF.out _ (hNB _)).mono ?_; rintro e wN ⟨rfl, hw⟩; subst hw; clear hm)
    | (go_at_call 26; refine (NC.out _ (hNB _)).mono ?_; rintro e wN ⟨rfl, hw⟩; subst hw; have mC : Kpt True := ⟨trivial⟩)
    | fail)
  rw [decide_eq_false (show ¬ 128 ≤ x0 by omega)]
  rw [← hSv.out]
  obtain ⟨W1, hW1⟩ : ∃ W1, W1 = (w.alloc (.cells #[.int .u8 0, .int .u16 0, .int .u64 0, .bool false, .int .i64 0, .int .i64 0, .bool false, .bool false] 25)).alloc (.cells S.vals 25) := ⟨_, rfl⟩
  rw [← hW1]
  have hb1 : Kpt (Below w.heap.size w W1) := ⟨by rw [hW1]; exact hNB _⟩
  have hS1 : Kpt (Blk W1 (w.heap.size + 1) S) := ⟨by rw [hW1]; have := blk_alloc (w.alloc (.cells #[.int .u8 0, .int .u16 0, .int .u64 0, .bool false, .int .i64 0, .int .i64 0, .bool false, .bool false] 25)) S; rw [World.size_alloc] at this; exact this⟩
  have hR1 : Kpt (Blk W1 w.heap.size sn0) := ⟨by rw [hW1]; exact hres0.out.below ((Below.refl _ _).alloc (Nat.le_refl _) _) (by simp)⟩
  clear hW1 hres0 hSv hS hNB
  refine (H12.out S _ rfl).mono ?_
  rintro e w2 ⟨v2, x2, rfl, hb2, ho2⟩
  have hS2 : Kpt (Blk w2 (w.heap.size + 1) S) := ⟨hS1.out.below hb2 hS1.out.lt⟩
  have hR2 : Kpt (Blk w2 w.heap.size sn0) := ⟨hR1.out.below hb2 hR1.out.lt⟩
  have hB2 : Kpt (Below w.heap.size w w2) := ⟨hb1.out.trans (hb2.mono hb1.out.size)⟩
  obtain ⟨key, code, info, hiv, field, bit, hfv, icv, hv⟩ : ∃ key code info hiv field bit hfv icv, S.vals = #[.int .u8 key, .int .u16 code, .int .u64 info, .bool hiv, .int .i64 field, .int .i64 bit, .bool hfv, .bool icv] := ⟨_, _, _, _, _, _, _, _, rfl⟩
  replace hv := Kpt.mk hv
  replace ho2 := Kpt.mk ho2
  clear hS1 hR1 hb1 hb2
  have r0 := hR2.out.box 0
  simp [Sn.vals, sn0] at r0
  have z0 := hR2.out.fz 0
  have q0 := hS2.out.box 0
  rw [hv.out] at q0
  simp at q0
  have r1 := hR2.out.box 1
  simp [Sn.vals, sn0] at r1
  have z1 := hR2.out.fz 1
  have q1 := hS2.out.box 1
  rw [hv.out] at q1
  simp at q1
  have r2 := hR2.out.box 2
  simp [Sn.vals, sn0] at r2
  have z2 := hR2.out.fz 2
  have q2 := hS2.out.box 2
  rw [hv.out] at q2
  simp at q2
  have r3 := hR2.out.box 3
  simp [Sn.vals, sn0] at r3
  have z3 := hR2.out.fz 3
  have q3 := hS2.out.box 3
  rw [hv.out] at q3
  simp at q3
  have r4 := hR2.out.box 4
  simp [Sn.vals, sn0] at r4
  have z4 := hR2.out.fz 4
  have q4 := hS2.out.box 4
  rw [hv.out] at q4
  simp at q4
  have r5 := hR2.out.box 5
  simp [Sn.vals, sn0] at r5
  have z5 := hR2.out.fz 5
  have q5 := hS2.out.box 5
  rw [hv.out] at q5
  simp at q5
  have r6 := hR2.out.box 6
  simp [Sn.vals, sn0] at r6
  have z6 := hR2.out.fz 6
  have q6 := hS2.out.box 6
  rw [hv.out] at q6
  simp at q6
  have r7 := hR2.out.box 7
  simp [Sn.vals, sn0] at r7
  have z7 := hR2.out.fz 7
  have q7 := hS2.out.box 7
  rw [hv.out] at q7
  simp at q7
  have hlR := hR2.out.lt
  have hlS := hS2.out.lt
  go_wp2_with fail
  rw [← hv.out]
  refine (H11.out S _ rfl).mono ?_
  rintro e w3 ⟨v3, x3, rfl, hb3, ho3⟩
  have hS3 : Kpt (Blk w3 (w.heap.size + 1) S) := ⟨hS2.out.below hb3 hS2.out.lt⟩
  have hR3 : Kpt (Blk w3 w.heap.size sn0) := ⟨hR2.out.below hb3 hR2.out.lt⟩
  have hB3 : Kpt (Below w.heap.size w w3) := ⟨hB2.out.trans (hb3.mono hB2.out.size)⟩
  replace ho3 := Kpt.mk ho3
  clear hS2 hR2 hb3 ho2 hB2 r0 r1 r2 r3 r4 r5 r6 r7 z0 z1 z2 z3 z4 z5 z6 z7 q0 q1 q2 q3 q4 q5 q6 q7 hlR hlS
  have r0 := hR3.out.box 0
  simp [Sn.vals, sn0] at r0
  have z0 := hR3.out.fz 0
  have q0 := hS3.out.box 0
  rw [hv.out] at q0
  simp at q0
  have r1 := hR3.out.box 1
  simp [Sn.vals, sn0] at r1
  have z1 := hR3.out.fz 1
  have q1 := hS3.out.box 1
  rw [hv.out] at q1
  simp at q1
  have r2 := hR3.out.box 2
  simp [Sn.vals, sn0] at r2
  have z2 := hR3.out.fz 2
  have q2 := hS3.out.box 2
  rw [hv.out] at q2
  simp at q2
  have r3 := hR3.out.box 3
  simp [Sn.vals, sn0] at r3
  have z3 := hR3.out.fz 3
  have q3 := hS3.out.box 3
  rw [hv.out] at q3
  simp at q3
  have r4 := hR3.out.box 4
  simp [Sn.vals, sn0] at r4
  have z4 := hR3.out.fz 4
  have q4 := hS3.out.box 4
  rw [hv.out] at q4
  simp at q4
  have r5 := hR3.out.box 5
  simp [Sn.vals, sn0] at r5
  have z5 := hR3.out.fz 5
  have q5 := hS3.out.box 5
  rw [hv.out] at q5
  simp at q5
  have r6 := hR3.out.box 6
  simp [Sn.vals, sn0] at r6
  have z6 := hR3.out.fz 6
  have q6 := hS3.out.box 6
  rw [hv.out] at q6
  simp at q6
  have r7 := hR3.out.box 7
  simp [Sn.vals, sn0] at r7
  have z7 := hR3.out.fz 7
  have q7 := hS3.out.box 7
  rw [hv.out] at q7
  simp at q7
  have hlR := hR3.out.lt
  have hlS := hS3.out.lt
  rcases ho3.out with ⟨hf, rfl, hrd, _⟩ | ⟨hf, rfl, rfl⟩
  · have cq := conv_rd w3 v3 S.fixedB hrd
    have cp := conv_rd w3 _ zs (hrw.out w3 hB3.out)
    by_cases heq : S.fixedB = zs
    · have hdn : Kpt (decS zs = some S) := ⟨by rw [hdec.out, if_pos ⟨hf, heq⟩]⟩
      rw [heq] at cq
      obtain ⟨T, hT⟩ : ∃ T, T = strOfNums zs := ⟨_, rfl⟩
      rw [← hT] at cq cp
      clear hT heq hdec hrd H12 ho3 hf hbb
      go_wp2_with fail
      all_goals (
        refine bodyPost_ret (v := .tuple #[.agg #[.int .u8 key, .int .u16 code, .int .u64 info, .bool hiv, .int .i64 field, .int .i64 bit, .bool hfv, .bool icv], .int .i64 0]) (by simp [results, Try.results16, go_sem, r0, r1, r2, r3, r4, r5, r6, r7]) rfl ⟨by unfold decRes; rw [hdn.out]; simp only [hv.out], ?_⟩
        iterate 8 (refine Below.setCell ?_ (by simp) _)
        exact hB3.out)
    · have hdn : Kpt (decS zs = none) := ⟨by rw [hdec.out, if_neg (fun h => heq h.2)]⟩
      have hne : ((strOfNums S.fixedB).toList == (strOfNums zs).toList) = false := by
        rw [beq_eq_false_iff_ne]
        intro e
        rw [Go.Lib.strOfNums_toList, Go.Lib.strOfNums_toList] at e
        exact heq (str_inj (hbb.out hf) hbK.out (by unfold strOfNums; exact congrArg (fun l => ByteArray.mk l.toArray) e))
      obtain ⟨T, hT⟩ : ∃ T, T = strOfNums zs := ⟨_, rfl⟩
      obtain ⟨Q, hQ⟩ : ∃ Q, Q = strOfNums S.fixedB := ⟨_, rfl⟩
      rw [← hT] at cp hne
      rw [← hQ] at cq hne
      clear hT hQ heq hdec hrd H12 ho3 hf hbb
      go_wp2_with fail
      all_goals (
        refine bodyPost_ret (v := .tuple #[.agg #[.int .u8 0, .int .u16 0, .int .u64 0, .bool false, .int .i64 0, .int .i64 0, .bool false, .bool false], .int .i64 3]) (by simp [results, Try.results16, go_sem, r0, r1, r2, r3, r4, r5, r6, r7]) rfl ⟨by unfold decRes; rw [hdn.out]; rfl, ?_⟩
        iterate 8 (refine Below.setCell ?_ (by simp) _)
        exact hB3.out)
  · have hdn : Kpt (decS zs = none) := ⟨by rw [hdec.out, if_neg (by simp [hf])]⟩
    clear hdec H12 ho3 hf hbb
    go_wp2_with fail
    all_goals (
        refine bodyPost_ret (v := .tuple #[.agg #[.int .u8 0, .int .u16 0, .int .u64 0, .bool false, .int .i64 0, .int .i64 0, .bool false, .bool false], .int .i64 3]) (by simp [results, Try.results16, go_sem, r0, r1, r2, r3, r4, r5, r6, r7]) rfl ⟨by unfold decRes; rw [hdn.out]; rfl, ?_⟩
        iterate 8 (refine Below.setCell ?_ (by simp) _)
        exact hB3.out)

end Go.Proofs.Ytglfkpdbgddpdaa
