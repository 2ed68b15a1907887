/-
  The document's Decode.
-/
import Derived.Test.YtglfkpdbgddpdaaSRGuess
import Derived.Test.YtglfkpdbgddpdaaSSpA
namespace Go.Proofs.Ytglfkpdbgddpdaa
open Go.RowKit
set_option linter.unusedVariables false
set_option linter.unusedSimpArgs false

theorem bne_SRDc (a b : Int) : (a != b) = decide (a ≠ b) := by by_cases h : a = b <;> simp [h]

set_option maxRecDepth 100000 in
set_option maxHeartbeats 4000000 in
theorem rdec_D160 (b off c : Nat) (zs : List Int) (w : World) (hr : RdAt w (.slice (some ⟨b, off, none⟩) zs.length c) zs) (hb : B.Bytes zs) (hl : zs.length ≤ maxLen) (hblt : b < w.heap.size) (hL : zs.length = 16) (hxa : zs.getD 12 0 < 128) :
    Calls Try.prog 16 #[.slice (some ⟨b, off, none⟩) zs.length c] w fun e w' => e = .returned (decRes zs) ∧ Below w.heap.size w w' := by
  have hcell := (rd_cells hr).2
  have hrw : Kpt (∀ W, Below w.heap.size w W → RdAt W (.slice (some ⟨b, off, none⟩) zs.length c) zs) := ⟨fun W hW => hr.of_block (fun g hg => by
    have hgb : g = b := by simp [Value.ownBlock] at hg; first | exact hg.symm | exact hg.1.symm | (split at hg <;> simp_all)
    rw [hgb]; exact hW.block _ hblt)⟩
  have HN : ∀ i n : Nat, 1 ≤ n → n ≤ 8 → i + n ≤ zs.length → ∀ W, Below w.heap.size w W → Calls Try.prog 26 #[.slice (some ⟨b, off, none⟩) zs.length c, .int .i64 i, .int .i64 n] W fun e w' => e = .returned (.int .u64 (B.num zs i n)) ∧ w' = W :=
    fun i n h1 h2 h3 W hW => rnum_any b off zs.length c i n zs W hl h1 h2 h3 hb (fun j hj => (hW.cell (p := ⟨b, off + j, none⟩) hblt).trans (hcell j hj))
  have hwf := hD_wf hb
  have hdec := Kpt.mk (dec_desc hb (by omega))
  have hk := hb 1
  have pk := hcell 1 (by omega)
  have gk : getN zs 1 1 = zs.getD 1 0 := getN_one zs 1 (by omega)
  have gc : getN zs 2 2 = B.num zs 2 2 := by unfold getN; rw [if_pos (by omega)]
  have bc := B.num_bd zs 2 hb 2
  simp at bc
  have NC : Kpt (∀ W, Below w.heap.size w W → Calls Try.prog 26 #[.slice (some ⟨b, off, none⟩) zs.length c, .int .i64 2, .int .i64 2] W fun e w' => e = .returned (.int .u64 (B.num zs 2 2)) ∧ w' = W) := ⟨HN 2 2 (by decide) (by decide) (by omega)⟩
  obtain ⟨xk, exk⟩ : ∃ x, x = zs.getD 1 0 := ⟨_, rfl⟩
  obtain ⟨nc, enc⟩ : ∃ x, x = B.num zs 2 2 := ⟨_, rfl⟩
  rw [← exk] at hk pk gk
  rw [← enc] at bc NC gc
  have ha := hb 12
  have pa := hcell 12 (by omega)
  have ga : getN zs 12 1 = zs.getD 12 0 := getN_one zs 12 (by omega)
  have gf : getN zs (12 + 1) 2 = B.num zs 13 2 := by unfold getN; rw [if_pos (by omega)]
  have bf := B.num_bd zs 13 hb 2
  simp at bf
  have NF : Kpt (∀ W, Below w.heap.size w W → Calls Try.prog 26 #[.slice (some ⟨b, off, none⟩) zs.length c, .int .i64 13, .int .i64 2] W fun e w' => e = .returned (.int .u64 (B.num zs 13 2)) ∧ w' = W) := ⟨HN 13 2 (by decide) (by decide) (by omega)⟩
  obtain ⟨xa, exa⟩ : ∃ x, x = zs.getD 12 0 := ⟨_, rfl⟩
  obtain ⟨nf, enf⟩ : ∃ x, x = B.num zs 13 2 := ⟨_, rfl⟩
  have a128 := and128 (zs.getD 12 0) ha
  rw [← exa] at ha pa ga a128 hxa
  rw [← enf] at bf NF gf
  have hS : hD zs = ⟨xk, nc, 0, false, 0, 0, false, false⟩ := by
    unfold hD tD
    rw [gk, gc]
    rw [hL, if_pos (.inl rfl), if_neg (by decide)]
    unfold Sn.withF
    rw [show (16 - 4 : Nat) = 12 from rfl, ga]
    rw [if_pos (a128.2 hxa)]
    try simp
  obtain ⟨S, eS⟩ : ∃ S, S = hD zs := ⟨_, rfl⟩
  rw [← eS] at hS hwf hdec
  have hbb : Kpt (S.form = true → B.Bytes S.descB) := ⟨fun h => bytes_of_wf_desc hwf h⟩
  have H12 : Kpt (∀ (s : Sn) (W : World), s = S → Calls Try.prog 12 #[.agg s.vals] W fun e w' => ∃ v x, e = .returned (.tuple #[v, .int .i64 x]) ∧ Below W.heap.size W w' ∧ ((S.form = true ∧ x = 0 ∧ RdAt w' v S.descB ∧ ∀ g, v.ownBlock = some g → g < w'.heap.size) ∨ (S.form = false ∧ x = 3 ∧ v = .slice none 0 0))) := ⟨fun s W e => by subst e; exact rdesc_gen s hwf W⟩
  have hSv : Kpt (S.vals = #[.int .u8 xk, .int .u16 nc, .int .u64 (0), .bool false, .int .i64 0, .int .i64 0, .bool false, .bool false]) := ⟨by rw [hS]; rfl⟩
  replace hS := Kpt.mk hS
  have hbK := Kpt.mk hb
  have hres0 : Kpt (Blk (w.alloc (.cells #[.int .u8 0, .int .u16 0, .int .u64 0, .bool false, .int .i64 0, .int .i64 0, .bool false, .bool false] 25)) w.heap.size sn0) := ⟨blk_alloc w sn0⟩
  rw [hL] at hl NC hrw ⊢
  rw [hL] at NF
  unfold maxLen at hl
  clear hr hb hcell HN hwf gk gc eS exk enc ga gf exa enf a128 hL
  have hxab : ¬ 128 ≤ xa := by omega
  go_enter Try.func16, Try.ntmps16
  have hNB : ∀ (cs : Array Value), Below w.heap.size w ((w.alloc (.cells #[.int .u8 0, .int .u16 0, .int .u64 0, .bool false, .int .i64 0, .int .i64 0, .bool false, .bool false] 25)).alloc (.cells cs 25)) := fun cs => ((Below.refl _ _).alloc (Nat.le_refl _) _).alloc (by simp) _
  go_wp2_with (first
    | (go_at_call 26; refine (NC.out _ (hNB _)).mono ?_; rintro e wN ⟨rfl, hw⟩; subst hw; have mC : Kpt True := ⟨trivial⟩)
    | fail)
  rw [← hSv.out]
  obtain ⟨W1, hW1⟩ : ∃ W1, W1 = (w.alloc (.cells #[.int .u8 0, .int .u16 0, .int .u64 0, .bool false, .int .i64 0, .int .i64 0, .bool false, .bool false] 25)).alloc (.cells S.vals 25) := ⟨_, rfl⟩
  rw [← hW1]
  have hb1 : Kpt (Below w.heap.size w W1) := ⟨by rw [hW1]; exact hNB _⟩
  have hS1 : Kpt (Blk W1 (w.heap.size + 1) S) := ⟨by rw [hW1]; have := blk_alloc (w.alloc (.cells #[.int .u8 0, .int .u16 0, .int .u64 0, .bool false, .int .i64 0, .int .i64 0, .bool false, .bool false] 25)) S; rw [World.size_alloc] at this; exact this⟩
  have hR1 : Kpt (Blk W1 w.heap.size sn0) := ⟨by rw [hW1]; exact hres0.out.below ((Below.refl _ _).alloc (Nat.le_refl _) _) (by simp)⟩
  clear hW1 hres0 hSv hS hNB
  refine (H12.out S _ rfl).mono ?_
  rintro e w2 ⟨v2, x2, rfl, hb2, ho2⟩
  have hS2 : Kpt (Blk w2 (w.heap.size + 1) S) := ⟨hS1.out.below hb2 hS1.out.lt⟩
  have hR2 : Kpt (Blk w2 w.heap.size sn0) := ⟨hR1.out.below hb2 hR1.out.lt⟩
  have hB2 : Kpt (Below w.heap.size w w2) := ⟨hb1.out.trans (hb2.mono hb1.out.size)⟩
  obtain ⟨key, code, info, hiv, field, bit, hfv, icv, hv⟩ : ∃ key code info hiv field bit hfv icv, S.vals = #[.int .u8 key, .int .u16 code, .int .u64 info, .bool hiv, .int .i64 field, .int .i64 bit, .bool hfv, .bool icv] := ⟨_, _, _, _, _, _, _, _, rfl⟩
  replace hv := Kpt.mk hv
  replace ho2 := Kpt.mk ho2
  clear hS1 hR1 hb1 hb2
  have r0 := hR2.out.box 0
  simp [Sn.vals, sn0] at r0
  have z0 := hR2.out.fz 0
  have q0 := hS2.out.box 0
  rw [hv.out] at q0
  simp at q0
  have r1 := hR2.out.box 1
  simp [Sn.vals, sn0] at r1
  have z1 := hR2.out.fz 1
  have q1 := hS2.out.box 1
  rw [hv.out] at q1
  simp at q1
  have r2 := hR2.out.box 2
  simp [Sn.vals, sn0] at r2
  have z2 := hR2.out.fz 2
  have q2 := hS2.out.box 2
  rw [hv.out] at q2
  simp at q2
  have r3 := hR2.out.box 3
  simp [Sn.vals, sn0] at r3
  have z3 := hR2.out.fz 3
  have q3 := hS2.out.box 3
  rw [hv.out] at q3
  simp at q3
  have r4 := hR2.out.box 4
  simp [Sn.vals, sn0] at r4
  have z4 := hR2.out.fz 4
  have q4 := hS2.out.box 4
  rw [hv.out] at q4
  simp at q4
  have r5 := hR2.out.box 5
  simp [Sn.vals, sn0] at r5
  have z5 := hR2.out.fz 5
  have q5 := hS2.out.box 5
  rw [hv.out] at q5
  simp at q5
  have r6 := hR2.out.box 6
  simp [Sn.vals, sn0] at r6
  have z6 := hR2.out.fz 6
  have q6 := hS2.out.box 6
  rw [hv.out] at q6
  simp at q6
  have r7 := hR2.out.box 7
  simp [Sn.vals, sn0] at r7
  have z7 := hR2.out.fz 7
  have q7 := hS2.out.box 7
  rw [hv.out] at q7
  simp at q7
  have hlR := hR2.out.lt
  have hlS := hS2.out.lt
  rcases ho2.out with ⟨hf, rfl, hrd, _⟩ | ⟨hf, rfl, rfl⟩
  · have cq := conv_rd w2 v2 S.descB hrd
    have cp := conv_rd w2 _ zs (hrw.out w2 hB2.out)
    by_cases heq : S.descB = zs
    · have hdn : Kpt (decS zs = some S) := ⟨by rw [hdec.out, if_pos ⟨hf, heq⟩]⟩
      rw [heq] at cq
      obtain ⟨T, hT⟩ : ∃ T, T = strOfNums zs := ⟨_, rfl⟩
      rw [← hT] at cq cp
      clear hT heq hdec hrd H12 ho2 hf hbb
      go_wp2_with fail
      all_goals (
        refine bodyPost_ret (v := .tuple #[.agg #[.int .u8 key, .int .u16 code, .int .u64 info, .bool hiv, .int .i64 field, .int .i64 bit, .bool hfv, .bool icv], .int .i64 0]) (by simp [results, Try.results16, go_sem, r0, r1, r2, r3, r4, r5, r6, r7]) rfl ⟨by unfold decRes; rw [hdn.out]; simp only [hv.out], ?_⟩
        iterate 8 (refine Below.setCell ?_ (by simp) _)
        exact hB2.out)
    · have hdn : Kpt (decS zs = none) := ⟨by rw [hdec.out, if_neg (fun h => heq h.2)]⟩
      have hne : ((strOfNums S.descB).toList == (strOfNums zs).toList) = false := by
        rw [beq_eq_false_iff_ne]
        intro e
        rw [Go.Lib.strOfNums_toList, Go.Lib.strOfNums_toList] at e
        exact heq (str_inj (hbb.out hf) hbK.out (by unfold strOfNums; exact congrArg (fun l => ByteArray.mk l.toArray) e))
      obtain ⟨T, hT⟩ : ∃ T, T = strOfNums zs := ⟨_, rfl⟩
      obtain ⟨Q, hQ⟩ : ∃ Q, Q = strOfNums S.descB := ⟨_, rfl⟩
      rw [← hT] at cp hne
      rw [← hQ] at cq hne
      clear hT hQ heq hdec hrd H12 ho2 hf hbb
      go_wp2_with fail
      all_goals (
        refine bodyPost_ret (v := .tuple #[.agg #[.int .u8 0, .int .u16 0, .int .u64 0, .bool false, .int .i64 0, .int .i64 0, .bool false, .bool false], .int .i64 3]) (by simp [results, Try.results16, go_sem, r0, r1, r2, r3, r4, r5, r6, r7]) rfl ⟨by unfold decRes; rw [hdn.out]; rfl, ?_⟩
        iterate 8 (refine Below.setCell ?_ (by simp) _)
        exact hB2.out)
  · have hdn : Kpt (decS zs = none) := ⟨by rw [hdec.out, if_neg (by simp [hf])]⟩
    clear hdec H12 ho2 hf hbb
    go_wp2_with fail
    all_goals (
        refine bodyPost_ret (v := .tuple #[.agg #[.int .u8 0, .int .u16 0, .int .u64 0, .bool false, .int .i64 0, .int .i64 0, .bool false, .bool false], .int .i64 3]) (by simp [results, Try.results16, go_sem, r0, r1, r2, r3, r4, r5, r6, r7]) rfl ⟨by unfold decRes; rw [hdn.out]; rfl, ?_⟩
        iterate 8 (refine Below.setCell ?_ (by simp) _)
        exact hB2.out)

set_option maxRecDepth 100000 in
set_option maxHeartbeats 4000000 in
theorem rdec_D161 (b off c : Nat) (zs : List Int) (w : World) (hr : RdAt w (.slice (some ⟨b, off, none⟩) zs.length c) zs) (hb : B.Bytes zs) (hl : zs.length ≤ maxLen) (hblt : b < w.heap.size) (hL : zs.length = 16) (hxa : 128 ≤ zs.getD 12 0) (hx8 : bits .and .u8 (zs.getD 12 0) 8 = 0) :
    Calls Try.prog 16 #[.slice (some ⟨b, off, none⟩) zs.length c] w fun e w' => e = .returned (decRes zs) ∧ Below w.heap.size w w' := by
  have hcell := (rd_cells hr).2
  have hrw : Kpt (∀ W, Below w.heap.size w W → RdAt W (.slice (some ⟨b, off, none⟩) zs.length c) zs) := ⟨fun W hW => hr.of_block (fun g hg => by
    have hgb : g = b := by simp [Value.ownBlock] at hg; first | exact hg.symm | exact hg.1.symm | (split at hg <;> simp_all)
    rw [hgb]; exact hW.block _ hblt)⟩
  have HN : ∀ i n : Nat, 1 ≤ n → n ≤ 8 → i + n ≤ zs.length → ∀ W, Below w.heap.size w W → Calls Try.prog 26 #[.slice (some ⟨b, off, none⟩) zs.length c, .int .i64 i, .int .i64 n] W fun e w' => e = .returned (.int .u64 (B.num zs i n)) ∧ w' = W :=
    fun i n h1 h2 h3 W hW => rnum_any b off zs.length c i n zs W hl h1 h2 h3 hb (fun j hj => (hW.cell (p := ⟨b, off + j, none⟩) hblt).trans (hcell j hj))
  have hwf := hD_wf hb
  have hdec := Kpt.mk (dec_desc hb (by omega))
  have hk := hb 1
  have pk := hcell 1 (by omega)
  have gk : getN zs 1 1 = zs.getD 1 0 := getN_one zs 1 (by omega)
  have gc : getN zs 2 2 = B.num zs 2 2 := by unfold getN; rw [if_pos (by omega)]
  have bc := B.num_bd zs 2 hb 2
  simp at bc
  have NC : Kpt (∀ W, Below w.heap.size w W → Calls Try.prog 26 #[.slice (some ⟨b, off, none⟩) zs.length c, .int .i64 2, .int .i64 2] W fun e w' => e = .returned (.int .u64 (B.num zs 2 2)) ∧ w' = W) := ⟨HN 2 2 (by decide) (by decide) (by omega)⟩
  obtain ⟨xk, exk⟩ : ∃ x, x = zs.getD 1 0 := ⟨_, rfl⟩
  obtain ⟨nc, enc⟩ : ∃ x, x = B.num zs 2 2 := ⟨_, rfl⟩
  rw [← exk] at hk pk gk
  rw [← enc] at bc NC gc
  have ha := hb 12
  have pa := hcell 12 (by omega)
  have ga : getN zs 12 1 = zs.getD 12 0 := getN_one zs 12 (by omega)
  have gf : getN zs (12 + 1) 2 = B.num zs 13 2 := by unfold getN; rw [if_pos (by omega)]
  have bf := B.num_bd zs 13 hb 2
  simp at bf
  have NF : Kpt (∀ W, Below w.heap.size w W → Calls Try.prog 26 #[.slice (some ⟨b, off, none⟩) zs.length c, .int .i64 13, .int .i64 2] W fun e w' => e = .returned (.int .u64 (B.num zs 13 2)) ∧ w' = W) := ⟨HN 13 2 (by decide) (by decide) (by omega)⟩
  obtain ⟨xa, exa⟩ : ∃ x, x = zs.getD 12 0 := ⟨_, rfl⟩
  obtain ⟨nf, enf⟩ : ∃ x, x = B.num zs 13 2 := ⟨_, rfl⟩
  have a128 := and128 (zs.getD 12 0) ha
  rw [← exa] at ha pa ga a128 hxa hx8
  rw [← enf] at bf NF gf
  have hS : hD zs = ⟨xk, nc, 0, false, nf, -1, true, (bits .and .u8 xa 64 != 0)⟩ := by
    rw [bne_SRDc]
    unfold hD tD
    rw [gk, gc]
    rw [hL, if_pos (.inl rfl), if_neg (by decide)]
    unfold Sn.withF
    rw [show (16 - 4 : Nat) = 12 from rfl, ga, gf]
    rw [if_neg (fun e => by have := a128.1 e; omega), if_neg (by simp [hx8])]
    try simp
  obtain ⟨S, eS⟩ : ∃ S, S = hD zs := ⟨_, rfl⟩
  rw [← eS] at hS hwf hdec
  have hbb : Kpt (S.form = true → B.Bytes S.descB) := ⟨fun h => bytes_of_wf_desc hwf h⟩
  have H12 : Kpt (∀ (s : Sn) (W : World), s = S → Calls Try.prog 12 #[.agg s.vals] W fun e w' => ∃ v x, e = .returned (.tuple #[v, .int .i64 x]) ∧ Below W.heap.size W w' ∧ ((S.form = true ∧ x = 0 ∧ RdAt w' v S.descB ∧ ∀ g, v.ownBlock = some g → g < w'.heap.size) ∨ (S.form = false ∧ x = 3 ∧ v = .slice none 0 0))) := ⟨fun s W e => by subst e; exact rdesc_gen s hwf W⟩
  have hSv : Kpt (S.vals = #[.int .u8 xk, .int .u16 nc, .int .u64 (0), .bool false, .int .i64 (nf), .int .i64 (-1), .bool true, .bool (bits .and .u8 xa 64 != 0)]) := ⟨by rw [hS]; rfl⟩
  replace hS := Kpt.mk hS
  have hbK := Kpt.mk hb
  have hres0 : Kpt (Blk (w.alloc (.cells #[.int .u8 0, .int .u16 0, .int .u64 0, .bool false, .int .i64 0, .int .i64 0, .bool false, .bool false] 25)) w.heap.size sn0) := ⟨blk_alloc w sn0⟩
  rw [hL] at hl NC hrw ⊢
  rw [hL] at NF
  unfold maxLen at hl
  clear hr hb hcell HN hwf gk gc eS exk enc ga gf exa enf a128 hL
  have hb8 : (bits .and .u8 xa 8 != 0) = false := by simp [hx8]
  go_enter Try.func16, Try.ntmps16
  have hNB : ∀ (cs : Array Value), Below w.heap.size w ((w.alloc (.cells #[.int .u8 0, .int .u16 0, .int .u64 0, .bool false, .int .i64 0, .int .i64 0, .bool false, .bool false] 25)).alloc (.cells cs 25)) := fun cs => ((Below.refl _ _).alloc (Nat.le_refl _) _).alloc (by simp) _
  go_wp2_with (first
    | (go_at_call 26; have hm := mC; refine (NF.out _ (hNB _)).mono ?_; rintro e wN ⟨rfl, hw⟩; subst hw; clear hm)
    | (go_at_call 26; refine (NC.out _ (hNB _)).mono ?_; rintro e wN ⟨rfl, hw⟩; subst hw; have mC : Kpt True := ⟨trivial⟩)
    | fail)
  rw [← hSv.out]
  obtain ⟨W1, hW1⟩ : ∃ W1, W1 = (w.alloc (.cells #[.int .u8 0, .int .u16 0, .int .u64 0, .bool false, .int .i64 0, .int .i64 0, .bool false, .bool false] 25)).alloc (.cells S.vals 25) := ⟨_, rfl⟩
  rw [← hW1]
  have hb1 : Kpt (Below w.heap.size w W1) := ⟨by rw [hW1]; exact hNB _⟩
  have hS1 : Kpt (Blk W1 (w.heap.size + 1) S) := ⟨by rw [hW1]; have := blk_alloc (w.alloc (.cells #[.int .u8 0, .int .u16 0, .int .u64 0, .bool false, .int .i64 0, .int .i64 0, .bool false, .bool false] 25)) S; rw [World.size_alloc] at this; exact this⟩
  have hR1 : Kpt (Blk W1 w.heap.size sn0) := ⟨by rw [hW1]; exact hres0.out.below ((Below.refl _ _).alloc (Nat.le_refl _) _) (by simp)⟩
  clear hW1 hres0 hSv hS hNB
  refine (H12.out S _ rfl).mono ?_
  rintro e w2 ⟨v2, x2, rfl, hb2, ho2⟩
  have hS2 : Kpt (Blk w2 (w.heap.size + 1) S) := ⟨hS1.out.below hb2 hS1.out.lt⟩
  have hR2 : Kpt (Blk w2 w.heap.size sn0) := ⟨hR1.out.below hb2 hR1.out.lt⟩
  have hB2 : Kpt (Below w.heap.size w w2) := ⟨hb1.out.trans (hb2.mono hb1.out.size)⟩
  obtain ⟨key, code, info, hiv, field, bit, hfv, icv, hv⟩ : ∃ key code info hiv field bit hfv icv, S.vals = #[.int .u8 key, .int .u16 code, .int .u64 info, .bool hiv, .int .i64 field, .int .i64 bit, .bool hfv, .bool icv] := ⟨_, _, _, _, _, _, _, _, rfl⟩
  replace hv := Kpt.mk hv
  replace ho2 := Kpt.mk ho2
  clear hS1 hR1 hb1 hb2
  have r0 := hR2.out.box 0
  simp [Sn.vals, sn0] at r0
  have z0 := hR2.out.fz 0
  have q0 := hS2.out.box 0
  rw [hv.out] at q0
  simp at q0
  have r1 := hR2.out.box 1
  simp [Sn.vals, sn0] at r1
  have z1 := hR2.out.fz 1
  have q1 := hS2.out.box 1
  rw [hv.out] at q1
  simp at q1
  have r2 := hR2.out.box 2
  simp [Sn.vals, sn0] at r2
  have z2 := hR2.out.fz 2
  have q2 := hS2.out.box 2
  rw [hv.out] at q2
  simp at q2
  have r3 := hR2.out.box 3
  simp [Sn.vals, sn0] at r3
  have z3 := hR2.out.fz 3
  have q3 := hS2.out.box 3
  rw [hv.out] at q3
  simp at q3
  have r4 := hR2.out.box 4
  simp [Sn.vals, sn0] at r4
  have z4 := hR2.out.fz 4
  have q4 := hS2.out.box 4
  rw [hv.out] at q4
  simp at q4
  have r5 := hR2.out.box 5
  simp [Sn.vals, sn0] at r5
  have z5 := hR2.out.fz 5
  have q5 := hS2.out.box 5
  rw [hv.out] at q5
  simp at q5
  have r6 := hR2.out.box 6
  simp [Sn.vals, sn0] at r6
  have z6 := hR2.out.fz 6
  have q6 := hS2.out.box 6
  rw [hv.out] at q6
  simp at q6
  have r7 := hR2.out.box 7
  simp [Sn.vals, sn0] at r7
  have z7 := hR2.out.fz 7
  have q7 := hS2.out.box 7
  rw [hv.out] at q7
  simp at q7
  have hlR := hR2.out.lt
  have hlS := hS2.out.lt
  rcases ho2.out with ⟨hf, rfl, hrd, _⟩ | ⟨hf, rfl, rfl⟩
  · have cq := conv_rd w2 v2 S.descB hrd
    have cp := conv_rd w2 _ zs (hrw.out w2 hB2.out)
    by_cases heq : S.descB = zs
    · have hdn : Kpt (decS zs = some S) := ⟨by rw [hdec.out, if_pos ⟨hf, heq⟩]⟩
      rw [heq] at cq
      obtain ⟨T, hT⟩ : ∃ T, T = strOfNums zs := ⟨_, rfl⟩
      rw [← hT] at cq cp
      clear hT heq hdec hrd H12 ho2 hf hbb
      go_wp2_with fail
      all_goals (
        refine bodyPost_ret (v := .tuple #[.agg #[.int .u8 key, .int .u16 code, .int .u64 info, .bool hiv, .int .i64 field, .int .i64 bit, .bool hfv, .bool icv], .int .i64 0]) (by simp [results, Try.results16, go_sem, r0, r1, r2, r3, r4, r5, r6, r7]) rfl ⟨by unfold decRes; rw [hdn.out]; simp only [hv.out], ?_⟩
        iterate 8 (refine Below.setCell ?_ (by simp) _)
        exact hB2.out)
    · have hdn : Kpt (decS zs = none) := ⟨by rw [hdec.out, if_neg (fun h => heq h.2)]⟩
      have hne : ((strOfNums S.descB).toList == (strOfNums zs).toList) = false := by
        rw [beq_eq_false_iff_ne]
        intro e
        rw [Go.Lib.strOfNums_toList, Go.Lib.strOfNums_toList] at e
        exact heq (str_inj (hbb.out hf) hbK.out (by unfold strOfNums; exact congrArg (fun l => ByteArray.mk l.toArray) e))
      obtain ⟨T, hT⟩ : ∃ T, T = strOfNums zs := ⟨_, rfl⟩
      obtain ⟨Q, hQ⟩ : ∃ Q, Q = strOfNums S.descB := ⟨_, rfl⟩
      rw [← hT] at cp hne
      rw [← hQ] at cq hne
      clear hT hQ heq hdec hrd H12 ho2 hf hbb
      go_wp2_with fail
      all_goals (
        refine bodyPost_ret (v := .tuple #[.agg #[.int .u8 0, .int .u16 0, .int .u64 0, .bool false, .int .i64 0, .int .i64 0, .bool false, .bool false], .int .i64 3]) (by simp [results, Try.results16, go_sem, r0, r1, r2, r3, r4, r5, r6, r7]) rfl ⟨by unfold decRes; rw [hdn.out]; rfl, ?_⟩
        iterate 8 (refine Below.setCell ?_ (by simp) _)
        exact hB2.out)
  · have hdn : Kpt (decS zs = none) := ⟨by rw [hdec.out, if_neg (by simp [hf])]⟩
    clear hdec H12 ho2 hf hbb
    go_wp2_with fail
    all_goals (
        refine bodyPost_ret (v := .tuple #[.agg #[.int .u8 0, .int .u16 0, .int .u64 0, .bool false, .int .i64 0, .int .i64 0, .bool false, .bool false], .int .i64 3]) (by simp [results, Try.results16, go_sem, r0, r1, r2, r3, r4, r5, r6, r7]) rfl ⟨by unfold decRes; rw [hdn.out]; rfl, ?_⟩
        iterate 8 (refine Below.setCell ?_ (by simp) _)
        exact hB2.out)

set_option maxRecDepth 100000 in
set_option maxHeartbeats 4000000 in
theorem rdec_D162 (b off c : Nat) (zs : List Int) (w : World) (hr : RdAt w (.slice (some ⟨b, off, none⟩) zs.length c) zs) (hb : B.Bytes zs) (hl : zs.length ≤ maxLen) (hblt : b < w.heap.size) (hL : zs.length = 16) (hxa : 128 ≤ zs.getD 12 0) (hx8 : bits .and .u8 (zs.getD 12 0) 8 ≠ 0) :
    Calls Try.prog 16 #[.slice (some ⟨b, off, none⟩) zs.length c] w fun e w' => e = .returned (decRes zs) ∧ Below w.heap.size w w' := by
  have hcell := (rd_cells hr).2
  have hrw : Kpt (∀ W, Below w.heap.size w W → RdAt W (.slice (some ⟨b, off, none⟩) zs.length c) zs) := ⟨fun W hW => hr.of_block (fun g hg => by
    have hgb : g = b := by simp [Value.ownBlock] at hg; first | exact hg.symm | exact hg.1.symm | (split at hg <;> simp_all)
    rw [hgb]; exact hW.block _ hblt)⟩
  have HN : ∀ i n : Nat, 1 ≤ n → n ≤ 8 → i + n ≤ zs.length → ∀ W, Below w.heap.size w W → Calls Try.prog 26 #[.slice (some ⟨b, off, none⟩) zs.length c, .int .i64 i, .int .i64 n] W fun e w' => e = .returned (.int .u64 (B.num zs i n)) ∧ w' = W :=
    fun i n h1 h2 h3 W hW => rnum_any b off zs.length c i n zs W hl h1 h2 h3 hb (fun j hj => (hW.cell (p := ⟨b, off + j, none⟩) hblt).trans (hcell j hj))
  have hwf := hD_wf hb
  have hdec := Kpt.mk (dec_desc hb (by omega))
  have hk := hb 1
  have pk := hcell 1 (by omega)
  have gk : getN zs 1 1 = zs.getD 1 0 := getN_one zs 1 (by omega)
  have gc : getN zs 2 2 = B.num zs 2 2 := by unfold getN; rw [if_pos (by omega)]
  have bc := B.num_bd zs 2 hb 2
  simp at bc
  have NC : Kpt (∀ W, Below w.heap.size w W → Calls Try.prog 26 #[.slice (some ⟨b, off, none⟩) zs.length c, .int .i64 2, .int .i64 2] W fun e w' => e = .returned (.int .u64 (B.num zs 2 2)) ∧ w' = W) := ⟨HN 2 2 (by decide) (by decide) (by omega)⟩
  obtain ⟨xk, exk⟩ : ∃ x, x = zs.getD 1 0 := ⟨_, rfl⟩
  obtain ⟨nc, enc⟩ : ∃ x, x = B.num zs 2 2 := ⟨_, rfl⟩
  rw [← exk] at hk pk gk
  rw [← enc] at bc NC gc
  have ha := hb 12
  have pa := hcell 12 (by omega)
  have ga : getN zs 12 1 = zs.getD 12 0 := getN_one zs 12 (by omega)
  have gf : getN zs (12 + 1) 2 = B.num zs 13 2 := by unfold getN; rw [if_pos (by omega)]
  have bf := B.num_bd zs 13 hb 2
  simp at bf
  have NF : Kpt (∀ W, Below w.heap.size w W → Calls Try.prog 26 #[.slice (some ⟨b, off, none⟩) zs.length c, .int .i64 13, .int .i64 2] W fun e w' => e = .returned (.int .u64 (B.num zs 13 2)) ∧ w' = W) := ⟨HN 13 2 (by decide) (by decide) (by omega)⟩
  obtain ⟨xa, exa⟩ : ∃ x, x = zs.getD 12 0 := ⟨_, rfl⟩
  obtain ⟨nf, enf⟩ : ∃ x, x = B.num zs 13 2 := ⟨_, rfl⟩
  have a128 := and128 (zs.getD 12 0) ha
  rw [← exa] at ha pa ga a128 hxa hx8
  rw [← enf] at bf NF gf
  have hS : hD zs = ⟨xk, nc, 0, false, nf, xa % 8, true, (bits .and .u8 xa 64 != 0)⟩ := by
    rw [bne_SRDc]
    unfold hD tD
    rw [gk, gc]
    rw [hL, if_pos (.inl rfl), if_neg (by decide)]
    unfold Sn.withF
    rw [show (16 - 4 : Nat) = 12 from rfl, ga, gf]
    rw [if_neg (fun e => by have := a128.1 e; omega), if_pos hx8]
    try simp
  obtain ⟨S, eS⟩ : ∃ S, S = hD zs := ⟨_, rfl⟩
  rw [← eS] at hS hwf hdec
  have hbb : Kpt (S.form = true → B.Bytes S.descB) := ⟨fun h => bytes_of_wf_desc hwf h⟩
  have H12 : Kpt (∀ (s : Sn) (W : World), s = S → Calls Try.prog 12 #[.agg s.vals] W fun e w' => ∃ v x, e = .returned (.tuple #[v, .int .i64 x]) ∧ Below W.heap.size W w' ∧ ((S.form = true ∧ x = 0 ∧ RdAt w' v S.descB ∧ ∀ g, v.ownBlock = some g → g < w'.heap.size) ∨ (S.form = false ∧ x = 3 ∧ v = .slice none 0 0))) := ⟨fun s W e => by subst e; exact rdesc_gen s hwf W⟩
  have hSv : Kpt (S.vals = #[.int .u8 xk, .int .u16 nc, .int .u64 (0), .bool false, .int .i64 (nf), .int .i64 (xa % 8), .bool true, .bool (bits .and .u8 xa 64 != 0)]) := ⟨by rw [hS]; rfl⟩
  replace hS := Kpt.mk hS
  have hbK := Kpt.mk hb
  have hres0 : Kpt (Blk (w.alloc (.cells #[.int .u8 0, .int .u16 0, .int .u64 0, .bool false, .int .i64 0, .int .i64 0, .bool false, .bool false] 25)) w.heap.size sn0) := ⟨blk_alloc w sn0⟩
  rw [hL] at hl NC hrw ⊢
  rw [hL] at NF
  unfold maxLen at hl
  clear hr hb hcell HN hwf gk gc eS exk enc ga gf exa enf a128 hL
  have hb8 : (bits .and .u8 xa 8 != 0) = true := by simp [hx8]
  go_enter Try.func16, Try.ntmps16
  have hNB : ∀ (cs : Array Value), Below w.heap.size w ((w.alloc (.cells #[.int .u8 0, .int .u16 0, .int .u64 0, .bool false, .int .i64 0, .int .i64 0, .bool false, .bool false] 25)).alloc (.cells cs 25)) := fun cs => ((Below.refl _ _).alloc (Nat.le_refl _) _).alloc (by simp) _
  go_wp2_with (first
    | (go_at_call 26; have hm := mC; refine (NF.out _ (hNB _)).mono ?_; rintro e wN ⟨rfl, hw⟩; subst hw; clear hm)
    | (go_at_call 26; refine (NC.out _ (hNB _)).mono ?_; rintro e wN ⟨rfl, hw⟩; subst hw; have mC : Kpt True := ⟨trivial⟩)
    | fail)
  rw [← hSv.out]
  obtain ⟨W1, hW1⟩ : ∃ W1, W1 = (w.alloc (.cells #[.int .u8 0, .int .u16 0, .int .u64 0, .bool false, .int .i64 0, .int .i64 0, .bool false, .bool false] 25)).alloc (.cells S.vals 25) := ⟨_, rfl⟩
  rw [← hW1]
  have hb1 : Kpt (Below w.heap.size w W1) := ⟨by rw [hW1]; exact hNB _⟩
  have hS1 : Kpt (Blk W1 (w.heap.size + 1) S) := ⟨by rw [hW1]; have := blk_alloc (w.alloc (.cells #[.int .u8 0, .int .u16 0, .int .u64 0, .bool false, .int .i64 0, .int .i64 0, .bool false, .bool false] 25)) S; rw [World.size_alloc] at this; exact this⟩
  have hR1 : Kpt (Blk W1 w.heap.size sn0) := ⟨by rw [hW1]; exact hres0.out.below ((Below.refl _ _).alloc (Nat.le_refl _) _) (by simp)⟩
  clear hW1 hres0 hSv hS hNB
  refine (H12.out S _ rfl).mono ?_
  rintro e w2 ⟨v2, x2, rfl, hb2, ho2⟩
  have hS2 : Kpt (Blk w2 (w.heap.size + 1) S) := ⟨hS1.out.below hb2 hS1.out.lt⟩
  have hR2 : Kpt (Blk w2 w.heap.size sn0) := ⟨hR1.out.below hb2 hR1.out.lt⟩
  have hB2 : Kpt (Below w.heap.size w w2) := ⟨hb1.out.trans (hb2.mono hb1.out.size)⟩
  obtain ⟨key, code, info, hiv, field, bit, hfv, icv, hv⟩ : ∃ key code info hiv field bit hfv icv, S.vals = #[.int .u8 key, .int .u16 code, .int .u64 info, .bool hiv, .int .i64 field, .int .i64 bit, .bool hfv, .bool icv] := ⟨_, _, _, _, _, _, _, _, rfl⟩
  replace hv := Kpt.mk hv
  replace ho2 := Kpt.mk ho2
  clear hS1 hR1 hb1 hb2
  have r0 := hR2.out.box 0
  simp [Sn.vals, sn0] at r0
  have z0 := hR2.out.fz 0
  have q0 := hS2.out.box 0
  rw [hv.out] at q0
  simp at q0
  have r1 := hR2.out.box 1
  simp [Sn.vals, sn0] at r1
  have z1 := hR2.out.fz 1
  have q1 := hS2.out.box 1
  rw [hv.out] at q1
  simp at q1
  have r2 := hR2.out.box 2
  simp [Sn.vals, sn0] at r2
  have z2 := hR2.out.fz 2
  have q2 := hS2.out.box 2
  rw [hv.out] at q2
  simp at q2
  have r3 := hR2.out.box 3
  simp [Sn.vals, sn0] at r3
  have z3 := hR2.out.fz 3
  have q3 := hS2.out.box 3
  rw [hv.out] at q3
  simp at q3
  have r4 := hR2.out.box 4
  simp [Sn.vals, sn0] at r4
  have z4 := hR2.out.fz 4
  have q4 := hS2.out.box 4
  rw [hv.out] at q4
  simp at q4
  have r5 := hR2.out.box 5
  simp [Sn.vals, sn0] at r5
  have z5 := hR2.out.fz 5
  have q5 := hS2.out.box 5
  rw [hv.out] at q5
  simp at q5
  have r6 := hR2.out.box 6
  simp [Sn.vals, sn0] at r6
  have z6 := hR2.out.fz 6
  have q6 := hS2.out.box 6
  rw [hv.out] at q6
  simp at q6
  have r7 := hR2.out.box 7
  simp [Sn.vals, sn0] at r7
  have z7 := hR2.out.fz 7
  have q7 := hS2.out.box 7
  rw [hv.out] at q7
  simp at q7
  have hlR := hR2.out.lt
  have hlS := hS2.out.lt
  rcases ho2.out with ⟨hf, rfl, hrd, _⟩ | ⟨hf, rfl, rfl⟩
  · have cq := conv_rd w2 v2 S.descB hrd
    have cp := conv_rd w2 _ zs (hrw.out w2 hB2.out)
    by_cases heq : S.descB = zs
    · have hdn : Kpt (decS zs = some S) := ⟨by rw [hdec.out, if_pos ⟨hf, heq⟩]⟩
      rw [heq] at cq
      obtain ⟨T, hT⟩ : ∃ T, T = strOfNums zs := ⟨_, rfl⟩
      rw [← hT] at cq cp
      clear hT heq hdec hrd H12 ho2 hf hbb
      go_wp2_with fail
      all_goals (
        refine bodyPost_ret (v := .tuple #[.agg #[.int .u8 key, .int .u16 code, .int .u64 info, .bool hiv, .int .i64 field, .int .i64 bit, .bool hfv, .bool icv], .int .i64 0]) (by simp [results, Try.results16, go_sem, r0, r1, r2, r3, r4, r5, r6, r7]) rfl ⟨by unfold decRes; rw [hdn.out]; simp only [hv.out], ?_⟩
        iterate 8 (refine Below.setCell ?_ (by simp) _)
        exact hB2.out)
    · have hdn : Kpt (decS zs = none) := ⟨by rw [hdec.out, if_neg (fun h => heq h.2)]⟩
      have hne : ((strOfNums S.descB).toList == (strOfNums zs).toList) = false := by
        rw [beq_eq_false_iff_ne]
        intro e
        rw [Go.Lib.strOfNums_toList, Go.Lib.strOfNums_toList] at e
        exact heq (str_inj (hbb.out hf) hbK.out (by unfold strOfNums; exact congrArg (fun l => ByteArray.mk l.toArray) e))
      obtain ⟨T, hT⟩ : ∃ T, T = strOfNums zs := ⟨_, rfl⟩
      obtain ⟨Q, hQ⟩ : ∃ Q, Q = strOfNums S.descB := ⟨_, rfl⟩
      rw [← hT] at cp hne
      rw [← hQ] at cq hne
      clear hT hQ heq hdec hrd H12 ho2 hf hbb
      go_wp2_with fail
      all_goals (
        refine bodyPost_ret (v := .tuple #[.agg #[.int .u8 0, .int .u16 0, .int .u64 0, .bool false, .int .i64 0, .int .i64 0, .bool false, .bool false], .int .i64 3]) (by simp [results, Try.results16, go_sem, r0, r1, r2, r3, r4, r5, r6, r7]) rfl ⟨by unfold decRes; rw [hdn.out]; rfl, ?_⟩
        iterate 8 (refine Below.setCell ?_ (by simp) _)
        exact hB2.out)
  · have hdn : Kpt (decS zs = none) := ⟨by rw [hdec.out, if_neg (by simp [hf])]⟩
    clear hdec H12 ho2 hf hbb
    go_wp2_with fail
    all_goals (
        refine bodyPost_ret (v := .tuple #[.agg #[.int .u8 0, .int .u16 0, .int .u64 0, .bool false, .int .i64 0, .int .i64 0, .bool false, .bool false], .int .i64 3]) (by simp [results, Try.results16, go_sem, r0, r1, r2, r3, r4, r5, r6, r7]) rfl ⟨by unfold decRes; rw [hdn.out]; rfl, ?_⟩
        iterate 8 (refine Below.setCell ?_ (by simp) _)
        exact hB2.out)

end Go.Proofs.Ytglfkpdbgddpdaa
