/-
  The contract of Decode.
-/
import Derived.Test.YtglfkpdbgddpdaaSDec0
namespace Go.Proofs.Ytglfkpdbgddpdaa
open Go.RowKit
set_option linter.unusedVariables false
set_option linter.unusedSimpArgs false

set_option maxRecDepth 100000 in
set_option maxHeartbeats 1000000 in
theorem dec_D_ok (b off c : Nat) (x0 : Int) (zs : List Int) (w : World) (hr : RdAt w (.slice (some ⟨b, off, none⟩) zs.length c) zs) (hb : B.Bytes zs) (hl : zs.length ≤ maxLen) (hvl : ∀ g, (Value.slice (some ⟨b, off, none⟩) zs.length c).ownBlock = some g → g < w.heap.size) (h0 : 0 < zs.length) (hx : zs.getD 0 0 = x0) (hx0 : x0 = 114) (hform : (gD zs).form = true) (heq : (gD zs).descB = zs) :
    Calls Try.prog 15 #[.slice (some ⟨b, off, none⟩) zs.length c] w fun e w' => e = .returned (.tuple #[.agg (gD zs).vals, .int .i64 0]) ∧ Below w.heap.size w w' := by
  have HR : Kpt (∀ W, Below w.heap.size w W → Calls Try.prog 24 #[.slice (some ⟨b, off, none⟩) zs.length c] W fun e w' => e = .returned (.agg (gD zs).vals) ∧ Below W.heap.size W w') := ⟨fun W hW => readDescribed_any _ zs W (hr.of_block (fun g hg => hW.block _ (hvl g hg))) hb hl (fun g hg => Nat.lt_of_lt_of_le (hvl g hg) hW.size)⟩
  have HT : Kpt (∀ W, Calls Try.prog 10 #[.agg (gD zs).vals] W fun e w' => ∃ g cap, e = .returned (.tuple #[.slice (some ⟨g, 0, none⟩) (gD zs).descB.length cap, .int .i64 0]) ∧ RdAt w' (.slice (some ⟨g, 0, none⟩) (gD zs).descB.length cap) (gD zs).descB ∧ Below W.heap.size W w') := ⟨fun W => (described_ok _ (gD_wf hb) hform W).mono (fun e w' ⟨g, cap, h1, h2⟩ => ⟨g, cap, h1, own_rd h2.1, h2.2⟩)⟩
  have hbb : B.Bytes (gD zs).descB := bytes_of_wf_desc (gD_wf hb) hform
  have HE : Kpt (∀ W (u : Value), Below w.heap.size w W → RdAt W u (gD zs).descB → Calls Try.prog 25 #[u, .slice (some ⟨b, off, none⟩) zs.length c] W fun e w' => e = .returned (.bool true) ∧ w' = W) := ⟨fun W u hW hu => by
    have := equal_any u _ (gD zs).descB zs W hu (hr.of_block (fun g hg => hW.block _ (hvl g hg))) hbb hb
    rw [decide_eq_true heq] at this
    exact this⟩
  have p0 : w.cell? ⟨b, off, none⟩ = some (.int .u8 x0) := by rw [← hx]; exact (rd_cells hr).2 0 h0
  have hblt := hvl b rfl
  obtain ⟨D, hD⟩ : ∃ D, D = (gD zs).descB := ⟨_, rfl⟩
  obtain ⟨S, hS⟩ : ∃ S, S = gD zs := ⟨_, rfl⟩
  rw [← hS] at HR HT ⊢
  rw [← hS] at HE
  rw [← hS] at hD
  rw [← hD] at HT HE
  obtain ⟨m, hm⟩ : ∃ m, m = D.length := ⟨_, rfl⟩
  rw [← hm] at HT
  clear hm
  clear hD hS heq hbb
  obtain ⟨n, hn⟩ : ∃ n, n = zs.length := ⟨_, rfl⟩
  rw [← hn] at HR hl h0 HE ⊢
  unfold maxLen at hl
  clear hn hr hb hvl hform
  obtain ⟨S', hS'⟩ : ∃ S', S' = S := ⟨_, rfl⟩
  obtain ⟨key, code, info, hi, field, bit, hf, ic⟩ := S
  have hv : S'.vals = #[.int .u8 key, .int .u16 code, .int .u64 info, .bool hi, .int .i64 field, .int .i64 bit, .bool hf, .bool ic] := by rw [hS']; rfl
  have hv0 : sn0.vals = #[.int .u8 0, .int .u16 0, .int .u64 0, .bool false, .int .i64 0, .int .i64 0, .bool false, .bool false] := rfl
  simp only [Sn.vals] at HR HT ⊢
  replace hS' := Kpt.mk hS'
  replace hv := Kpt.mk hv
  replace hv0 := Kpt.mk hv0
  have hW0 : Kpt (Below w.heap.size w (w.alloc (.cells #[.int .u8 0, .int .u16 0, .int .u64 0, .bool false, .int .i64 0, .int .i64 0, .bool false, .bool false] 25))) := ⟨(Below.refl _ _).alloc (Nat.le_refl _) _⟩
  have hres0 : Kpt (Blk (w.alloc (.cells #[.int .u8 0, .int .u16 0, .int .u64 0, .bool false, .int .i64 0, .int .i64 0, .bool false, .bool false] 25)) w.heap.size sn0) := ⟨blk_alloc w sn0⟩
  subst hx0
  go_enter Try.func15, Try.ntmps15
  go_wp2_with (first
    | (go_at_call 25; refine (HE.out _ _ hw2.out hrd.out).mono ?_; rintro e w3 ⟨rfl, rfl⟩) | (go_at_call 10; refine (HT.out _).mono ?_; rintro e w2 ⟨g2, c2, rfl, hrd, hN2⟩; replace hrd := Kpt.mk hrd; have hWr : Kpt (Below w1.heap.size w1 (w1.alloc (.cells #[.int .u8 key, .int .u16 code, .int .u64 info, .bool hi, .int .i64 field, .int .i64 bit, .bool hf, .bool ic] 25))) := ⟨(Below.refl _ _).alloc (Nat.le_refl _) _⟩; have hres : Kpt (Blk w2 w.heap.size sn0) := ⟨(hres1.out.below hWr.out hres1.out.lt).below hN2 (by have := hres1.out.lt; simp; omega)⟩; have hsn : Kpt (Blk w2 w1.heap.size S') := ⟨(by have := blk_alloc w1 S'; rw [hv.out] at this; exact this : Blk (w1.alloc (.cells #[.int .u8 key, .int .u16 code, .int .u64 info, .bool hi, .int .i64 field, .int .i64 bit, .bool hf, .bool ic] 25)) w1.heap.size S').below hN2 (by simp)⟩; have hw2 : Kpt (Below w.heap.size w w2) := ⟨hw1.out.trans ((hWr.out.mono (Nat.le_of_lt hres1.out.lt)).trans (hN2.mono (by have := hres1.out.lt; simp; omega)))⟩; have r0 := hres.out.box 0; simp [Sn.vals, sn0] at r0; have r1 := hres.out.box 1; simp [Sn.vals, sn0] at r1; have r2 := hres.out.box 2; simp [Sn.vals, sn0] at r2; have r3 := hres.out.box 3; simp [Sn.vals, sn0] at r3; have r4 := hres.out.box 4; simp [Sn.vals, sn0] at r4; have r5 := hres.out.box 5; simp [Sn.vals, sn0] at r5; have r6 := hres.out.box 6; simp [Sn.vals, sn0] at r6; have r7 := hres.out.box 7; simp [Sn.vals, sn0] at r7; have z0 := hres.out.fz 0; have z1 := hres.out.fz 1; have z2 := hres.out.fz 2; have z3 := hres.out.fz 3; have z4 := hres.out.fz 4; have z5 := hres.out.fz 5; have z6 := hres.out.fz 6; have z7 := hres.out.fz 7; have q0 := hsn.out.box 0; rw [hv.out] at q0; simp at q0; have q1 := hsn.out.box 1; rw [hv.out] at q1; simp at q1; have q2 := hsn.out.box 2; rw [hv.out] at q2; simp at q2; have q3 := hsn.out.box 3; rw [hv.out] at q3; simp at q3; have q4 := hsn.out.box 4; rw [hv.out] at q4; simp at q4; have q5 := hsn.out.box 5; rw [hv.out] at q5; simp at q5; have q6 := hsn.out.box 6; rw [hv.out] at q6; simp at q6; have q7 := hsn.out.box 7; rw [hv.out] at q7; simp at q7; clear hN2)
    | (go_at_call 24; refine (HR.out _ hW0.out).mono ?_; rintro e w1 ⟨rfl, hN1⟩; have hres1 : Kpt (Blk w1 w.heap.size sn0) := ⟨hres0.out.below hN1 (by simp)⟩; have hw1 : Kpt (Below w.heap.size w w1) := ⟨hW0.out.trans (hN1.mono (by simp))⟩; clear hN1))
  all_goals (
    refine bodyPost_ret (v := .tuple #[.agg #[.int .u8 key, .int .u16 code, .int .u64 info, .bool hi, .int .i64 field, .int .i64 bit, .bool hf, .bool ic], .int .i64 0]) (by simp [results, Try.results15, go_sem, r0, r1, r2, r3, r4, r5, r6, r7]) rfl ⟨rfl, ?_⟩
    iterate 8 (refine Below.setCell ?_ (by simp) _)
    exact hw2.out)

set_option maxRecDepth 100000 in
set_option maxHeartbeats 1000000 in
theorem dec_D_diff (b off c : Nat) (x0 : Int) (zs : List Int) (w : World) (hr : RdAt w (.slice (some ⟨b, off, none⟩) zs.length c) zs) (hb : B.Bytes zs) (hl : zs.length ≤ maxLen) (hvl : ∀ g, (Value.slice (some ⟨b, off, none⟩) zs.length c).ownBlock = some g → g < w.heap.size) (h0 : 0 < zs.length) (hx : zs.getD 0 0 = x0) (hx0 : x0 = 114) (hform : (gD zs).form = true) (heq : (gD zs).descB ≠ zs) :
    Calls Try.prog 15 #[.slice (some ⟨b, off, none⟩) zs.length c] w fun e w' => e = .returned (.tuple #[.agg sn0.vals, .int .i64 3]) ∧ Below w.heap.size w w' := by
  have HR : Kpt (∀ W, Below w.heap.size w W → Calls Try.prog 24 #[.slice (some ⟨b, off, none⟩) zs.length c] W fun e w' => e = .returned (.agg (gD zs).vals) ∧ Below W.heap.size W w') := ⟨fun W hW => readDescribed_any _ zs W (hr.of_block (fun g hg => hW.block _ (hvl g hg))) hb hl (fun g hg => Nat.lt_of_lt_of_le (hvl g hg) hW.size)⟩
  have HT : Kpt (∀ W, Calls Try.prog 10 #[.agg (gD zs).vals] W fun e w' => ∃ g cap, e = .returned (.tuple #[.slice (some ⟨g, 0, none⟩) (gD zs).descB.length cap, .int .i64 0]) ∧ RdAt w' (.slice (some ⟨g, 0, none⟩) (gD zs).descB.length cap) (gD zs).descB ∧ Below W.heap.size W w') := ⟨fun W => (described_ok _ (gD_wf hb) hform W).mono (fun e w' ⟨g, cap, h1, h2⟩ => ⟨g, cap, h1, own_rd h2.1, h2.2⟩)⟩
  have hbb : B.Bytes (gD zs).descB := bytes_of_wf_desc (gD_wf hb) hform
  have HE : Kpt (∀ W (u : Value), Below w.heap.size w W → RdAt W u (gD zs).descB → Calls Try.prog 25 #[u, .slice (some ⟨b, off, none⟩) zs.length c] W fun e w' => e = .returned (.bool false) ∧ w' = W) := ⟨fun W u hW hu => by
    have := equal_any u _ (gD zs).descB zs W hu (hr.of_block (fun g hg => hW.block _ (hvl g hg))) hbb hb
    rw [decide_eq_false heq] at this
    exact this⟩
  have p0 : w.cell? ⟨b, off, none⟩ = some (.int .u8 x0) := by rw [← hx]; exact (rd_cells hr).2 0 h0
  have hblt := hvl b rfl
  obtain ⟨D, hD⟩ : ∃ D, D = (gD zs).descB := ⟨_, rfl⟩
  obtain ⟨S, hS⟩ : ∃ S, S = gD zs := ⟨_, rfl⟩
  rw [← hS] at HR HT
  rw [← hS] at HE
  rw [← hS] at hD
  rw [← hD] at HT HE
  obtain ⟨m, hm⟩ : ∃ m, m = D.length := ⟨_, rfl⟩
  rw [← hm] at HT
  clear hm
  clear hD hS heq hbb
  obtain ⟨n, hn⟩ : ∃ n, n = zs.length := ⟨_, rfl⟩
  rw [← hn] at HR hl h0 HE ⊢
  unfold maxLen at hl
  clear hn hr hb hvl hform
  obtain ⟨S', hS'⟩ : ∃ S', S' = S := ⟨_, rfl⟩
  obtain ⟨key, code, info, hi, field, bit, hf, ic⟩ := S
  have hv : S'.vals = #[.int .u8 key, .int .u16 code, .int .u64 info, .bool hi, .int .i64 field, .int .i64 bit, .bool hf, .bool ic] := by rw [hS']; rfl
  have hv0 : sn0.vals = #[.int .u8 0, .int .u16 0, .int .u64 0, .bool false, .int .i64 0, .int .i64 0, .bool false, .bool false] := rfl
  simp only [Sn.vals, sn0] at HR HT ⊢
  replace hS' := Kpt.mk hS'
  replace hv := Kpt.mk hv
  replace hv0 := Kpt.mk hv0
  have hW0 : Kpt (Below w.heap.size w (w.alloc (.cells #[.int .u8 0, .int .u16 0, .int .u64 0, .bool false, .int .i64 0, .int .i64 0, .bool false, .bool false] 25))) := ⟨(Below.refl _ _).alloc (Nat.le_refl _) _⟩
  have hres0 : Kpt (Blk (w.alloc (.cells #[.int .u8 0, .int .u16 0, .int .u64 0, .bool false, .int .i64 0, .int .i64 0, .bool false, .bool false] 25)) w.heap.size sn0) := ⟨blk_alloc w sn0⟩
  subst hx0
  go_enter Try.func15, Try.ntmps15
  go_wp2_with (first
    | (go_at_call 25; refine (HE.out _ _ hw2.out hrd.out).mono ?_; rintro e w3 ⟨rfl, rfl⟩) | (go_at_call 10; refine (HT.out _).mono ?_; rintro e w2 ⟨g2, c2, rfl, hrd, hN2⟩; replace hrd := Kpt.mk hrd; have hWr : Kpt (Below w1.heap.size w1 (w1.alloc (.cells #[.int .u8 key, .int .u16 code, .int .u64 info, .bool hi, .int .i64 field, .int .i64 bit, .bool hf, .bool ic] 25))) := ⟨(Below.refl _ _).alloc (Nat.le_refl _) _⟩; have hres : Kpt (Blk w2 w.heap.size sn0) := ⟨(hres1.out.below hWr.out hres1.out.lt).below hN2 (by have := hres1.out.lt; simp; omega)⟩; have hsn : Kpt (Blk w2 w1.heap.size S') := ⟨(by have := blk_alloc w1 S'; rw [hv.out] at this; exact this : Blk (w1.alloc (.cells #[.int .u8 key, .int .u16 code, .int .u64 info, .bool hi, .int .i64 field, .int .i64 bit, .bool hf, .bool ic] 25)) w1.heap.size S').below hN2 (by simp)⟩; have hw2 : Kpt (Below w.heap.size w w2) := ⟨hw1.out.trans ((hWr.out.mono (Nat.le_of_lt hres1.out.lt)).trans (hN2.mono (by have := hres1.out.lt; simp; omega)))⟩; have r0 := hres.out.box 0; simp [Sn.vals, sn0] at r0; have r1 := hres.out.box 1; simp [Sn.vals, sn0] at r1; have r2 := hres.out.box 2; simp [Sn.vals, sn0] at r2; have r3 := hres.out.box 3; simp [Sn.vals, sn0] at r3; have r4 := hres.out.box 4; simp [Sn.vals, sn0] at r4; have r5 := hres.out.box 5; simp [Sn.vals, sn0] at r5; have r6 := hres.out.box 6; simp [Sn.vals, sn0] at r6; have r7 := hres.out.box 7; simp [Sn.vals, sn0] at r7; have z0 := hres.out.fz 0; have z1 := hres.out.fz 1; have z2 := hres.out.fz 2; have z3 := hres.out.fz 3; have z4 := hres.out.fz 4; have z5 := hres.out.fz 5; have z6 := hres.out.fz 6; have z7 := hres.out.fz 7; have q0 := hsn.out.box 0; rw [hv.out] at q0; simp at q0; have q1 := hsn.out.box 1; rw [hv.out] at q1; simp at q1; have q2 := hsn.out.box 2; rw [hv.out] at q2; simp at q2; have q3 := hsn.out.box 3; rw [hv.out] at q3; simp at q3; have q4 := hsn.out.box 4; rw [hv.out] at q4; simp at q4; have q5 := hsn.out.box 5; rw [hv.out] at q5; simp at q5; have q6 := hsn.out.box 6; rw [hv.out] at q6; simp at q6; have q7 := hsn.out.box 7; rw [hv.out] at q7; simp at q7; clear hN2)
    | (go_at_call 24; refine (HR.out _ hW0.out).mono ?_; rintro e w1 ⟨rfl, hN1⟩; have hres1 : Kpt (Blk w1 w.heap.size sn0) := ⟨hres0.out.below hN1 (by simp)⟩; have hw1 : Kpt (Below w.heap.size w w1) := ⟨hW0.out.trans (hN1.mono (by simp))⟩; clear hN1))
  all_goals (
    refine bodyPost_ret (v := .tuple #[.agg #[.int .u8 0, .int .u16 0, .int .u64 0, .bool false, .int .i64 0, .int .i64 0, .bool false, .bool false], .int .i64 3]) (by simp [results, Try.results15, go_sem, r0, r1, r2, r3, r4, r5, r6, r7]) rfl ⟨rfl, ?_⟩
    iterate 8 (refine Below.setCell ?_ (by simp) _)
    exact hw2.out)

set_option maxRecDepth 100000 in
set_option maxHeartbeats 1000000 in
theorem dec_D_no (b off c : Nat) (x0 : Int) (zs : List Int) (w : World) (hr : RdAt w (.slice (some ⟨b, off, none⟩) zs.length c) zs) (hb : B.Bytes zs) (hl : zs.length ≤ maxLen) (hvl : ∀ g, (Value.slice (some ⟨b, off, none⟩) zs.length c).ownBlock = some g → g < w.heap.size) (h0 : 0 < zs.length) (hx : zs.getD 0 0 = x0) (hx0 : x0 = 114) (hform : (gD zs).form = false) :
    Calls Try.prog 15 #[.slice (some ⟨b, off, none⟩) zs.length c] w fun e w' => e = .returned (.tuple #[.agg sn0.vals, .int .i64 3]) ∧ Below w.heap.size w w' := by
  have HR : Kpt (∀ W, Below w.heap.size w W → Calls Try.prog 24 #[.slice (some ⟨b, off, none⟩) zs.length c] W fun e w' => e = .returned (.agg (gD zs).vals) ∧ Below W.heap.size W w') := ⟨fun W hW => readDescribed_any _ zs W (hr.of_block (fun g hg => hW.block _ (hvl g hg))) hb hl (fun g hg => Nat.lt_of_lt_of_le (hvl g hg) hW.size)⟩
  have HT : Kpt (∀ W, Calls Try.prog 10 #[.agg (gD zs).vals] W fun e w' => e = .returned (.tuple #[.slice none 0 0, .int .i64 3]) ∧ Below W.heap.size W w') := ⟨fun W => described_form _ hform W⟩
  have p0 : w.cell? ⟨b, off, none⟩ = some (.int .u8 x0) := by rw [← hx]; exact (rd_cells hr).2 0 h0
  have hblt := hvl b rfl
  obtain ⟨D, hD⟩ : ∃ D, D = (gD zs).descB := ⟨_, rfl⟩
  obtain ⟨S, hS⟩ : ∃ S, S = gD zs := ⟨_, rfl⟩
  rw [← hS] at HR HT
  clear hD hS 
  obtain ⟨n, hn⟩ : ∃ n, n = zs.length := ⟨_, rfl⟩
  rw [← hn] at HR hl h0  ⊢
  unfold maxLen at hl
  clear hn hr hb hvl hform
  obtain ⟨S', hS'⟩ : ∃ S', S' = S := ⟨_, rfl⟩
  obtain ⟨key, code, info, hi, field, bit, hf, ic⟩ := S
  have hv : S'.vals = #[.int .u8 key, .int .u16 code, .int .u64 info, .bool hi, .int .i64 field, .int .i64 bit, .bool hf, .bool ic] := by rw [hS']; rfl
  have hv0 : sn0.vals = #[.int .u8 0, .int .u16 0, .int .u64 0, .bool false, .int .i64 0, .int .i64 0, .bool false, .bool false] := rfl
  simp only [Sn.vals, sn0] at HR HT ⊢
  replace hS' := Kpt.mk hS'
  replace hv := Kpt.mk hv
  replace hv0 := Kpt.mk hv0
  have hW0 : Kpt (Below w.heap.size w (w.alloc (.cells #[.int .u8 0, .int .u16 0, .int .u64 0, .bool false, .int .i64 0, .int .i64 0, .bool false, .bool false] 25))) := ⟨(Below.refl _ _).alloc (Nat.le_refl _) _⟩
  have hres0 : Kpt (Blk (w.alloc (.cells #[.int .u8 0, .int .u16 0, .int .u64 0, .bool false, .int .i64 0, .int .i64 0, .bool false, .bool false] 25)) w.heap.size sn0) := ⟨blk_alloc w sn0⟩
  subst hx0
  go_enter Try.func15, Try.ntmps15
  go_wp2_with (first
    | (go_at_call 10; refine (HT.out _).mono ?_; rintro e w2 ⟨rfl, hN2⟩; have hWr : Kpt (Below w1.heap.size w1 (w1.alloc (.cells #[.int .u8 key, .int .u16 code, .int .u64 info, .bool hi, .int .i64 field, .int .i64 bit, .bool hf, .bool ic] 25))) := ⟨(Below.refl _ _).alloc (Nat.le_refl _) _⟩; have hres : Kpt (Blk w2 w.heap.size sn0) := ⟨(hres1.out.below hWr.out hres1.out.lt).below hN2 (by have := hres1.out.lt; simp; omega)⟩; have hsn : Kpt (Blk w2 w1.heap.size S') := ⟨(by have := blk_alloc w1 S'; rw [hv.out] at this; exact this : Blk (w1.alloc (.cells #[.int .u8 key, .int .u16 code, .int .u64 info, .bool hi, .int .i64 field, .int .i64 bit, .bool hf, .bool ic] 25)) w1.heap.size S').below hN2 (by simp)⟩; have hw2 : Kpt (Below w.heap.size w w2) := ⟨hw1.out.trans ((hWr.out.mono (Nat.le_of_lt hres1.out.lt)).trans (hN2.mono (by have := hres1.out.lt; simp; omega)))⟩; have r0 := hres.out.box 0; simp [Sn.vals, sn0] at r0; have r1 := hres.out.box 1; simp [Sn.vals, sn0] at r1; have r2 := hres.out.box 2; simp [Sn.vals, sn0] at r2; have r3 := hres.out.box 3; simp [Sn.vals, sn0] at r3; have r4 := hres.out.box 4; simp [Sn.vals, sn0] at r4; have r5 := hres.out.box 5; simp [Sn.vals, sn0] at r5; have r6 := hres.out.box 6; simp [Sn.vals, sn0] at r6; have r7 := hres.out.box 7; simp [Sn.vals, sn0] at r7; have z0 := hres.out.fz 0; have z1 := hres.out.fz 1; have z2 := hres.out.fz 2; have z3 := hres.out.fz 3; have z4 := hres.out.fz 4; have z5 := hres.out.fz 5; have z6 := hres.out.fz 6; have z7 := hres.out.fz 7; have q0 := hsn.out.box 0; rw [hv.out] at q0; simp at q0; have q1 := hsn.out.box 1; rw [hv.out] at q1; simp at q1; have q2 := hsn.out.box 2; rw [hv.out] at q2; simp at q2; have q3 := hsn.out.box 3; rw [hv.out] at q3; simp at q3; have q4 := hsn.out.box 4; rw [hv.out] at q4; simp at q4; have q5 := hsn.out.box 5; rw [hv.out] at q5; simp at q5; have q6 := hsn.out.box 6; rw [hv.out] at q6; simp at q6; have q7 := hsn.out.box 7; rw [hv.out] at q7; simp at q7)
    | (go_at_call 24; refine (HR.out _ hW0.out).mono ?_; rintro e w1 ⟨rfl, hN1⟩; have hres1 : Kpt (Blk w1 w.heap.size sn0) := ⟨hres0.out.below hN1 (by simp)⟩; have hw1 : Kpt (Below w.heap.size w w1) := ⟨hW0.out.trans (hN1.mono (by simp))⟩; clear hN1))
  all_goals (
    refine bodyPost_ret (v := .tuple #[.agg #[.int .u8 0, .int .u16 0, .int .u64 0, .bool false, .int .i64 0, .int .i64 0, .bool false, .bool false], .int .i64 3]) (by simp [results, Try.results15, go_sem, r0, r1, r2, r3, r4, r5, r6, r7]) rfl ⟨rfl, ?_⟩
    iterate 8 (refine Below.setCell ?_ (by simp) _)
    exact hw2.out)

end Go.Proofs.Ytglfkpdbgddpdaa
