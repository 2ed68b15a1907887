/-
  ModeBack: the walk.
-/
import Derived.Test.YtdojhgapdocngaaMBackP
import Derived.Test.YtdojhgapdocngaaMTellA
namespace Go.Proofs.Ytdojhgapdocngaa
open Go.RowKit
set_option linter.unusedVariables false
set_option linter.unusedSimpArgs false

set_option maxRecDepth 100000 in
set_option maxHeartbeats 4000000 in
theorem back_false (v u : Vs) (sv : Bool) (w : World) : Calls Try.prog 4 #[.agg v.vals, .agg u.vals, .bool false, .bool sv] w fun e w' => e = .returned (.bool true) ∧ Below w.heap.size w w' := by
  have HA := Kpt.mk awake_any
  have HN := Kpt.mk (new_any v)
  have HN2 := Kpt.mk (new_any u)
  have HS := Kpt.mk (fun B W (h : Pg W B v v) => sen_call B v v ⟨0, false, 0, 0, 0, false, 0, false, false, 63, 0, false, 0, 0, false⟩ W 36 h (.inr (.inr rfl)) rfl)
  have hrd1 : readL v false (backL v false) = (v, none) := by obtain ⟨a, b, c⟩ := v; exact back_read a b c a b c false
  have hrd2 : readL u false (backL v false) = (v, none) := by obtain ⟨a, b, c⟩ := v; obtain ⟨a', b', c'⟩ := u; exact back_read a b c a' b' c' false
  have hlenB : (backL v false).length = 36 := rfl
  have HS1 : Kpt (∀ B g k W, Pg W B v v → Cl W g 0 (backL v false) → 36 ≤ k → k ≤ maxLen → g < W.heap.size → Calls Try.prog 12 #[.pointer (some ⟨B, 0, none⟩), .agg (Cm.vals ⟨0, false, 0, 0, 0, false, 0, false, false, 0, 0, sv, 0, 0, false⟩), .slice (some ⟨g, 0, none⟩) 36 k] W fun e w' => e = .returned (.tuple #[.bool false, .agg #[.int .u8 0, .int .u16 0, .int .u64 0, .bool false, .int .i64 0, .int .i64 0, .bool false, .bool false], .bool true]) ∧ Pg w' B v v ∧ W.grownBy w' (some B)) := ⟨fun B g k W hP hc hk hkm hg => (select_any B v v ⟨0, false, 0, 0, 0, false, 0, false, false, 0, 0, sv, 0, 0, false⟩ g 0 k (backL v false) W hP hc (by rw [hlenB]; decide) (by rw [hlenB]; exact hk) hkm hg (back_bytes v false) v hrd1).mono (fun e w' ⟨h1, h2, h3⟩ => ⟨by rw [h1, neV_eq.2 rfl]; rfl, by simpa using h2, h3⟩)⟩
  have HS2 : Kpt (∀ B g k W, Pg W B u u → Cl W g 0 (backL v false) → 36 ≤ k → k ≤ maxLen → g < W.heap.size → Calls Try.prog 12 #[.pointer (some ⟨B, 0, none⟩), .agg (Cm.vals ⟨0, false, 0, 0, 0, false, 0, false, false, 0, 0, sv, 0, 0, false⟩), .slice (some ⟨g, 0, none⟩) 36 k] W fun e w' => e = .returned (.tuple #[.bool (neV v u), .agg #[.int .u8 0, .int .u16 0, .int .u64 0, .bool false, .int .i64 0, .int .i64 0, .bool false, .bool false], .bool true]) ∧ Pg w' B v (if sv then v else u) ∧ W.grownBy w' (some B)) := ⟨fun B g k W hP hc hk hkm hg => (select_any B u u ⟨0, false, 0, 0, 0, false, 0, false, false, 0, 0, sv, 0, 0, false⟩ g 0 k (backL v false) W hP hc (by rw [hlenB]; decide) (by rw [hlenB]; exact hk) hkm hg (back_bytes v false) v hrd2).mono (fun e w' ⟨h1, h2, h3⟩ => ⟨h1, h2, h3⟩)⟩
  simp only [Cm.vals] at HS HS1 HS2
  obtain ⟨L, hL⟩ : ∃ L, L = senL false 63 0 v v := ⟨_, rfl⟩
  obtain ⟨Q, hQ⟩ : ∃ Q, Q = backL v false := ⟨_, rfl⟩
  have hQL : Kpt (Q = (L.set 0 0).set 1 0) := ⟨by rw [hQ, hL]; rfl⟩
  have hLl : Kpt (L.length = 36) := ⟨by rw [hL]; rfl⟩
  have hQl : Kpt (Q.length = 36) := ⟨by rw [hQ]; rfl⟩
  rw [← hL] at HS
  rw [← hQ] at HS1 HS2
  clear hL hQ hrd1 hrd2 hlenB
  obtain ⟨s2, hs2⟩ : ∃ s2, s2 = (if sv then v else u) := ⟨_, rfl⟩
  rw [← hs2] at HS2
  replace hs2 := Kpt.mk hs2
  obtain ⟨va, vb, vc⟩ := v
  obtain ⟨ua, ub, uc⟩ := u
  rw [show (Vs.vals ⟨va, vb, vc⟩) = #[.bool va, .bool vb, .bool vc] from rfl] at HN ⊢
  rw [show (Vs.vals ⟨ua, ub, uc⟩) = #[.bool ua, .bool ub, .bool uc] from rfl] at HN2 ⊢
  go_enter Try.func4, Try.ntmps4
  go_wp2_with fail
  refine (HA.out _).mono ?_
  rintro e w1 ⟨rfl, hb1⟩
  have hs0 : ((w.alloc (.cells #[.bool va, .bool vb, .bool vc] 23)).alloc (.cells #[.bool ua, .bool ub, .bool uc] 23)).heap.size = w.heap.size + 2 := by simp
  have hl1 : w.heap.size + 2 ≤ w1.heap.size := by have := hb1.size; omega
  have zA0 : w1.cell? ⟨w.heap.size, 0, none⟩ = some (.bool va) := (hb1.cell (p := ⟨w.heap.size, 0, none⟩) (by show w.heap.size < _; omega)).trans (by simp)
  have zA1 : w1.cell? ⟨w.heap.size, 1, none⟩ = some (.bool vb) := (hb1.cell (p := ⟨w.heap.size, 1, none⟩) (by show w.heap.size < _; omega)).trans (by simp)
  have zA2 : w1.cell? ⟨w.heap.size, 2, none⟩ = some (.bool vc) := (hb1.cell (p := ⟨w.heap.size, 2, none⟩) (by show w.heap.size < _; omega)).trans (by simp)
  have zA3 : w1.cell? ⟨w.heap.size + 1, 0, none⟩ = some (.bool ua) := (hb1.cell (p := ⟨w.heap.size + 1, 0, none⟩) (by show w.heap.size + 1 < _; omega)).trans (by simp)
  have zA4 : w1.cell? ⟨w.heap.size + 1, 1, none⟩ = some (.bool ub) := (hb1.cell (p := ⟨w.heap.size + 1, 1, none⟩) (by show w.heap.size + 1 < _; omega)).trans (by simp)
  have zA5 : w1.cell? ⟨w.heap.size + 1, 2, none⟩ = some (.bool uc) := (hb1.cell (p := ⟨w.heap.size + 1, 2, none⟩) (by show w.heap.size + 1 < _; omega)).trans (by simp)
  have hB1 : Kpt (Below w.heap.size w w1) := ⟨(((Below.refl _ _).alloc (Nat.le_refl _) _).alloc (by simp) _).trans (hb1.mono (by omega))⟩
  clear hb1 hs0 HA
  go_wp2_with fail
  refine (HN.out _).mono ?_
  rintro e w2 ⟨B, rfl, hBB, hP2, hb2⟩
  have zB0 := (hb2.cell (p := ⟨w.heap.size, 0, none⟩) (by show w.heap.size < _; omega)).trans zA0
  have zB1 := (hb2.cell (p := ⟨w.heap.size, 1, none⟩) (by show w.heap.size < _; omega)).trans zA1
  have zB2 := (hb2.cell (p := ⟨w.heap.size, 2, none⟩) (by show w.heap.size < _; omega)).trans zA2
  have zB3 := (hb2.cell (p := ⟨w.heap.size + 1, 0, none⟩) (by show w.heap.size + 1 < _; omega)).trans zA3
  have zB4 := (hb2.cell (p := ⟨w.heap.size + 1, 1, none⟩) (by show w.heap.size + 1 < _; omega)).trans zA4
  have zB5 := (hb2.cell (p := ⟨w.heap.size + 1, 2, none⟩) (by show w.heap.size + 1 < _; omega)).trans zA5
  have hB2 : Kpt (Below w.heap.size w w2) := ⟨hB1.out.trans (hb2.mono hB1.out.size)⟩
  have hl2 : w.heap.size + 2 ≤ w2.heap.size := Nat.le_trans hl1 hb2.size
  have hBB : w.heap.size + 2 ≤ B := Nat.le_trans hl1 hBB
  clear zA0 zA1 zA2 zA3 zA4 zA5 hb2 hB1 hl1 HN
  replace hP2 := Kpt.mk hP2
  go_wp2_with fail
  refine (HS.out B w2 hP2.out).mono ?_
  rintro e w3 ⟨g, k, rfl, hg, ho, hb3⟩
  have zC0 := (hb3.cell (p := ⟨w.heap.size, 0, none⟩) (by show w.heap.size < _; omega)).trans zB0
  have zC1 := (hb3.cell (p := ⟨w.heap.size, 1, none⟩) (by show w.heap.size < _; omega)).trans zB1
  have zC2 := (hb3.cell (p := ⟨w.heap.size, 2, none⟩) (by show w.heap.size < _; omega)).trans zB2
  have zC3 := (hb3.cell (p := ⟨w.heap.size + 1, 0, none⟩) (by show w.heap.size + 1 < _; omega)).trans zB3
  have zC4 := (hb3.cell (p := ⟨w.heap.size + 1, 1, none⟩) (by show w.heap.size + 1 < _; omega)).trans zB4
  have zC5 := (hb3.cell (p := ⟨w.heap.size + 1, 2, none⟩) (by show w.heap.size + 1 < _; omega)).trans zB5
  have hP3 := hP2.out.below' hb3
  have hB3 : Below w.heap.size w w3 := hB2.out.trans (hb3.mono hB2.out.size)
  have hl3 : w.heap.size + 2 ≤ w3.heap.size := Nat.le_trans hl2 hb3.size
  obtain ⟨w4, hw4⟩ : ∃ w4, w4 = w3.alloc (.cells #[.int .u8 0, .int .u16 0, .int .u64 0, .bool false, .int .i64 0, .int .i64 0, .bool false, .bool false] 42) := ⟨_, rfl⟩
  have hb4 : Below w3.heap.size w3 w4 := by rw [hw4]; exact (Below.refl _ _).alloc (Nat.le_refl _) _
  have zD0 := (hb4.cell (p := ⟨w.heap.size, 0, none⟩) (by show w.heap.size < _; omega)).trans zC0
  have zD1 := (hb4.cell (p := ⟨w.heap.size, 1, none⟩) (by show w.heap.size < _; omega)).trans zC1
  have zD2 := (hb4.cell (p := ⟨w.heap.size, 2, none⟩) (by show w.heap.size < _; omega)).trans zC2
  have zD3 := (hb4.cell (p := ⟨w.heap.size + 1, 0, none⟩) (by show w.heap.size + 1 < _; omega)).trans zC3
  have zD4 := (hb4.cell (p := ⟨w.heap.size + 1, 1, none⟩) (by show w.heap.size + 1 < _; omega)).trans zC4
  have zD5 := (hb4.cell (p := ⟨w.heap.size + 1, 2, none⟩) (by show w.heap.size + 1 < _; omega)).trans zC5
  have hP4 := hP3.below' hb4
  have hB4 : Kpt (Below w.heap.size w w4) := ⟨hB3.trans (hb4.mono hB3.size)⟩
  have hl4 : w.heap.size + 2 ≤ w4.heap.size := Nat.le_trans hl3 hb4.size
  have ho4 : Kpt (RdAt w4 (.slice (some ⟨g, 0, none⟩) 36 k) L) := ⟨own_rd (own_of_block ho (fun q hq => by cases hq; exact hb4.block g (World.ownsRow.lt ho g rfl).2))⟩
  clear zB0 zB1 zB2 zB3 zB4 zB5 zC0 zC1 zC2 zC3 zC4 zC5 hP3 hB3 hl3 hb3 hB2 hl2 hP2 HS ho
  have hw4' := Kpt.mk hw4
  clear hw4
  go_wp2_with (first
    | (refine wpList_append_new rfl (.tmp 40) (.tmp 41) rfl w4.heap.size (.slice none 0 0) _ [] L 0 36 rfl rfl (World.ownsRow_nil _ _ 5 1) (by rw [← hw4'.out]; exact ho4.out) (by rw [hLl.out]; decide) rfl (by rw [hLl.out]) (by decide) (by rw [← hw4'.out]; exact Nat.le_refl _) ?_; intro g2 k2 w5 ho5 hl5 hg5; rw [← hw4'.out] at hg5; have c0 := own_facts ho5.out 0 (by decide); have f0 := ho5.out.frozenAt 0; have c1 := own_facts ho5.out 1 (by decide); have f1 := ho5.out.frozenAt 1; have hlt5 := hl5.out.2))
  obtain ⟨w6, hw6⟩ : ∃ w6, w6 = (w5.setCell ⟨g2, 0, none⟩ (.int .u8 0)).setCell ⟨g2, 1, none⟩ (.int .u8 0) := ⟨_, rfl⟩
  have hg56 : w5.grownBy w6 (some g2) := by rw [hw6]; exact grown_then (grown_setCell w5 ⟨g2, 0, none⟩ _) (grown_setCell _ ⟨g2, 1, none⟩ _) (.inl rfl)
  have ho6 : w6.ownsRow w4.heap.size 5 1 (.slice (some ⟨g2, 0, none⟩) 36 k2) 36 (cels Q) := by rw [hw6, hQL.out]; exact own_set (own_set ho5.out 0 0) 1 0
  have hg45 := hg5.out
  have hb46 : Below w4.heap.size w4 w6 := ((Below.refl _ _).grown hg45 (Nat.le_refl _) (fun q hq => by cases hq)).grown hg56 hg45.size (fun q hq => by cases hq; exact hl5.out.1)
  rw [← hw6]
  have hcl6 : Cl w6 g2 0 Q := fun j hj => by rw [Nat.zero_add]; exact own_facts ho6 j (by rw [hQl.out] at hj; exact hj)
  have hgl6 := (World.ownsRow.lt ho6 g2 rfl).2
  have hkk : 36 ≤ k2 ∧ k2 ≤ maxLen := by
    rcases id ho6.2 with ⟨hx, _⟩ | ⟨g', cap', cur, hx, _, _, h1, h2, _⟩
    · cases hx
    · simp only [Value.slice.injEq, true_and] at hx
      rw [hx.2]; exact ⟨h1, h2⟩
  have hgB : w4.heap.size ≤ g2 := hl5.out.1
  have hBl : B < w4.heap.size := hP4.lt
  have zE0 := (hb46.cell (p := ⟨w.heap.size, 0, none⟩) (by show w.heap.size < _; omega)).trans zD0
  have zE1 := (hb46.cell (p := ⟨w.heap.size, 1, none⟩) (by show w.heap.size < _; omega)).trans zD1
  have zE2 := (hb46.cell (p := ⟨w.heap.size, 2, none⟩) (by show w.heap.size < _; omega)).trans zD2
  have zE3 := (hb46.cell (p := ⟨w.heap.size + 1, 0, none⟩) (by show w.heap.size + 1 < _; omega)).trans zD3
  have zE4 := (hb46.cell (p := ⟨w.heap.size + 1, 1, none⟩) (by show w.heap.size + 1 < _; omega)).trans zD4
  have zE5 := (hb46.cell (p := ⟨w.heap.size + 1, 2, none⟩) (by show w.heap.size + 1 < _; omega)).trans zD5
  have hP6 := hP4.below' hb46
  have hB6 : Kpt (Below w.heap.size w w6) := ⟨hB4.out.trans (hb46.mono hB4.out.size)⟩
  have hl6 : w.heap.size + 2 ≤ w6.heap.size := Nat.le_trans hl4 hb46.size
  refine (HS1.out B g2 k2 w6 hP6 hcl6 hkk.1 hkk.2 hgl6).mono ?_
  rintro e w7 ⟨rfl, hP7, hg67⟩
  have zF0 := (far_cell hg67 ⟨w.heap.size, 0, none⟩ (by show w.heap.size < _; omega) (fun e => by have e' : B = w.heap.size := Option.some.inj e; omega)).trans zE0
  have zF1 := (far_cell hg67 ⟨w.heap.size, 1, none⟩ (by show w.heap.size < _; omega) (fun e => by have e' : B = w.heap.size := Option.some.inj e; omega)).trans zE1
  have zF2 := (far_cell hg67 ⟨w.heap.size, 2, none⟩ (by show w.heap.size < _; omega) (fun e => by have e' : B = w.heap.size := Option.some.inj e; omega)).trans zE2
  have zF3 := (far_cell hg67 ⟨w.heap.size + 1, 0, none⟩ (by show w.heap.size + 1 < _; omega) (fun e => by have e' : B = w.heap.size + 1 := Option.some.inj e; omega)).trans zE3
  have zF4 := (far_cell hg67 ⟨w.heap.size + 1, 1, none⟩ (by show w.heap.size + 1 < _; omega) (fun e => by have e' : B = w.heap.size + 1 := Option.some.inj e; omega)).trans zE4
  have zF5 := (far_cell hg67 ⟨w.heap.size + 1, 2, none⟩ (by show w.heap.size + 1 < _; omega) (fun e => by have e' : B = w.heap.size + 1 := Option.some.inj e; omega)).trans zE5
  have hB7 : Below w.heap.size w w7 := hB6.out.grown hg67 hB6.out.size (fun q hq => by cases hq; omega)
  have hl7 : w.heap.size + 2 ≤ w7.heap.size := Nat.le_trans hl6 hg67.size
  have hcl7 : Cl w7 g2 0 Q := hcl6.of_block (hg67.block g2 hgl6 (fun e => by have e' : g2 = B := Option.some.inj e; omega))
  have hgl7 : g2 < w7.heap.size := Nat.lt_of_lt_of_le hgl6 hg67.size
  obtain ⟨w8, hw8⟩ : ∃ w8, w8 = w7.alloc (.cells #[.int .u8 0, .int .u16 0, .int .u64 0, .bool false, .int .i64 0, .int .i64 0, .bool false, .bool false] 42) := ⟨_, rfl⟩
  have hb78 : Below w7.heap.size w7 w8 := by rw [hw8]; exact (Below.refl _ _).alloc (Nat.le_refl _) _
  have zG0 := (hb78.cell (p := ⟨w.heap.size, 0, none⟩) (by show w.heap.size < _; omega)).trans zF0
  have zG1 := (hb78.cell (p := ⟨w.heap.size, 1, none⟩) (by show w.heap.size < _; omega)).trans zF1
  have zG2 := (hb78.cell (p := ⟨w.heap.size, 2, none⟩) (by show w.heap.size < _; omega)).trans zF2
  have zG3 := (hb78.cell (p := ⟨w.heap.size + 1, 0, none⟩) (by show w.heap.size + 1 < _; omega)).trans zF3
  have zG4 := (hb78.cell (p := ⟨w.heap.size + 1, 1, none⟩) (by show w.heap.size + 1 < _; omega)).trans zF4
  have zG5 := (hb78.cell (p := ⟨w.heap.size + 1, 2, none⟩) (by show w.heap.size + 1 < _; omega)).trans zF5
  have hP8 := hP7.below' hb78
  have hB8 : Kpt (Below w.heap.size w w8) := ⟨hB7.trans (hb78.mono hB7.size)⟩
  have hl8 : w.heap.size + 2 ≤ w8.heap.size := Nat.le_trans hl7 hb78.size
  have hcl8 := Kpt.mk (hcl7.below hb78 hgl7)
  have hgl8 : g2 < w8.heap.size := Nat.lt_of_lt_of_le hgl7 hb78.size
  have hgA : Kpt (∀ i : Nat, i < 3 → (w7.alloc (.cells #[.int .u8 0, .int .u16 0, .int .u64 0, .bool false, .int .i64 0, .int .i64 0, .bool false, .bool false] 42)).cell? ⟨w.heap.size + 1, i, none⟩ = w8.cell? ⟨w.heap.size + 1, i, none⟩) := ⟨fun i _ => by rw [← hw8]⟩
  have x3 := (hgA.out 0 (by decide)).trans zG3
  have x4 := (hgA.out 1 (by decide)).trans zG4
  have x5 := (hgA.out 2 (by decide)).trans zG5
  have hw8' := Kpt.mk hw8
  clear hw8 zD0 zD1 zD2 zD3 zD4 zD5 zE0 zE1 zE2 zE3 zE4 zE5 zF0 zF1 zF2 zF3 zF4 zF5 hP6 hB6 hl6 hcl6 hgl6 hg67 hb78 hP7 hB7 hl7 hcl7 hgl7 hP4 hB4 hl4 ho4 ho6 hg56 hw6 hg45 hb46 ho5 hg5 c0 f0 c1 f1 hlt5 HS1 hQL
  replace hP8 := Kpt.mk hP8
  have hBl8 : B < w8.heap.size := hP8.out.lt
  go_wp2_with fail
  rw [← hw8'.out]
  refine (HN2.out w8).mono ?_
  rintro e w9 ⟨B2, rfl, hBB2, hP9, hb9⟩
  have zH0 := (hb9.cell (p := ⟨w.heap.size, 0, none⟩) (by show w.heap.size < _; omega)).trans zG0
  have zH1 := (hb9.cell (p := ⟨w.heap.size, 1, none⟩) (by show w.heap.size < _; omega)).trans zG1
  have zH2 := (hb9.cell (p := ⟨w.heap.size, 2, none⟩) (by show w.heap.size < _; omega)).trans zG2
  have zH3 := (hb9.cell (p := ⟨w.heap.size + 1, 0, none⟩) (by show w.heap.size + 1 < _; omega)).trans zG3
  have zH4 := (hb9.cell (p := ⟨w.heap.size + 1, 1, none⟩) (by show w.heap.size + 1 < _; omega)).trans zG4
  have zH5 := (hb9.cell (p := ⟨w.heap.size + 1, 2, none⟩) (by show w.heap.size + 1 < _; omega)).trans zG5
  have hQ9 := hP8.out.below' hb9
  have hB9 : Kpt (Below w.heap.size w w9) := ⟨hB8.out.trans (hb9.mono hB8.out.size)⟩
  have hl9 : w.heap.size + 2 ≤ w9.heap.size := Nat.le_trans hl8 hb9.size
  have hcl9 := hcl8.out.below hb9 hgl8
  have hgl9 : g2 < w9.heap.size := Nat.lt_of_lt_of_le hgl8 hb9.size
  have hne2 : B ≠ B2 ∧ g2 ≠ B2 ∧ w.heap.size + 2 ≤ B2 := by omega
  clear x3 x4 x5 zG0 zG1 zG2 zG3 zG4 zG5 hgA hw8' hb9
  go_wp2_with fail
  refine (HS2.out B2 g2 k2 w9 hP9 hcl9 hkk.1 hkk.2 hgl9).mono ?_
  rintro e wA ⟨rfl, hPA, hg9A⟩
  have zI0 := (far_cell hg9A ⟨w.heap.size, 0, none⟩ (by show w.heap.size < _; omega) (fun e => by have e' : B2 = w.heap.size := Option.some.inj e; omega)).trans zH0
  have zI1 := (far_cell hg9A ⟨w.heap.size, 1, none⟩ (by show w.heap.size < _; omega) (fun e => by have e' : B2 = w.heap.size := Option.some.inj e; omega)).trans zH1
  have zI2 := (far_cell hg9A ⟨w.heap.size, 2, none⟩ (by show w.heap.size < _; omega) (fun e => by have e' : B2 = w.heap.size := Option.some.inj e; omega)).trans zH2
  have zI3 := (far_cell hg9A ⟨w.heap.size + 1, 0, none⟩ (by show w.heap.size + 1 < _; omega) (fun e => by have e' : B2 = w.heap.size + 1 := Option.some.inj e; omega)).trans zH3
  have zI4 := (far_cell hg9A ⟨w.heap.size + 1, 1, none⟩ (by show w.heap.size + 1 < _; omega) (fun e => by have e' : B2 = w.heap.size + 1 := Option.some.inj e; omega)).trans zH4
  have zI5 := (far_cell hg9A ⟨w.heap.size + 1, 2, none⟩ (by show w.heap.size + 1 < _; omega) (fun e => by have e' : B2 = w.heap.size + 1 := Option.some.inj e; omega)).trans zH5
  have hQA := hQ9.grown hg9A (fun e => by have e' : B2 = B := Option.some.inj e; omega)
  have hBA : Below w.heap.size w wA := hB9.out.grown hg9A hB9.out.size (fun q hq => by cases hq; omega)
  have hlA : w.heap.size + 2 ≤ wA.heap.size := Nat.le_trans hl9 hg9A.size
  clear hg9A hQ9 hP9 hcl9 hB9 hl9 zH0 zH1 zH2 zH3 zH4 zH5 HS2 HN2
  replace hPA := Kpt.mk hPA
  replace hQA := Kpt.mk hQA
  replace hBA := Kpt.mk hBA
  go_wp2_with fail
  obtain ⟨wB, hwB⟩ : ∃ wB, wB = wA.alloc (.cells #[.int .u8 0, .int .u16 0, .int .u64 0, .bool false, .int .i64 0, .int .i64 0, .bool false, .bool false] 42) := ⟨_, rfl⟩
  have hbB : Below wA.heap.size wA wB := by rw [hwB]; exact (Below.refl _ _).alloc (Nat.le_refl _) _
  rw [← hwB]
  have zJ0 := (hbB.cell (p := ⟨w.heap.size, 0, none⟩) (by show w.heap.size < _; omega)).trans zI0
  have zJ1 := (hbB.cell (p := ⟨w.heap.size, 1, none⟩) (by show w.heap.size < _; omega)).trans zI1
  have zJ2 := (hbB.cell (p := ⟨w.heap.size, 2, none⟩) (by show w.heap.size < _; omega)).trans zI2
  have zJ3 := (hbB.cell (p := ⟨w.heap.size + 1, 0, none⟩) (by show w.heap.size + 1 < _; omega)).trans zI3
  have zJ4 := (hbB.cell (p := ⟨w.heap.size + 1, 1, none⟩) (by show w.heap.size + 1 < _; omega)).trans zI4
  have zJ5 := (hbB.cell (p := ⟨w.heap.size + 1, 2, none⟩) (by show w.heap.size + 1 < _; omega)).trans zI5
  have hPB := hPA.out.below' hbB
  have hQB := hQA.out.below' hbB
  have hBB' : Kpt (Below w.heap.size w wB) := ⟨hBA.out.trans (hbB.mono hBA.out.size)⟩
  have hlB : w.heap.size + 2 ≤ wB.heap.size := Nat.le_trans hlA hbB.size
  have carry : Kpt (∀ W, Below wB.heap.size wB W → (Pg W B ⟨va, vb, vc⟩ ⟨va, vb, vc⟩ ∧ Pg W B2 ⟨va, vb, vc⟩ s2 ∧ W.cell? ⟨w.heap.size, 0, none⟩ = some (.bool va) ∧ W.cell? ⟨w.heap.size, 1, none⟩ = some (.bool vb) ∧ W.cell? ⟨w.heap.size, 2, none⟩ = some (.bool vc) ∧ W.cell? ⟨w.heap.size + 1, 0, none⟩ = some (.bool ua) ∧ W.cell? ⟨w.heap.size + 1, 1, none⟩ = some (.bool ub) ∧ W.cell? ⟨w.heap.size + 1, 2, none⟩ = some (.bool uc))) := ⟨fun W h => ⟨hQB.below' h, hPB.below' h, (h.cell (p := ⟨w.heap.size, 0, none⟩) (by show w.heap.size < _; omega)).trans zJ0, (h.cell (p := ⟨w.heap.size, 1, none⟩) (by show w.heap.size < _; omega)).trans zJ1, (h.cell (p := ⟨w.heap.size, 2, none⟩) (by show w.heap.size < _; omega)).trans zJ2, (h.cell (p := ⟨w.heap.size + 1, 0, none⟩) (by show w.heap.size + 1 < _; omega)).trans zJ3, (h.cell (p := ⟨w.heap.size + 1, 1, none⟩) (by show w.heap.size + 1 < _; omega)).trans zJ4, (h.cell (p := ⟨w.heap.size + 1, 2, none⟩) (by show w.heap.size + 1 < _; omega)).trans zJ5⟩⟩
  clear hwB zI0 zI1 zI2 zI3 zI4 zI5 zJ0 zJ1 zJ2 zJ3 zJ4 zJ5 hbB hPB hQB hPA hQA hBA hlA
  have hnq := neq_vs va vb vc ua ub uc
  have hns : ∀ W : World, (binOp .neq 23 (.agg #[.bool va, .bool vb, .bool vc]) (.agg #[.bool va, .bool vb, .bool vc])).run Try.prog W = .ok (.bool false) W := fun W => by rw [neq_vs, neV_self]
  obtain ⟨d, hd⟩ : ∃ d, d = neV ⟨va, vb, vc⟩ ⟨ua, ub, uc⟩ := ⟨_, rfl⟩
  rw [← hd] at hnq ⊢
  clear hd
  refine wp_region_any (by kernel_rfl) ?_
  refine wpAny_of_C (C := fun W => (Pg W B ⟨va, vb, vc⟩ ⟨va, vb, vc⟩ ∧ Pg W B2 ⟨va, vb, vc⟩ s2 ∧ W.cell? ⟨w.heap.size, 0, none⟩ = some (.bool va) ∧ W.cell? ⟨w.heap.size, 1, none⟩ = some (.bool vb) ∧ W.cell? ⟨w.heap.size, 2, none⟩ = some (.bool vc) ∧ W.cell? ⟨w.heap.size + 1, 0, none⟩ = some (.bool ua) ∧ W.cell? ⟨w.heap.size + 1, 1, none⟩ = some (.bool ub) ∧ W.cell? ⟨w.heap.size + 1, 2, none⟩ = some (.bool uc))) _ _ _ _ ?_
  refine wpAnyC_take 0 (.bool false) rfl (by kernel_rfl) (by kernel_rfl) (by kernel_rfl) (fun _ _ _ h => h) (wanted_free rfl _) (fun W hW => by go_simp) ?_
  simp only [Act.put, List.getElem_toArray, List.getElem_cons_succ, List.getElem_cons_zero, List.setIfInBounds_toArray, List.set_cons_succ, List.set_cons_zero]
  refine wpAnyC_take 1 (.bool false) rfl (by kernel_rfl) (by kernel_rfl) (by kernel_rfl) (fun _ _ _ h => h) (wanted_free rfl _) (fun W hW => by go_simp) ?_
  simp only [Act.put, List.getElem_toArray, List.getElem_cons_succ, List.getElem_cons_zero, List.setIfInBounds_toArray, List.set_cons_succ, List.set_cons_zero]
  refine wpAnyC_take 2 (.bool true) rfl (by kernel_rfl) (by kernel_rfl) (by kernel_rfl) (fun _ _ _ h => h) (wanted_at false rfl rfl rfl rfl) (fun W hW => by go_simp) ?_
  simp only [Act.put, List.getElem_toArray, List.getElem_cons_succ, List.getElem_cons_zero, List.setIfInBounds_toArray, List.set_cons_succ, List.set_cons_zero]
  refine wpAnyC_take 3 (.bool false) rfl (by kernel_rfl) (by kernel_rfl) (by kernel_rfl) (fun _ _ _ h => h) (wanted_at false rfl rfl rfl rfl) (fun W hW => by go_simp) ?_
  simp only [Act.put, List.getElem_toArray, List.getElem_cons_succ, List.getElem_cons_zero, List.setIfInBounds_toArray, List.set_cons_succ, List.set_cons_zero]
  refine wpAnyC_take 4 (.bool false) rfl (by kernel_rfl) (by kernel_rfl) (by kernel_rfl) (fun _ _ _ h => h) (wanted_free rfl _) (fun W hW => by go_simp) ?_
  simp only [Act.put, List.getElem_toArray, List.getElem_cons_succ, List.getElem_cons_zero, List.setIfInBounds_toArray, List.set_cons_succ, List.set_cons_zero]
  refine wpAnyC_take 5 (.bool false) rfl (by kernel_rfl) (by kernel_rfl) (by kernel_rfl) (fun _ _ _ h => h) (wanted_free rfl _) (fun W hW => by go_simp) ?_
  simp only [Act.put, List.getElem_toArray, List.getElem_cons_succ, List.getElem_cons_zero, List.setIfInBounds_toArray, List.set_cons_succ, List.set_cons_zero]
  refine wpAnyC_take 6 (.bool true) rfl (by kernel_rfl) (by kernel_rfl) (by kernel_rfl) (fun _ _ _ h => h) (wanted_at false rfl rfl rfl rfl) (fun W hW => by go_simp) ?_
  simp only [Act.put, List.getElem_toArray, List.getElem_cons_succ, List.getElem_cons_zero, List.setIfInBounds_toArray, List.set_cons_succ, List.set_cons_zero]
  refine wpAnyC_take 7 (.bool false) rfl (by kernel_rfl) (by kernel_rfl) (by kernel_rfl) (fun _ _ _ h => h) (wanted_at false rfl rfl rfl rfl) (fun W hW => by go_simp) ?_
  simp only [Act.put, List.getElem_toArray, List.getElem_cons_succ, List.getElem_cons_zero, List.setIfInBounds_toArray, List.set_cons_succ, List.set_cons_zero]
  refine wpAnyC_take 8 (.bool false) rfl (by kernel_rfl) (by kernel_rfl) (by kernel_rfl) (fun _ _ _ h => h) (wanted_free rfl _) (fun W hW => by go_simp) ?_
  simp only [Act.put, List.getElem_toArray, List.getElem_cons_succ, List.getElem_cons_zero, List.setIfInBounds_toArray, List.set_cons_succ, List.set_cons_zero]
  refine wpAnyC_take 9 (.bool false) rfl (by kernel_rfl) (by kernel_rfl) (by kernel_rfl) (fun _ _ _ h => h) (wanted_free rfl _) (fun W hW => by go_simp) ?_
  simp only [Act.put, List.getElem_toArray, List.getElem_cons_succ, List.getElem_cons_zero, List.setIfInBounds_toArray, List.set_cons_succ, List.set_cons_zero]
  refine wpAnyC_take 10 (.bool d) rfl (by kernel_rfl) (by kernel_rfl) (by kernel_rfl) (fun _ _ _ h => h) (wanted_at false rfl rfl rfl rfl) (fun W hW => by go_simp) ?_
  simp only [Act.put, List.getElem_toArray, List.getElem_cons_succ, List.getElem_cons_zero, List.setIfInBounds_toArray, List.set_cons_succ, List.set_cons_zero]
  refine wpAnyC_take 11 (.agg #[.bool va, .bool vb, .bool vc]) rfl (by kernel_rfl) (by kernel_rfl) (by kernel_rfl) (fun _ _ _ h => h) (wanted_at false rfl rfl rfl rfl) (fun W hW => by obtain ⟨_, _, y0, y1, y2, _⟩ := hW; go_simp) ?_
  simp only [Act.put, List.getElem_toArray, List.getElem_cons_succ, List.getElem_cons_zero, List.setIfInBounds_toArray, List.set_cons_succ, List.set_cons_zero]
  refine wpAnyC_take 12 (.agg #[.bool ua, .bool ub, .bool uc]) rfl (by kernel_rfl) (by kernel_rfl) (by kernel_rfl) (fun _ _ _ h => h) (wanted_at false rfl rfl rfl rfl) (fun W hW => by obtain ⟨_, _, _, _, _, y0, y1, y2⟩ := hW; go_simp) ?_
  simp only [Act.put, List.getElem_toArray, List.getElem_cons_succ, List.getElem_cons_zero, List.setIfInBounds_toArray, List.set_cons_succ, List.set_cons_zero]
  refine wpAnyC_take 13 (.bool d) rfl (by kernel_rfl) (by kernel_rfl) (by kernel_rfl) (fun _ _ _ h => h) (wanted_at false rfl rfl rfl rfl) (fun W hW => by go_simp) ?_
  simp only [Act.put, List.getElem_toArray, List.getElem_cons_succ, List.getElem_cons_zero, List.setIfInBounds_toArray, List.set_cons_succ, List.set_cons_zero]
  refine wpAnyC_take 14 (.bool false) rfl (by kernel_rfl) (by kernel_rfl) (by kernel_rfl) (fun _ _ _ h => h) (wanted_at false rfl rfl rfl rfl) (fun W hW => by go_simp) ?_
  simp only [Act.put, List.getElem_toArray, List.getElem_cons_succ, List.getElem_cons_zero, List.setIfInBounds_toArray, List.set_cons_succ, List.set_cons_zero]
  refine wpAnyC_take 15 (.bool false) rfl (by kernel_rfl) (by kernel_rfl) (by kernel_rfl) (fun _ _ _ h => h) (wanted_free rfl _) (fun W hW => by go_simp) ?_
  simp only [Act.put, List.getElem_toArray, List.getElem_cons_succ, List.getElem_cons_zero, List.setIfInBounds_toArray, List.set_cons_succ, List.set_cons_zero]
  refine wpAnyC_take 16 (.bool false) rfl (by kernel_rfl) (by kernel_rfl) (by kernel_rfl) (fun _ _ _ h => h) (wanted_free rfl _) (fun W hW => by go_simp) ?_
  simp only [Act.put, List.getElem_toArray, List.getElem_cons_succ, List.getElem_cons_zero, List.setIfInBounds_toArray, List.set_cons_succ, List.set_cons_zero]
  refine wpAnyC_take 17 (.pointer (some ⟨B, 0, none⟩)) rfl (by kernel_rfl) (by kernel_rfl) (by kernel_rfl) (fun _ _ _ h => h) (wanted_at false rfl rfl rfl rfl) (fun W hW => by go_simp) ?_
  simp only [Act.put, List.getElem_toArray, List.getElem_cons_succ, List.getElem_cons_zero, List.setIfInBounds_toArray, List.set_cons_succ, List.set_cons_zero]
  refine wpAnyC_take 19 (.agg #[.bool va, .bool vb, .bool vc]) rfl (by kernel_rfl) (by kernel_rfl) (by kernel_rfl) (fun _ _ _ h => h) (wanted_at false rfl rfl rfl rfl) (fun W hW => by obtain ⟨_, _, y0, y1, y2, _⟩ := hW; go_simp) ?_
  simp only [Act.put, List.getElem_toArray, List.getElem_cons_succ, List.getElem_cons_zero, List.setIfInBounds_toArray, List.set_cons_succ, List.set_cons_zero]
  refine wpAnyC_one 18 (carry.out _ (below_drew _)) rfl (by kernel_rfl) (wanted_at false rfl rfl rfl rfl) (fun KA hKA => ?_)
  go_simp
  refine (now_any B ⟨va, vb, vc⟩ ⟨va, vb, vc⟩ _ (carry.out _ (below_drew _)).1).mono ?_
  rintro e wC ⟨rfl, hbC⟩
  replace hbC := below_undrew hbC
  rw [show Vs.vals ⟨va, vb, vc⟩ = #[.bool va, .bool vb, .bool vc] from rfl]
  refine hKA _ _ ?_
  clear hKA KA
  try simp only [Act.put, List.getElem_toArray, List.getElem_cons_succ, List.getElem_cons_zero, List.setIfInBounds_toArray, List.set_cons_succ, List.set_cons_zero]
  refine wpAnyC_take 20 (.bool false) rfl (by kernel_rfl) (by kernel_rfl) (by kernel_rfl) (fun _ _ _ h => h) (wanted_at false rfl rfl rfl rfl) (fun W hW => by go_simp) ?_
  simp only [Act.put, List.getElem_toArray, List.getElem_cons_succ, List.getElem_cons_zero, List.setIfInBounds_toArray, List.set_cons_succ, List.set_cons_zero]
  refine wpAnyC_take 21 (.bool false) rfl (by kernel_rfl) (by kernel_rfl) (by kernel_rfl) (fun _ _ _ h => h) (wanted_free rfl _) (fun W hW => by go_simp) ?_
  simp only [Act.put, List.getElem_toArray, List.getElem_cons_succ, List.getElem_cons_zero, List.setIfInBounds_toArray, List.set_cons_succ, List.set_cons_zero]
  refine wpAnyC_take 22 (.bool false) rfl (by kernel_rfl) (by kernel_rfl) (by kernel_rfl) (fun _ _ _ h => h) (wanted_free rfl _) (fun W hW => by go_simp) ?_
  simp only [Act.put, List.getElem_toArray, List.getElem_cons_succ, List.getElem_cons_zero, List.setIfInBounds_toArray, List.set_cons_succ, List.set_cons_zero]
  refine wpAnyC_take 23 (.pointer (some ⟨B2, 0, none⟩)) rfl (by kernel_rfl) (by kernel_rfl) (by kernel_rfl) (fun _ _ _ h => h) (wanted_at false rfl rfl rfl rfl) (fun W hW => by go_simp) ?_
  simp only [Act.put, List.getElem_toArray, List.getElem_cons_succ, List.getElem_cons_zero, List.setIfInBounds_toArray, List.set_cons_succ, List.set_cons_zero]
  refine wpAnyC_take 25 (.agg #[.bool va, .bool vb, .bool vc]) rfl (by kernel_rfl) (by kernel_rfl) (by kernel_rfl) (fun _ _ _ h => h) (wanted_at false rfl rfl rfl rfl) (fun W hW => by obtain ⟨_, _, y0, y1, y2, _⟩ := hW; go_simp) ?_
  simp only [Act.put, List.getElem_toArray, List.getElem_cons_succ, List.getElem_cons_zero, List.setIfInBounds_toArray, List.set_cons_succ, List.set_cons_zero]
  refine wpAnyC_one 24 (carry.out _ hbC) rfl (by kernel_rfl) (wanted_at false rfl rfl rfl rfl) (fun KA hKA => ?_)
  go_simp
  refine (now_any B2 ⟨va, vb, vc⟩ s2 _ (carry.out _ hbC).2.1).mono ?_
  rintro e wD ⟨rfl, hbD⟩
  replace hbD : Below wB.heap.size wB wD := hbC.trans (hbD.mono hbC.size)
  rw [show Vs.vals ⟨va, vb, vc⟩ = #[.bool va, .bool vb, .bool vc] from rfl]
  refine hKA _ _ ?_
  clear hKA KA
  try simp only [Act.put, List.getElem_toArray, List.getElem_cons_succ, List.getElem_cons_zero, List.setIfInBounds_toArray, List.set_cons_succ, List.set_cons_zero]
  refine wpAnyC_take 26 (.bool false) rfl (by kernel_rfl) (by kernel_rfl) (by kernel_rfl) (fun _ _ _ h => h) (wanted_at false rfl rfl rfl rfl) (fun W hW => by go_simp) ?_
  simp only [Act.put, List.getElem_toArray, List.getElem_cons_succ, List.getElem_cons_zero, List.setIfInBounds_toArray, List.set_cons_succ, List.set_cons_zero]
  refine wpAnyC_take 27 (.bool false) rfl (by kernel_rfl) (by kernel_rfl) (by kernel_rfl) (fun _ _ _ h => h) (wanted_free rfl _) (fun W hW => by go_simp) ?_
  simp only [Act.put, List.getElem_toArray, List.getElem_cons_succ, List.getElem_cons_zero, List.setIfInBounds_toArray, List.set_cons_succ, List.set_cons_zero]
  refine wpAnyC_done (carry.out _ hbD) (by kernel_rfl) ?_
  have carry2 : Kpt (∀ W, Below wD.heap.size wD W → (Pg W B ⟨va, vb, vc⟩ ⟨va, vb, vc⟩ ∧ Pg W B2 ⟨va, vb, vc⟩ s2 ∧ W.cell? ⟨w.heap.size, 0, none⟩ = some (.bool va) ∧ W.cell? ⟨w.heap.size, 1, none⟩ = some (.bool vb) ∧ W.cell? ⟨w.heap.size, 2, none⟩ = some (.bool vc) ∧ W.cell? ⟨w.heap.size + 1, 0, none⟩ = some (.bool ua) ∧ W.cell? ⟨w.heap.size + 1, 1, none⟩ = some (.bool ub) ∧ W.cell? ⟨w.heap.size + 1, 2, none⟩ = some (.bool uc))) := ⟨fun W h => carry.out W (hbD.trans (h.mono hbD.size))⟩
  have hBD : Kpt (Below w.heap.size w wD) := ⟨hBB'.out.trans (hbD.mono hBB'.out.size)⟩
  clear hbC hbD carry hnq hns
  cases sv
  · have hs2' : s2 = ⟨ua, ub, uc⟩ := by rw [hs2.out]; rfl
    subst hs2'
    have hes : ∀ W : World, (binOp .eql 23 (.agg #[.bool ua, .bool ub, .bool uc]) (.agg #[.bool ua, .bool ub, .bool uc])).run Try.prog W = .ok (.bool true) W := fun W => by rw [eql_vs, neV_self]; rfl
    go_wp2_with fail
    refine wp_region_any (by kernel_rfl) ?_
    refine wpAny_of_C (C := fun W => (Pg W B ⟨va, vb, vc⟩ ⟨va, vb, vc⟩ ∧ Pg W B2 ⟨va, vb, vc⟩ ⟨ua, ub, uc⟩ ∧ W.cell? ⟨w.heap.size, 0, none⟩ = some (.bool va) ∧ W.cell? ⟨w.heap.size, 1, none⟩ = some (.bool vb) ∧ W.cell? ⟨w.heap.size, 2, none⟩ = some (.bool vc) ∧ W.cell? ⟨w.heap.size + 1, 0, none⟩ = some (.bool ua) ∧ W.cell? ⟨w.heap.size + 1, 1, none⟩ = some (.bool ub) ∧ W.cell? ⟨w.heap.size + 1, 2, none⟩ = some (.bool uc))) _ _ _ _ ?_
    refine wpAnyC_take 0 (.pointer (some ⟨B2, 0, none⟩)) rfl (by kernel_rfl) (by kernel_rfl) (by kernel_rfl) (fun _ _ _ h => h) (wanted_free rfl _) (fun W hW => by go_simp) ?_
    simp only [Act.put, List.getElem_toArray, List.getElem_cons_succ, List.getElem_cons_zero, List.setIfInBounds_toArray, List.set_cons_succ, List.set_cons_zero]
    refine wpAnyC_take 2 (.agg #[.bool ua, .bool ub, .bool uc]) rfl (by kernel_rfl) (by kernel_rfl) (by kernel_rfl) (fun _ _ _ h => h) (wanted_free rfl _) (fun W hW => by obtain ⟨_, _, _, _, _, y0, y1, y2⟩ := hW; go_simp) ?_
    simp only [Act.put, List.getElem_toArray, List.getElem_cons_succ, List.getElem_cons_zero, List.setIfInBounds_toArray, List.set_cons_succ, List.set_cons_zero]
    refine wpAnyC_one 1 (carry2.out _ (below_drew _)) rfl (by kernel_rfl) (wanted_free rfl _) (fun KA hKA => ?_)
    go_simp
    refine (saved_any B2 ⟨va, vb, vc⟩ ⟨ua, ub, uc⟩ _ (carry2.out _ (below_drew _)).2.1).mono ?_
    rintro e wE ⟨rfl, hbE⟩
    replace hbE := below_undrew hbE
    rw [show Vs.vals ⟨ua, ub, uc⟩ = #[.bool ua, .bool ub, .bool uc] from rfl]
    refine hKA _ _ ?_
    clear hKA KA
    try simp only [Act.put, List.getElem_toArray, List.getElem_cons_succ, List.getElem_cons_zero, List.setIfInBounds_toArray, List.set_cons_succ, List.set_cons_zero]
    refine wpAnyC_take 3 (.bool true) rfl (by kernel_rfl) (by kernel_rfl) (by kernel_rfl) (fun _ _ _ h => h) (wanted_free rfl _) (fun W hW => by go_simp) ?_
    simp only [Act.put, List.getElem_toArray, List.getElem_cons_succ, List.getElem_cons_zero, List.setIfInBounds_toArray, List.set_cons_succ, List.set_cons_zero]
    refine wpAnyC_take 4 (.bool true) rfl (by kernel_rfl) (by kernel_rfl) (by kernel_rfl) (fun _ _ _ h => h) (wanted_free rfl _) (fun W hW => by go_simp) ?_
    simp only [Act.put, List.getElem_toArray, List.getElem_cons_succ, List.getElem_cons_zero, List.setIfInBounds_toArray, List.set_cons_succ, List.set_cons_zero]
    refine wpAnyC_done (carry2.out _ hbE) (by kernel_rfl) ?_
    have hBE : Kpt (Below w.heap.size w wE) := ⟨hBD.out.trans (hbE.mono hBD.out.size)⟩
    clear hbE carry2
    go_wp2_with fail
    go_ret
    exact ⟨rfl, hBE.out⟩
  · have hs2' : s2 = ⟨va, vb, vc⟩ := by rw [hs2.out]; rfl
    subst hs2'
    have hes : ∀ W : World, (binOp .eql 23 (.agg #[.bool va, .bool vb, .bool vc]) (.agg #[.bool va, .bool vb, .bool vc])).run Try.prog W = .ok (.bool true) W := fun W => by rw [eql_vs, neV_self]; rfl
    go_wp2_with fail
    refine wp_region_any (by kernel_rfl) ?_
    refine wpAny_of_C (C := fun W => (Pg W B ⟨va, vb, vc⟩ ⟨va, vb, vc⟩ ∧ Pg W B2 ⟨va, vb, vc⟩ ⟨va, vb, vc⟩ ∧ W.cell? ⟨w.heap.size, 0, none⟩ = some (.bool va) ∧ W.cell? ⟨w.heap.size, 1, none⟩ = some (.bool vb) ∧ W.cell? ⟨w.heap.size, 2, none⟩ = some (.bool vc) ∧ W.cell? ⟨w.heap.size + 1, 0, none⟩ = some (.bool ua) ∧ W.cell? ⟨w.heap.size + 1, 1, none⟩ = some (.bool ub) ∧ W.cell? ⟨w.heap.size + 1, 2, none⟩ = some (.bool uc))) _ _ _ _ ?_
    refine wpAnyC_take 0 (.pointer (some ⟨B2, 0, none⟩)) rfl (by kernel_rfl) (by kernel_rfl) (by kernel_rfl) (fun _ _ _ h => h) (wanted_free rfl _) (fun W hW => by go_simp) ?_
    simp only [Act.put, List.getElem_toArray, List.getElem_cons_succ, List.getElem_cons_zero, List.setIfInBounds_toArray, List.set_cons_succ, List.set_cons_zero]
    refine wpAnyC_take 2 (.agg #[.bool va, .bool vb, .bool vc]) rfl (by kernel_rfl) (by kernel_rfl) (by kernel_rfl) (fun _ _ _ h => h) (wanted_free rfl _) (fun W hW => by obtain ⟨_, _, y0, y1, y2, _⟩ := hW; go_simp) ?_
    simp only [Act.put, List.getElem_toArray, List.getElem_cons_succ, List.getElem_cons_zero, List.setIfInBounds_toArray, List.set_cons_succ, List.set_cons_zero]
    refine wpAnyC_one 1 (carry2.out _ (below_drew _)) rfl (by kernel_rfl) (wanted_free rfl _) (fun KA hKA => ?_)
    go_simp
    refine (saved_any B2 ⟨va, vb, vc⟩ ⟨va, vb, vc⟩ _ (carry2.out _ (below_drew _)).2.1).mono ?_
    rintro e wE ⟨rfl, hbE⟩
    replace hbE := below_undrew hbE
    rw [show Vs.vals ⟨va, vb, vc⟩ = #[.bool va, .bool vb, .bool vc] from rfl]
    refine hKA _ _ ?_
    clear hKA KA
    try simp only [Act.put, List.getElem_toArray, List.getElem_cons_succ, List.getElem_cons_zero, List.setIfInBounds_toArray, List.set_cons_succ, List.set_cons_zero]
    refine wpAnyC_take 3 (.bool true) rfl (by kernel_rfl) (by kernel_rfl) (by kernel_rfl) (fun _ _ _ h => h) (wanted_free rfl _) (fun W hW => by go_simp) ?_
    simp only [Act.put, List.getElem_toArray, List.getElem_cons_succ, List.getElem_cons_zero, List.setIfInBounds_toArray, List.set_cons_succ, List.set_cons_zero]
    refine wpAnyC_take 4 (.bool true) rfl (by kernel_rfl) (by kernel_rfl) (by kernel_rfl) (fun _ _ _ h => h) (wanted_free rfl _) (fun W hW => by go_simp) ?_
    simp only [Act.put, List.getElem_toArray, List.getElem_cons_succ, List.getElem_cons_zero, List.setIfInBounds_toArray, List.set_cons_succ, List.set_cons_zero]
    refine wpAnyC_done (carry2.out _ hbE) (by kernel_rfl) ?_
    have hBE : Kpt (Below w.heap.size w wE) := ⟨hBD.out.trans (hbE.mono hBD.out.size)⟩
    clear hbE carry2
    go_wp2_with fail
    go_ret
    exact ⟨rfl, hBE.out⟩

set_option maxRecDepth 100000 in
set_option maxHeartbeats 4000000 in
theorem back_true (v u : Vs) (sv : Bool) (w : World) : Calls Try.prog 4 #[.agg v.vals, .agg u.vals, .bool true, .bool sv] w fun e w' => e = .returned (.bool true) ∧ Below w.heap.size w w' := by
  have HA := Kpt.mk awake_any
  have HN := Kpt.mk (new_any v)
  have HN2 := Kpt.mk (new_any u)
  have HS := Kpt.mk (fun B W (h : Pg W B v v) => sen_call B v v ⟨0, true, 0, 0, 0, false, 0, false, false, 63, 0, false, 0, 0, false⟩ W 40 h (.inr (.inr rfl)) rfl)
  have hrd1 : readL v true (backL v true) = (v, none) := by obtain ⟨a, b, c⟩ := v; exact back_read a b c a b c true
  have hrd2 : readL u true (backL v true) = (v, none) := by obtain ⟨a, b, c⟩ := v; obtain ⟨a', b', c'⟩ := u; exact back_read a b c a' b' c' true
  have hlenB : (backL v true).length = 40 := rfl
  have HS1 : Kpt (∀ B g k W, Pg W B v v → Cl W g 0 (backL v true) → 40 ≤ k → k ≤ maxLen → g < W.heap.size → Calls Try.prog 12 #[.pointer (some ⟨B, 0, none⟩), .agg (Cm.vals ⟨0, true, 0, 0, 0, false, 0, false, false, 0, 0, sv, 0, 0, false⟩), .slice (some ⟨g, 0, none⟩) 40 k] W fun e w' => e = .returned (.tuple #[.bool false, .agg #[.int .u8 0, .int .u16 0, .int .u64 0, .bool false, .int .i64 0, .int .i64 0, .bool false, .bool false], .bool true]) ∧ Pg w' B v v ∧ W.grownBy w' (some B)) := ⟨fun B g k W hP hc hk hkm hg => (select_any B v v ⟨0, true, 0, 0, 0, false, 0, false, false, 0, 0, sv, 0, 0, false⟩ g 0 k (backL v true) W hP hc (by rw [hlenB]; decide) (by rw [hlenB]; exact hk) hkm hg (back_bytes v true) v hrd1).mono (fun e w' ⟨h1, h2, h3⟩ => ⟨by rw [h1, neV_eq.2 rfl]; rfl, by simpa using h2, h3⟩)⟩
  have HS2 : Kpt (∀ B g k W, Pg W B u u → Cl W g 0 (backL v true) → 40 ≤ k → k ≤ maxLen → g < W.heap.size → Calls Try.prog 12 #[.pointer (some ⟨B, 0, none⟩), .agg (Cm.vals ⟨0, true, 0, 0, 0, false, 0, false, false, 0, 0, sv, 0, 0, false⟩), .slice (some ⟨g, 0, none⟩) 40 k] W fun e w' => e = .returned (.tuple #[.bool (neV v u), .agg #[.int .u8 0, .int .u16 0, .int .u64 0, .bool false, .int .i64 0, .int .i64 0, .bool false, .bool false], .bool true]) ∧ Pg w' B v (if sv then v else u) ∧ W.grownBy w' (some B)) := ⟨fun B g k W hP hc hk hkm hg => (select_any B u u ⟨0, true, 0, 0, 0, false, 0, false, false, 0, 0, sv, 0, 0, false⟩ g 0 k (backL v true) W hP hc (by rw [hlenB]; decide) (by rw [hlenB]; exact hk) hkm hg (back_bytes v true) v hrd2).mono (fun e w' ⟨h1, h2, h3⟩ => ⟨h1, h2, h3⟩)⟩
  simp only [Cm.vals] at HS HS1 HS2
  obtain ⟨L, hL⟩ : ∃ L, L = senL true 63 0 v v := ⟨_, rfl⟩
  obtain ⟨Q, hQ⟩ : ∃ Q, Q = backL v true := ⟨_, rfl⟩
  have hQL : Kpt (Q = (L.set 0 0).set 1 0) := ⟨by rw [hQ, hL]; rfl⟩
  have hLl : Kpt (L.length = 40) := ⟨by rw [hL]; rfl⟩
  have hQl : Kpt (Q.length = 40) := ⟨by rw [hQ]; rfl⟩
  rw [← hL] at HS
  rw [← hQ] at HS1 HS2
  clear hL hQ hrd1 hrd2 hlenB
  obtain ⟨s2, hs2⟩ : ∃ s2, s2 = (if sv then v else u) := ⟨_, rfl⟩
  rw [← hs2] at HS2
  replace hs2 := Kpt.mk hs2
  obtain ⟨va, vb, vc⟩ := v
  obtain ⟨ua, ub, uc⟩ := u
  rw [show (Vs.vals ⟨va, vb, vc⟩) = #[.bool va, .bool vb, .bool vc] from rfl] at HN ⊢
  rw [show (Vs.vals ⟨ua, ub, uc⟩) = #[.bool ua, .bool ub, .bool uc] from rfl] at HN2 ⊢
  go_enter Try.func4, Try.ntmps4
  go_wp2_with fail
  refine (HA.out _).mono ?_
  rintro e w1 ⟨rfl, hb1⟩
  have hs0 : ((w.alloc (.cells #[.bool va, .bool vb, .bool vc] 23)).alloc (.cells #[.bool ua, .bool ub, .bool uc] 23)).heap.size = w.heap.size + 2 := by simp
  have hl1 : w.heap.size + 2 ≤ w1.heap.size := by have := hb1.size; omega
  have zA0 : w1.cell? ⟨w.heap.size, 0, none⟩ = some (.bool va) := (hb1.cell (p := ⟨w.heap.size, 0, none⟩) (by show w.heap.size < _; omega)).trans (by simp)
  have zA1 : w1.cell? ⟨w.heap.size, 1, none⟩ = some (.bool vb) := (hb1.cell (p := ⟨w.heap.size, 1, none⟩) (by show w.heap.size < _; omega)).trans (by simp)
  have zA2 : w1.cell? ⟨w.heap.size, 2, none⟩ = some (.bool vc) := (hb1.cell (p := ⟨w.heap.size, 2, none⟩) (by show w.heap.size < _; omega)).trans (by simp)
  have zA3 : w1.cell? ⟨w.heap.size + 1, 0, none⟩ = some (.bool ua) := (hb1.cell (p := ⟨w.heap.size + 1, 0, none⟩) (by show w.heap.size + 1 < _; omega)).trans (by simp)
  have zA4 : w1.cell? ⟨w.heap.size + 1, 1, none⟩ = some (.bool ub) := (hb1.cell (p := ⟨w.heap.size + 1, 1, none⟩) (by show w.heap.size + 1 < _; omega)).trans (by simp)
  have zA5 : w1.cell? ⟨w.heap.size + 1, 2, none⟩ = some (.bool uc) := (hb1.cell (p := ⟨w.heap.size + 1, 2, none⟩) (by show w.heap.size + 1 < _; omega)).trans (by simp)
  have hB1 : Kpt (Below w.heap.size w w1) := ⟨(((Below.refl _ _).alloc (Nat.le_refl _) _).alloc (by simp) _).trans (hb1.mono (by omega))⟩
  clear hb1 hs0 HA
  go_wp2_with fail
  refine (HN.out _).mono ?_
  rintro e w2 ⟨B, rfl, hBB, hP2, hb2⟩
  have zB0 := (hb2.cell (p := ⟨w.heap.size, 0, none⟩) (by show w.heap.size < _; omega)).trans zA0
  have zB1 := (hb2.cell (p := ⟨w.heap.size, 1, none⟩) (by show w.heap.size < _; omega)).trans zA1
  have zB2 := (hb2.cell (p := ⟨w.heap.size, 2, none⟩) (by show w.heap.size < _; omega)).trans zA2
  have zB3 := (hb2.cell (p := ⟨w.heap.size + 1, 0, none⟩) (by show w.heap.size + 1 < _; omega)).trans zA3
  have zB4 := (hb2.cell (p := ⟨w.heap.size + 1, 1, none⟩) (by show w.heap.size + 1 < _; omega)).trans zA4
  have zB5 := (hb2.cell (p := ⟨w.heap.size + 1, 2, none⟩) (by show w.heap.size + 1 < _; omega)).trans zA5
  have hB2 : Kpt (Below w.heap.size w w2) := ⟨hB1.out.trans (hb2.mono hB1.out.size)⟩
  have hl2 : w.heap.size + 2 ≤ w2.heap.size := Nat.le_trans hl1 hb2.size
  have hBB : w.heap.size + 2 ≤ B := Nat.le_trans hl1 hBB
  clear zA0 zA1 zA2 zA3 zA4 zA5 hb2 hB1 hl1 HN
  replace hP2 := Kpt.mk hP2
  go_wp2_with fail
  refine (HS.out B w2 hP2.out).mono ?_
  rintro e w3 ⟨g, k, rfl, hg, ho, hb3⟩
  have zC0 := (hb3.cell (p := ⟨w.heap.size, 0, none⟩) (by show w.heap.size < _; omega)).trans zB0
  have zC1 := (hb3.cell (p := ⟨w.heap.size, 1, none⟩) (by show w.heap.size < _; omega)).trans zB1
  have zC2 := (hb3.cell (p := ⟨w.heap.size, 2, none⟩) (by show w.heap.size < _; omega)).trans zB2
  have zC3 := (hb3.cell (p := ⟨w.heap.size + 1, 0, none⟩) (by show w.heap.size + 1 < _; omega)).trans zB3
  have zC4 := (hb3.cell (p := ⟨w.heap.size + 1, 1, none⟩) (by show w.heap.size + 1 < _; omega)).trans zB4
  have zC5 := (hb3.cell (p := ⟨w.heap.size + 1, 2, none⟩) (by show w.heap.size + 1 < _; omega)).trans zB5
  have hP3 := hP2.out.below' hb3
  have hB3 : Below w.heap.size w w3 := hB2.out.trans (hb3.mono hB2.out.size)
  have hl3 : w.heap.size + 2 ≤ w3.heap.size := Nat.le_trans hl2 hb3.size
  obtain ⟨w4, hw4⟩ : ∃ w4, w4 = w3.alloc (.cells #[.int .u8 0, .int .u16 0, .int .u64 0, .bool false, .int .i64 0, .int .i64 0, .bool false, .bool false] 42) := ⟨_, rfl⟩
  have hb4 : Below w3.heap.size w3 w4 := by rw [hw4]; exact (Below.refl _ _).alloc (Nat.le_refl _) _
  have zD0 := (hb4.cell (p := ⟨w.heap.size, 0, none⟩) (by show w.heap.size < _; omega)).trans zC0
  have zD1 := (hb4.cell (p := ⟨w.heap.size, 1, none⟩) (by show w.heap.size < _; omega)).trans zC1
  have zD2 := (hb4.cell (p := ⟨w.heap.size, 2, none⟩) (by show w.heap.size < _; omega)).trans zC2
  have zD3 := (hb4.cell (p := ⟨w.heap.size + 1, 0, none⟩) (by show w.heap.size + 1 < _; omega)).trans zC3
  have zD4 := (hb4.cell (p := ⟨w.heap.size + 1, 1, none⟩) (by show w.heap.size + 1 < _; omega)).trans zC4
  have zD5 := (hb4.cell (p := ⟨w.heap.size + 1, 2, none⟩) (by show w.heap.size + 1 < _; omega)).trans zC5
  have hP4 := hP3.below' hb4
  have hB4 : Kpt (Below w.heap.size w w4) := ⟨hB3.trans (hb4.mono hB3.size)⟩
  have hl4 : w.heap.size + 2 ≤ w4.heap.size := Nat.le_trans hl3 hb4.size
  have ho4 : Kpt (RdAt w4 (.slice (some ⟨g, 0, none⟩) 40 k) L) := ⟨own_rd (own_of_block ho (fun q hq => by cases hq; exact hb4.block g (World.ownsRow.lt ho g rfl).2))⟩
  clear zB0 zB1 zB2 zB3 zB4 zB5 zC0 zC1 zC2 zC3 zC4 zC5 hP3 hB3 hl3 hb3 hB2 hl2 hP2 HS ho
  have hw4' := Kpt.mk hw4
  clear hw4
  go_wp2_with (first
    | (refine wpList_append_new rfl (.tmp 40) (.tmp 41) rfl w4.heap.size (.slice none 0 0) _ [] L 0 40 rfl rfl (World.ownsRow_nil _ _ 5 1) (by rw [← hw4'.out]; exact ho4.out) (by rw [hLl.out]; decide) rfl (by rw [hLl.out]) (by decide) (by rw [← hw4'.out]; exact Nat.le_refl _) ?_; intro g2 k2 w5 ho5 hl5 hg5; rw [← hw4'.out] at hg5; have c0 := own_facts ho5.out 0 (by decide); have f0 := ho5.out.frozenAt 0; have c1 := own_facts ho5.out 1 (by decide); have f1 := ho5.out.frozenAt 1; have hlt5 := hl5.out.2))
  obtain ⟨w6, hw6⟩ : ∃ w6, w6 = (w5.setCell ⟨g2, 0, none⟩ (.int .u8 0)).setCell ⟨g2, 1, none⟩ (.int .u8 0) := ⟨_, rfl⟩
  have hg56 : w5.grownBy w6 (some g2) := by rw [hw6]; exact grown_then (grown_setCell w5 ⟨g2, 0, none⟩ _) (grown_setCell _ ⟨g2, 1, none⟩ _) (.inl rfl)
  have ho6 : w6.ownsRow w4.heap.size 5 1 (.slice (some ⟨g2, 0, none⟩) 40 k2) 40 (cels Q) := by rw [hw6, hQL.out]; exact own_set (own_set ho5.out 0 0) 1 0
  have hg45 := hg5.out
  have hb46 : Below w4.heap.size w4 w6 := ((Below.refl _ _).grown hg45 (Nat.le_refl _) (fun q hq => by cases hq)).grown hg56 hg45.size (fun q hq => by cases hq; exact hl5.out.1)
  rw [← hw6]
  have hcl6 : Cl w6 g2 0 Q := fun j hj => by rw [Nat.zero_add]; exact own_facts ho6 j (by rw [hQl.out] at hj; exact hj)
  have hgl6 := (World.ownsRow.lt ho6 g2 rfl).2
  have hkk : 40 ≤ k2 ∧ k2 ≤ maxLen := by
    rcases id ho6.2 with ⟨hx, _⟩ | ⟨g', cap', cur, hx, _, _, h1, h2, _⟩
    · cases hx
    · simp only [Value.slice.injEq, true_and] at hx
      rw [hx.2]; exact ⟨h1, h2⟩
  have hgB : w4.heap.size ≤ g2 := hl5.out.1
  have hBl : B < w4.heap.size := hP4.lt
  have zE0 := (hb46.cell (p := ⟨w.heap.size, 0, none⟩) (by show w.heap.size < _; omega)).trans zD0
  have zE1 := (hb46.cell (p := ⟨w.heap.size, 1, none⟩) (by show w.heap.size < _; omega)).trans zD1
  have zE2 := (hb46.cell (p := ⟨w.heap.size, 2, none⟩) (by show w.heap.size < _; omega)).trans zD2
  have zE3 := (hb46.cell (p := ⟨w.heap.size + 1, 0, none⟩) (by show w.heap.size + 1 < _; omega)).trans zD3
  have zE4 := (hb46.cell (p := ⟨w.heap.size + 1, 1, none⟩) (by show w.heap.size + 1 < _; omega)).trans zD4
  have zE5 := (hb46.cell (p := ⟨w.heap.size + 1, 2, none⟩) (by show w.heap.size + 1 < _; omega)).trans zD5
  have hP6 := hP4.below' hb46
  have hB6 : Kpt (Below w.heap.size w w6) := ⟨hB4.out.trans (hb46.mono hB4.out.size)⟩
  have hl6 : w.heap.size + 2 ≤ w6.heap.size := Nat.le_trans hl4 hb46.size
  refine (HS1.out B g2 k2 w6 hP6 hcl6 hkk.1 hkk.2 hgl6).mono ?_
  rintro e w7 ⟨rfl, hP7, hg67⟩
  have zF0 := (far_cell hg67 ⟨w.heap.size, 0, none⟩ (by show w.heap.size < _; omega) (fun e => by have e' : B = w.heap.size := Option.some.inj e; omega)).trans zE0
  have zF1 := (far_cell hg67 ⟨w.heap.size, 1, none⟩ (by show w.heap.size < _; omega) (fun e => by have e' : B = w.heap.size := Option.some.inj e; omega)).trans zE1
  have zF2 := (far_cell hg67 ⟨w.heap.size, 2, none⟩ (by show w.heap.size < _; omega) (fun e => by have e' : B = w.heap.size := Option.some.inj e; omega)).trans zE2
  have zF3 := (far_cell hg67 ⟨w.heap.size + 1, 0, none⟩ (by show w.heap.size + 1 < _; omega) (fun e => by have e' : B = w.heap.size + 1 := Option.some.inj e; omega)).trans zE3
  have zF4 := (far_cell hg67 ⟨w.heap.size + 1, 1, none⟩ (by show w.heap.size + 1 < _; omega) (fun e => by have e' : B = w.heap.size + 1 := Option.some.inj e; omega)).trans zE4
  have zF5 := (far_cell hg67 ⟨w.heap.size + 1, 2, none⟩ (by show w.heap.size + 1 < _; omega) (fun e => by have e' : B = w.heap.size + 1 := Option.some.inj e; omega)).trans zE5
  have hB7 : Below w.heap.size w w7 := hB6.out.grown hg67 hB6.out.size (fun q hq => by cases hq; omega)
  have hl7 : w.heap.size + 2 ≤ w7.heap.size := Nat.le_trans hl6 hg67.size
  have hcl7 : Cl w7 g2 0 Q := hcl6.of_block (hg67.block g2 hgl6 (fun e => by have e' : g2 = B := Option.some.inj e; omega))
  have hgl7 : g2 < w7.heap.size := Nat.lt_of_lt_of_le hgl6 hg67.size
  obtain ⟨w8, hw8⟩ : ∃ w8, w8 = w7.alloc (.cells #[.int .u8 0, .int .u16 0, .int .u64 0, .bool false, .int .i64 0, .int .i64 0, .bool false, .bool false] 42) := ⟨_, rfl⟩
  have hb78 : Below w7.heap.size w7 w8 := by rw [hw8]; exact (Below.refl _ _).alloc (Nat.le_refl _) _
  have zG0 := (hb78.cell (p := ⟨w.heap.size, 0, none⟩) (by show w.heap.size < _; omega)).trans zF0
  have zG1 := (hb78.cell (p := ⟨w.heap.size, 1, none⟩) (by show w.heap.size < _; omega)).trans zF1
  have zG2 := (hb78.cell (p := ⟨w.heap.size, 2, none⟩) (by show w.heap.size < _; omega)).trans zF2
  have zG3 := (hb78.cell (p := ⟨w.heap.size + 1, 0, none⟩) (by show w.heap.size + 1 < _; omega)).trans zF3
  have zG4 := (hb78.cell (p := ⟨w.heap.size + 1, 1, none⟩) (by show w.heap.size + 1 < _; omega)).trans zF4
  have zG5 := (hb78.cell (p := ⟨w.heap.size + 1, 2, none⟩) (by show w.heap.size + 1 < _; omega)).trans zF5
  have hP8 := hP7.below' hb78
  have hB8 : Kpt (Below w.heap.size w w8) := ⟨hB7.trans (hb78.mono hB7.size)⟩
  have hl8 : w.heap.size + 2 ≤ w8.heap.size := Nat.le_trans hl7 hb78.size
  have hcl8 := Kpt.mk (hcl7.below hb78 hgl7)
  have hgl8 : g2 < w8.heap.size := Nat.lt_of_lt_of_le hgl7 hb78.size
  have hgA : Kpt (∀ i : Nat, i < 3 → (w7.alloc (.cells #[.int .u8 0, .int .u16 0, .int .u64 0, .bool false, .int .i64 0, .int .i64 0, .bool false, .bool false] 42)).cell? ⟨w.heap.size + 1, i, none⟩ = w8.cell? ⟨w.heap.size + 1, i, none⟩) := ⟨fun i _ => by rw [← hw8]⟩
  have x3 := (hgA.out 0 (by decide)).trans zG3
  have x4 := (hgA.out 1 (by decide)).trans zG4
  have x5 := (hgA.out 2 (by decide)).trans zG5
  have hw8' := Kpt.mk hw8
  clear hw8 zD0 zD1 zD2 zD3 zD4 zD5 zE0 zE1 zE2 zE3 zE4 zE5 zF0 zF1 zF2 zF3 zF4 zF5 hP6 hB6 hl6 hcl6 hgl6 hg67 hb78 hP7 hB7 hl7 hcl7 hgl7 hP4 hB4 hl4 ho4 ho6 hg56 hw6 hg45 hb46 ho5 hg5 c0 f0 c1 f1 hlt5 HS1 hQL
  replace hP8 := Kpt.mk hP8
  have hBl8 : B < w8.heap.size := hP8.out.lt
  go_wp2_with fail
  rw [← hw8'.out]
  refine (HN2.out w8).mono ?_
  rintro e w9 ⟨B2, rfl, hBB2, hP9, hb9⟩
  have zH0 := (hb9.cell (p := ⟨w.heap.size, 0, none⟩) (by show w.heap.size < _; omega)).trans zG0
  have zH1 := (hb9.cell (p := ⟨w.heap.size, 1, none⟩) (by show w.heap.size < _; omega)).trans zG1
  have zH2 := (hb9.cell (p := ⟨w.heap.size, 2, none⟩) (by show w.heap.size < _; omega)).trans zG2
  have zH3 := (hb9.cell (p := ⟨w.heap.size + 1, 0, none⟩) (by show w.heap.size + 1 < _; omega)).trans zG3
  have zH4 := (hb9.cell (p := ⟨w.heap.size + 1, 1, none⟩) (by show w.heap.size + 1 < _; omega)).trans zG4
  have zH5 := (hb9.cell (p := ⟨w.heap.size + 1, 2, none⟩) (by show w.heap.size + 1 < _; omega)).trans zG5
  have hQ9 := hP8.out.below' hb9
  have hB9 : Kpt (Below w.heap.size w w9) := ⟨hB8.out.trans (hb9.mono hB8.out.size)⟩
  have hl9 : w.heap.size + 2 ≤ w9.heap.size := Nat.le_trans hl8 hb9.size
  have hcl9 := hcl8.out.below hb9 hgl8
  have hgl9 : g2 < w9.heap.size := Nat.lt_of_lt_of_le hgl8 hb9.size
  have hne2 : B ≠ B2 ∧ g2 ≠ B2 ∧ w.heap.size + 2 ≤ B2 := by omega
  clear x3 x4 x5 zG0 zG1 zG2 zG3 zG4 zG5 hgA hw8' hb9
  go_wp2_with fail
  refine (HS2.out B2 g2 k2 w9 hP9 hcl9 hkk.1 hkk.2 hgl9).mono ?_
  rintro e wA ⟨rfl, hPA, hg9A⟩
  have zI0 := (far_cell hg9A ⟨w.heap.size, 0, none⟩ (by show w.heap.size < _; omega) (fun e => by have e' : B2 = w.heap.size := Option.some.inj e; omega)).trans zH0
  have zI1 := (far_cell hg9A ⟨w.heap.size, 1, none⟩ (by show w.heap.size < _; omega) (fun e => by have e' : B2 = w.heap.size := Option.some.inj e; omega)).trans zH1
  have zI2 := (far_cell hg9A ⟨w.heap.size, 2, none⟩ (by show w.heap.size < _; omega) (fun e => by have e' : B2 = w.heap.size := Option.some.inj e; omega)).trans zH2
  have zI3 := (far_cell hg9A ⟨w.heap.size + 1, 0, none⟩ (by show w.heap.size + 1 < _; omega) (fun e => by have e' : B2 = w.heap.size + 1 := Option.some.inj e; omega)).trans zH3
  have zI4 := (far_cell hg9A ⟨w.heap.size + 1, 1, none⟩ (by show w.heap.size + 1 < _; omega) (fun e => by have e' : B2 = w.heap.size + 1 := Option.some.inj e; omega)).trans zH4
  have zI5 := (far_cell hg9A ⟨w.heap.size + 1, 2, none⟩ (by show w.heap.size + 1 < _; omega) (fun e => by have e' : B2 = w.heap.size + 1 := Option.some.inj e; omega)).trans zH5
  have hQA := hQ9.grown hg9A (fun e => by have e' : B2 = B := Option.some.inj e; omega)
  have hBA : Below w.heap.size w wA := hB9.out.grown hg9A hB9.out.size (fun q hq => by cases hq; omega)
  have hlA : w.heap.size + 2 ≤ wA.heap.size := Nat.le_trans hl9 hg9A.size
  clear hg9A hQ9 hP9 hcl9 hB9 hl9 zH0 zH1 zH2 zH3 zH4 zH5 HS2 HN2
  replace hPA := Kpt.mk hPA
  replace hQA := Kpt.mk hQA
  replace hBA := Kpt.mk hBA
  go_wp2_with fail
  obtain ⟨wB, hwB⟩ : ∃ wB, wB = wA.alloc (.cells #[.int .u8 0, .int .u16 0, .int .u64 0, .bool false, .int .i64 0, .int .i64 0, .bool false, .bool false] 42) := ⟨_, rfl⟩
  have hbB : Below wA.heap.size wA wB := by rw [hwB]; exact (Below.refl _ _).alloc (Nat.le_refl _) _
  rw [← hwB]
  have zJ0 := (hbB.cell (p := ⟨w.heap.size, 0, none⟩) (by show w.heap.size < _; omega)).trans zI0
  have zJ1 := (hbB.cell (p := ⟨w.heap.size, 1, none⟩) (by show w.heap.size < _; omega)).trans zI1
  have zJ2 := (hbB.cell (p := ⟨w.heap.size, 2, none⟩) (by show w.heap.size < _; omega)).trans zI2
  have zJ3 := (hbB.cell (p := ⟨w.heap.size + 1, 0, none⟩) (by show w.heap.size + 1 < _; omega)).trans zI3
  have zJ4 := (hbB.cell (p := ⟨w.heap.size + 1, 1, none⟩) (by show w.heap.size + 1 < _; omega)).trans zI4
  have zJ5 := (hbB.cell (p := ⟨w.heap.size + 1, 2, none⟩) (by show w.heap.size + 1 < _; omega)).trans zI5
  have hPB := hPA.out.below' hbB
  have hQB := hQA.out.below' hbB
  have hBB' : Kpt (Below w.heap.size w wB) := ⟨hBA.out.trans (hbB.mono hBA.out.size)⟩
  have hlB : w.heap.size + 2 ≤ wB.heap.size := Nat.le_trans hlA hbB.size
  have carry : Kpt (∀ W, Below wB.heap.size wB W → (Pg W B ⟨va, vb, vc⟩ ⟨va, vb, vc⟩ ∧ Pg W B2 ⟨va, vb, vc⟩ s2 ∧ W.cell? ⟨w.heap.size, 0, none⟩ = some (.bool va) ∧ W.cell? ⟨w.heap.size, 1, none⟩ = some (.bool vb) ∧ W.cell? ⟨w.heap.size, 2, none⟩ = some (.bool vc) ∧ W.cell? ⟨w.heap.size + 1, 0, none⟩ = some (.bool ua) ∧ W.cell? ⟨w.heap.size + 1, 1, none⟩ = some (.bool ub) ∧ W.cell? ⟨w.heap.size + 1, 2, none⟩ = some (.bool uc))) := ⟨fun W h => ⟨hQB.below' h, hPB.below' h, (h.cell (p := ⟨w.heap.size, 0, none⟩) (by show w.heap.size < _; omega)).trans zJ0, (h.cell (p := ⟨w.heap.size, 1, none⟩) (by show w.heap.size < _; omega)).trans zJ1, (h.cell (p := ⟨w.heap.size, 2, none⟩) (by show w.heap.size < _; omega)).trans zJ2, (h.cell (p := ⟨w.heap.size + 1, 0, none⟩) (by show w.heap.size + 1 < _; omega)).trans zJ3, (h.cell (p := ⟨w.heap.size + 1, 1, none⟩) (by show w.heap.size + 1 < _; omega)).trans zJ4, (h.cell (p := ⟨w.heap.size + 1, 2, none⟩) (by show w.heap.size + 1 < _; omega)).trans zJ5⟩⟩
  clear hwB zI0 zI1 zI2 zI3 zI4 zI5 zJ0 zJ1 zJ2 zJ3 zJ4 zJ5 hbB hPB hQB hPA hQA hBA hlA
  have hnq := neq_vs va vb vc ua ub uc
  have hns : ∀ W : World, (binOp .neq 23 (.agg #[.bool va, .bool vb, .bool vc]) (.agg #[.bool va, .bool vb, .bool vc])).run Try.prog W = .ok (.bool false) W := fun W => by rw [neq_vs, neV_self]
  obtain ⟨d, hd⟩ : ∃ d, d = neV ⟨va, vb, vc⟩ ⟨ua, ub, uc⟩ := ⟨_, rfl⟩
  rw [← hd] at hnq ⊢
  clear hd
  refine wp_region_any (by kernel_rfl) ?_
  refine wpAny_of_C (C := fun W => (Pg W B ⟨va, vb, vc⟩ ⟨va, vb, vc⟩ ∧ Pg W B2 ⟨va, vb, vc⟩ s2 ∧ W.cell? ⟨w.heap.size, 0, none⟩ = some (.bool va) ∧ W.cell? ⟨w.heap.size, 1, none⟩ = some (.bool vb) ∧ W.cell? ⟨w.heap.size, 2, none⟩ = some (.bool vc) ∧ W.cell? ⟨w.heap.size + 1, 0, none⟩ = some (.bool ua) ∧ W.cell? ⟨w.heap.size + 1, 1, none⟩ = some (.bool ub) ∧ W.cell? ⟨w.heap.size + 1, 2, none⟩ = some (.bool uc))) _ _ _ _ ?_
  refine wpAnyC_take 0 (.bool false) rfl (by kernel_rfl) (by kernel_rfl) (by kernel_rfl) (fun _ _ _ h => h) (wanted_free rfl _) (fun W hW => by go_simp) ?_
  simp only [Act.put, List.getElem_toArray, List.getElem_cons_succ, List.getElem_cons_zero, List.setIfInBounds_toArray, List.set_cons_succ, List.set_cons_zero]
  refine wpAnyC_take 1 (.bool false) rfl (by kernel_rfl) (by kernel_rfl) (by kernel_rfl) (fun _ _ _ h => h) (wanted_free rfl _) (fun W hW => by go_simp) ?_
  simp only [Act.put, List.getElem_toArray, List.getElem_cons_succ, List.getElem_cons_zero, List.setIfInBounds_toArray, List.set_cons_succ, List.set_cons_zero]
  refine wpAnyC_take 2 (.bool true) rfl (by kernel_rfl) (by kernel_rfl) (by kernel_rfl) (fun _ _ _ h => h) (wanted_at false rfl rfl rfl rfl) (fun W hW => by go_simp) ?_
  simp only [Act.put, List.getElem_toArray, List.getElem_cons_succ, List.getElem_cons_zero, List.setIfInBounds_toArray, List.set_cons_succ, List.set_cons_zero]
  refine wpAnyC_take 3 (.bool false) rfl (by kernel_rfl) (by kernel_rfl) (by kernel_rfl) (fun _ _ _ h => h) (wanted_at false rfl rfl rfl rfl) (fun W hW => by go_simp) ?_
  simp only [Act.put, List.getElem_toArray, List.getElem_cons_succ, List.getElem_cons_zero, List.setIfInBounds_toArray, List.set_cons_succ, List.set_cons_zero]
  refine wpAnyC_take 4 (.bool false) rfl (by kernel_rfl) (by kernel_rfl) (by kernel_rfl) (fun _ _ _ h => h) (wanted_free rfl _) (fun W hW => by go_simp) ?_
  simp only [Act.put, List.getElem_toArray, List.getElem_cons_succ, List.getElem_cons_zero, List.setIfInBounds_toArray, List.set_cons_succ, List.set_cons_zero]
  refine wpAnyC_take 5 (.bool false) rfl (by kernel_rfl) (by kernel_rfl) (by kernel_rfl) (fun _ _ _ h => h) (wanted_free rfl _) (fun W hW => by go_simp) ?_
  simp only [Act.put, List.getElem_toArray, List.getElem_cons_succ, List.getElem_cons_zero, List.setIfInBounds_toArray, List.set_cons_succ, List.set_cons_zero]
  refine wpAnyC_take 6 (.bool true) rfl (by kernel_rfl) (by kernel_rfl) (by kernel_rfl) (fun _ _ _ h => h) (wanted_at false rfl rfl rfl rfl) (fun W hW => by go_simp) ?_
  simp only [Act.put, List.getElem_toArray, List.getElem_cons_succ, List.getElem_cons_zero, List.setIfInBounds_toArray, List.set_cons_succ, List.set_cons_zero]
  refine wpAnyC_take 7 (.bool false) rfl (by kernel_rfl) (by kernel_rfl) (by kernel_rfl) (fun _ _ _ h => h) (wanted_at false rfl rfl rfl rfl) (fun W hW => by go_simp) ?_
  simp only [Act.put, List.getElem_toArray, List.getElem_cons_succ, List.getElem_cons_zero, List.setIfInBounds_toArray, List.set_cons_succ, List.set_cons_zero]
  refine wpAnyC_take 8 (.bool false) rfl (by kernel_rfl) (by kernel_rfl) (by kernel_rfl) (fun _ _ _ h => h) (wanted_free rfl _) (fun W hW => by go_simp) ?_
  simp only [Act.put, List.getElem_toArray, List.getElem_cons_succ, List.getElem_cons_zero, List.setIfInBounds_toArray, List.set_cons_succ, List.set_cons_zero]
  refine wpAnyC_take 9 (.bool false) rfl (by kernel_rfl) (by kernel_rfl) (by kernel_rfl) (fun _ _ _ h => h) (wanted_free rfl _) (fun W hW => by go_simp) ?_
  simp only [Act.put, List.getElem_toArray, List.getElem_cons_succ, List.getElem_cons_zero, List.setIfInBounds_toArray, List.set_cons_succ, List.set_cons_zero]
  refine wpAnyC_take 10 (.bool d) rfl (by kernel_rfl) (by kernel_rfl) (by kernel_rfl) (fun _ _ _ h => h) (wanted_at false rfl rfl rfl rfl) (fun W hW => by go_simp) ?_
  simp only [Act.put, List.getElem_toArray, List.getElem_cons_succ, List.getElem_cons_zero, List.setIfInBounds_toArray, List.set_cons_succ, List.set_cons_zero]
  refine wpAnyC_take 11 (.agg #[.bool va, .bool vb, .bool vc]) rfl (by kernel_rfl) (by kernel_rfl) (by kernel_rfl) (fun _ _ _ h => h) (wanted_at false rfl rfl rfl rfl) (fun W hW => by obtain ⟨_, _, y0, y1, y2, _⟩ := hW; go_simp) ?_
  simp only [Act.put, List.getElem_toArray, List.getElem_cons_succ, List.getElem_cons_zero, List.setIfInBounds_toArray, List.set_cons_succ, List.set_cons_zero]
  refine wpAnyC_take 12 (.agg #[.bool ua, .bool ub, .bool uc]) rfl (by kernel_rfl) (by kernel_rfl) (by kernel_rfl) (fun _ _ _ h => h) (wanted_at false rfl rfl rfl rfl) (fun W hW => by obtain ⟨_, _, _, _, _, y0, y1, y2⟩ := hW; go_simp) ?_
  simp only [Act.put, List.getElem_toArray, List.getElem_cons_succ, List.getElem_cons_zero, List.setIfInBounds_toArray, List.set_cons_succ, List.set_cons_zero]
  refine wpAnyC_take 13 (.bool d) rfl (by kernel_rfl) (by kernel_rfl) (by kernel_rfl) (fun _ _ _ h => h) (wanted_at false rfl rfl rfl rfl) (fun W hW => by go_simp) ?_
  simp only [Act.put, List.getElem_toArray, List.getElem_cons_succ, List.getElem_cons_zero, List.setIfInBounds_toArray, List.set_cons_succ, List.set_cons_zero]
  refine wpAnyC_take 14 (.bool false) rfl (by kernel_rfl) (by kernel_rfl) (by kernel_rfl) (fun _ _ _ h => h) (wanted_at false rfl rfl rfl rfl) (fun W hW => by go_simp) ?_
  simp only [Act.put, List.getElem_toArray, List.getElem_cons_succ, List.getElem_cons_zero, List.setIfInBounds_toArray, List.set_cons_succ, List.set_cons_zero]
  refine wpAnyC_take 15 (.bool false) rfl (by kernel_rfl) (by kernel_rfl) (by kernel_rfl) (fun _ _ _ h => h) (wanted_free rfl _) (fun W hW => by go_simp) ?_
  simp only [Act.put, List.getElem_toArray, List.getElem_cons_succ, List.getElem_cons_zero, List.setIfInBounds_toArray, List.set_cons_succ, List.set_cons_zero]
  refine wpAnyC_take 16 (.bool false) rfl (by kernel_rfl) (by kernel_rfl) (by kernel_rfl) (fun _ _ _ h => h) (wanted_free rfl _) (fun W hW => by go_simp) ?_
  simp only [Act.put, List.getElem_toArray, List.getElem_cons_succ, List.getElem_cons_zero, List.setIfInBounds_toArray, List.set_cons_succ, List.set_cons_zero]
  refine wpAnyC_take 17 (.pointer (some ⟨B, 0, none⟩)) rfl (by kernel_rfl) (by kernel_rfl) (by kernel_rfl) (fun _ _ _ h => h) (wanted_at false rfl rfl rfl rfl) (fun W hW => by go_simp) ?_
  simp only [Act.put, List.getElem_toArray, List.getElem_cons_succ, List.getElem_cons_zero, List.setIfInBounds_toArray, List.set_cons_succ, List.set_cons_zero]
  refine wpAnyC_take 19 (.agg #[.bool va, .bool vb, .bool vc]) rfl (by kernel_rfl) (by kernel_rfl) (by kernel_rfl) (fun _ _ _ h => h) (wanted_at false rfl rfl rfl rfl) (fun W hW => by obtain ⟨_, _, y0, y1, y2, _⟩ := hW; go_simp) ?_
  simp only [Act.put, List.getElem_toArray, List.getElem_cons_succ, List.getElem_cons_zero, List.setIfInBounds_toArray, List.set_cons_succ, List.set_cons_zero]
  refine wpAnyC_one 18 (carry.out _ (below_drew _)) rfl (by kernel_rfl) (wanted_at false rfl rfl rfl rfl) (fun KA hKA => ?_)
  go_simp
  refine (now_any B ⟨va, vb, vc⟩ ⟨va, vb, vc⟩ _ (carry.out _ (below_drew _)).1).mono ?_
  rintro e wC ⟨rfl, hbC⟩
  replace hbC := below_undrew hbC
  rw [show Vs.vals ⟨va, vb, vc⟩ = #[.bool va, .bool vb, .bool vc] from rfl]
  refine hKA _ _ ?_
  clear hKA KA
  try simp only [Act.put, List.getElem_toArray, List.getElem_cons_succ, List.getElem_cons_zero, List.setIfInBounds_toArray, List.set_cons_succ, List.set_cons_zero]
  refine wpAnyC_take 20 (.bool false) rfl (by kernel_rfl) (by kernel_rfl) (by kernel_rfl) (fun _ _ _ h => h) (wanted_at false rfl rfl rfl rfl) (fun W hW => by go_simp) ?_
  simp only [Act.put, List.getElem_toArray, List.getElem_cons_succ, List.getElem_cons_zero, List.setIfInBounds_toArray, List.set_cons_succ, List.set_cons_zero]
  refine wpAnyC_take 21 (.bool false) rfl (by kernel_rfl) (by kernel_rfl) (by kernel_rfl) (fun _ _ _ h => h) (wanted_free rfl _) (fun W hW => by go_simp) ?_
  simp only [Act.put, List.getElem_toArray, List.getElem_cons_succ, List.getElem_cons_zero, List.setIfInBounds_toArray, List.set_cons_succ, List.set_cons_zero]
  refine wpAnyC_take 22 (.bool false) rfl (by kernel_rfl) (by kernel_rfl) (by kernel_rfl) (fun _ _ _ h => h) (wanted_free rfl _) (fun W hW => by go_simp) ?_
  simp only [Act.put, List.getElem_toArray, List.getElem_cons_succ, List.getElem_cons_zero, List.setIfInBounds_toArray, List.set_cons_succ, List.set_cons_zero]
  refine wpAnyC_take 23 (.pointer (some ⟨B2, 0, none⟩)) rfl (by kernel_rfl) (by kernel_rfl) (by kernel_rfl) (fun _ _ _ h => h) (wanted_at false rfl rfl rfl rfl) (fun W hW => by go_simp) ?_
  simp only [Act.put, List.getElem_toArray, List.getElem_cons_succ, List.getElem_cons_zero, List.setIfInBounds_toArray, List.set_cons_succ, List.set_cons_zero]
  refine wpAnyC_take 25 (.agg #[.bool va, .bool vb, .bool vc]) rfl (by kernel_rfl) (by kernel_rfl) (by kernel_rfl) (fun _ _ _ h => h) (wanted_at false rfl rfl rfl rfl) (fun W hW => by obtain ⟨_, _, y0, y1, y2, _⟩ := hW; go_simp) ?_
  simp only [Act.put, List.getElem_toArray, List.getElem_cons_succ, List.getElem_cons_zero, List.setIfInBounds_toArray, List.set_cons_succ, List.set_cons_zero]
  refine wpAnyC_one 24 (carry.out _ hbC) rfl (by kernel_rfl) (wanted_at false rfl rfl rfl rfl) (fun KA hKA => ?_)
  go_simp
  refine (now_any B2 ⟨va, vb, vc⟩ s2 _ (carry.out _ hbC).2.1).mono ?_
  rintro e wD ⟨rfl, hbD⟩
  replace hbD : Below wB.heap.size wB wD := hbC.trans (hbD.mono hbC.size)
  rw [show Vs.vals ⟨va, vb, vc⟩ = #[.bool va, .bool vb, .bool vc] from rfl]
  refine hKA _ _ ?_
  clear hKA KA
  try simp only [Act.put, List.getElem_toArray, List.getElem_cons_succ, List.getElem_cons_zero, List.setIfInBounds_toArray, List.set_cons_succ, List.set_cons_zero]
  refine wpAnyC_take 26 (.bool false) rfl (by kernel_rfl) (by kernel_rfl) (by kernel_rfl) (fun _ _ _ h => h) (wanted_at false rfl rfl rfl rfl) (fun W hW => by go_simp) ?_
  simp only [Act.put, List.getElem_toArray, List.getElem_cons_succ, List.getElem_cons_zero, List.setIfInBounds_toArray, List.set_cons_succ, List.set_cons_zero]
  refine wpAnyC_take 27 (.bool false) rfl (by kernel_rfl) (by kernel_rfl) (by kernel_rfl) (fun _ _ _ h => h) (wanted_free rfl _) (fun W hW => by go_simp) ?_
  simp only [Act.put, List.getElem_toArray, List.getElem_cons_succ, List.getElem_cons_zero, List.setIfInBounds_toArray, List.set_cons_succ, List.set_cons_zero]
  refine wpAnyC_done (carry.out _ hbD) (by kernel_rfl) ?_
  have carry2 : Kpt (∀ W, Below wD.heap.size wD W → (Pg W B ⟨va, vb, vc⟩ ⟨va, vb, vc⟩ ∧ Pg W B2 ⟨va, vb, vc⟩ s2 ∧ W.cell? ⟨w.heap.size, 0, none⟩ = some (.bool va) ∧ W.cell? ⟨w.heap.size, 1, none⟩ = some (.bool vb) ∧ W.cell? ⟨w.heap.size, 2, none⟩ = some (.bool vc) ∧ W.cell? ⟨w.heap.size + 1, 0, none⟩ = some (.bool ua) ∧ W.cell? ⟨w.heap.size + 1, 1, none⟩ = some (.bool ub) ∧ W.cell? ⟨w.heap.size + 1, 2, none⟩ = some (.bool uc))) := ⟨fun W h => carry.out W (hbD.trans (h.mono hbD.size))⟩
  have hBD : Kpt (Below w.heap.size w wD) := ⟨hBB'.out.trans (hbD.mono hBB'.out.size)⟩
  clear hbC hbD carry hnq hns
  cases sv
  · have hs2' : s2 = ⟨ua, ub, uc⟩ := by rw [hs2.out]; rfl
    subst hs2'
    have hes : ∀ W : World, (binOp .eql 23 (.agg #[.bool ua, .bool ub, .bool uc]) (.agg #[.bool ua, .bool ub, .bool uc])).run Try.prog W = .ok (.bool true) W := fun W => by rw [eql_vs, neV_self]; rfl
    go_wp2_with fail
    refine wp_region_any (by kernel_rfl) ?_
    refine wpAny_of_C (C := fun W => (Pg W B ⟨va, vb, vc⟩ ⟨va, vb, vc⟩ ∧ Pg W B2 ⟨va, vb, vc⟩ ⟨ua, ub, uc⟩ ∧ W.cell? ⟨w.heap.size, 0, none⟩ = some (.bool va) ∧ W.cell? ⟨w.heap.size, 1, none⟩ = some (.bool vb) ∧ W.cell? ⟨w.heap.size, 2, none⟩ = some (.bool vc) ∧ W.cell? ⟨w.heap.size + 1, 0, none⟩ = some (.bool ua) ∧ W.cell? ⟨w.heap.size + 1, 1, none⟩ = some (.bool ub) ∧ W.cell? ⟨w.heap.size + 1, 2, none⟩ = some (.bool uc))) _ _ _ _ ?_
    refine wpAnyC_take 0 (.pointer (some ⟨B2, 0, none⟩)) rfl (by kernel_rfl) (by kernel_rfl) (by kernel_rfl) (fun _ _ _ h => h) (wanted_free rfl _) (fun W hW => by go_simp) ?_
    simp only [Act.put, List.getElem_toArray, List.getElem_cons_succ, List.getElem_cons_zero, List.setIfInBounds_toArray, List.set_cons_succ, List.set_cons_zero]
    refine wpAnyC_take 2 (.agg #[.bool ua, .bool ub, .bool uc]) rfl (by kernel_rfl) (by kernel_rfl) (by kernel_rfl) (fun _ _ _ h => h) (wanted_free rfl _) (fun W hW => by obtain ⟨_, _, _, _, _, y0, y1, y2⟩ := hW; go_simp) ?_
    simp only [Act.put, List.getElem_toArray, List.getElem_cons_succ, List.getElem_cons_zero, List.setIfInBounds_toArray, List.set_cons_succ, List.set_cons_zero]
    refine wpAnyC_one 1 (carry2.out _ (below_drew _)) rfl (by kernel_rfl) (wanted_free rfl _) (fun KA hKA => ?_)
    go_simp
    refine (saved_any B2 ⟨va, vb, vc⟩ ⟨ua, ub, uc⟩ _ (carry2.out _ (below_drew _)).2.1).mono ?_
    rintro e wE ⟨rfl, hbE⟩
    replace hbE := below_undrew hbE
    rw [show Vs.vals ⟨ua, ub, uc⟩ = #[.bool ua, .bool ub, .bool uc] from rfl]
    refine hKA _ _ ?_
    clear hKA KA
    try simp only [Act.put, List.getElem_toArray, List.getElem_cons_succ, List.getElem_cons_zero, List.setIfInBounds_toArray, List.set_cons_succ, List.set_cons_zero]
    refine wpAnyC_take 3 (.bool true) rfl (by kernel_rfl) (by kernel_rfl) (by kernel_rfl) (fun _ _ _ h => h) (wanted_free rfl _) (fun W hW => by go_simp) ?_
    simp only [Act.put, List.getElem_toArray, List.getElem_cons_succ, List.getElem_cons_zero, List.setIfInBounds_toArray, List.set_cons_succ, List.set_cons_zero]
    refine wpAnyC_take 4 (.bool true) rfl (by kernel_rfl) (by kernel_rfl) (by kernel_rfl) (fun _ _ _ h => h) (wanted_free rfl _) (fun W hW => by go_simp) ?_
    simp only [Act.put, List.getElem_toArray, List.getElem_cons_succ, List.getElem_cons_zero, List.setIfInBounds_toArray, List.set_cons_succ, List.set_cons_zero]
    refine wpAnyC_done (carry2.out _ hbE) (by kernel_rfl) ?_
    have hBE : Kpt (Below w.heap.size w wE) := ⟨hBD.out.trans (hbE.mono hBD.out.size)⟩
    clear hbE carry2
    go_wp2_with fail
    go_ret
    exact ⟨rfl, hBE.out⟩
  · have hs2' : s2 = ⟨va, vb, vc⟩ := by rw [hs2.out]; rfl
    subst hs2'
    have hes : ∀ W : World, (binOp .eql 23 (.agg #[.bool va, .bool vb, .bool vc]) (.agg #[.bool va, .bool vb, .bool vc])).run Try.prog W = .ok (.bool true) W := fun W => by rw [eql_vs, neV_self]; rfl
    go_wp2_with fail
    refine wp_region_any (by kernel_rfl) ?_
    refine wpAny_of_C (C := fun W => (Pg W B ⟨va, vb, vc⟩ ⟨va, vb, vc⟩ ∧ Pg W B2 ⟨va, vb, vc⟩ ⟨va, vb, vc⟩ ∧ W.cell? ⟨w.heap.size, 0, none⟩ = some (.bool va) ∧ W.cell? ⟨w.heap.size, 1, none⟩ = some (.bool vb) ∧ W.cell? ⟨w.heap.size, 2, none⟩ = some (.bool vc) ∧ W.cell? ⟨w.heap.size + 1, 0, none⟩ = some (.bool ua) ∧ W.cell? ⟨w.heap.size + 1, 1, none⟩ = some (.bool ub) ∧ W.cell? ⟨w.heap.size + 1, 2, none⟩ = some (.bool uc))) _ _ _ _ ?_
    refine wpAnyC_take 0 (.pointer (some ⟨B2, 0, none⟩)) rfl (by kernel_rfl) (by kernel_rfl) (by kernel_rfl) (fun _ _ _ h => h) (wanted_free rfl _) (fun W hW => by go_simp) ?_
    simp only [Act.put, List.getElem_toArray, List.getElem_cons_succ, List.getElem_cons_zero, List.setIfInBounds_toArray, List.set_cons_succ, List.set_cons_zero]
    refine wpAnyC_take 2 (.agg #[.bool va, .bool vb, .bool vc]) rfl (by kernel_rfl) (by kernel_rfl) (by kernel_rfl) (fun _ _ _ h => h) (wanted_free rfl _) (fun W hW => by obtain ⟨_, _, y0, y1, y2, _⟩ := hW; go_simp) ?_
    simp only [Act.put, List.getElem_toArray, List.getElem_cons_succ, List.getElem_cons_zero, List.setIfInBounds_toArray, List.set_cons_succ, List.set_cons_zero]
    refine wpAnyC_one 1 (carry2.out _ (below_drew _)) rfl (by kernel_rfl) (wanted_free rfl _) (fun KA hKA => ?_)
    go_simp
    refine (saved_any B2 ⟨va, vb, vc⟩ ⟨va, vb, vc⟩ _ (carry2.out _ (below_drew _)).2.1).mono ?_
    rintro e wE ⟨rfl, hbE⟩
    replace hbE := below_undrew hbE
    rw [show Vs.vals ⟨va, vb, vc⟩ = #[.bool va, .bool vb, .bool vc] from rfl]
    refine hKA _ _ ?_
    clear hKA KA
    try simp only [Act.put, List.getElem_toArray, List.getElem_cons_succ, List.getElem_cons_zero, List.setIfInBounds_toArray, List.set_cons_succ, List.set_cons_zero]
    refine wpAnyC_take 3 (.bool true) rfl (by kernel_rfl) (by kernel_rfl) (by kernel_rfl) (fun _ _ _ h => h) (wanted_free rfl _) (fun W hW => by go_simp) ?_
    simp only [Act.put, List.getElem_toArray, List.getElem_cons_succ, List.getElem_cons_zero, List.setIfInBounds_toArray, List.set_cons_succ, List.set_cons_zero]
    refine wpAnyC_take 4 (.bool true) rfl (by kernel_rfl) (by kernel_rfl) (by kernel_rfl) (fun _ _ _ h => h) (wanted_free rfl _) (fun W hW => by go_simp) ?_
    simp only [Act.put, List.getElem_toArray, List.getElem_cons_succ, List.getElem_cons_zero, List.setIfInBounds_toArray, List.set_cons_succ, List.set_cons_zero]
    refine wpAnyC_done (carry2.out _ hbE) (by kernel_rfl) ?_
    have hBE : Kpt (Below w.heap.size w wE) := ⟨hBD.out.trans (hbE.mono hBD.out.size)⟩
    clear hbE carry2
    go_wp2_with fail
    go_ret
    exact ⟨rfl, hBE.out⟩

theorem back_any (v u : Vs) (lg sv : Bool) (w : World) : Calls Try.prog 4 #[.agg v.vals, .agg u.vals, .bool lg, .bool sv] w fun e w' => e = .returned (.bool true) ∧ Below w.heap.size w w' := by
  cases lg
  · exact back_false v u sv w
  · exact back_true v u sv w
end Go.Proofs.Ytdojhgapdocngaa
