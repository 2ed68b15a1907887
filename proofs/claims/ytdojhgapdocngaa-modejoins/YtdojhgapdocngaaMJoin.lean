/-
  ModeJoins: the walk.
-/
import Derived.Test.YtdojhgapdocngaaMJoinP
import Derived.Test.YtdojhgapdocngaaMTellA
namespace Go.Proofs.Ytdojhgapdocngaa
open Go.RowKit
set_option linter.unusedVariables false
set_option linter.unusedSimpArgs false

theorem wpAnyC_skip {P : Program} {md : Region.Mode} {ops : Array Oper} {C : World → Prop} {Q : Exit → Act → World → Prop} (i : Nat) {oi : Oper} {fuel : Nat} {listed : Array Bool} {a : Act} {w : World} (hi : ops[i]? = some oi)
    (hs : Region.noSelect ops = true) (hf : Region.free md ops listed i = true) (hr : (Region.ready md ops listed).contains i = true)
    (hQ : ∀ c a w, Q (.panic c) (a.put oi.dst undef) w → Q (.panic c) a w) (hw : Region.wanted oi (yielded ops a.tmps) = false)
    (h : wpAnyC P md ops C Q fuel (listed.setIfInBounds i true) (a.put oi.dst undef) w) : wpAnyC P md ops C Q (fuel + 1) listed a w :=
  wpAnyC_first hi (Region.noSelect_spec hs) hQ fuel listed a w (Region.free_spec hi hf) (by simpa using hr) (.inr ⟨hw, rfl⟩) h
theorem wanted_no (b : Bool) {o oj : Oper} {ops : Array Oper} {tmps : Array Value} {j d : Nat} (hg : o.guard = some (j, b)) (hj : ops[j]? = some oj) (hd : oj.dst = some d) (ht : tmps[d]? = some (.bool !b)) : Region.wanted o (yielded ops tmps) = false := by
  unfold Region.wanted yielded
  rw [hg]
  cases b <;> simp [hj, hd, ht]
theorem own_drop {w : World} {base g n c k : Nat} {zs : List Int} (h : w.ownsRow base 5 1 (.slice (some ⟨g, 0, none⟩) n c) n (cels zs)) (hk : k ≤ n) (hc : n ≤ c) : RdAt w (.slice (some ⟨g, k, none⟩) (n - k) (c - k)) (zs.drop k) := by
  have hz : zs.length = n := by have := h.1; simpa using this
  refine ⟨some ⟨g, k, none⟩, c - k, by rw [List.length_drop, hz], fun e => (by cases e), by rw [List.length_drop, hz]; omega, .inr ⟨g, k, rfl, fun j u hu => ?_⟩⟩
  have hj : j < n - k := by have := (List.getElem?_eq_some_iff.1 hu).1; rw [cels_length, List.length_drop, hz] at this; exact this
  rw [own_facts h (k + j) (by omega)]
  rw [cels, List.getElem?_map, List.getElem?_drop, List.getElem?_eq_getElem (by omega)] at hu
  rw [List.getD_eq_getElem?_getD, List.getElem?_eq_getElem (by omega)]
  exact hu
theorem own_cap {w : World} {base g n c : Nat} {zs : List Value} (h : w.ownsRow base 5 1 (.slice (some ⟨g, 0, none⟩) n c) n zs) : n ≤ c ∧ c ≤ maxLen := by
  rcases id h.2 with ⟨hx, _⟩ | ⟨g', cap', cur, hx, _, _, h1, h2, _⟩
  · cases hx
  · simp only [Value.slice.injEq, true_and] at hx
    rw [hx.2]; exact ⟨h1, h2⟩

set_option maxRecDepth 100000 in
set_option maxHeartbeats 8000000 in
theorem join_false (v u : Vs) (w : World) : Calls Try.prog 7 #[.agg v.vals, .agg u.vals, .bool false] w fun e w' => e = .returned (.bool true) ∧ Below w.heap.size w w' := by
  have HA := Kpt.mk awake_any
  have HNu := Kpt.mk (new_any u)
  have HNv := Kpt.mk (new_any v)
  have HSa := Kpt.mk (fun B W (h : Pg W B u u) => sen_call B u u ⟨0, false, 0, 0, 0, false, 0, false, false, 8, 0, false, 0, 0, false⟩ W 24 h (.inl rfl) rfl)
  have HSb := Kpt.mk (fun B W (h : Pg W B u u) => sen_call B u u ⟨0, false, 0, 0, 0, false, 0, false, false, 10, 0, false, 0, 0, false⟩ W 16 h (.inr (.inl rfl)) rfl)
  have hrB : readL v false (h4 ++ xL false u ++ yL false u) = (u, none) := by obtain ⟨a, b, c⟩ := v; obtain ⟨a', b', c'⟩ := u; exact join_both a' b' c' a b c false
  have hrX : readL v false (h4 ++ xL false u) = (midV false v u, none) := by obtain ⟨a, b, c⟩ := v; obtain ⟨a', b', c'⟩ := u; exact join_x a' b' c' a b c false
  have hrY : readL (midV false v u) false (h4 ++ yL false u) = (u, none) := by obtain ⟨a, b, c⟩ := v; obtain ⟨a', b', c'⟩ := u; exact join_y a' b' c' a b c false
  have hbB : ∀ j, 0 ≤ (h4 ++ xL false u ++ yL false u).getD j 0 ∧ (h4 ++ xL false u ++ yL false u).getD j 0 ≤ 255 := by obtain ⟨a, b, c⟩ := u; exact byt_of _ (byt_both a b c false)
  have hbX : ∀ j, 0 ≤ (h4 ++ xL false u).getD j 0 ∧ (h4 ++ xL false u).getD j 0 ≤ 255 := by obtain ⟨a, b, c⟩ := u; exact byt_of _ (byt_x a b c false)
  have hbY : ∀ j, 0 ≤ (h4 ++ yL false u).getD j 0 ∧ (h4 ++ yL false u).getD j 0 ≤ 255 := by obtain ⟨a, b, c⟩ := u; exact byt_of _ (byt_y a b c false)
  obtain ⟨ch, hch⟩ : ∃ ch, ch = neV v u := ⟨_, rfl⟩
  obtain ⟨D, hD⟩ : ∃ D, D = neV (midV false v u) v := ⟨_, rfl⟩
  obtain ⟨E, hE⟩ : ∃ E, E = neV u (midV false v u) := ⟨_, rfl⟩
  have hDE : Kpt ((D || E) = ch) := ⟨by rw [hD, hE, hch]; obtain ⟨a, b, c⟩ := v; obtain ⟨a', b', c'⟩ := u; exact join_ne a' b' c' a b c false⟩
  have hcm : neV u v = ch := by rw [hch]; obtain ⟨a, b, c⟩ := v; obtain ⟨a', b', c'⟩ := u; exact neV_comm _ _ _ _ _ _
  have H1 : Kpt (∀ B g k W, Pg W B v v → Cl W g 0 (h4 ++ xL false u ++ yL false u) → 36 ≤ k → k ≤ maxLen → g < W.heap.size → Calls Try.prog 12 #[.pointer (some ⟨B, 0, none⟩), .agg (Cm.vals ⟨0, false, 0, 0, 0, false, 0, false, false, 0, 0, false, 0, 0, false⟩), .slice (some ⟨g, 0, none⟩) 36 k] W fun e w' => e = .returned (.tuple #[.bool ch, .agg #[.int .u8 0, .int .u16 0, .int .u64 0, .bool false, .int .i64 0, .int .i64 0, .bool false, .bool false], .bool true]) ∧ Pg w' B u v ∧ W.grownBy w' (some B)) := ⟨fun B g k W hP hc hk hkm hg => (select_any B v v ⟨0, false, 0, 0, 0, false, 0, false, false, 0, 0, false, 0, 0, false⟩ g 0 k (h4 ++ xL false u ++ yL false u) W hP hc (show 1 ≤ 36 by decide) hk hkm hg hbB u hrB).mono (fun e w' ⟨h1, h2, h3⟩ => ⟨by rw [h1, hcm]; rfl, h2, h3⟩)⟩
  have H2 : Kpt (∀ B g k W, Pg W B v v → Cl W g 0 (h4 ++ xL false u) → 24 ≤ k → k ≤ maxLen → g < W.heap.size → Calls Try.prog 12 #[.pointer (some ⟨B, 0, none⟩), .agg (Cm.vals ⟨0, false, 0, 0, 0, false, 0, false, false, 0, 0, false, 0, 0, false⟩), .slice (some ⟨g, 0, none⟩) 24 k] W fun e w' => e = .returned (.tuple #[.bool D, .agg #[.int .u8 0, .int .u16 0, .int .u64 0, .bool false, .int .i64 0, .int .i64 0, .bool false, .bool false], .bool true]) ∧ Pg w' B (midV false v u) v ∧ W.grownBy w' (some B)) := ⟨fun B g k W hP hc hk hkm hg => (select_any B v v ⟨0, false, 0, 0, 0, false, 0, false, false, 0, 0, false, 0, 0, false⟩ g 0 k (h4 ++ xL false u) W hP hc (show 1 ≤ 24 by decide) hk hkm hg hbX _ hrX).mono (fun e w' ⟨h1, h2, h3⟩ => ⟨by rw [h1, hD]; rfl, h2, h3⟩)⟩
  have H3 : Kpt (∀ B g k W, Pg W B (midV false v u) v → Cl W g 0 (h4 ++ yL false u) → 16 ≤ k → k ≤ maxLen → g < W.heap.size → Calls Try.prog 12 #[.pointer (some ⟨B, 0, none⟩), .agg (Cm.vals ⟨0, false, 0, 0, 0, false, 0, false, false, 0, 0, false, 0, 0, false⟩), .slice (some ⟨g, 0, none⟩) 16 k] W fun e w' => e = .returned (.tuple #[.bool E, .agg #[.int .u8 0, .int .u16 0, .int .u64 0, .bool false, .int .i64 0, .int .i64 0, .bool false, .bool false], .bool true]) ∧ Pg w' B u v ∧ W.grownBy w' (some B)) := ⟨fun B g k W hP hc hk hkm hg => (select_any B (midV false v u) v ⟨0, false, 0, 0, 0, false, 0, false, false, 0, 0, false, 0, 0, false⟩ g 0 k (h4 ++ yL false u) W hP hc (show 1 ≤ 16 by decide) hk hkm hg hbY u hrY).mono (fun e w' ⟨h1, h2, h3⟩ => ⟨by rw [h1, hE]; rfl, h2, h3⟩)⟩
  simp only [Cm.vals] at HSa HSb H1 H2 H3
  obtain ⟨LX, hLX⟩ : ∃ L, L = xL false u := ⟨_, rfl⟩
  obtain ⟨LY, hLY⟩ : ∃ L, L = yL false u := ⟨_, rfl⟩
  have hXl : Kpt (LX.length = 20) := ⟨by rw [hLX]; rfl⟩
  have hYl : Kpt (LY.length = 12) := ⟨by rw [hLY]; rfl⟩
  have hdA : Kpt ((senL false 8 0 u u).drop 4 = LX) := ⟨by rw [hLX]; rfl⟩
  have hdB : Kpt ((senL false 10 0 u u).drop 4 = LY) := ⟨by rw [hLY]; rfl⟩
  rw [← hLX, ← hLY] at H1
  rw [← hLX] at H2
  rw [← hLY] at H3
  obtain ⟨mv, hmv⟩ : ∃ mv, mv = midV false v u := ⟨_, rfl⟩
  rw [← hmv] at H2 H3
  have hnq : ∀ W : World, (binOp .neq 23 (.agg v.vals) (.agg u.vals)).run Try.prog W = .ok (.bool ch) W := fun W => by rw [hch]; obtain ⟨a, b, c⟩ := v; obtain ⟨a', b', c'⟩ := u; exact neq_vs _ _ _ _ _ _ W
  have hes : ∀ W : World, (binOp .eql 23 (.agg u.vals) (.agg u.vals)).run Try.prog W = .ok (.bool true) W := fun W => by obtain ⟨a', b', c'⟩ := u; exact (eql_vs a' b' c' a' b' c' W).trans (by rw [neV_self]; rfl)
  clear hLX hLY hrB hrX hrY hbB hbX hbY hch hD hE hcm hmv
  obtain ⟨va, vb, vc⟩ := v
  obtain ⟨ua, ub, uc⟩ := u
  rw [show (Vs.vals ⟨va, vb, vc⟩) = #[.bool va, .bool vb, .bool vc] from rfl] at HNv hnq ⊢
  rw [show (Vs.vals ⟨ua, ub, uc⟩) = #[.bool ua, .bool ub, .bool uc] from rfl] at HNu hnq hes ⊢
  replace hnq := Kpt.mk hnq
  replace hes := Kpt.mk hes
  go_enter Try.func7, Try.ntmps7
  go_wp2_with fail
  refine (HA.out _).mono ?_
  rintro e w1 ⟨rfl, hb1⟩
  have hs0 : ((w.alloc (.cells #[.bool va, .bool vb, .bool vc] 23)).alloc (.cells #[.bool ua, .bool ub, .bool uc] 23)).heap.size = w.heap.size + 2 := by simp
  have hl1 : w.heap.size + 2 ≤ w1.heap.size := by have := hb1.size; omega
  have zA0 : w1.cell? ⟨w.heap.size, 0, none⟩ = some (.bool va) := (hb1.cell (p := ⟨w.heap.size, 0, none⟩) (by show w.heap.size < _; omega)).trans (by simp)
  have zA1 : w1.cell? ⟨w.heap.size, 1, none⟩ = some (.bool vb) := (hb1.cell (p := ⟨w.heap.size, 1, none⟩) (by show w.heap.size < _; omega)).trans (by simp)
  have zA2 : w1.cell? ⟨w.heap.size, 2, none⟩ = some (.bool vc) := (hb1.cell (p := ⟨w.heap.size, 2, none⟩) (by show w.heap.size < _; omega)).trans (by simp)
  have zA3 : w1.cell? ⟨w.heap.size + 1, 0, none⟩ = some (.bool ua) := (hb1.cell (p := ⟨w.heap.size + 1, 0, none⟩) (by show w.heap.size + 1 < _; omega)).trans (by simp)
  have zA4 : w1.cell? ⟨w.heap.size + 1, 1, none⟩ = some (.bool ub) := (hb1.cell (p := ⟨w.heap.size + 1, 1, none⟩) (by show w.heap.size + 1 < _; omega)).trans (by simp)
  have zA5 : w1.cell? ⟨w.heap.size + 1, 2, none⟩ = some (.bool uc) := (hb1.cell (p := ⟨w.heap.size + 1, 2, none⟩) (by show w.heap.size + 1 < _; omega)).trans (by simp)
  have hB1 : Kpt (Below w.heap.size w w1) := ⟨(((Below.refl _ _).alloc (Nat.le_refl _) _).alloc (by simp) _).trans (hb1.mono (by omega))⟩
  clear hb1 hs0 HA
  go_wp2_with fail
  refine (HNu.out _).mono ?_
  rintro e w2 ⟨B, rfl, hBB, hP2, hb2⟩
  have zB0 := (hb2.cell (p := ⟨w.heap.size, 0, none⟩) (by show w.heap.size < _; omega)).trans zA0
  have zB1 := (hb2.cell (p := ⟨w.heap.size, 1, none⟩) (by show w.heap.size < _; omega)).trans zA1
  have zB2 := (hb2.cell (p := ⟨w.heap.size, 2, none⟩) (by show w.heap.size < _; omega)).trans zA2
  have zB3 := (hb2.cell (p := ⟨w.heap.size + 1, 0, none⟩) (by show w.heap.size + 1 < _; omega)).trans zA3
  have zB4 := (hb2.cell (p := ⟨w.heap.size + 1, 1, none⟩) (by show w.heap.size + 1 < _; omega)).trans zA4
  have zB5 := (hb2.cell (p := ⟨w.heap.size + 1, 2, none⟩) (by show w.heap.size + 1 < _; omega)).trans zA5
  have hB2 : Kpt (Below w.heap.size w w2) := ⟨hB1.out.trans (hb2.mono hB1.out.size)⟩
  have hl2 : w.heap.size + 2 ≤ w2.heap.size := Nat.le_trans hl1 hb2.size
  clear zA0 zA1 zA2 zA3 zA4 zA5 hb2 hB1 hl1 HNu hBB
  replace hP2 := Kpt.mk hP2
  go_wp2_with fail
  refine (HSa.out B w2 hP2.out).mono ?_
  rintro e w3 ⟨ga, ka, rfl, hga, hoa, hb3⟩
  have zC0 := (hb3.cell (p := ⟨w.heap.size, 0, none⟩) (by show w.heap.size < _; omega)).trans zB0
  have zC1 := (hb3.cell (p := ⟨w.heap.size, 1, none⟩) (by show w.heap.size < _; omega)).trans zB1
  have zC2 := (hb3.cell (p := ⟨w.heap.size, 2, none⟩) (by show w.heap.size < _; omega)).trans zB2
  have zC3 := (hb3.cell (p := ⟨w.heap.size + 1, 0, none⟩) (by show w.heap.size + 1 < _; omega)).trans zB3
  have zC4 := (hb3.cell (p := ⟨w.heap.size + 1, 1, none⟩) (by show w.heap.size + 1 < _; omega)).trans zB4
  have zC5 := (hb3.cell (p := ⟨w.heap.size + 1, 2, none⟩) (by show w.heap.size + 1 < _; omega)).trans zB5
  have hP3 := hP2.out.below' hb3
  have hB3 : Below w.heap.size w w3 := hB2.out.trans (hb3.mono hB2.out.size)
  have hl3 : w.heap.size + 2 ≤ w3.heap.size := Nat.le_trans hl2 hb3.size
  have hgal := (World.ownsRow.lt hoa ga rfl).2
  have hkA := own_cap hoa
  have hAr : RdAt w3 (.slice (some ⟨ga, 4, none⟩) 20 (ka - 4)) LX := by rw [← hdA.out]; exact own_drop hoa (by decide) hkA.1
  obtain ⟨w4, hw4⟩ : ∃ w4, w4 = w3.alloc (.cells #[.int .u8 0, .int .u16 0, .int .u64 0, .bool false, .int .i64 0, .int .i64 0, .bool false, .bool false] 42) := ⟨_, rfl⟩
  have hb4 : Below w3.heap.size w3 w4 := by rw [hw4]; exact (Below.refl _ _).alloc (Nat.le_refl _) _
  have zD0 := (hb4.cell (p := ⟨w.heap.size, 0, none⟩) (by show w.heap.size < _; omega)).trans zC0
  have zD1 := (hb4.cell (p := ⟨w.heap.size, 1, none⟩) (by show w.heap.size < _; omega)).trans zC1
  have zD2 := (hb4.cell (p := ⟨w.heap.size, 2, none⟩) (by show w.heap.size < _; omega)).trans zC2
  have zD3 := (hb4.cell (p := ⟨w.heap.size + 1, 0, none⟩) (by show w.heap.size + 1 < _; omega)).trans zC3
  have zD4 := (hb4.cell (p := ⟨w.heap.size + 1, 1, none⟩) (by show w.heap.size + 1 < _; omega)).trans zC4
  have zD5 := (hb4.cell (p := ⟨w.heap.size + 1, 2, none⟩) (by show w.heap.size + 1 < _; omega)).trans zC5
  have hP4 := Kpt.mk (hP3.below' hb4)
  have hB4 : Kpt (Below w.heap.size w w4) := ⟨hB3.trans (hb4.mono hB3.size)⟩
  have hl4 : w.heap.size + 2 ≤ w4.heap.size := Nat.le_trans hl3 hb4.size
  have hAr4 := Kpt.mk (rd_below hAr hb4)
  have hgal4 : ga < w4.heap.size := Nat.lt_of_lt_of_le hgal hb4.size
  have hka : ¬ ka = 4 ∧ 24 ≤ ka := by omega
  have hw4' := Kpt.mk hw4
  clear hw4 zB0 zB1 zB2 zB3 zB4 zB5 zC0 zC1 zC2 zC3 zC4 zC5 hP3 hB3 hl3 hgal hAr hb3 hb4 hB2 hl2 hP2 HSa hoa hkA hga
  go_wp2_with fail
  rw [← hw4'.out]
  refine (HSb.out B w4 hP4.out).mono ?_
  rintro e w5 ⟨gb, kb, rfl, hgb, hob, hb5⟩
  have zE0 := (hb5.cell (p := ⟨w.heap.size, 0, none⟩) (by show w.heap.size < _; omega)).trans zD0
  have zE1 := (hb5.cell (p := ⟨w.heap.size, 1, none⟩) (by show w.heap.size < _; omega)).trans zD1
  have zE2 := (hb5.cell (p := ⟨w.heap.size, 2, none⟩) (by show w.heap.size < _; omega)).trans zD2
  have zE3 := (hb5.cell (p := ⟨w.heap.size + 1, 0, none⟩) (by show w.heap.size + 1 < _; omega)).trans zD3
  have zE4 := (hb5.cell (p := ⟨w.heap.size + 1, 1, none⟩) (by show w.heap.size + 1 < _; omega)).trans zD4
  have zE5 := (hb5.cell (p := ⟨w.heap.size + 1, 2, none⟩) (by show w.heap.size + 1 < _; omega)).trans zD5
  have hB5 : Below w.heap.size w w5 := hB4.out.trans (hb5.mono hB4.out.size)
  have hl5 : w.heap.size + 2 ≤ w5.heap.size := Nat.le_trans hl4 hb5.size
  have hgbl := (World.ownsRow.lt hob gb rfl).2
  have hkB := own_cap hob
  have hBr : RdAt w5 (.slice (some ⟨gb, 4, none⟩) 12 (kb - 4)) LY := by rw [← hdB.out]; exact own_drop hob (by decide) hkB.1
  have hAr5 := rd_below hAr4.out hb5
  have hgal5 : ga < w5.heap.size := Nat.lt_of_lt_of_le hgal4 hb5.size
  obtain ⟨w7, hw7⟩ : ∃ w7, w7 = (w5.alloc (.cells #[.int .u8 0, .int .u16 0, .int .u64 0, .bool false, .int .i64 0, .int .i64 0, .bool false, .bool false] 42)).alloc (.cells #[.int .u8 0, .int .u8 0, .int .u8 0, .int .u8 0] 5) := ⟨_, rfl⟩
  have hs7 : w7.heap.size = w5.heap.size + 2 := by rw [hw7]; simp
  have hb7 : Below w5.heap.size w5 w7 := by rw [hw7]; exact ((Below.refl _ _).alloc (Nat.le_refl _) _).alloc (by simp) _
  have hoh : w7.ownsRow (w5.heap.size + 1) 5 1 (.slice (some ⟨w5.heap.size + 1, 0, none⟩) 4 4) 4 (cels h4) := by rw [hw7]; exact own_alloc (w5.alloc _) (w5.heap.size + 1) 4 (w5.heap.size + 1) h4 (by simp) rfl (by decide) (Nat.le_refl _)
  have zF0 := (hb7.cell (p := ⟨w.heap.size, 0, none⟩) (by show w.heap.size < _; omega)).trans zE0
  have zF1 := (hb7.cell (p := ⟨w.heap.size, 1, none⟩) (by show w.heap.size < _; omega)).trans zE1
  have zF2 := (hb7.cell (p := ⟨w.heap.size, 2, none⟩) (by show w.heap.size < _; omega)).trans zE2
  have zF3 := (hb7.cell (p := ⟨w.heap.size + 1, 0, none⟩) (by show w.heap.size + 1 < _; omega)).trans zE3
  have zF4 := (hb7.cell (p := ⟨w.heap.size + 1, 1, none⟩) (by show w.heap.size + 1 < _; omega)).trans zE4
  have zF5 := (hb7.cell (p := ⟨w.heap.size + 1, 2, none⟩) (by show w.heap.size + 1 < _; omega)).trans zE5
  have hhr := Kpt.mk (own_rd hoh)
  have hAr7 := Kpt.mk (rd_below hAr5 hb7)
  have hBr7 := Kpt.mk (rd_below hBr hb7)
  have hB7 : Kpt (Below w.heap.size w w7) := ⟨hB5.trans (hb7.mono hB5.size)⟩
  have hl7 : w.heap.size + 2 ≤ w7.heap.size := by omega
  have hgal7 : ga < w7.heap.size := by omega
  have hgbl7 : gb < w7.heap.size := by omega
  have hkb : ¬ kb = 4 ∧ 16 ≤ kb := by omega
  have hw7' := Kpt.mk hw7
  clear hw7 zD0 zD1 zD2 zD3 zD4 zD5 zE0 zE1 zE2 zE3 zE4 zE5 hB5 hl5 hgbl hkB hBr hAr5 hgal5 hb7 hb5 hoh hob hgb hAr4 hgal4 hP4 hB4 hl4 HSb
  obtain ⟨hka1, hka2⟩ := hka
  obtain ⟨hkb1, hkb2⟩ := hkb
  go_wp2_with (first
    | (refine wpList_append_new rfl (.tmp 79) (.tmp 80) rfl w7.heap.size _ _ (h4 ++ LX) LY 24 36 rfl rfl ho9.out hy9.out (by rw [hYl.out]; decide) (by rw [List.length_append, hXl.out]; rfl) (by rw [hYl.out]) (by decide) hb9.out.size ?_; intro gt0 kt wT hoT hlT hgT; have hbT : Below w7.heap.size w7 wT := hb9.out.grown hgT.out hb9.out.size (fun q hq => by cases hq; exact hl9.out.1); have zG0 := (hbT.cell (p := ⟨w.heap.size, 0, none⟩) (by show w.heap.size < _; omega)).trans zF0; have zG1 := (hbT.cell (p := ⟨w.heap.size, 1, none⟩) (by show w.heap.size < _; omega)).trans zF1; have zG2 := (hbT.cell (p := ⟨w.heap.size, 2, none⟩) (by show w.heap.size < _; omega)).trans zF2; have zG3 := (hbT.cell (p := ⟨w.heap.size + 1, 0, none⟩) (by show w.heap.size + 1 < _; omega)).trans zF3; have zG4 := (hbT.cell (p := ⟨w.heap.size + 1, 1, none⟩) (by show w.heap.size + 1 < _; omega)).trans zF4; have zG5 := (hbT.cell (p := ⟨w.heap.size + 1, 2, none⟩) (by show w.heap.size + 1 < _; omega)).trans zF5; replace hbT := Kpt.mk hbT; clear hgT hy9 ho9 hb9)
    | (refine wpList_append_new rfl (.tmp 76) (.tmp 77) rfl w7.heap.size _ _ h4 LX 4 24 rfl rfl ho8.out hx8.out (by rw [hXl.out]; decide) rfl (by rw [hXl.out]) (by decide) hb8.out.size ?_; intro g9 k9 w9 ho9 hl9 hg9; have hb9 : Kpt (Below w7.heap.size w7 w9) := ⟨hb8.out.grown hg9.out hb8.out.size (fun q hq => by cases hq; exact hl8.out.1)⟩; have hy9 := Kpt.mk (rd_below hBr7.out hb9.out); clear hg9 hx8 ho8 hb8)
    | (refine wpList_append_new rfl (.tmp 73) (.tmp 74) rfl w7.heap.size (.slice none 0 0) _ [] h4 0 4 rfl rfl (World.ownsRow_nil _ _ 5 1) (by rw [← hw7'.out]; exact hhr.out) (by decide) rfl rfl (by decide) (by rw [← hw7'.out]; exact Nat.le_refl _) ?_; intro g8 k8 w8 ho8 hl8 hg8; rw [← hw7'.out] at hg8; have hb8 : Kpt (Below w7.heap.size w7 w8) := ⟨(Below.refl _ _).grown hg8.out (Nat.le_refl _) (fun q hq => by cases hq)⟩; have hx8 := Kpt.mk (rd_below hAr7.out hb8.out); clear hg8))
  clear zF0 zF1 zF2 zF3 zF4 zF5 hw7' hhr
  have hlT' := hlT.out
  have hBT : Kpt (Below w.heap.size w wT) := ⟨hB7.out.trans (hbT.out.mono (by omega))⟩
  have hAT := rd_below hAr7.out hbT.out
  have hBT2 := rd_below hBr7.out hbT.out
  have hsT : w7.heap.size ≤ wT.heap.size := hbT.out.size
  have hkT := own_cap hoT.out
  refine (HNv.out wT).mono ?_
  rintro e wU ⟨M, rfl, hM, hPU, hbU⟩
  have zH0 := (hbU.cell (p := ⟨w.heap.size, 0, none⟩) (by show w.heap.size < _; omega)).trans zG0
  have zH1 := (hbU.cell (p := ⟨w.heap.size, 1, none⟩) (by show w.heap.size < _; omega)).trans zG1
  have zH2 := (hbU.cell (p := ⟨w.heap.size, 2, none⟩) (by show w.heap.size < _; omega)).trans zG2
  have zH3 := (hbU.cell (p := ⟨w.heap.size + 1, 0, none⟩) (by show w.heap.size + 1 < _; omega)).trans zG3
  have zH4 := (hbU.cell (p := ⟨w.heap.size + 1, 1, none⟩) (by show w.heap.size + 1 < _; omega)).trans zG4
  have zH5 := (hbU.cell (p := ⟨w.heap.size + 1, 2, none⟩) (by show w.heap.size + 1 < _; omega)).trans zG5
  have hBU : Kpt (Below w.heap.size w wU) := ⟨hBT.out.trans (hbU.mono hBT.out.size)⟩
  have hAU := rd_below hAT hbU
  have hBU2 := rd_below hBT2 hbU
  have hsU : wT.heap.size ≤ wU.heap.size := hbU.size
  have hclU : Cl wU gt0 0 (h4 ++ LX ++ LY) := fun j hj => by
    rw [Nat.zero_add]
    exact (hbU.cell (p := ⟨gt0, j, none⟩) hlT'.2).trans (own_facts hoT.out j (by rw [List.length_append, List.length_append, hXl.out, hYl.out] at hj; exact hj))
  clear zG0 zG1 zG2 zG3 zG4 zG5 hbU hBT hAT hBT2 hbT hAr7 hBr7 hoT hB7
  replace hPU := Kpt.mk hPU
  go_wp2_with fail
  refine (H1.out M gt0 kt wU hPU.out hclU hkT.1 hkT.2 (by omega)).mono ?_
  rintro e wV ⟨rfl, hPV, hgV⟩
  have zI0 := (far_cell hgV ⟨w.heap.size, 0, none⟩ (by show w.heap.size < _; omega) (fun e => by have e' : M = w.heap.size := Option.some.inj e; omega)).trans zH0
  have zI1 := (far_cell hgV ⟨w.heap.size, 1, none⟩ (by show w.heap.size < _; omega) (fun e => by have e' : M = w.heap.size := Option.some.inj e; omega)).trans zH1
  have zI2 := (far_cell hgV ⟨w.heap.size, 2, none⟩ (by show w.heap.size < _; omega) (fun e => by have e' : M = w.heap.size := Option.some.inj e; omega)).trans zH2
  have zI3 := (far_cell hgV ⟨w.heap.size + 1, 0, none⟩ (by show w.heap.size + 1 < _; omega) (fun e => by have e' : M = w.heap.size + 1 := Option.some.inj e; omega)).trans zH3
  have zI4 := (far_cell hgV ⟨w.heap.size + 1, 1, none⟩ (by show w.heap.size + 1 < _; omega) (fun e => by have e' : M = w.heap.size + 1 := Option.some.inj e; omega)).trans zH4
  have zI5 := (far_cell hgV ⟨w.heap.size + 1, 2, none⟩ (by show w.heap.size + 1 < _; omega) (fun e => by have e' : M = w.heap.size + 1 := Option.some.inj e; omega)).trans zH5
  have hBV : Below w.heap.size w wV := hBU.out.grown hgV hBU.out.size (fun q hq => by cases hq; omega)
  have hAV := hAU.of_block (w' := wV) (fun q hq => by cases hq; exact hgV.block ga (by omega) (fun e => by have e' : ga = M := Option.some.inj e; omega))
  have hBV2 := hBU2.of_block (w' := wV) (fun q hq => by cases hq; exact hgV.block gb (by omega) (fun e => by have e' : gb = M := Option.some.inj e; omega))
  have hsV : wU.heap.size ≤ wV.heap.size := hgV.size
  obtain ⟨wW, hwW⟩ : ∃ W, W = wV.alloc (.cells #[.int .u8 0, .int .u16 0, .int .u64 0, .bool false, .int .i64 0, .int .i64 0, .bool false, .bool false] 42) := ⟨_, rfl⟩
  have hbW : Below wV.heap.size wV wW := by rw [hwW]; exact (Below.refl _ _).alloc (Nat.le_refl _) _
  have zJ0 := (hbW.cell (p := ⟨w.heap.size, 0, none⟩) (by show w.heap.size < _; omega)).trans zI0
  have zJ1 := (hbW.cell (p := ⟨w.heap.size, 1, none⟩) (by show w.heap.size < _; omega)).trans zI1
  have zJ2 := (hbW.cell (p := ⟨w.heap.size, 2, none⟩) (by show w.heap.size < _; omega)).trans zI2
  have zJ3 := (hbW.cell (p := ⟨w.heap.size + 1, 0, none⟩) (by show w.heap.size + 1 < _; omega)).trans zI3
  have zJ4 := (hbW.cell (p := ⟨w.heap.size + 1, 1, none⟩) (by show w.heap.size + 1 < _; omega)).trans zI4
  have zJ5 := (hbW.cell (p := ⟨w.heap.size + 1, 2, none⟩) (by show w.heap.size + 1 < _; omega)).trans zI5
  have hBW : Kpt (Below w.heap.size w wW) := ⟨hBV.trans (hbW.mono hBV.size)⟩
  have hAW := rd_below hAV hbW
  have hBW2 := rd_below hBV2 hbW
  have hPW := hPV.below' hbW
  have hsW : wV.heap.size ≤ wW.heap.size := hbW.size
  have hMl : M < wW.heap.size := hPW.lt
  have x0 : (wV.alloc (.cells #[.int .u8 0, .int .u16 0, .int .u64 0, .bool false, .int .i64 0, .int .i64 0, .bool false, .bool false] 42)).cell? ⟨w.heap.size, 0, none⟩ = some (.bool va) := by rw [← hwW]; exact zJ0
  have x1 : (wV.alloc (.cells #[.int .u8 0, .int .u16 0, .int .u64 0, .bool false, .int .i64 0, .int .i64 0, .bool false, .bool false] 42)).cell? ⟨w.heap.size, 1, none⟩ = some (.bool vb) := by rw [← hwW]; exact zJ1
  have x2 : (wV.alloc (.cells #[.int .u8 0, .int .u16 0, .int .u64 0, .bool false, .int .i64 0, .int .i64 0, .bool false, .bool false] 42)).cell? ⟨w.heap.size, 2, none⟩ = some (.bool vc) := by rw [← hwW]; exact zJ2
  have hwW' := Kpt.mk hwW
  clear hwW zH0 zH1 zH2 zH3 zH4 zH5 zI0 zI1 zI2 zI3 zI4 zI5 hBV hAV hBV2 hgV hPV hbW hBU hAU hBU2 hclU hPU H1
  replace hPW := Kpt.mk hPW
  go_wp2_with fail
  rw [← hwW'.out]
  refine (HNv.out wW).mono ?_
  rintro e wX ⟨N, rfl, hN, hPX, hbX⟩
  have zK0 := (hbX.cell (p := ⟨w.heap.size, 0, none⟩) (by show w.heap.size < _; omega)).trans zJ0
  have zK1 := (hbX.cell (p := ⟨w.heap.size, 1, none⟩) (by show w.heap.size < _; omega)).trans zJ1
  have zK2 := (hbX.cell (p := ⟨w.heap.size, 2, none⟩) (by show w.heap.size < _; omega)).trans zJ2
  have zK3 := (hbX.cell (p := ⟨w.heap.size + 1, 0, none⟩) (by show w.heap.size + 1 < _; omega)).trans zJ3
  have zK4 := (hbX.cell (p := ⟨w.heap.size + 1, 1, none⟩) (by show w.heap.size + 1 < _; omega)).trans zJ4
  have zK5 := (hbX.cell (p := ⟨w.heap.size + 1, 2, none⟩) (by show w.heap.size + 1 < _; omega)).trans zJ5
  have hBX : Kpt (Below w.heap.size w wX) := ⟨hBW.out.trans (hbX.mono hBW.out.size)⟩
  have hAX := rd_below hAW hbX
  have hBX2 := rd_below hBW2 hbX
  have hMX := hPW.out.below' hbX
  have hsX : wW.heap.size ≤ wX.heap.size := hbX.size
  have hNl : N < wX.heap.size := hPX.lt
  obtain ⟨wY, hwY⟩ : ∃ W, W = wX.alloc (.cells #[.int .u8 0, .int .u8 0, .int .u8 0, .int .u8 0] 5) := ⟨_, rfl⟩
  have hbY : Below wX.heap.size wX wY := by rw [hwY]; exact (Below.refl _ _).alloc (Nat.le_refl _) _
  have hoY : Kpt (wY.ownsRow wX.heap.size 5 1 (.slice (some ⟨wX.heap.size, 0, none⟩) 4 4) 4 (cels h4)) := ⟨by rw [hwY]; exact own_alloc wX wX.heap.size 4 wX.heap.size h4 rfl rfl (by decide) (Nat.le_refl _)⟩
  have hsY : wY.heap.size = wX.heap.size + 1 := by rw [hwY]; simp
  have hAY := rd_below hAX hbY
  have hBY2 := rd_below hBX2 hbY
  have hRX := Kpt.mk hAY
  have hwY' := Kpt.mk hwY
  clear hwY x0 x1 x2 hwW' hbX hAW hBW2 hBW hPW HNv zJ0 zJ1 zJ2 zJ3 zJ4 zJ5
  go_wp2_with (refine wpList_append_new rfl (.tmp 97) (.tmp 98) rfl wX.heap.size _ _ h4 LX 4 24 rfl rfl (by rw [← hwY'.out]; exact hoY.out) (by rw [← hwY'.out]; exact hRX.out) (by rw [hXl.out]; decide) rfl (by rw [hXl.out]) (by decide) (by rw [← hwY'.out]; omega) ?_; intro g1 k1 wZ hoZ hlZ hgZ; rw [← hwY'.out] at hgZ)
  have hbZ : Below wX.heap.size wX wZ := hbY.grown hgZ.out (by omega) (fun q hq => by cases hq; exact Nat.le_refl _)
  have zL0 := (hbZ.cell (p := ⟨w.heap.size, 0, none⟩) (by show w.heap.size < _; omega)).trans zK0
  have zL1 := (hbZ.cell (p := ⟨w.heap.size, 1, none⟩) (by show w.heap.size < _; omega)).trans zK1
  have zL2 := (hbZ.cell (p := ⟨w.heap.size, 2, none⟩) (by show w.heap.size < _; omega)).trans zK2
  have zL3 := (hbZ.cell (p := ⟨w.heap.size + 1, 0, none⟩) (by show w.heap.size + 1 < _; omega)).trans zK3
  have zL4 := (hbZ.cell (p := ⟨w.heap.size + 1, 1, none⟩) (by show w.heap.size + 1 < _; omega)).trans zK4
  have zL5 := (hbZ.cell (p := ⟨w.heap.size + 1, 2, none⟩) (by show w.heap.size + 1 < _; omega)).trans zK5
  have hBZ : Kpt (Below w.heap.size w wZ) := ⟨hBX.out.trans (hbZ.mono hBX.out.size)⟩
  have hAZ := rd_below hAX hbZ
  have hBZ2 := rd_below hBX2 hbZ
  have hMZ := hMX.below' hbZ
  have hNZ := hPX.below' hbZ
  have hsZ : wX.heap.size ≤ wZ.heap.size := hbZ.size
  have hlZ' := hlZ.out
  have hkZ := own_cap hoZ.out
  have hclZ : Cl wZ g1 0 (h4 ++ LX) := fun j hj => by
    rw [Nat.zero_add]
    exact own_facts hoZ.out j (by rw [List.length_append, hXl.out] at hj; exact hj)
  clear zK0 zK1 zK2 zK3 zK4 zK5 hbZ hgZ hoZ hoY hAY hBY2 hRX hwY' hbY hBX hAX hBX2 hMX hPX
  refine (H2.out N g1 k1 wZ hNZ hclZ hkZ.1 hkZ.2 hlZ'.2).mono ?_
  rintro e xA ⟨rfl, hNA, hgA⟩
  have zM0 := (far_cell hgA ⟨w.heap.size, 0, none⟩ (by show w.heap.size < _; omega) (fun e => by have e' : N = w.heap.size := Option.some.inj e; omega)).trans zL0
  have zM1 := (far_cell hgA ⟨w.heap.size, 1, none⟩ (by show w.heap.size < _; omega) (fun e => by have e' : N = w.heap.size := Option.some.inj e; omega)).trans zL1
  have zM2 := (far_cell hgA ⟨w.heap.size, 2, none⟩ (by show w.heap.size < _; omega) (fun e => by have e' : N = w.heap.size := Option.some.inj e; omega)).trans zL2
  have zM3 := (far_cell hgA ⟨w.heap.size + 1, 0, none⟩ (by show w.heap.size + 1 < _; omega) (fun e => by have e' : N = w.heap.size + 1 := Option.some.inj e; omega)).trans zL3
  have zM4 := (far_cell hgA ⟨w.heap.size + 1, 1, none⟩ (by show w.heap.size + 1 < _; omega) (fun e => by have e' : N = w.heap.size + 1 := Option.some.inj e; omega)).trans zL4
  have zM5 := (far_cell hgA ⟨w.heap.size + 1, 2, none⟩ (by show w.heap.size + 1 < _; omega) (fun e => by have e' : N = w.heap.size + 1 := Option.some.inj e; omega)).trans zL5
  have hBA : Below w.heap.size w xA := hBZ.out.grown hgA hBZ.out.size (fun q hq => by cases hq; omega)
  have hAA := hAZ.of_block (w' := xA) (fun q hq => by cases hq; exact hgA.block ga (by omega) (fun e => by have e' : ga = N := Option.some.inj e; omega))
  have hBA2 := hBZ2.of_block (w' := xA) (fun q hq => by cases hq; exact hgA.block gb (by omega) (fun e => by have e' : gb = N := Option.some.inj e; omega))
  have hMA := hMZ.grown hgA (fun e => by have e' : N = M := Option.some.inj e; omega)
  have hsA : wZ.heap.size ≤ xA.heap.size := hgA.size
  obtain ⟨xB, hxB⟩ : ∃ W, W = (xA.alloc (.cells #[.int .u8 0, .int .u16 0, .int .u64 0, .bool false, .int .i64 0, .int .i64 0, .bool false, .bool false] 42)).alloc (.cells #[.int .u8 0, .int .u8 0, .int .u8 0, .int .u8 0] 5) := ⟨_, rfl⟩
  have hbB : Below xA.heap.size xA xB := by rw [hxB]; exact ((Below.refl _ _).alloc (Nat.le_refl _) _).alloc (by simp) _
  have hsB : xB.heap.size = xA.heap.size + 2 := by rw [hxB]; simp
  have hoB : Kpt (xB.ownsRow (xA.heap.size + 1) 5 1 (.slice (some ⟨xA.heap.size + 1, 0, none⟩) 4 4) 4 (cels h4)) := ⟨by rw [hxB]; exact own_alloc (xA.alloc _) (xA.heap.size + 1) 4 (xA.heap.size + 1) h4 (by simp) rfl (by decide) (Nat.le_refl _)⟩
  have hAB := rd_below hAA hbB
  have hBB2 := rd_below hBA2 hbB
  have hRY := Kpt.mk hBB2
  have hxB' := Kpt.mk hxB
  clear hxB hMZ hNZ hclZ hBZ hAZ hBZ2 H2 zL0 zL1 zL2 zL3 zL4 zL5
  go_wp2_with (refine wpList_append_new rfl (.tmp 107) (.tmp 108) rfl (xA.heap.size + 1) _ _ h4 LY 4 16 rfl rfl (by rw [← hxB'.out]; exact hoB.out) (by rw [← hxB'.out]; exact hRY.out) (by rw [hYl.out]; decide) rfl (by rw [hYl.out]) (by decide) (by rw [← hxB'.out]; omega) ?_; intro g2 k2 xC hoC hlC hgC; rw [← hxB'.out] at hgC)
  have hbC : Below xA.heap.size xA xC := hbB.grown hgC.out (by omega) (fun q hq => by cases hq; exact Nat.le_succ _)
  have zN0 := (hbC.cell (p := ⟨w.heap.size, 0, none⟩) (by show w.heap.size < _; omega)).trans zM0
  have zN1 := (hbC.cell (p := ⟨w.heap.size, 1, none⟩) (by show w.heap.size < _; omega)).trans zM1
  have zN2 := (hbC.cell (p := ⟨w.heap.size, 2, none⟩) (by show w.heap.size < _; omega)).trans zM2
  have zN3 := (hbC.cell (p := ⟨w.heap.size + 1, 0, none⟩) (by show w.heap.size + 1 < _; omega)).trans zM3
  have zN4 := (hbC.cell (p := ⟨w.heap.size + 1, 1, none⟩) (by show w.heap.size + 1 < _; omega)).trans zM4
  have zN5 := (hbC.cell (p := ⟨w.heap.size + 1, 2, none⟩) (by show w.heap.size + 1 < _; omega)).trans zM5
  have hBC : Kpt (Below w.heap.size w xC) := ⟨hBA.trans (hbC.mono hBA.size)⟩
  have hMC := hMA.below' hbC
  have hNC := hNA.below' hbC
  have hsC : xA.heap.size ≤ xC.heap.size := hbC.size
  have hlC' := hlC.out
  have hkC := own_cap hoC.out
  have hclC : Cl xC g2 0 (h4 ++ LY) := fun j hj => by
    rw [Nat.zero_add]
    exact own_facts hoC.out j (by rw [List.length_append, hYl.out] at hj; exact hj)
  clear zM0 zM1 zM2 zM3 zM4 zM5 hbC hgC hoC hoB hAB hBB2 hRY hxB' hbB hBA hAA hBA2 hMA hNA hgA
  refine (H3.out N g2 k2 xC hNC hclC hkC.1 hkC.2 hlC'.2).mono ?_
  rintro e xD ⟨rfl, hND, hgD⟩
  have zO0 := (far_cell hgD ⟨w.heap.size, 0, none⟩ (by show w.heap.size < _; omega) (fun e => by have e' : N = w.heap.size := Option.some.inj e; omega)).trans zN0
  have zO1 := (far_cell hgD ⟨w.heap.size, 1, none⟩ (by show w.heap.size < _; omega) (fun e => by have e' : N = w.heap.size := Option.some.inj e; omega)).trans zN1
  have zO2 := (far_cell hgD ⟨w.heap.size, 2, none⟩ (by show w.heap.size < _; omega) (fun e => by have e' : N = w.heap.size := Option.some.inj e; omega)).trans zN2
  have zO3 := (far_cell hgD ⟨w.heap.size + 1, 0, none⟩ (by show w.heap.size + 1 < _; omega) (fun e => by have e' : N = w.heap.size + 1 := Option.some.inj e; omega)).trans zN3
  have zO4 := (far_cell hgD ⟨w.heap.size + 1, 1, none⟩ (by show w.heap.size + 1 < _; omega) (fun e => by have e' : N = w.heap.size + 1 := Option.some.inj e; omega)).trans zN4
  have zO5 := (far_cell hgD ⟨w.heap.size + 1, 2, none⟩ (by show w.heap.size + 1 < _; omega) (fun e => by have e' : N = w.heap.size + 1 := Option.some.inj e; omega)).trans zN5
  have hBD : Below w.heap.size w xD := hBC.out.grown hgD hBC.out.size (fun q hq => by cases hq; omega)
  have hMD := hMC.grown hgD (fun e => by have e' : N = M := Option.some.inj e; omega)
  have hsD : xC.heap.size ≤ xD.heap.size := hgD.size
  clear hMC hNC hclC hBC hgD H3 zN0 zN1 zN2 zN3 zN4 zN5
  go_wp2_with fail
  obtain ⟨wB, hwB⟩ : ∃ W, W = xD.alloc (.cells #[.int .u8 0, .int .u16 0, .int .u64 0, .bool false, .int .i64 0, .int .i64 0, .bool false, .bool false] 42) := ⟨_, rfl⟩
  have hbB : Below xD.heap.size xD wB := by rw [hwB]; exact (Below.refl _ _).alloc (Nat.le_refl _) _
  rw [← hwB]
  have zP0 := (hbB.cell (p := ⟨w.heap.size, 0, none⟩) (by show w.heap.size < _; omega)).trans zO0
  have zP1 := (hbB.cell (p := ⟨w.heap.size, 1, none⟩) (by show w.heap.size < _; omega)).trans zO1
  have zP2 := (hbB.cell (p := ⟨w.heap.size, 2, none⟩) (by show w.heap.size < _; omega)).trans zO2
  have zP3 := (hbB.cell (p := ⟨w.heap.size + 1, 0, none⟩) (by show w.heap.size + 1 < _; omega)).trans zO3
  have zP4 := (hbB.cell (p := ⟨w.heap.size + 1, 1, none⟩) (by show w.heap.size + 1 < _; omega)).trans zO4
  have zP5 := (hbB.cell (p := ⟨w.heap.size + 1, 2, none⟩) (by show w.heap.size + 1 < _; omega)).trans zO5
  have hPM := hMD.below' hbB
  have hPN := hND.below' hbB
  have hBB' : Kpt (Below w.heap.size w wB) := ⟨hBD.trans (hbB.mono hBD.size)⟩
  have hlB : w.heap.size + 2 ≤ wB.heap.size := by have := hbB.size; omega
  have carry : Kpt (∀ W, Below wB.heap.size wB W → (Pg W M ⟨ua, ub, uc⟩ ⟨va, vb, vc⟩ ∧ Pg W N ⟨ua, ub, uc⟩ ⟨va, vb, vc⟩ ∧ W.cell? ⟨w.heap.size, 0, none⟩ = some (.bool va) ∧ W.cell? ⟨w.heap.size, 1, none⟩ = some (.bool vb) ∧ W.cell? ⟨w.heap.size, 2, none⟩ = some (.bool vc) ∧ W.cell? ⟨w.heap.size + 1, 0, none⟩ = some (.bool ua) ∧ W.cell? ⟨w.heap.size + 1, 1, none⟩ = some (.bool ub) ∧ W.cell? ⟨w.heap.size + 1, 2, none⟩ = some (.bool uc))) := ⟨fun W h => ⟨hPM.below' h, hPN.below' h, (h.cell (p := ⟨w.heap.size, 0, none⟩) (by show w.heap.size < _; omega)).trans zP0, (h.cell (p := ⟨w.heap.size, 1, none⟩) (by show w.heap.size < _; omega)).trans zP1, (h.cell (p := ⟨w.heap.size, 2, none⟩) (by show w.heap.size < _; omega)).trans zP2, (h.cell (p := ⟨w.heap.size + 1, 0, none⟩) (by show w.heap.size + 1 < _; omega)).trans zP3, (h.cell (p := ⟨w.heap.size + 1, 1, none⟩) (by show w.heap.size + 1 < _; omega)).trans zP4, (h.cell (p := ⟨w.heap.size + 1, 2, none⟩) (by show w.heap.size + 1 < _; omega)).trans zP5⟩⟩
  clear hwB zO0 zO1 zO2 zO3 zO4 zO5 zP0 zP1 zP2 zP3 zP4 zP5 hbB hPM hPN hBD hMD hND
  have hnq := hnq.out
  have hes := hes.out
  cases hDv : D
  · have hcE : E = ch := by have := hDE.out; rw [hDv] at this; simpa using this
    subst hcE
    refine wp_region_any (by kernel_rfl) ?_
    refine wpAny_of_C (C := fun W => (Pg W M ⟨ua, ub, uc⟩ ⟨va, vb, vc⟩ ∧ Pg W N ⟨ua, ub, uc⟩ ⟨va, vb, vc⟩ ∧ W.cell? ⟨w.heap.size, 0, none⟩ = some (.bool va) ∧ W.cell? ⟨w.heap.size, 1, none⟩ = some (.bool vb) ∧ W.cell? ⟨w.heap.size, 2, none⟩ = some (.bool vc) ∧ W.cell? ⟨w.heap.size + 1, 0, none⟩ = some (.bool ua) ∧ W.cell? ⟨w.heap.size + 1, 1, none⟩ = some (.bool ub) ∧ W.cell? ⟨w.heap.size + 1, 2, none⟩ = some (.bool uc))) _ _ _ _ ?_
    refine wpAnyC_take 0 (.bool true) rfl (by kernel_rfl) (by kernel_rfl) (by kernel_rfl) (fun _ _ _ h => h) (wanted_free rfl _) (fun W hW => by go_simp) ?_
    simp only [Act.put, List.getElem_toArray, List.getElem_cons_succ, List.getElem_cons_zero, List.setIfInBounds_toArray, List.set_cons_succ, List.set_cons_zero]
    refine wpAnyC_take 1 (.bool true) rfl (by kernel_rfl) (by kernel_rfl) (by kernel_rfl) (fun _ _ _ h => h) (wanted_free rfl _) (fun W hW => by go_simp) ?_
    simp only [Act.put, List.getElem_toArray, List.getElem_cons_succ, List.getElem_cons_zero, List.setIfInBounds_toArray, List.set_cons_succ, List.set_cons_zero]
    refine wpAnyC_take 2 (.bool true) rfl (by kernel_rfl) (by kernel_rfl) (by kernel_rfl) (fun _ _ _ h => h) (wanted_at true rfl rfl rfl rfl) (fun W hW => by go_simp) ?_
    simp only [Act.put, List.getElem_toArray, List.getElem_cons_succ, List.getElem_cons_zero, List.setIfInBounds_toArray, List.set_cons_succ, List.set_cons_zero]
    refine wpAnyC_take 3 (.bool true) rfl (by kernel_rfl) (by kernel_rfl) (by kernel_rfl) (fun _ _ _ h => h) (wanted_free rfl _) (fun W hW => by go_simp) ?_
    simp only [Act.put, List.getElem_toArray, List.getElem_cons_succ, List.getElem_cons_zero, List.setIfInBounds_toArray, List.set_cons_succ, List.set_cons_zero]
    refine wpAnyC_take 4 (.bool true) rfl (by kernel_rfl) (by kernel_rfl) (by kernel_rfl) (fun _ _ _ h => h) (wanted_free rfl _) (fun W hW => by go_simp) ?_
    simp only [Act.put, List.getElem_toArray, List.getElem_cons_succ, List.getElem_cons_zero, List.setIfInBounds_toArray, List.set_cons_succ, List.set_cons_zero]
    refine wpAnyC_take 5 (.bool true) rfl (by kernel_rfl) (by kernel_rfl) (by kernel_rfl) (fun _ _ _ h => h) (wanted_at true rfl rfl rfl rfl) (fun W hW => by go_simp) ?_
    simp only [Act.put, List.getElem_toArray, List.getElem_cons_succ, List.getElem_cons_zero, List.setIfInBounds_toArray, List.set_cons_succ, List.set_cons_zero]
    refine wpAnyC_take 6 (.bool true) rfl (by kernel_rfl) (by kernel_rfl) (by kernel_rfl) (fun _ _ _ h => h) (wanted_free rfl _) (fun W hW => by go_simp) ?_
    simp only [Act.put, List.getElem_toArray, List.getElem_cons_succ, List.getElem_cons_zero, List.setIfInBounds_toArray, List.set_cons_succ, List.set_cons_zero]
    refine wpAnyC_take 7 (.bool true) rfl (by kernel_rfl) (by kernel_rfl) (by kernel_rfl) (fun _ _ _ h => h) (wanted_free rfl _) (fun W hW => by go_simp) ?_
    simp only [Act.put, List.getElem_toArray, List.getElem_cons_succ, List.getElem_cons_zero, List.setIfInBounds_toArray, List.set_cons_succ, List.set_cons_zero]
    refine wpAnyC_take 8 (.pointer (some ⟨M, 0, none⟩)) rfl (by kernel_rfl) (by kernel_rfl) (by kernel_rfl) (fun _ _ _ h => h) (wanted_at true rfl rfl rfl rfl) (fun W hW => by go_simp) ?_
    simp only [Act.put, List.getElem_toArray, List.getElem_cons_succ, List.getElem_cons_zero, List.setIfInBounds_toArray, List.set_cons_succ, List.set_cons_zero]
    refine wpAnyC_take 10 (.agg #[.bool ua, .bool ub, .bool uc]) rfl (by kernel_rfl) (by kernel_rfl) (by kernel_rfl) (fun _ _ _ h => h) (wanted_at true rfl rfl rfl rfl) (fun W hW => by obtain ⟨_, _, _, _, _, y0, y1, y2⟩ := hW; go_simp) ?_
    simp only [Act.put, List.getElem_toArray, List.getElem_cons_succ, List.getElem_cons_zero, List.setIfInBounds_toArray, List.set_cons_succ, List.set_cons_zero]
    refine wpAnyC_one 9 (carry.out _ (below_drew _)) rfl (by kernel_rfl) (wanted_at true rfl rfl rfl rfl) (fun KA hKA => ?_)
    go_simp
    refine (now_any M ⟨ua, ub, uc⟩ ⟨va, vb, vc⟩ _ (carry.out _ (below_drew _)).1).mono ?_
    rintro e wC ⟨rfl, hbC⟩
    replace hbC := below_undrew hbC
    rw [show Vs.vals ⟨ua, ub, uc⟩ = #[.bool ua, .bool ub, .bool uc] from rfl]
    refine hKA _ _ ?_
    clear hKA KA
    try simp only [Act.put, List.getElem_toArray, List.getElem_cons_succ, List.getElem_cons_zero, List.setIfInBounds_toArray, List.set_cons_succ, List.set_cons_zero]
    refine wpAnyC_take 11 (.bool true) rfl (by kernel_rfl) (by kernel_rfl) (by kernel_rfl) (fun _ _ _ h => h) (wanted_at true rfl rfl rfl rfl) (fun W hW => by go_simp) ?_
    simp only [Act.put, List.getElem_toArray, List.getElem_cons_succ, List.getElem_cons_zero, List.setIfInBounds_toArray, List.set_cons_succ, List.set_cons_zero]
    refine wpAnyC_take 12 (.bool true) rfl (by kernel_rfl) (by kernel_rfl) (by kernel_rfl) (fun _ _ _ h => h) (wanted_free rfl _) (fun W hW => by go_simp) ?_
    simp only [Act.put, List.getElem_toArray, List.getElem_cons_succ, List.getElem_cons_zero, List.setIfInBounds_toArray, List.set_cons_succ, List.set_cons_zero]
    refine wpAnyC_take 13 (.bool true) rfl (by kernel_rfl) (by kernel_rfl) (by kernel_rfl) (fun _ _ _ h => h) (wanted_free rfl _) (fun W hW => by go_simp) ?_
    simp only [Act.put, List.getElem_toArray, List.getElem_cons_succ, List.getElem_cons_zero, List.setIfInBounds_toArray, List.set_cons_succ, List.set_cons_zero]
    refine wpAnyC_take 14 (.pointer (some ⟨N, 0, none⟩)) rfl (by kernel_rfl) (by kernel_rfl) (by kernel_rfl) (fun _ _ _ h => h) (wanted_at true rfl rfl rfl rfl) (fun W hW => by go_simp) ?_
    simp only [Act.put, List.getElem_toArray, List.getElem_cons_succ, List.getElem_cons_zero, List.setIfInBounds_toArray, List.set_cons_succ, List.set_cons_zero]
    refine wpAnyC_take 16 (.agg #[.bool ua, .bool ub, .bool uc]) rfl (by kernel_rfl) (by kernel_rfl) (by kernel_rfl) (fun _ _ _ h => h) (wanted_at true rfl rfl rfl rfl) (fun W hW => by obtain ⟨_, _, _, _, _, y0, y1, y2⟩ := hW; go_simp) ?_
    simp only [Act.put, List.getElem_toArray, List.getElem_cons_succ, List.getElem_cons_zero, List.setIfInBounds_toArray, List.set_cons_succ, List.set_cons_zero]
    refine wpAnyC_one 15 (carry.out _ hbC) rfl (by kernel_rfl) (wanted_at true rfl rfl rfl rfl) (fun KA hKA => ?_)
    go_simp
    refine (now_any N ⟨ua, ub, uc⟩ ⟨va, vb, vc⟩ _ (carry.out _ hbC).2.1).mono ?_
    rintro e wD ⟨rfl, hbD⟩
    replace hbD : Below wB.heap.size wB wD := hbC.trans (hbD.mono hbC.size)
    rw [show Vs.vals ⟨ua, ub, uc⟩ = #[.bool ua, .bool ub, .bool uc] from rfl]
    refine hKA _ _ ?_
    clear hKA KA
    try simp only [Act.put, List.getElem_toArray, List.getElem_cons_succ, List.getElem_cons_zero, List.setIfInBounds_toArray, List.set_cons_succ, List.set_cons_zero]
    refine wpAnyC_take 17 (.bool true) rfl (by kernel_rfl) (by kernel_rfl) (by kernel_rfl) (fun _ _ _ h => h) (wanted_at true rfl rfl rfl rfl) (fun W hW => by go_simp) ?_
    simp only [Act.put, List.getElem_toArray, List.getElem_cons_succ, List.getElem_cons_zero, List.setIfInBounds_toArray, List.set_cons_succ, List.set_cons_zero]
    refine wpAnyC_take 18 (.bool true) rfl (by kernel_rfl) (by kernel_rfl) (by kernel_rfl) (fun _ _ _ h => h) (wanted_free rfl _) (fun W hW => by go_simp) ?_
    simp only [Act.put, List.getElem_toArray, List.getElem_cons_succ, List.getElem_cons_zero, List.setIfInBounds_toArray, List.set_cons_succ, List.set_cons_zero]
    refine wpAnyC_take 19 (.bool true) rfl (by kernel_rfl) (by kernel_rfl) (by kernel_rfl) (fun _ _ _ h => h) (wanted_free rfl _) (fun W hW => by go_simp) ?_
    simp only [Act.put, List.getElem_toArray, List.getElem_cons_succ, List.getElem_cons_zero, List.setIfInBounds_toArray, List.set_cons_succ, List.set_cons_zero]
    refine wpAnyC_take 20 (.bool E) rfl (by kernel_rfl) (by kernel_rfl) (by kernel_rfl) (fun _ _ _ h => h) (wanted_at true rfl rfl rfl rfl) (fun W hW => by go_simp) ?_
    simp only [Act.put, List.getElem_toArray, List.getElem_cons_succ, List.getElem_cons_zero, List.setIfInBounds_toArray, List.set_cons_succ, List.set_cons_zero]
    refine wpAnyC_take 21 (.agg #[.bool va, .bool vb, .bool vc]) rfl (by kernel_rfl) (by kernel_rfl) (by kernel_rfl) (fun _ _ _ h => h) (wanted_at true rfl rfl rfl rfl) (fun W hW => by obtain ⟨_, _, y0, y1, y2, _⟩ := hW; go_simp) ?_
    simp only [Act.put, List.getElem_toArray, List.getElem_cons_succ, List.getElem_cons_zero, List.setIfInBounds_toArray, List.set_cons_succ, List.set_cons_zero]
    refine wpAnyC_take 22 (.agg #[.bool ua, .bool ub, .bool uc]) rfl (by kernel_rfl) (by kernel_rfl) (by kernel_rfl) (fun _ _ _ h => h) (wanted_at true rfl rfl rfl rfl) (fun W hW => by obtain ⟨_, _, _, _, _, y0, y1, y2⟩ := hW; go_simp) ?_
    simp only [Act.put, List.getElem_toArray, List.getElem_cons_succ, List.getElem_cons_zero, List.setIfInBounds_toArray, List.set_cons_succ, List.set_cons_zero]
    refine wpAnyC_take 23 (.bool E) rfl (by kernel_rfl) (by kernel_rfl) (by kernel_rfl) (fun _ _ _ h => h) (wanted_at true rfl rfl rfl rfl) (fun W hW => by go_simp) ?_
    simp only [Act.put, List.getElem_toArray, List.getElem_cons_succ, List.getElem_cons_zero, List.setIfInBounds_toArray, List.set_cons_succ, List.set_cons_zero]
    refine wpAnyC_take 24 (.bool true) rfl (by kernel_rfl) (by kernel_rfl) (by kernel_rfl) (fun _ _ _ h => h) (wanted_at true rfl rfl rfl rfl) (fun W hW => by go_simp) ?_
    simp only [Act.put, List.getElem_toArray, List.getElem_cons_succ, List.getElem_cons_zero, List.setIfInBounds_toArray, List.set_cons_succ, List.set_cons_zero]
    refine wpAnyC_take 25 (.bool true) rfl (by kernel_rfl) (by kernel_rfl) (by kernel_rfl) (fun _ _ _ h => h) (wanted_free rfl _) (fun W hW => by go_simp) ?_
    simp only [Act.put, List.getElem_toArray, List.getElem_cons_succ, List.getElem_cons_zero, List.setIfInBounds_toArray, List.set_cons_succ, List.set_cons_zero]
    refine wpAnyC_take 26 (.bool true) rfl (by kernel_rfl) (by kernel_rfl) (by kernel_rfl) (fun _ _ _ h => h) (wanted_free rfl _) (fun W hW => by go_simp) ?_
    simp only [Act.put, List.getElem_toArray, List.getElem_cons_succ, List.getElem_cons_zero, List.setIfInBounds_toArray, List.set_cons_succ, List.set_cons_zero]
    refine wpAnyC_take 27 (.bool false) rfl (by kernel_rfl) (by kernel_rfl) (by kernel_rfl) (fun _ _ _ h => h) (wanted_at true rfl rfl rfl rfl) (fun W hW => by go_simp) ?_
    simp only [Act.put, List.getElem_toArray, List.getElem_cons_succ, List.getElem_cons_zero, List.setIfInBounds_toArray, List.set_cons_succ, List.set_cons_zero]
    refine wpAnyC_take 28 (.bool false) rfl (by kernel_rfl) (by kernel_rfl) (by kernel_rfl) (fun _ _ _ h => h) (wanted_at true rfl rfl rfl rfl) (fun W hW => by go_simp) ?_
    simp only [Act.put, List.getElem_toArray, List.getElem_cons_succ, List.getElem_cons_zero, List.setIfInBounds_toArray, List.set_cons_succ, List.set_cons_zero]
    refine wpAnyC_take 29 (.bool E) rfl (by kernel_rfl) (by kernel_rfl) (by kernel_rfl) (fun _ _ _ h => h) (wanted_at false rfl rfl rfl rfl) (fun W hW => by go_simp) ?_
    simp only [Act.put, List.getElem_toArray, List.getElem_cons_succ, List.getElem_cons_zero, List.setIfInBounds_toArray, List.set_cons_succ, List.set_cons_zero]
    refine wpAnyC_take 30 (.bool E) rfl (by kernel_rfl) (by kernel_rfl) (by kernel_rfl) (fun _ _ _ h => h) (wanted_at true rfl rfl rfl rfl) (fun W hW => by go_simp) ?_
    simp only [Act.put, List.getElem_toArray, List.getElem_cons_succ, List.getElem_cons_zero, List.setIfInBounds_toArray, List.set_cons_succ, List.set_cons_zero]
    refine wpAnyC_take 31 (.agg #[.bool va, .bool vb, .bool vc]) rfl (by kernel_rfl) (by kernel_rfl) (by kernel_rfl) (fun _ _ _ h => h) (wanted_at true rfl rfl rfl rfl) (fun W hW => by obtain ⟨_, _, y0, y1, y2, _⟩ := hW; go_simp) ?_
    simp only [Act.put, List.getElem_toArray, List.getElem_cons_succ, List.getElem_cons_zero, List.setIfInBounds_toArray, List.set_cons_succ, List.set_cons_zero]
    refine wpAnyC_take 32 (.agg #[.bool ua, .bool ub, .bool uc]) rfl (by kernel_rfl) (by kernel_rfl) (by kernel_rfl) (fun _ _ _ h => h) (wanted_at true rfl rfl rfl rfl) (fun W hW => by obtain ⟨_, _, _, _, _, y0, y1, y2⟩ := hW; go_simp) ?_
    simp only [Act.put, List.getElem_toArray, List.getElem_cons_succ, List.getElem_cons_zero, List.setIfInBounds_toArray, List.set_cons_succ, List.set_cons_zero]
    refine wpAnyC_take 33 (.bool E) rfl (by kernel_rfl) (by kernel_rfl) (by kernel_rfl) (fun _ _ _ h => h) (wanted_at true rfl rfl rfl rfl) (fun W hW => by go_simp) ?_
    simp only [Act.put, List.getElem_toArray, List.getElem_cons_succ, List.getElem_cons_zero, List.setIfInBounds_toArray, List.set_cons_succ, List.set_cons_zero]
    refine wpAnyC_take 34 (.bool true) rfl (by kernel_rfl) (by kernel_rfl) (by kernel_rfl) (fun _ _ _ h => h) (wanted_at true rfl rfl rfl rfl) (fun W hW => by go_simp) ?_
    simp only [Act.put, List.getElem_toArray, List.getElem_cons_succ, List.getElem_cons_zero, List.setIfInBounds_toArray, List.set_cons_succ, List.set_cons_zero]
    refine wpAnyC_take 35 (.bool true) rfl (by kernel_rfl) (by kernel_rfl) (by kernel_rfl) (fun _ _ _ h => h) (wanted_free rfl _) (fun W hW => by go_simp) ?_
    simp only [Act.put, List.getElem_toArray, List.getElem_cons_succ, List.getElem_cons_zero, List.setIfInBounds_toArray, List.set_cons_succ, List.set_cons_zero]
    refine wpAnyC_take 36 (.bool true) rfl (by kernel_rfl) (by kernel_rfl) (by kernel_rfl) (fun _ _ _ h => h) (wanted_free rfl _) (fun W hW => by go_simp) ?_
    simp only [Act.put, List.getElem_toArray, List.getElem_cons_succ, List.getElem_cons_zero, List.setIfInBounds_toArray, List.set_cons_succ, List.set_cons_zero]
    refine wpAnyC_done (carry.out _ hbD) (by kernel_rfl) ?_
    have hBE : Kpt (Below w.heap.size w wD) := ⟨hBB'.out.trans (hbD.mono hBB'.out.size)⟩
    clear hbC hbD carry hnq hes
    go_wp2_with fail
    go_ret
    exact ⟨rfl, hBE.out⟩
  · have hcE : ch = true := by have := hDE.out; rw [hDv] at this; simpa using this
    subst hcE
    refine wp_region_any (by kernel_rfl) ?_
    refine wpAny_of_C (C := fun W => (Pg W M ⟨ua, ub, uc⟩ ⟨va, vb, vc⟩ ∧ Pg W N ⟨ua, ub, uc⟩ ⟨va, vb, vc⟩ ∧ W.cell? ⟨w.heap.size, 0, none⟩ = some (.bool va) ∧ W.cell? ⟨w.heap.size, 1, none⟩ = some (.bool vb) ∧ W.cell? ⟨w.heap.size, 2, none⟩ = some (.bool vc) ∧ W.cell? ⟨w.heap.size + 1, 0, none⟩ = some (.bool ua) ∧ W.cell? ⟨w.heap.size + 1, 1, none⟩ = some (.bool ub) ∧ W.cell? ⟨w.heap.size + 1, 2, none⟩ = some (.bool uc))) _ _ _ _ ?_
    refine wpAnyC_take 0 (.bool true) rfl (by kernel_rfl) (by kernel_rfl) (by kernel_rfl) (fun _ _ _ h => h) (wanted_free rfl _) (fun W hW => by go_simp) ?_
    simp only [Act.put, List.getElem_toArray, List.getElem_cons_succ, List.getElem_cons_zero, List.setIfInBounds_toArray, List.set_cons_succ, List.set_cons_zero]
    refine wpAnyC_take 1 (.bool true) rfl (by kernel_rfl) (by kernel_rfl) (by kernel_rfl) (fun _ _ _ h => h) (wanted_free rfl _) (fun W hW => by go_simp) ?_
    simp only [Act.put, List.getElem_toArray, List.getElem_cons_succ, List.getElem_cons_zero, List.setIfInBounds_toArray, List.set_cons_succ, List.set_cons_zero]
    refine wpAnyC_take 2 (.bool true) rfl (by kernel_rfl) (by kernel_rfl) (by kernel_rfl) (fun _ _ _ h => h) (wanted_at true rfl rfl rfl rfl) (fun W hW => by go_simp) ?_
    simp only [Act.put, List.getElem_toArray, List.getElem_cons_succ, List.getElem_cons_zero, List.setIfInBounds_toArray, List.set_cons_succ, List.set_cons_zero]
    refine wpAnyC_take 3 (.bool true) rfl (by kernel_rfl) (by kernel_rfl) (by kernel_rfl) (fun _ _ _ h => h) (wanted_free rfl _) (fun W hW => by go_simp) ?_
    simp only [Act.put, List.getElem_toArray, List.getElem_cons_succ, List.getElem_cons_zero, List.setIfInBounds_toArray, List.set_cons_succ, List.set_cons_zero]
    refine wpAnyC_take 4 (.bool true) rfl (by kernel_rfl) (by kernel_rfl) (by kernel_rfl) (fun _ _ _ h => h) (wanted_free rfl _) (fun W hW => by go_simp) ?_
    simp only [Act.put, List.getElem_toArray, List.getElem_cons_succ, List.getElem_cons_zero, List.setIfInBounds_toArray, List.set_cons_succ, List.set_cons_zero]
    refine wpAnyC_take 5 (.bool true) rfl (by kernel_rfl) (by kernel_rfl) (by kernel_rfl) (fun _ _ _ h => h) (wanted_at true rfl rfl rfl rfl) (fun W hW => by go_simp) ?_
    simp only [Act.put, List.getElem_toArray, List.getElem_cons_succ, List.getElem_cons_zero, List.setIfInBounds_toArray, List.set_cons_succ, List.set_cons_zero]
    refine wpAnyC_take 6 (.bool true) rfl (by kernel_rfl) (by kernel_rfl) (by kernel_rfl) (fun _ _ _ h => h) (wanted_free rfl _) (fun W hW => by go_simp) ?_
    simp only [Act.put, List.getElem_toArray, List.getElem_cons_succ, List.getElem_cons_zero, List.setIfInBounds_toArray, List.set_cons_succ, List.set_cons_zero]
    refine wpAnyC_take 7 (.bool true) rfl (by kernel_rfl) (by kernel_rfl) (by kernel_rfl) (fun _ _ _ h => h) (wanted_free rfl _) (fun W hW => by go_simp) ?_
    simp only [Act.put, List.getElem_toArray, List.getElem_cons_succ, List.getElem_cons_zero, List.setIfInBounds_toArray, List.set_cons_succ, List.set_cons_zero]
    refine wpAnyC_take 8 (.pointer (some ⟨M, 0, none⟩)) rfl (by kernel_rfl) (by kernel_rfl) (by kernel_rfl) (fun _ _ _ h => h) (wanted_at true rfl rfl rfl rfl) (fun W hW => by go_simp) ?_
    simp only [Act.put, List.getElem_toArray, List.getElem_cons_succ, List.getElem_cons_zero, List.setIfInBounds_toArray, List.set_cons_succ, List.set_cons_zero]
    refine wpAnyC_take 10 (.agg #[.bool ua, .bool ub, .bool uc]) rfl (by kernel_rfl) (by kernel_rfl) (by kernel_rfl) (fun _ _ _ h => h) (wanted_at true rfl rfl rfl rfl) (fun W hW => by obtain ⟨_, _, _, _, _, y0, y1, y2⟩ := hW; go_simp) ?_
    simp only [Act.put, List.getElem_toArray, List.getElem_cons_succ, List.getElem_cons_zero, List.setIfInBounds_toArray, List.set_cons_succ, List.set_cons_zero]
    refine wpAnyC_one 9 (carry.out _ (below_drew _)) rfl (by kernel_rfl) (wanted_at true rfl rfl rfl rfl) (fun KA hKA => ?_)
    go_simp
    refine (now_any M ⟨ua, ub, uc⟩ ⟨va, vb, vc⟩ _ (carry.out _ (below_drew _)).1).mono ?_
    rintro e wC ⟨rfl, hbC⟩
    replace hbC := below_undrew hbC
    rw [show Vs.vals ⟨ua, ub, uc⟩ = #[.bool ua, .bool ub, .bool uc] from rfl]
    refine hKA _ _ ?_
    clear hKA KA
    try simp only [Act.put, List.getElem_toArray, List.getElem_cons_succ, List.getElem_cons_zero, List.setIfInBounds_toArray, List.set_cons_succ, List.set_cons_zero]
    refine wpAnyC_take 11 (.bool true) rfl (by kernel_rfl) (by kernel_rfl) (by kernel_rfl) (fun _ _ _ h => h) (wanted_at true rfl rfl rfl rfl) (fun W hW => by go_simp) ?_
    simp only [Act.put, List.getElem_toArray, List.getElem_cons_succ, List.getElem_cons_zero, List.setIfInBounds_toArray, List.set_cons_succ, List.set_cons_zero]
    refine wpAnyC_take 12 (.bool true) rfl (by kernel_rfl) (by kernel_rfl) (by kernel_rfl) (fun _ _ _ h => h) (wanted_free rfl _) (fun W hW => by go_simp) ?_
    simp only [Act.put, List.getElem_toArray, List.getElem_cons_succ, List.getElem_cons_zero, List.setIfInBounds_toArray, List.set_cons_succ, List.set_cons_zero]
    refine wpAnyC_take 13 (.bool true) rfl (by kernel_rfl) (by kernel_rfl) (by kernel_rfl) (fun _ _ _ h => h) (wanted_free rfl _) (fun W hW => by go_simp) ?_
    simp only [Act.put, List.getElem_toArray, List.getElem_cons_succ, List.getElem_cons_zero, List.setIfInBounds_toArray, List.set_cons_succ, List.set_cons_zero]
    refine wpAnyC_take 14 (.pointer (some ⟨N, 0, none⟩)) rfl (by kernel_rfl) (by kernel_rfl) (by kernel_rfl) (fun _ _ _ h => h) (wanted_at true rfl rfl rfl rfl) (fun W hW => by go_simp) ?_
    simp only [Act.put, List.getElem_toArray, List.getElem_cons_succ, List.getElem_cons_zero, List.setIfInBounds_toArray, List.set_cons_succ, List.set_cons_zero]
    refine wpAnyC_take 16 (.agg #[.bool ua, .bool ub, .bool uc]) rfl (by kernel_rfl) (by kernel_rfl) (by kernel_rfl) (fun _ _ _ h => h) (wanted_at true rfl rfl rfl rfl) (fun W hW => by obtain ⟨_, _, _, _, _, y0, y1, y2⟩ := hW; go_simp) ?_
    simp only [Act.put, List.getElem_toArray, List.getElem_cons_succ, List.getElem_cons_zero, List.setIfInBounds_toArray, List.set_cons_succ, List.set_cons_zero]
    refine wpAnyC_one 15 (carry.out _ hbC) rfl (by kernel_rfl) (wanted_at true rfl rfl rfl rfl) (fun KA hKA => ?_)
    go_simp
    refine (now_any N ⟨ua, ub, uc⟩ ⟨va, vb, vc⟩ _ (carry.out _ hbC).2.1).mono ?_
    rintro e wD ⟨rfl, hbD⟩
    replace hbD : Below wB.heap.size wB wD := hbC.trans (hbD.mono hbC.size)
    rw [show Vs.vals ⟨ua, ub, uc⟩ = #[.bool ua, .bool ub, .bool uc] from rfl]
    refine hKA _ _ ?_
    clear hKA KA
    try simp only [Act.put, List.getElem_toArray, List.getElem_cons_succ, List.getElem_cons_zero, List.setIfInBounds_toArray, List.set_cons_succ, List.set_cons_zero]
    refine wpAnyC_take 17 (.bool true) rfl (by kernel_rfl) (by kernel_rfl) (by kernel_rfl) (fun _ _ _ h => h) (wanted_at true rfl rfl rfl rfl) (fun W hW => by go_simp) ?_
    simp only [Act.put, List.getElem_toArray, List.getElem_cons_succ, List.getElem_cons_zero, List.setIfInBounds_toArray, List.set_cons_succ, List.set_cons_zero]
    refine wpAnyC_take 18 (.bool true) rfl (by kernel_rfl) (by kernel_rfl) (by kernel_rfl) (fun _ _ _ h => h) (wanted_free rfl _) (fun W hW => by go_simp) ?_
    simp only [Act.put, List.getElem_toArray, List.getElem_cons_succ, List.getElem_cons_zero, List.setIfInBounds_toArray, List.set_cons_succ, List.set_cons_zero]
    refine wpAnyC_take 19 (.bool true) rfl (by kernel_rfl) (by kernel_rfl) (by kernel_rfl) (fun _ _ _ h => h) (wanted_free rfl _) (fun W hW => by go_simp) ?_
    simp only [Act.put, List.getElem_toArray, List.getElem_cons_succ, List.getElem_cons_zero, List.setIfInBounds_toArray, List.set_cons_succ, List.set_cons_zero]
    refine wpAnyC_take 20 (.bool true) rfl (by kernel_rfl) (by kernel_rfl) (by kernel_rfl) (fun _ _ _ h => h) (wanted_at true rfl rfl rfl rfl) (fun W hW => by go_simp) ?_
    simp only [Act.put, List.getElem_toArray, List.getElem_cons_succ, List.getElem_cons_zero, List.setIfInBounds_toArray, List.set_cons_succ, List.set_cons_zero]
    refine wpAnyC_take 21 (.agg #[.bool va, .bool vb, .bool vc]) rfl (by kernel_rfl) (by kernel_rfl) (by kernel_rfl) (fun _ _ _ h => h) (wanted_at true rfl rfl rfl rfl) (fun W hW => by obtain ⟨_, _, y0, y1, y2, _⟩ := hW; go_simp) ?_
    simp only [Act.put, List.getElem_toArray, List.getElem_cons_succ, List.getElem_cons_zero, List.setIfInBounds_toArray, List.set_cons_succ, List.set_cons_zero]
    refine wpAnyC_take 22 (.agg #[.bool ua, .bool ub, .bool uc]) rfl (by kernel_rfl) (by kernel_rfl) (by kernel_rfl) (fun _ _ _ h => h) (wanted_at true rfl rfl rfl rfl) (fun W hW => by obtain ⟨_, _, _, _, _, y0, y1, y2⟩ := hW; go_simp) ?_
    simp only [Act.put, List.getElem_toArray, List.getElem_cons_succ, List.getElem_cons_zero, List.setIfInBounds_toArray, List.set_cons_succ, List.set_cons_zero]
    refine wpAnyC_take 23 (.bool true) rfl (by kernel_rfl) (by kernel_rfl) (by kernel_rfl) (fun _ _ _ h => h) (wanted_at true rfl rfl rfl rfl) (fun W hW => by go_simp) ?_
    simp only [Act.put, List.getElem_toArray, List.getElem_cons_succ, List.getElem_cons_zero, List.setIfInBounds_toArray, List.set_cons_succ, List.set_cons_zero]
    refine wpAnyC_take 24 (.bool true) rfl (by kernel_rfl) (by kernel_rfl) (by kernel_rfl) (fun _ _ _ h => h) (wanted_at true rfl rfl rfl rfl) (fun W hW => by go_simp) ?_
    simp only [Act.put, List.getElem_toArray, List.getElem_cons_succ, List.getElem_cons_zero, List.setIfInBounds_toArray, List.set_cons_succ, List.set_cons_zero]
    refine wpAnyC_take 25 (.bool true) rfl (by kernel_rfl) (by kernel_rfl) (by kernel_rfl) (fun _ _ _ h => h) (wanted_free rfl _) (fun W hW => by go_simp) ?_
    simp only [Act.put, List.getElem_toArray, List.getElem_cons_succ, List.getElem_cons_zero, List.setIfInBounds_toArray, List.set_cons_succ, List.set_cons_zero]
    refine wpAnyC_take 26 (.bool true) rfl (by kernel_rfl) (by kernel_rfl) (by kernel_rfl) (fun _ _ _ h => h) (wanted_free rfl _) (fun W hW => by go_simp) ?_
    simp only [Act.put, List.getElem_toArray, List.getElem_cons_succ, List.getElem_cons_zero, List.setIfInBounds_toArray, List.set_cons_succ, List.set_cons_zero]
    refine wpAnyC_take 27 (.bool true) rfl (by kernel_rfl) (by kernel_rfl) (by kernel_rfl) (fun _ _ _ h => h) (wanted_at true rfl rfl rfl rfl) (fun W hW => by go_simp) ?_
    simp only [Act.put, List.getElem_toArray, List.getElem_cons_succ, List.getElem_cons_zero, List.setIfInBounds_toArray, List.set_cons_succ, List.set_cons_zero]
    refine wpAnyC_take 28 (.bool true) rfl (by kernel_rfl) (by kernel_rfl) (by kernel_rfl) (fun _ _ _ h => h) (wanted_at true rfl rfl rfl rfl) (fun W hW => by go_simp) ?_
    simp only [Act.put, List.getElem_toArray, List.getElem_cons_succ, List.getElem_cons_zero, List.setIfInBounds_toArray, List.set_cons_succ, List.set_cons_zero]
    refine wpAnyC_skip 29 rfl (by kernel_rfl) (by kernel_rfl) (by kernel_rfl) (fun _ _ _ h => h) (wanted_no false rfl rfl rfl rfl) ?_
    simp only [Act.put, List.getElem_toArray, List.getElem_cons_succ, List.getElem_cons_zero, List.setIfInBounds_toArray, List.set_cons_succ, List.set_cons_zero]
    refine wpAnyC_take 30 (.bool true) rfl (by kernel_rfl) (by kernel_rfl) (by kernel_rfl) (fun _ _ _ h => h) (wanted_at true rfl rfl rfl rfl) (fun W hW => by go_simp) ?_
    simp only [Act.put, List.getElem_toArray, List.getElem_cons_succ, List.getElem_cons_zero, List.setIfInBounds_toArray, List.set_cons_succ, List.set_cons_zero]
    refine wpAnyC_take 31 (.agg #[.bool va, .bool vb, .bool vc]) rfl (by kernel_rfl) (by kernel_rfl) (by kernel_rfl) (fun _ _ _ h => h) (wanted_at true rfl rfl rfl rfl) (fun W hW => by obtain ⟨_, _, y0, y1, y2, _⟩ := hW; go_simp) ?_
    simp only [Act.put, List.getElem_toArray, List.getElem_cons_succ, List.getElem_cons_zero, List.setIfInBounds_toArray, List.set_cons_succ, List.set_cons_zero]
    refine wpAnyC_take 32 (.agg #[.bool ua, .bool ub, .bool uc]) rfl (by kernel_rfl) (by kernel_rfl) (by kernel_rfl) (fun _ _ _ h => h) (wanted_at true rfl rfl rfl rfl) (fun W hW => by obtain ⟨_, _, _, _, _, y0, y1, y2⟩ := hW; go_simp) ?_
    simp only [Act.put, List.getElem_toArray, List.getElem_cons_succ, List.getElem_cons_zero, List.setIfInBounds_toArray, List.set_cons_succ, List.set_cons_zero]
    refine wpAnyC_take 33 (.bool true) rfl (by kernel_rfl) (by kernel_rfl) (by kernel_rfl) (fun _ _ _ h => h) (wanted_at true rfl rfl rfl rfl) (fun W hW => by go_simp) ?_
    simp only [Act.put, List.getElem_toArray, List.getElem_cons_succ, List.getElem_cons_zero, List.setIfInBounds_toArray, List.set_cons_succ, List.set_cons_zero]
    refine wpAnyC_take 34 (.bool true) rfl (by kernel_rfl) (by kernel_rfl) (by kernel_rfl) (fun _ _ _ h => h) (wanted_at true rfl rfl rfl rfl) (fun W hW => by go_simp) ?_
    simp only [Act.put, List.getElem_toArray, List.getElem_cons_succ, List.getElem_cons_zero, List.setIfInBounds_toArray, List.set_cons_succ, List.set_cons_zero]
    refine wpAnyC_take 35 (.bool true) rfl (by kernel_rfl) (by kernel_rfl) (by kernel_rfl) (fun _ _ _ h => h) (wanted_free rfl _) (fun W hW => by go_simp) ?_
    simp only [Act.put, List.getElem_toArray, List.getElem_cons_succ, List.getElem_cons_zero, List.setIfInBounds_toArray, List.set_cons_succ, List.set_cons_zero]
    refine wpAnyC_take 36 (.bool true) rfl (by kernel_rfl) (by kernel_rfl) (by kernel_rfl) (fun _ _ _ h => h) (wanted_free rfl _) (fun W hW => by go_simp) ?_
    simp only [Act.put, List.getElem_toArray, List.getElem_cons_succ, List.getElem_cons_zero, List.setIfInBounds_toArray, List.set_cons_succ, List.set_cons_zero]
    refine wpAnyC_done (carry.out _ hbD) (by kernel_rfl) ?_
    have hBE : Kpt (Below w.heap.size w wD) := ⟨hBB'.out.trans (hbD.mono hBB'.out.size)⟩
    clear hbC hbD carry hnq hes
    go_wp2_with fail
    go_ret
    exact ⟨rfl, hBE.out⟩

set_option maxRecDepth 100000 in
set_option maxHeartbeats 8000000 in
theorem join_true (v u : Vs) (w : World) : Calls Try.prog 7 #[.agg v.vals, .agg u.vals, .bool true] w fun e w' => e = .returned (.bool true) ∧ Below w.heap.size w w' := by
  have HA := Kpt.mk awake_any
  have HNu := Kpt.mk (new_any u)
  have HNv := Kpt.mk (new_any v)
  have HSa := Kpt.mk (fun B W (h : Pg W B u u) => sen_call B u u ⟨0, false, 0, 0, 0, false, 0, false, false, 8, 0, false, 0, 0, false⟩ W 24 h (.inl rfl) rfl)
  have HSb := Kpt.mk (fun B W (h : Pg W B u u) => sen_call B u u ⟨0, false, 0, 0, 0, false, 0, false, false, 10, 0, false, 0, 0, false⟩ W 16 h (.inr (.inl rfl)) rfl)
  have hrB : readL v false (h4 ++ xL true u ++ yL true u) = (u, none) := by obtain ⟨a, b, c⟩ := v; obtain ⟨a', b', c'⟩ := u; exact join_both a' b' c' a b c true
  have hrX : readL v false (h4 ++ xL true u) = (midV true v u, none) := by obtain ⟨a, b, c⟩ := v; obtain ⟨a', b', c'⟩ := u; exact join_x a' b' c' a b c true
  have hrY : readL (midV true v u) false (h4 ++ yL true u) = (u, none) := by obtain ⟨a, b, c⟩ := v; obtain ⟨a', b', c'⟩ := u; exact join_y a' b' c' a b c true
  have hbB : ∀ j, 0 ≤ (h4 ++ xL true u ++ yL true u).getD j 0 ∧ (h4 ++ xL true u ++ yL true u).getD j 0 ≤ 255 := by obtain ⟨a, b, c⟩ := u; exact byt_of _ (byt_both a b c true)
  have hbX : ∀ j, 0 ≤ (h4 ++ xL true u).getD j 0 ∧ (h4 ++ xL true u).getD j 0 ≤ 255 := by obtain ⟨a, b, c⟩ := u; exact byt_of _ (byt_x a b c true)
  have hbY : ∀ j, 0 ≤ (h4 ++ yL true u).getD j 0 ∧ (h4 ++ yL true u).getD j 0 ≤ 255 := by obtain ⟨a, b, c⟩ := u; exact byt_of _ (byt_y a b c true)
  obtain ⟨ch, hch⟩ : ∃ ch, ch = neV v u := ⟨_, rfl⟩
  obtain ⟨D, hD⟩ : ∃ D, D = neV (midV true v u) v := ⟨_, rfl⟩
  obtain ⟨E, hE⟩ : ∃ E, E = neV u (midV true v u) := ⟨_, rfl⟩
  have hDE : Kpt ((D || E) = ch) := ⟨by rw [hD, hE, hch]; obtain ⟨a, b, c⟩ := v; obtain ⟨a', b', c'⟩ := u; exact join_ne a' b' c' a b c true⟩
  have hcm : neV u v = ch := by rw [hch]; obtain ⟨a, b, c⟩ := v; obtain ⟨a', b', c'⟩ := u; exact neV_comm _ _ _ _ _ _
  have H1 : Kpt (∀ B g k W, Pg W B v v → Cl W g 0 (h4 ++ xL true u ++ yL true u) → 36 ≤ k → k ≤ maxLen → g < W.heap.size → Calls Try.prog 12 #[.pointer (some ⟨B, 0, none⟩), .agg (Cm.vals ⟨0, false, 0, 0, 0, false, 0, false, false, 0, 0, false, 0, 0, false⟩), .slice (some ⟨g, 0, none⟩) 36 k] W fun e w' => e = .returned (.tuple #[.bool ch, .agg #[.int .u8 0, .int .u16 0, .int .u64 0, .bool false, .int .i64 0, .int .i64 0, .bool false, .bool false], .bool true]) ∧ Pg w' B u v ∧ W.grownBy w' (some B)) := ⟨fun B g k W hP hc hk hkm hg => (select_any B v v ⟨0, false, 0, 0, 0, false, 0, false, false, 0, 0, false, 0, 0, false⟩ g 0 k (h4 ++ xL true u ++ yL true u) W hP hc (show 1 ≤ 36 by decide) hk hkm hg hbB u hrB).mono (fun e w' ⟨h1, h2, h3⟩ => ⟨by rw [h1, hcm]; rfl, h2, h3⟩)⟩
  have H2 : Kpt (∀ B g k W, Pg W B v v → Cl W g 0 (h4 ++ xL true u) → 16 ≤ k → k ≤ maxLen → g < W.heap.size → Calls Try.prog 12 #[.pointer (some ⟨B, 0, none⟩), .agg (Cm.vals ⟨0, false, 0, 0, 0, false, 0, false, false, 0, 0, false, 0, 0, false⟩), .slice (some ⟨g, 0, none⟩) 16 k] W fun e w' => e = .returned (.tuple #[.bool D, .agg #[.int .u8 0, .int .u16 0, .int .u64 0, .bool false, .int .i64 0, .int .i64 0, .bool false, .bool false], .bool true]) ∧ Pg w' B (midV true v u) v ∧ W.grownBy w' (some B)) := ⟨fun B g k W hP hc hk hkm hg => (select_any B v v ⟨0, false, 0, 0, 0, false, 0, false, false, 0, 0, false, 0, 0, false⟩ g 0 k (h4 ++ xL true u) W hP hc (show 1 ≤ 16 by decide) hk hkm hg hbX _ hrX).mono (fun e w' ⟨h1, h2, h3⟩ => ⟨by rw [h1, hD]; rfl, h2, h3⟩)⟩
  have H3 : Kpt (∀ B g k W, Pg W B (midV true v u) v → Cl W g 0 (h4 ++ yL true u) → 24 ≤ k → k ≤ maxLen → g < W.heap.size → Calls Try.prog 12 #[.pointer (some ⟨B, 0, none⟩), .agg (Cm.vals ⟨0, false, 0, 0, 0, false, 0, false, false, 0, 0, false, 0, 0, false⟩), .slice (some ⟨g, 0, none⟩) 24 k] W fun e w' => e = .returned (.tuple #[.bool E, .agg #[.int .u8 0, .int .u16 0, .int .u64 0, .bool false, .int .i64 0, .int .i64 0, .bool false, .bool false], .bool true]) ∧ Pg w' B u v ∧ W.grownBy w' (some B)) := ⟨fun B g k W hP hc hk hkm hg => (select_any B (midV true v u) v ⟨0, false, 0, 0, 0, false, 0, false, false, 0, 0, false, 0, 0, false⟩ g 0 k (h4 ++ yL true u) W hP hc (show 1 ≤ 24 by decide) hk hkm hg hbY u hrY).mono (fun e w' ⟨h1, h2, h3⟩ => ⟨by rw [h1, hE]; rfl, h2, h3⟩)⟩
  simp only [Cm.vals] at HSa HSb H1 H2 H3
  obtain ⟨LX, hLX⟩ : ∃ L, L = xL true u := ⟨_, rfl⟩
  obtain ⟨LY, hLY⟩ : ∃ L, L = yL true u := ⟨_, rfl⟩
  have hXl : Kpt (LX.length = 12) := ⟨by rw [hLX]; rfl⟩
  have hYl : Kpt (LY.length = 20) := ⟨by rw [hLY]; rfl⟩
  have hdA : Kpt ((senL false 8 0 u u).drop 4 = LY) := ⟨by rw [hLY]; rfl⟩
  have hdB : Kpt ((senL false 10 0 u u).drop 4 = LX) := ⟨by rw [hLX]; rfl⟩
  rw [← hLX, ← hLY] at H1
  rw [← hLX] at H2
  rw [← hLY] at H3
  obtain ⟨mv, hmv⟩ : ∃ mv, mv = midV true v u := ⟨_, rfl⟩
  rw [← hmv] at H2 H3
  have hnq : ∀ W : World, (binOp .neq 23 (.agg v.vals) (.agg u.vals)).run Try.prog W = .ok (.bool ch) W := fun W => by rw [hch]; obtain ⟨a, b, c⟩ := v; obtain ⟨a', b', c'⟩ := u; exact neq_vs _ _ _ _ _ _ W
  have hes : ∀ W : World, (binOp .eql 23 (.agg u.vals) (.agg u.vals)).run Try.prog W = .ok (.bool true) W := fun W => by obtain ⟨a', b', c'⟩ := u; exact (eql_vs a' b' c' a' b' c' W).trans (by rw [neV_self]; rfl)
  clear hLX hLY hrB hrX hrY hbB hbX hbY hch hD hE hcm hmv
  obtain ⟨va, vb, vc⟩ := v
  obtain ⟨ua, ub, uc⟩ := u
  rw [show (Vs.vals ⟨va, vb, vc⟩) = #[.bool va, .bool vb, .bool vc] from rfl] at HNv hnq ⊢
  rw [show (Vs.vals ⟨ua, ub, uc⟩) = #[.bool ua, .bool ub, .bool uc] from rfl] at HNu hnq hes ⊢
  replace hnq := Kpt.mk hnq
  replace hes := Kpt.mk hes
  go_enter Try.func7, Try.ntmps7
  go_wp2_with fail
  refine (HA.out _).mono ?_
  rintro e w1 ⟨rfl, hb1⟩
  have hs0 : ((w.alloc (.cells #[.bool va, .bool vb, .bool vc] 23)).alloc (.cells #[.bool ua, .bool ub, .bool uc] 23)).heap.size = w.heap.size + 2 := by simp
  have hl1 : w.heap.size + 2 ≤ w1.heap.size := by have := hb1.size; omega
  have zA0 : w1.cell? ⟨w.heap.size, 0, none⟩ = some (.bool va) := (hb1.cell (p := ⟨w.heap.size, 0, none⟩) (by show w.heap.size < _; omega)).trans (by simp)
  have zA1 : w1.cell? ⟨w.heap.size, 1, none⟩ = some (.bool vb) := (hb1.cell (p := ⟨w.heap.size, 1, none⟩) (by show w.heap.size < _; omega)).trans (by simp)
  have zA2 : w1.cell? ⟨w.heap.size, 2, none⟩ = some (.bool vc) := (hb1.cell (p := ⟨w.heap.size, 2, none⟩) (by show w.heap.size < _; omega)).trans (by simp)
  have zA3 : w1.cell? ⟨w.heap.size + 1, 0, none⟩ = some (.bool ua) := (hb1.cell (p := ⟨w.heap.size + 1, 0, none⟩) (by show w.heap.size + 1 < _; omega)).trans (by simp)
  have zA4 : w1.cell? ⟨w.heap.size + 1, 1, none⟩ = some (.bool ub) := (hb1.cell (p := ⟨w.heap.size + 1, 1, none⟩) (by show w.heap.size + 1 < _; omega)).trans (by simp)
  have zA5 : w1.cell? ⟨w.heap.size + 1, 2, none⟩ = some (.bool uc) := (hb1.cell (p := ⟨w.heap.size + 1, 2, none⟩) (by show w.heap.size + 1 < _; omega)).trans (by simp)
  have hB1 : Kpt (Below w.heap.size w w1) := ⟨(((Below.refl _ _).alloc (Nat.le_refl _) _).alloc (by simp) _).trans (hb1.mono (by omega))⟩
  clear hb1 hs0 HA
  go_wp2_with fail
  refine (HNu.out _).mono ?_
  rintro e w2 ⟨B, rfl, hBB, hP2, hb2⟩
  have zB0 := (hb2.cell (p := ⟨w.heap.size, 0, none⟩) (by show w.heap.size < _; omega)).trans zA0
  have zB1 := (hb2.cell (p := ⟨w.heap.size, 1, none⟩) (by show w.heap.size < _; omega)).trans zA1
  have zB2 := (hb2.cell (p := ⟨w.heap.size, 2, none⟩) (by show w.heap.size < _; omega)).trans zA2
  have zB3 := (hb2.cell (p := ⟨w.heap.size + 1, 0, none⟩) (by show w.heap.size + 1 < _; omega)).trans zA3
  have zB4 := (hb2.cell (p := ⟨w.heap.size + 1, 1, none⟩) (by show w.heap.size + 1 < _; omega)).trans zA4
  have zB5 := (hb2.cell (p := ⟨w.heap.size + 1, 2, none⟩) (by show w.heap.size + 1 < _; omega)).trans zA5
  have hB2 : Kpt (Below w.heap.size w w2) := ⟨hB1.out.trans (hb2.mono hB1.out.size)⟩
  have hl2 : w.heap.size + 2 ≤ w2.heap.size := Nat.le_trans hl1 hb2.size
  clear zA0 zA1 zA2 zA3 zA4 zA5 hb2 hB1 hl1 HNu hBB
  replace hP2 := Kpt.mk hP2
  go_wp2_with fail
  refine (HSa.out B w2 hP2.out).mono ?_
  rintro e w3 ⟨ga, ka, rfl, hga, hoa, hb3⟩
  have zC0 := (hb3.cell (p := ⟨w.heap.size, 0, none⟩) (by show w.heap.size < _; omega)).trans zB0
  have zC1 := (hb3.cell (p := ⟨w.heap.size, 1, none⟩) (by show w.heap.size < _; omega)).trans zB1
  have zC2 := (hb3.cell (p := ⟨w.heap.size, 2, none⟩) (by show w.heap.size < _; omega)).trans zB2
  have zC3 := (hb3.cell (p := ⟨w.heap.size + 1, 0, none⟩) (by show w.heap.size + 1 < _; omega)).trans zB3
  have zC4 := (hb3.cell (p := ⟨w.heap.size + 1, 1, none⟩) (by show w.heap.size + 1 < _; omega)).trans zB4
  have zC5 := (hb3.cell (p := ⟨w.heap.size + 1, 2, none⟩) (by show w.heap.size + 1 < _; omega)).trans zB5
  have hP3 := hP2.out.below' hb3
  have hB3 : Below w.heap.size w w3 := hB2.out.trans (hb3.mono hB2.out.size)
  have hl3 : w.heap.size + 2 ≤ w3.heap.size := Nat.le_trans hl2 hb3.size
  have hgal := (World.ownsRow.lt hoa ga rfl).2
  have hkA := own_cap hoa
  have hAr : RdAt w3 (.slice (some ⟨ga, 4, none⟩) 20 (ka - 4)) LY := by rw [← hdA.out]; exact own_drop hoa (by decide) hkA.1
  obtain ⟨w4, hw4⟩ : ∃ w4, w4 = w3.alloc (.cells #[.int .u8 0, .int .u16 0, .int .u64 0, .bool false, .int .i64 0, .int .i64 0, .bool false, .bool false] 42) := ⟨_, rfl⟩
  have hb4 : Below w3.heap.size w3 w4 := by rw [hw4]; exact (Below.refl _ _).alloc (Nat.le_refl _) _
  have zD0 := (hb4.cell (p := ⟨w.heap.size, 0, none⟩) (by show w.heap.size < _; omega)).trans zC0
  have zD1 := (hb4.cell (p := ⟨w.heap.size, 1, none⟩) (by show w.heap.size < _; omega)).trans zC1
  have zD2 := (hb4.cell (p := ⟨w.heap.size, 2, none⟩) (by show w.heap.size < _; omega)).trans zC2
  have zD3 := (hb4.cell (p := ⟨w.heap.size + 1, 0, none⟩) (by show w.heap.size + 1 < _; omega)).trans zC3
  have zD4 := (hb4.cell (p := ⟨w.heap.size + 1, 1, none⟩) (by show w.heap.size + 1 < _; omega)).trans zC4
  have zD5 := (hb4.cell (p := ⟨w.heap.size + 1, 2, none⟩) (by show w.heap.size + 1 < _; omega)).trans zC5
  have hP4 := Kpt.mk (hP3.below' hb4)
  have hB4 : Kpt (Below w.heap.size w w4) := ⟨hB3.trans (hb4.mono hB3.size)⟩
  have hl4 : w.heap.size + 2 ≤ w4.heap.size := Nat.le_trans hl3 hb4.size
  have hAr4 := Kpt.mk (rd_below hAr hb4)
  have hgal4 : ga < w4.heap.size := Nat.lt_of_lt_of_le hgal hb4.size
  have hka : ¬ ka = 4 ∧ 24 ≤ ka := by omega
  have hw4' := Kpt.mk hw4
  clear hw4 zB0 zB1 zB2 zB3 zB4 zB5 zC0 zC1 zC2 zC3 zC4 zC5 hP3 hB3 hl3 hgal hAr hb3 hb4 hB2 hl2 hP2 HSa hoa hkA hga
  go_wp2_with fail
  rw [← hw4'.out]
  refine (HSb.out B w4 hP4.out).mono ?_
  rintro e w5 ⟨gb, kb, rfl, hgb, hob, hb5⟩
  have zE0 := (hb5.cell (p := ⟨w.heap.size, 0, none⟩) (by show w.heap.size < _; omega)).trans zD0
  have zE1 := (hb5.cell (p := ⟨w.heap.size, 1, none⟩) (by show w.heap.size < _; omega)).trans zD1
  have zE2 := (hb5.cell (p := ⟨w.heap.size, 2, none⟩) (by show w.heap.size < _; omega)).trans zD2
  have zE3 := (hb5.cell (p := ⟨w.heap.size + 1, 0, none⟩) (by show w.heap.size + 1 < _; omega)).trans zD3
  have zE4 := (hb5.cell (p := ⟨w.heap.size + 1, 1, none⟩) (by show w.heap.size + 1 < _; omega)).trans zD4
  have zE5 := (hb5.cell (p := ⟨w.heap.size + 1, 2, none⟩) (by show w.heap.size + 1 < _; omega)).trans zD5
  have hB5 : Below w.heap.size w w5 := hB4.out.trans (hb5.mono hB4.out.size)
  have hl5 : w.heap.size + 2 ≤ w5.heap.size := Nat.le_trans hl4 hb5.size
  have hgbl := (World.ownsRow.lt hob gb rfl).2
  have hkB := own_cap hob
  have hBr : RdAt w5 (.slice (some ⟨gb, 4, none⟩) 12 (kb - 4)) LX := by rw [← hdB.out]; exact own_drop hob (by decide) hkB.1
  have hAr5 := rd_below hAr4.out hb5
  have hgal5 : ga < w5.heap.size := Nat.lt_of_lt_of_le hgal4 hb5.size
  obtain ⟨w7, hw7⟩ : ∃ w7, w7 = (w5.alloc (.cells #[.int .u8 0, .int .u16 0, .int .u64 0, .bool false, .int .i64 0, .int .i64 0, .bool false, .bool false] 42)).alloc (.cells #[.int .u8 0, .int .u8 0, .int .u8 0, .int .u8 0] 5) := ⟨_, rfl⟩
  have hs7 : w7.heap.size = w5.heap.size + 2 := by rw [hw7]; simp
  have hb7 : Below w5.heap.size w5 w7 := by rw [hw7]; exact ((Below.refl _ _).alloc (Nat.le_refl _) _).alloc (by simp) _
  have hoh : w7.ownsRow (w5.heap.size + 1) 5 1 (.slice (some ⟨w5.heap.size + 1, 0, none⟩) 4 4) 4 (cels h4) := by rw [hw7]; exact own_alloc (w5.alloc _) (w5.heap.size + 1) 4 (w5.heap.size + 1) h4 (by simp) rfl (by decide) (Nat.le_refl _)
  have zF0 := (hb7.cell (p := ⟨w.heap.size, 0, none⟩) (by show w.heap.size < _; omega)).trans zE0
  have zF1 := (hb7.cell (p := ⟨w.heap.size, 1, none⟩) (by show w.heap.size < _; omega)).trans zE1
  have zF2 := (hb7.cell (p := ⟨w.heap.size, 2, none⟩) (by show w.heap.size < _; omega)).trans zE2
  have zF3 := (hb7.cell (p := ⟨w.heap.size + 1, 0, none⟩) (by show w.heap.size + 1 < _; omega)).trans zE3
  have zF4 := (hb7.cell (p := ⟨w.heap.size + 1, 1, none⟩) (by show w.heap.size + 1 < _; omega)).trans zE4
  have zF5 := (hb7.cell (p := ⟨w.heap.size + 1, 2, none⟩) (by show w.heap.size + 1 < _; omega)).trans zE5
  have hhr := Kpt.mk (own_rd hoh)
  have hAr7 := Kpt.mk (rd_below hAr5 hb7)
  have hBr7 := Kpt.mk (rd_below hBr hb7)
  have hB7 : Kpt (Below w.heap.size w w7) := ⟨hB5.trans (hb7.mono hB5.size)⟩
  have hl7 : w.heap.size + 2 ≤ w7.heap.size := by omega
  have hgal7 : ga < w7.heap.size := by omega
  have hgbl7 : gb < w7.heap.size := by omega
  have hkb : ¬ kb = 4 ∧ 16 ≤ kb := by omega
  have hw7' := Kpt.mk hw7
  clear hw7 zD0 zD1 zD2 zD3 zD4 zD5 zE0 zE1 zE2 zE3 zE4 zE5 hB5 hl5 hgbl hkB hBr hAr5 hgal5 hb7 hb5 hoh hob hgb hAr4 hgal4 hP4 hB4 hl4 HSb
  obtain ⟨hka1, hka2⟩ := hka
  obtain ⟨hkb1, hkb2⟩ := hkb
  go_wp2_with (first
    | (refine wpList_append_new rfl (.tmp 79) (.tmp 80) rfl w7.heap.size _ _ (h4 ++ LX) LY 16 36 rfl rfl ho9.out hy9.out (by rw [hYl.out]; decide) (by rw [List.length_append, hXl.out]; rfl) (by rw [hYl.out]) (by decide) hb9.out.size ?_; intro gt0 kt wT hoT hlT hgT; have hbT : Below w7.heap.size w7 wT := hb9.out.grown hgT.out hb9.out.size (fun q hq => by cases hq; exact hl9.out.1); have zG0 := (hbT.cell (p := ⟨w.heap.size, 0, none⟩) (by show w.heap.size < _; omega)).trans zF0; have zG1 := (hbT.cell (p := ⟨w.heap.size, 1, none⟩) (by show w.heap.size < _; omega)).trans zF1; have zG2 := (hbT.cell (p := ⟨w.heap.size, 2, none⟩) (by show w.heap.size < _; omega)).trans zF2; have zG3 := (hbT.cell (p := ⟨w.heap.size + 1, 0, none⟩) (by show w.heap.size + 1 < _; omega)).trans zF3; have zG4 := (hbT.cell (p := ⟨w.heap.size + 1, 1, none⟩) (by show w.heap.size + 1 < _; omega)).trans zF4; have zG5 := (hbT.cell (p := ⟨w.heap.size + 1, 2, none⟩) (by show w.heap.size + 1 < _; omega)).trans zF5; replace hbT := Kpt.mk hbT; clear hgT hy9 ho9 hb9)
    | (refine wpList_append_new rfl (.tmp 76) (.tmp 77) rfl w7.heap.size _ _ h4 LX 4 16 rfl rfl ho8.out hx8.out (by rw [hXl.out]; decide) rfl (by rw [hXl.out]) (by decide) hb8.out.size ?_; intro g9 k9 w9 ho9 hl9 hg9; have hb9 : Kpt (Below w7.heap.size w7 w9) := ⟨hb8.out.grown hg9.out hb8.out.size (fun q hq => by cases hq; exact hl8.out.1)⟩; have hy9 := Kpt.mk (rd_below hAr7.out hb9.out); clear hg9 hx8 ho8 hb8)
    | (refine wpList_append_new rfl (.tmp 73) (.tmp 74) rfl w7.heap.size (.slice none 0 0) _ [] h4 0 4 rfl rfl (World.ownsRow_nil _ _ 5 1) (by rw [← hw7'.out]; exact hhr.out) (by decide) rfl rfl (by decide) (by rw [← hw7'.out]; exact Nat.le_refl _) ?_; intro g8 k8 w8 ho8 hl8 hg8; rw [← hw7'.out] at hg8; have hb8 : Kpt (Below w7.heap.size w7 w8) := ⟨(Below.refl _ _).grown hg8.out (Nat.le_refl _) (fun q hq => by cases hq)⟩; have hx8 := Kpt.mk (rd_below hBr7.out hb8.out); clear hg8))
  clear zF0 zF1 zF2 zF3 zF4 zF5 hw7' hhr
  have hlT' := hlT.out
  have hBT : Kpt (Below w.heap.size w wT) := ⟨hB7.out.trans (hbT.out.mono (by omega))⟩
  have hAT := rd_below hAr7.out hbT.out
  have hBT2 := rd_below hBr7.out hbT.out
  have hsT : w7.heap.size ≤ wT.heap.size := hbT.out.size
  have hkT := own_cap hoT.out
  refine (HNv.out wT).mono ?_
  rintro e wU ⟨M, rfl, hM, hPU, hbU⟩
  have zH0 := (hbU.cell (p := ⟨w.heap.size, 0, none⟩) (by show w.heap.size < _; omega)).trans zG0
  have zH1 := (hbU.cell (p := ⟨w.heap.size, 1, none⟩) (by show w.heap.size < _; omega)).trans zG1
  have zH2 := (hbU.cell (p := ⟨w.heap.size, 2, none⟩) (by show w.heap.size < _; omega)).trans zG2
  have zH3 := (hbU.cell (p := ⟨w.heap.size + 1, 0, none⟩) (by show w.heap.size + 1 < _; omega)).trans zG3
  have zH4 := (hbU.cell (p := ⟨w.heap.size + 1, 1, none⟩) (by show w.heap.size + 1 < _; omega)).trans zG4
  have zH5 := (hbU.cell (p := ⟨w.heap.size + 1, 2, none⟩) (by show w.heap.size + 1 < _; omega)).trans zG5
  have hBU : Kpt (Below w.heap.size w wU) := ⟨hBT.out.trans (hbU.mono hBT.out.size)⟩
  have hAU := rd_below hAT hbU
  have hBU2 := rd_below hBT2 hbU
  have hsU : wT.heap.size ≤ wU.heap.size := hbU.size
  have hclU : Cl wU gt0 0 (h4 ++ LX ++ LY) := fun j hj => by
    rw [Nat.zero_add]
    exact (hbU.cell (p := ⟨gt0, j, none⟩) hlT'.2).trans (own_facts hoT.out j (by rw [List.length_append, List.length_append, hXl.out, hYl.out] at hj; exact hj))
  clear zG0 zG1 zG2 zG3 zG4 zG5 hbU hBT hAT hBT2 hbT hAr7 hBr7 hoT hB7
  replace hPU := Kpt.mk hPU
  go_wp2_with fail
  refine (H1.out M gt0 kt wU hPU.out hclU hkT.1 hkT.2 (by omega)).mono ?_
  rintro e wV ⟨rfl, hPV, hgV⟩
  have zI0 := (far_cell hgV ⟨w.heap.size, 0, none⟩ (by show w.heap.size < _; omega) (fun e => by have e' : M = w.heap.size := Option.some.inj e; omega)).trans zH0
  have zI1 := (far_cell hgV ⟨w.heap.size, 1, none⟩ (by show w.heap.size < _; omega) (fun e => by have e' : M = w.heap.size := Option.some.inj e; omega)).trans zH1
  have zI2 := (far_cell hgV ⟨w.heap.size, 2, none⟩ (by show w.heap.size < _; omega) (fun e => by have e' : M = w.heap.size := Option.some.inj e; omega)).trans zH2
  have zI3 := (far_cell hgV ⟨w.heap.size + 1, 0, none⟩ (by show w.heap.size + 1 < _; omega) (fun e => by have e' : M = w.heap.size + 1 := Option.some.inj e; omega)).trans zH3
  have zI4 := (far_cell hgV ⟨w.heap.size + 1, 1, none⟩ (by show w.heap.size + 1 < _; omega) (fun e => by have e' : M = w.heap.size + 1 := Option.some.inj e; omega)).trans zH4
  have zI5 := (far_cell hgV ⟨w.heap.size + 1, 2, none⟩ (by show w.heap.size + 1 < _; omega) (fun e => by have e' : M = w.heap.size + 1 := Option.some.inj e; omega)).trans zH5
  have hBV : Below w.heap.size w wV := hBU.out.grown hgV hBU.out.size (fun q hq => by cases hq; omega)
  have hAV := hAU.of_block (w' := wV) (fun q hq => by cases hq; exact hgV.block ga (by omega) (fun e => by have e' : ga = M := Option.some.inj e; omega))
  have hBV2 := hBU2.of_block (w' := wV) (fun q hq => by cases hq; exact hgV.block gb (by omega) (fun e => by have e' : gb = M := Option.some.inj e; omega))
  have hsV : wU.heap.size ≤ wV.heap.size := hgV.size
  obtain ⟨wW, hwW⟩ : ∃ W, W = wV.alloc (.cells #[.int .u8 0, .int .u16 0, .int .u64 0, .bool false, .int .i64 0, .int .i64 0, .bool false, .bool false] 42) := ⟨_, rfl⟩
  have hbW : Below wV.heap.size wV wW := by rw [hwW]; exact (Below.refl _ _).alloc (Nat.le_refl _) _
  have zJ0 := (hbW.cell (p := ⟨w.heap.size, 0, none⟩) (by show w.heap.size < _; omega)).trans zI0
  have zJ1 := (hbW.cell (p := ⟨w.heap.size, 1, none⟩) (by show w.heap.size < _; omega)).trans zI1
  have zJ2 := (hbW.cell (p := ⟨w.heap.size, 2, none⟩) (by show w.heap.size < _; omega)).trans zI2
  have zJ3 := (hbW.cell (p := ⟨w.heap.size + 1, 0, none⟩) (by show w.heap.size + 1 < _; omega)).trans zI3
  have zJ4 := (hbW.cell (p := ⟨w.heap.size + 1, 1, none⟩) (by show w.heap.size + 1 < _; omega)).trans zI4
  have zJ5 := (hbW.cell (p := ⟨w.heap.size + 1, 2, none⟩) (by show w.heap.size + 1 < _; omega)).trans zI5
  have hBW : Kpt (Below w.heap.size w wW) := ⟨hBV.trans (hbW.mono hBV.size)⟩
  have hAW := rd_below hAV hbW
  have hBW2 := rd_below hBV2 hbW
  have hPW := hPV.below' hbW
  have hsW : wV.heap.size ≤ wW.heap.size := hbW.size
  have hMl : M < wW.heap.size := hPW.lt
  have x0 : (wV.alloc (.cells #[.int .u8 0, .int .u16 0, .int .u64 0, .bool false, .int .i64 0, .int .i64 0, .bool false, .bool false] 42)).cell? ⟨w.heap.size, 0, none⟩ = some (.bool va) := by rw [← hwW]; exact zJ0
  have x1 : (wV.alloc (.cells #[.int .u8 0, .int .u16 0, .int .u64 0, .bool false, .int .i64 0, .int .i64 0, .bool false, .bool false] 42)).cell? ⟨w.heap.size, 1, none⟩ = some (.bool vb) := by rw [← hwW]; exact zJ1
  have x2 : (wV.alloc (.cells #[.int .u8 0, .int .u16 0, .int .u64 0, .bool false, .int .i64 0, .int .i64 0, .bool false, .bool false] 42)).cell? ⟨w.heap.size, 2, none⟩ = some (.bool vc) := by rw [← hwW]; exact zJ2
  have hwW' := Kpt.mk hwW
  clear hwW zH0 zH1 zH2 zH3 zH4 zH5 zI0 zI1 zI2 zI3 zI4 zI5 hBV hAV hBV2 hgV hPV hbW hBU hAU hBU2 hclU hPU H1
  replace hPW := Kpt.mk hPW
  go_wp2_with fail
  rw [← hwW'.out]
  refine (HNv.out wW).mono ?_
  rintro e wX ⟨N, rfl, hN, hPX, hbX⟩
  have zK0 := (hbX.cell (p := ⟨w.heap.size, 0, none⟩) (by show w.heap.size < _; omega)).trans zJ0
  have zK1 := (hbX.cell (p := ⟨w.heap.size, 1, none⟩) (by show w.heap.size < _; omega)).trans zJ1
  have zK2 := (hbX.cell (p := ⟨w.heap.size, 2, none⟩) (by show w.heap.size < _; omega)).trans zJ2
  have zK3 := (hbX.cell (p := ⟨w.heap.size + 1, 0, none⟩) (by show w.heap.size + 1 < _; omega)).trans zJ3
  have zK4 := (hbX.cell (p := ⟨w.heap.size + 1, 1, none⟩) (by show w.heap.size + 1 < _; omega)).trans zJ4
  have zK5 := (hbX.cell (p := ⟨w.heap.size + 1, 2, none⟩) (by show w.heap.size + 1 < _; omega)).trans zJ5
  have hBX : Kpt (Below w.heap.size w wX) := ⟨hBW.out.trans (hbX.mono hBW.out.size)⟩
  have hAX := rd_below hAW hbX
  have hBX2 := rd_below hBW2 hbX
  have hMX := hPW.out.below' hbX
  have hsX : wW.heap.size ≤ wX.heap.size := hbX.size
  have hNl : N < wX.heap.size := hPX.lt
  obtain ⟨wY, hwY⟩ : ∃ W, W = wX.alloc (.cells #[.int .u8 0, .int .u8 0, .int .u8 0, .int .u8 0] 5) := ⟨_, rfl⟩
  have hbY : Below wX.heap.size wX wY := by rw [hwY]; exact (Below.refl _ _).alloc (Nat.le_refl _) _
  have hoY : Kpt (wY.ownsRow wX.heap.size 5 1 (.slice (some ⟨wX.heap.size, 0, none⟩) 4 4) 4 (cels h4)) := ⟨by rw [hwY]; exact own_alloc wX wX.heap.size 4 wX.heap.size h4 rfl rfl (by decide) (Nat.le_refl _)⟩
  have hsY : wY.heap.size = wX.heap.size + 1 := by rw [hwY]; simp
  have hAY := rd_below hAX hbY
  have hBY2 := rd_below hBX2 hbY
  have hRX := Kpt.mk hBY2
  have hwY' := Kpt.mk hwY
  clear hwY x0 x1 x2 hwW' hbX hAW hBW2 hBW hPW HNv zJ0 zJ1 zJ2 zJ3 zJ4 zJ5
  go_wp2_with (refine wpList_append_new rfl (.tmp 97) (.tmp 98) rfl wX.heap.size _ _ h4 LX 4 16 rfl rfl (by rw [← hwY'.out]; exact hoY.out) (by rw [← hwY'.out]; exact hRX.out) (by rw [hXl.out]; decide) rfl (by rw [hXl.out]) (by decide) (by rw [← hwY'.out]; omega) ?_; intro g1 k1 wZ hoZ hlZ hgZ; rw [← hwY'.out] at hgZ)
  have hbZ : Below wX.heap.size wX wZ := hbY.grown hgZ.out (by omega) (fun q hq => by cases hq; exact Nat.le_refl _)
  have zL0 := (hbZ.cell (p := ⟨w.heap.size, 0, none⟩) (by show w.heap.size < _; omega)).trans zK0
  have zL1 := (hbZ.cell (p := ⟨w.heap.size, 1, none⟩) (by show w.heap.size < _; omega)).trans zK1
  have zL2 := (hbZ.cell (p := ⟨w.heap.size, 2, none⟩) (by show w.heap.size < _; omega)).trans zK2
  have zL3 := (hbZ.cell (p := ⟨w.heap.size + 1, 0, none⟩) (by show w.heap.size + 1 < _; omega)).trans zK3
  have zL4 := (hbZ.cell (p := ⟨w.heap.size + 1, 1, none⟩) (by show w.heap.size + 1 < _; omega)).trans zK4
  have zL5 := (hbZ.cell (p := ⟨w.heap.size + 1, 2, none⟩) (by show w.heap.size + 1 < _; omega)).trans zK5
  have hBZ : Kpt (Below w.heap.size w wZ) := ⟨hBX.out.trans (hbZ.mono hBX.out.size)⟩
  have hAZ := rd_below hAX hbZ
  have hBZ2 := rd_below hBX2 hbZ
  have hMZ := hMX.below' hbZ
  have hNZ := hPX.below' hbZ
  have hsZ : wX.heap.size ≤ wZ.heap.size := hbZ.size
  have hlZ' := hlZ.out
  have hkZ := own_cap hoZ.out
  have hclZ : Cl wZ g1 0 (h4 ++ LX) := fun j hj => by
    rw [Nat.zero_add]
    exact own_facts hoZ.out j (by rw [List.length_append, hXl.out] at hj; exact hj)
  clear zK0 zK1 zK2 zK3 zK4 zK5 hbZ hgZ hoZ hoY hAY hBY2 hRX hwY' hbY hBX hAX hBX2 hMX hPX
  refine (H2.out N g1 k1 wZ hNZ hclZ hkZ.1 hkZ.2 hlZ'.2).mono ?_
  rintro e xA ⟨rfl, hNA, hgA⟩
  have zM0 := (far_cell hgA ⟨w.heap.size, 0, none⟩ (by show w.heap.size < _; omega) (fun e => by have e' : N = w.heap.size := Option.some.inj e; omega)).trans zL0
  have zM1 := (far_cell hgA ⟨w.heap.size, 1, none⟩ (by show w.heap.size < _; omega) (fun e => by have e' : N = w.heap.size := Option.some.inj e; omega)).trans zL1
  have zM2 := (far_cell hgA ⟨w.heap.size, 2, none⟩ (by show w.heap.size < _; omega) (fun e => by have e' : N = w.heap.size := Option.some.inj e; omega)).trans zL2
  have zM3 := (far_cell hgA ⟨w.heap.size + 1, 0, none⟩ (by show w.heap.size + 1 < _; omega) (fun e => by have e' : N = w.heap.size + 1 := Option.some.inj e; omega)).trans zL3
  have zM4 := (far_cell hgA ⟨w.heap.size + 1, 1, none⟩ (by show w.heap.size + 1 < _; omega) (fun e => by have e' : N = w.heap.size + 1 := Option.some.inj e; omega)).trans zL4
  have zM5 := (far_cell hgA ⟨w.heap.size + 1, 2, none⟩ (by show w.heap.size + 1 < _; omega) (fun e => by have e' : N = w.heap.size + 1 := Option.some.inj e; omega)).trans zL5
  have hBA : Below w.heap.size w xA := hBZ.out.grown hgA hBZ.out.size (fun q hq => by cases hq; omega)
  have hAA := hAZ.of_block (w' := xA) (fun q hq => by cases hq; exact hgA.block ga (by omega) (fun e => by have e' : ga = N := Option.some.inj e; omega))
  have hBA2 := hBZ2.of_block (w' := xA) (fun q hq => by cases hq; exact hgA.block gb (by omega) (fun e => by have e' : gb = N := Option.some.inj e; omega))
  have hMA := hMZ.grown hgA (fun e => by have e' : N = M := Option.some.inj e; omega)
  have hsA : wZ.heap.size ≤ xA.heap.size := hgA.size
  obtain ⟨xB, hxB⟩ : ∃ W, W = (xA.alloc (.cells #[.int .u8 0, .int .u16 0, .int .u64 0, .bool false, .int .i64 0, .int .i64 0, .bool false, .bool false] 42)).alloc (.cells #[.int .u8 0, .int .u8 0, .int .u8 0, .int .u8 0] 5) := ⟨_, rfl⟩
  have hbB : Below xA.heap.size xA xB := by rw [hxB]; exact ((Below.refl _ _).alloc (Nat.le_refl _) _).alloc (by simp) _
  have hsB : xB.heap.size = xA.heap.size + 2 := by rw [hxB]; simp
  have hoB : Kpt (xB.ownsRow (xA.heap.size + 1) 5 1 (.slice (some ⟨xA.heap.size + 1, 0, none⟩) 4 4) 4 (cels h4)) := ⟨by rw [hxB]; exact own_alloc (xA.alloc _) (xA.heap.size + 1) 4 (xA.heap.size + 1) h4 (by simp) rfl (by decide) (Nat.le_refl _)⟩
  have hAB := rd_below hAA hbB
  have hBB2 := rd_below hBA2 hbB
  have hRY := Kpt.mk hAB
  have hxB' := Kpt.mk hxB
  clear hxB hMZ hNZ hclZ hBZ hAZ hBZ2 H2 zL0 zL1 zL2 zL3 zL4 zL5
  go_wp2_with (refine wpList_append_new rfl (.tmp 107) (.tmp 108) rfl (xA.heap.size + 1) _ _ h4 LY 4 24 rfl rfl (by rw [← hxB'.out]; exact hoB.out) (by rw [← hxB'.out]; exact hRY.out) (by rw [hYl.out]; decide) rfl (by rw [hYl.out]) (by decide) (by rw [← hxB'.out]; omega) ?_; intro g2 k2 xC hoC hlC hgC; rw [← hxB'.out] at hgC)
  have hbC : Below xA.heap.size xA xC := hbB.grown hgC.out (by omega) (fun q hq => by cases hq; exact Nat.le_succ _)
  have zN0 := (hbC.cell (p := ⟨w.heap.size, 0, none⟩) (by show w.heap.size < _; omega)).trans zM0
  have zN1 := (hbC.cell (p := ⟨w.heap.size, 1, none⟩) (by show w.heap.size < _; omega)).trans zM1
  have zN2 := (hbC.cell (p := ⟨w.heap.size, 2, none⟩) (by show w.heap.size < _; omega)).trans zM2
  have zN3 := (hbC.cell (p := ⟨w.heap.size + 1, 0, none⟩) (by show w.heap.size + 1 < _; omega)).trans zM3
  have zN4 := (hbC.cell (p := ⟨w.heap.size + 1, 1, none⟩) (by show w.heap.size + 1 < _; omega)).trans zM4
  have zN5 := (hbC.cell (p := ⟨w.heap.size + 1, 2, none⟩) (by show w.heap.size + 1 < _; omega)).trans zM5
  have hBC : Kpt (Below w.heap.size w xC) := ⟨hBA.trans (hbC.mono hBA.size)⟩
  have hMC := hMA.below' hbC
  have hNC := hNA.below' hbC
  have hsC : xA.heap.size ≤ xC.heap.size := hbC.size
  have hlC' := hlC.out
  have hkC := own_cap hoC.out
  have hclC : Cl xC g2 0 (h4 ++ LY) := fun j hj => by
    rw [Nat.zero_add]
    exact own_facts hoC.out j (by rw [List.length_append, hYl.out] at hj; exact hj)
  clear zM0 zM1 zM2 zM3 zM4 zM5 hbC hgC hoC hoB hAB hBB2 hRY hxB' hbB hBA hAA hBA2 hMA hNA hgA
  refine (H3.out N g2 k2 xC hNC hclC hkC.1 hkC.2 hlC'.2).mono ?_
  rintro e xD ⟨rfl, hND, hgD⟩
  have zO0 := (far_cell hgD ⟨w.heap.size, 0, none⟩ (by show w.heap.size < _; omega) (fun e => by have e' : N = w.heap.size := Option.some.inj e; omega)).trans zN0
  have zO1 := (far_cell hgD ⟨w.heap.size, 1, none⟩ (by show w.heap.size < _; omega) (fun e => by have e' : N = w.heap.size := Option.some.inj e; omega)).trans zN1
  have zO2 := (far_cell hgD ⟨w.heap.size, 2, none⟩ (by show w.heap.size < _; omega) (fun e => by have e' : N = w.heap.size := Option.some.inj e; omega)).trans zN2
  have zO3 := (far_cell hgD ⟨w.heap.size + 1, 0, none⟩ (by show w.heap.size + 1 < _; omega) (fun e => by have e' : N = w.heap.size + 1 := Option.some.inj e; omega)).trans zN3
  have zO4 := (far_cell hgD ⟨w.heap.size + 1, 1, none⟩ (by show w.heap.size + 1 < _; omega) (fun e => by have e' : N = w.heap.size + 1 := Option.some.inj e; omega)).trans zN4
  have zO5 := (far_cell hgD ⟨w.heap.size + 1, 2, none⟩ (by show w.heap.size + 1 < _; omega) (fun e => by have e' : N = w.heap.size + 1 := Option.some.inj e; omega)).trans zN5
  have hBD : Below w.heap.size w xD := hBC.out.grown hgD hBC.out.size (fun q hq => by cases hq; omega)
  have hMD := hMC.grown hgD (fun e => by have e' : N = M := Option.some.inj e; omega)
  have hsD : xC.heap.size ≤ xD.heap.size := hgD.size
  clear hMC hNC hclC hBC hgD H3 zN0 zN1 zN2 zN3 zN4 zN5
  go_wp2_with fail
  obtain ⟨wB, hwB⟩ : ∃ W, W = xD.alloc (.cells #[.int .u8 0, .int .u16 0, .int .u64 0, .bool false, .int .i64 0, .int .i64 0, .bool false, .bool false] 42) := ⟨_, rfl⟩
  have hbB : Below xD.heap.size xD wB := by rw [hwB]; exact (Below.refl _ _).alloc (Nat.le_refl _) _
  rw [← hwB]
  have zP0 := (hbB.cell (p := ⟨w.heap.size, 0, none⟩) (by show w.heap.size < _; omega)).trans zO0
  have zP1 := (hbB.cell (p := ⟨w.heap.size, 1, none⟩) (by show w.heap.size < _; omega)).trans zO1
  have zP2 := (hbB.cell (p := ⟨w.heap.size, 2, none⟩) (by show w.heap.size < _; omega)).trans zO2
  have zP3 := (hbB.cell (p := ⟨w.heap.size + 1, 0, none⟩) (by show w.heap.size + 1 < _; omega)).trans zO3
  have zP4 := (hbB.cell (p := ⟨w.heap.size + 1, 1, none⟩) (by show w.heap.size + 1 < _; omega)).trans zO4
  have zP5 := (hbB.cell (p := ⟨w.heap.size + 1, 2, none⟩) (by show w.heap.size + 1 < _; omega)).trans zO5
  have hPM := hMD.below' hbB
  have hPN := hND.below' hbB
  have hBB' : Kpt (Below w.heap.size w wB) := ⟨hBD.trans (hbB.mono hBD.size)⟩
  have hlB : w.heap.size + 2 ≤ wB.heap.size := by have := hbB.size; omega
  have carry : Kpt (∀ W, Below wB.heap.size wB W → (Pg W M ⟨ua, ub, uc⟩ ⟨va, vb, vc⟩ ∧ Pg W N ⟨ua, ub, uc⟩ ⟨va, vb, vc⟩ ∧ W.cell? ⟨w.heap.size, 0, none⟩ = some (.bool va) ∧ W.cell? ⟨w.heap.size, 1, none⟩ = some (.bool vb) ∧ W.cell? ⟨w.heap.size, 2, none⟩ = some (.bool vc) ∧ W.cell? ⟨w.heap.size + 1, 0, none⟩ = some (.bool ua) ∧ W.cell? ⟨w.heap.size + 1, 1, none⟩ = some (.bool ub) ∧ W.cell? ⟨w.heap.size + 1, 2, none⟩ = some (.bool uc))) := ⟨fun W h => ⟨hPM.below' h, hPN.below' h, (h.cell (p := ⟨w.heap.size, 0, none⟩) (by show w.heap.size < _; omega)).trans zP0, (h.cell (p := ⟨w.heap.size, 1, none⟩) (by show w.heap.size < _; omega)).trans zP1, (h.cell (p := ⟨w.heap.size, 2, none⟩) (by show w.heap.size < _; omega)).trans zP2, (h.cell (p := ⟨w.heap.size + 1, 0, none⟩) (by show w.heap.size + 1 < _; omega)).trans zP3, (h.cell (p := ⟨w.heap.size + 1, 1, none⟩) (by show w.heap.size + 1 < _; omega)).trans zP4, (h.cell (p := ⟨w.heap.size + 1, 2, none⟩) (by show w.heap.size + 1 < _; omega)).trans zP5⟩⟩
  clear hwB zO0 zO1 zO2 zO3 zO4 zO5 zP0 zP1 zP2 zP3 zP4 zP5 hbB hPM hPN hBD hMD hND
  have hnq := hnq.out
  have hes := hes.out
  cases hDv : D
  · have hcE : E = ch := by have := hDE.out; rw [hDv] at this; simpa using this
    subst hcE
    refine wp_region_any (by kernel_rfl) ?_
    refine wpAny_of_C (C := fun W => (Pg W M ⟨ua, ub, uc⟩ ⟨va, vb, vc⟩ ∧ Pg W N ⟨ua, ub, uc⟩ ⟨va, vb, vc⟩ ∧ W.cell? ⟨w.heap.size, 0, none⟩ = some (.bool va) ∧ W.cell? ⟨w.heap.size, 1, none⟩ = some (.bool vb) ∧ W.cell? ⟨w.heap.size, 2, none⟩ = some (.bool vc) ∧ W.cell? ⟨w.heap.size + 1, 0, none⟩ = some (.bool ua) ∧ W.cell? ⟨w.heap.size + 1, 1, none⟩ = some (.bool ub) ∧ W.cell? ⟨w.heap.size + 1, 2, none⟩ = some (.bool uc))) _ _ _ _ ?_
    refine wpAnyC_take 0 (.bool true) rfl (by kernel_rfl) (by kernel_rfl) (by kernel_rfl) (fun _ _ _ h => h) (wanted_free rfl _) (fun W hW => by go_simp) ?_
    simp only [Act.put, List.getElem_toArray, List.getElem_cons_succ, List.getElem_cons_zero, List.setIfInBounds_toArray, List.set_cons_succ, List.set_cons_zero]
    refine wpAnyC_take 1 (.bool true) rfl (by kernel_rfl) (by kernel_rfl) (by kernel_rfl) (fun _ _ _ h => h) (wanted_free rfl _) (fun W hW => by go_simp) ?_
    simp only [Act.put, List.getElem_toArray, List.getElem_cons_succ, List.getElem_cons_zero, List.setIfInBounds_toArray, List.set_cons_succ, List.set_cons_zero]
    refine wpAnyC_take 2 (.bool true) rfl (by kernel_rfl) (by kernel_rfl) (by kernel_rfl) (fun _ _ _ h => h) (wanted_at true rfl rfl rfl rfl) (fun W hW => by go_simp) ?_
    simp only [Act.put, List.getElem_toArray, List.getElem_cons_succ, List.getElem_cons_zero, List.setIfInBounds_toArray, List.set_cons_succ, List.set_cons_zero]
    refine wpAnyC_take 3 (.bool true) rfl (by kernel_rfl) (by kernel_rfl) (by kernel_rfl) (fun _ _ _ h => h) (wanted_free rfl _) (fun W hW => by go_simp) ?_
    simp only [Act.put, List.getElem_toArray, List.getElem_cons_succ, List.getElem_cons_zero, List.setIfInBounds_toArray, List.set_cons_succ, List.set_cons_zero]
    refine wpAnyC_take 4 (.bool true) rfl (by kernel_rfl) (by kernel_rfl) (by kernel_rfl) (fun _ _ _ h => h) (wanted_free rfl _) (fun W hW => by go_simp) ?_
    simp only [Act.put, List.getElem_toArray, List.getElem_cons_succ, List.getElem_cons_zero, List.setIfInBounds_toArray, List.set_cons_succ, List.set_cons_zero]
    refine wpAnyC_take 5 (.bool true) rfl (by kernel_rfl) (by kernel_rfl) (by kernel_rfl) (fun _ _ _ h => h) (wanted_at true rfl rfl rfl rfl) (fun W hW => by go_simp) ?_
    simp only [Act.put, List.getElem_toArray, List.getElem_cons_succ, List.getElem_cons_zero, List.setIfInBounds_toArray, List.set_cons_succ, List.set_cons_zero]
    refine wpAnyC_take 6 (.bool true) rfl (by kernel_rfl) (by kernel_rfl) (by kernel_rfl) (fun _ _ _ h => h) (wanted_free rfl _) (fun W hW => by go_simp) ?_
    simp only [Act.put, List.getElem_toArray, List.getElem_cons_succ, List.getElem_cons_zero, List.setIfInBounds_toArray, List.set_cons_succ, List.set_cons_zero]
    refine wpAnyC_take 7 (.bool true) rfl (by kernel_rfl) (by kernel_rfl) (by kernel_rfl) (fun _ _ _ h => h) (wanted_free rfl _) (fun W hW => by go_simp) ?_
    simp only [Act.put, List.getElem_toArray, List.getElem_cons_succ, List.getElem_cons_zero, List.setIfInBounds_toArray, List.set_cons_succ, List.set_cons_zero]
    refine wpAnyC_take 8 (.pointer (some ⟨M, 0, none⟩)) rfl (by kernel_rfl) (by kernel_rfl) (by kernel_rfl) (fun _ _ _ h => h) (wanted_at true rfl rfl rfl rfl) (fun W hW => by go_simp) ?_
    simp only [Act.put, List.getElem_toArray, List.getElem_cons_succ, List.getElem_cons_zero, List.setIfInBounds_toArray, List.set_cons_succ, List.set_cons_zero]
    refine wpAnyC_take 10 (.agg #[.bool ua, .bool ub, .bool uc]) rfl (by kernel_rfl) (by kernel_rfl) (by kernel_rfl) (fun _ _ _ h => h) (wanted_at true rfl rfl rfl rfl) (fun W hW => by obtain ⟨_, _, _, _, _, y0, y1, y2⟩ := hW; go_simp) ?_
    simp only [Act.put, List.getElem_toArray, List.getElem_cons_succ, List.getElem_cons_zero, List.setIfInBounds_toArray, List.set_cons_succ, List.set_cons_zero]
    refine wpAnyC_one 9 (carry.out _ (below_drew _)) rfl (by kernel_rfl) (wanted_at true rfl rfl rfl rfl) (fun KA hKA => ?_)
    go_simp
    refine (now_any M ⟨ua, ub, uc⟩ ⟨va, vb, vc⟩ _ (carry.out _ (below_drew _)).1).mono ?_
    rintro e wC ⟨rfl, hbC⟩
    replace hbC := below_undrew hbC
    rw [show Vs.vals ⟨ua, ub, uc⟩ = #[.bool ua, .bool ub, .bool uc] from rfl]
    refine hKA _ _ ?_
    clear hKA KA
    try simp only [Act.put, List.getElem_toArray, List.getElem_cons_succ, List.getElem_cons_zero, List.setIfInBounds_toArray, List.set_cons_succ, List.set_cons_zero]
    refine wpAnyC_take 11 (.bool true) rfl (by kernel_rfl) (by kernel_rfl) (by kernel_rfl) (fun _ _ _ h => h) (wanted_at true rfl rfl rfl rfl) (fun W hW => by go_simp) ?_
    simp only [Act.put, List.getElem_toArray, List.getElem_cons_succ, List.getElem_cons_zero, List.setIfInBounds_toArray, List.set_cons_succ, List.set_cons_zero]
    refine wpAnyC_take 12 (.bool true) rfl (by kernel_rfl) (by kernel_rfl) (by kernel_rfl) (fun _ _ _ h => h) (wanted_free rfl _) (fun W hW => by go_simp) ?_
    simp only [Act.put, List.getElem_toArray, List.getElem_cons_succ, List.getElem_cons_zero, List.setIfInBounds_toArray, List.set_cons_succ, List.set_cons_zero]
    refine wpAnyC_take 13 (.bool true) rfl (by kernel_rfl) (by kernel_rfl) (by kernel_rfl) (fun _ _ _ h => h) (wanted_free rfl _) (fun W hW => by go_simp) ?_
    simp only [Act.put, List.getElem_toArray, List.getElem_cons_succ, List.getElem_cons_zero, List.setIfInBounds_toArray, List.set_cons_succ, List.set_cons_zero]
    refine wpAnyC_take 14 (.pointer (some ⟨N, 0, none⟩)) rfl (by kernel_rfl) (by kernel_rfl) (by kernel_rfl) (fun _ _ _ h => h) (wanted_at true rfl rfl rfl rfl) (fun W hW => by go_simp) ?_
    simp only [Act.put, List.getElem_toArray, List.getElem_cons_succ, List.getElem_cons_zero, List.setIfInBounds_toArray, List.set_cons_succ, List.set_cons_zero]
    refine wpAnyC_take 16 (.agg #[.bool ua, .bool ub, .bool uc]) rfl (by kernel_rfl) (by kernel_rfl) (by kernel_rfl) (fun _ _ _ h => h) (wanted_at true rfl rfl rfl rfl) (fun W hW => by obtain ⟨_, _, _, _, _, y0, y1, y2⟩ := hW; go_simp) ?_
    simp only [Act.put, List.getElem_toArray, List.getElem_cons_succ, List.getElem_cons_zero, List.setIfInBounds_toArray, List.set_cons_succ, List.set_cons_zero]
    refine wpAnyC_one 15 (carry.out _ hbC) rfl (by kernel_rfl) (wanted_at true rfl rfl rfl rfl) (fun KA hKA => ?_)
    go_simp
    refine (now_any N ⟨ua, ub, uc⟩ ⟨va, vb, vc⟩ _ (carry.out _ hbC).2.1).mono ?_
    rintro e wD ⟨rfl, hbD⟩
    replace hbD : Below wB.heap.size wB wD := hbC.trans (hbD.mono hbC.size)
    rw [show Vs.vals ⟨ua, ub, uc⟩ = #[.bool ua, .bool ub, .bool uc] from rfl]
    refine hKA _ _ ?_
    clear hKA KA
    try simp only [Act.put, List.getElem_toArray, List.getElem_cons_succ, List.getElem_cons_zero, List.setIfInBounds_toArray, List.set_cons_succ, List.set_cons_zero]
    refine wpAnyC_take 17 (.bool true) rfl (by kernel_rfl) (by kernel_rfl) (by kernel_rfl) (fun _ _ _ h => h) (wanted_at true rfl rfl rfl rfl) (fun W hW => by go_simp) ?_
    simp only [Act.put, List.getElem_toArray, List.getElem_cons_succ, List.getElem_cons_zero, List.setIfInBounds_toArray, List.set_cons_succ, List.set_cons_zero]
    refine wpAnyC_take 18 (.bool true) rfl (by kernel_rfl) (by kernel_rfl) (by kernel_rfl) (fun _ _ _ h => h) (wanted_free rfl _) (fun W hW => by go_simp) ?_
    simp only [Act.put, List.getElem_toArray, List.getElem_cons_succ, List.getElem_cons_zero, List.setIfInBounds_toArray, List.set_cons_succ, List.set_cons_zero]
    refine wpAnyC_take 19 (.bool true) rfl (by kernel_rfl) (by kernel_rfl) (by kernel_rfl) (fun _ _ _ h => h) (wanted_free rfl _) (fun W hW => by go_simp) ?_
    simp only [Act.put, List.getElem_toArray, List.getElem_cons_succ, List.getElem_cons_zero, List.setIfInBounds_toArray, List.set_cons_succ, List.set_cons_zero]
    refine wpAnyC_take 20 (.bool E) rfl (by kernel_rfl) (by kernel_rfl) (by kernel_rfl) (fun _ _ _ h => h) (wanted_at true rfl rfl rfl rfl) (fun W hW => by go_simp) ?_
    simp only [Act.put, List.getElem_toArray, List.getElem_cons_succ, List.getElem_cons_zero, List.setIfInBounds_toArray, List.set_cons_succ, List.set_cons_zero]
    refine wpAnyC_take 21 (.agg #[.bool va, .bool vb, .bool vc]) rfl (by kernel_rfl) (by kernel_rfl) (by kernel_rfl) (fun _ _ _ h => h) (wanted_at true rfl rfl rfl rfl) (fun W hW => by obtain ⟨_, _, y0, y1, y2, _⟩ := hW; go_simp) ?_
    simp only [Act.put, List.getElem_toArray, List.getElem_cons_succ, List.getElem_cons_zero, List.setIfInBounds_toArray, List.set_cons_succ, List.set_cons_zero]
    refine wpAnyC_take 22 (.agg #[.bool ua, .bool ub, .bool uc]) rfl (by kernel_rfl) (by kernel_rfl) (by kernel_rfl) (fun _ _ _ h => h) (wanted_at true rfl rfl rfl rfl) (fun W hW => by obtain ⟨_, _, _, _, _, y0, y1, y2⟩ := hW; go_simp) ?_
    simp only [Act.put, List.getElem_toArray, List.getElem_cons_succ, List.getElem_cons_zero, List.setIfInBounds_toArray, List.set_cons_succ, List.set_cons_zero]
    refine wpAnyC_take 23 (.bool E) rfl (by kernel_rfl) (by kernel_rfl) (by kernel_rfl) (fun _ _ _ h => h) (wanted_at true rfl rfl rfl rfl) (fun W hW => by go_simp) ?_
    simp only [Act.put, List.getElem_toArray, List.getElem_cons_succ, List.getElem_cons_zero, List.setIfInBounds_toArray, List.set_cons_succ, List.set_cons_zero]
    refine wpAnyC_take 24 (.bool true) rfl (by kernel_rfl) (by kernel_rfl) (by kernel_rfl) (fun _ _ _ h => h) (wanted_at true rfl rfl rfl rfl) (fun W hW => by go_simp) ?_
    simp only [Act.put, List.getElem_toArray, List.getElem_cons_succ, List.getElem_cons_zero, List.setIfInBounds_toArray, List.set_cons_succ, List.set_cons_zero]
    refine wpAnyC_take 25 (.bool true) rfl (by kernel_rfl) (by kernel_rfl) (by kernel_rfl) (fun _ _ _ h => h) (wanted_free rfl _) (fun W hW => by go_simp) ?_
    simp only [Act.put, List.getElem_toArray, List.getElem_cons_succ, List.getElem_cons_zero, List.setIfInBounds_toArray, List.set_cons_succ, List.set_cons_zero]
    refine wpAnyC_take 26 (.bool true) rfl (by kernel_rfl) (by kernel_rfl) (by kernel_rfl) (fun _ _ _ h => h) (wanted_free rfl _) (fun W hW => by go_simp) ?_
    simp only [Act.put, List.getElem_toArray, List.getElem_cons_succ, List.getElem_cons_zero, List.setIfInBounds_toArray, List.set_cons_succ, List.set_cons_zero]
    refine wpAnyC_take 27 (.bool false) rfl (by kernel_rfl) (by kernel_rfl) (by kernel_rfl) (fun _ _ _ h => h) (wanted_at true rfl rfl rfl rfl) (fun W hW => by go_simp) ?_
    simp only [Act.put, List.getElem_toArray, List.getElem_cons_succ, List.getElem_cons_zero, List.setIfInBounds_toArray, List.set_cons_succ, List.set_cons_zero]
    refine wpAnyC_take 28 (.bool false) rfl (by kernel_rfl) (by kernel_rfl) (by kernel_rfl) (fun _ _ _ h => h) (wanted_at true rfl rfl rfl rfl) (fun W hW => by go_simp) ?_
    simp only [Act.put, List.getElem_toArray, List.getElem_cons_succ, List.getElem_cons_zero, List.setIfInBounds_toArray, List.set_cons_succ, List.set_cons_zero]
    refine wpAnyC_take 29 (.bool E) rfl (by kernel_rfl) (by kernel_rfl) (by kernel_rfl) (fun _ _ _ h => h) (wanted_at false rfl rfl rfl rfl) (fun W hW => by go_simp) ?_
    simp only [Act.put, List.getElem_toArray, List.getElem_cons_succ, List.getElem_cons_zero, List.setIfInBounds_toArray, List.set_cons_succ, List.set_cons_zero]
    refine wpAnyC_take 30 (.bool E) rfl (by kernel_rfl) (by kernel_rfl) (by kernel_rfl) (fun _ _ _ h => h) (wanted_at true rfl rfl rfl rfl) (fun W hW => by go_simp) ?_
    simp only [Act.put, List.getElem_toArray, List.getElem_cons_succ, List.getElem_cons_zero, List.setIfInBounds_toArray, List.set_cons_succ, List.set_cons_zero]
    refine wpAnyC_take 31 (.agg #[.bool va, .bool vb, .bool vc]) rfl (by kernel_rfl) (by kernel_rfl) (by kernel_rfl) (fun _ _ _ h => h) (wanted_at true rfl rfl rfl rfl) (fun W hW => by obtain ⟨_, _, y0, y1, y2, _⟩ := hW; go_simp) ?_
    simp only [Act.put, List.getElem_toArray, List.getElem_cons_succ, List.getElem_cons_zero, List.setIfInBounds_toArray, List.set_cons_succ, List.set_cons_zero]
    refine wpAnyC_take 32 (.agg #[.bool ua, .bool ub, .bool uc]) rfl (by kernel_rfl) (by kernel_rfl) (by kernel_rfl) (fun _ _ _ h => h) (wanted_at true rfl rfl rfl rfl) (fun W hW => by obtain ⟨_, _, _, _, _, y0, y1, y2⟩ := hW; go_simp) ?_
    simp only [Act.put, List.getElem_toArray, List.getElem_cons_succ, List.getElem_cons_zero, List.setIfInBounds_toArray, List.set_cons_succ, List.set_cons_zero]
    refine wpAnyC_take 33 (.bool E) rfl (by kernel_rfl) (by kernel_rfl) (by kernel_rfl) (fun _ _ _ h => h) (wanted_at true rfl rfl rfl rfl) (fun W hW => by go_simp) ?_
    simp only [Act.put, List.getElem_toArray, List.getElem_cons_succ, List.getElem_cons_zero, List.setIfInBounds_toArray, List.set_cons_succ, List.set_cons_zero]
    refine wpAnyC_take 34 (.bool true) rfl (by kernel_rfl) (by kernel_rfl) (by kernel_rfl) (fun _ _ _ h => h) (wanted_at true rfl rfl rfl rfl) (fun W hW => by go_simp) ?_
    simp only [Act.put, List.getElem_toArray, List.getElem_cons_succ, List.getElem_cons_zero, List.setIfInBounds_toArray, List.set_cons_succ, List.set_cons_zero]
    refine wpAnyC_take 35 (.bool true) rfl (by kernel_rfl) (by kernel_rfl) (by kernel_rfl) (fun _ _ _ h => h) (wanted_free rfl _) (fun W hW => by go_simp) ?_
    simp only [Act.put, List.getElem_toArray, List.getElem_cons_succ, List.getElem_cons_zero, List.setIfInBounds_toArray, List.set_cons_succ, List.set_cons_zero]
    refine wpAnyC_take 36 (.bool true) rfl (by kernel_rfl) (by kernel_rfl) (by kernel_rfl) (fun _ _ _ h => h) (wanted_free rfl _) (fun W hW => by go_simp) ?_
    simp only [Act.put, List.getElem_toArray, List.getElem_cons_succ, List.getElem_cons_zero, List.setIfInBounds_toArray, List.set_cons_succ, List.set_cons_zero]
    refine wpAnyC_done (carry.out _ hbD) (by kernel_rfl) ?_
    have hBE : Kpt (Below w.heap.size w wD) := ⟨hBB'.out.trans (hbD.mono hBB'.out.size)⟩
    clear hbC hbD carry hnq hes
    go_wp2_with fail
    go_ret
    exact ⟨rfl, hBE.out⟩
  · have hcE : ch = true := by have := hDE.out; rw [hDv] at this; simpa using this
    subst hcE
    refine wp_region_any (by kernel_rfl) ?_
    refine wpAny_of_C (C := fun W => (Pg W M ⟨ua, ub, uc⟩ ⟨va, vb, vc⟩ ∧ Pg W N ⟨ua, ub, uc⟩ ⟨va, vb, vc⟩ ∧ W.cell? ⟨w.heap.size, 0, none⟩ = some (.bool va) ∧ W.cell? ⟨w.heap.size, 1, none⟩ = some (.bool vb) ∧ W.cell? ⟨w.heap.size, 2, none⟩ = some (.bool vc) ∧ W.cell? ⟨w.heap.size + 1, 0, none⟩ = some (.bool ua) ∧ W.cell? ⟨w.heap.size + 1, 1, none⟩ = some (.bool ub) ∧ W.cell? ⟨w.heap.size + 1, 2, none⟩ = some (.bool uc))) _ _ _ _ ?_
    refine wpAnyC_take 0 (.bool true) rfl (by kernel_rfl) (by kernel_rfl) (by kernel_rfl) (fun _ _ _ h => h) (wanted_free rfl _) (fun W hW => by go_simp) ?_
    simp only [Act.put, List.getElem_toArray, List.getElem_cons_succ, List.getElem_cons_zero, List.setIfInBounds_toArray, List.set_cons_succ, List.set_cons_zero]
    refine wpAnyC_take 1 (.bool true) rfl (by kernel_rfl) (by kernel_rfl) (by kernel_rfl) (fun _ _ _ h => h) (wanted_free rfl _) (fun W hW => by go_simp) ?_
    simp only [Act.put, List.getElem_toArray, List.getElem_cons_succ, List.getElem_cons_zero, List.setIfInBounds_toArray, List.set_cons_succ, List.set_cons_zero]
    refine wpAnyC_take 2 (.bool true) rfl (by kernel_rfl) (by kernel_rfl) (by kernel_rfl) (fun _ _ _ h => h) (wanted_at true rfl rfl rfl rfl) (fun W hW => by go_simp) ?_
    simp only [Act.put, List.getElem_toArray, List.getElem_cons_succ, List.getElem_cons_zero, List.setIfInBounds_toArray, List.set_cons_succ, List.set_cons_zero]
    refine wpAnyC_take 3 (.bool true) rfl (by kernel_rfl) (by kernel_rfl) (by kernel_rfl) (fun _ _ _ h => h) (wanted_free rfl _) (fun W hW => by go_simp) ?_
    simp only [Act.put, List.getElem_toArray, List.getElem_cons_succ, List.getElem_cons_zero, List.setIfInBounds_toArray, List.set_cons_succ, List.set_cons_zero]
    refine wpAnyC_take 4 (.bool true) rfl (by kernel_rfl) (by kernel_rfl) (by kernel_rfl) (fun _ _ _ h => h) (wanted_free rfl _) (fun W hW => by go_simp) ?_
    simp only [Act.put, List.getElem_toArray, List.getElem_cons_succ, List.getElem_cons_zero, List.setIfInBounds_toArray, List.set_cons_succ, List.set_cons_zero]
    refine wpAnyC_take 5 (.bool true) rfl (by kernel_rfl) (by kernel_rfl) (by kernel_rfl) (fun _ _ _ h => h) (wanted_at true rfl rfl rfl rfl) (fun W hW => by go_simp) ?_
    simp only [Act.put, List.getElem_toArray, List.getElem_cons_succ, List.getElem_cons_zero, List.setIfInBounds_toArray, List.set_cons_succ, List.set_cons_zero]
    refine wpAnyC_take 6 (.bool true) rfl (by kernel_rfl) (by kernel_rfl) (by kernel_rfl) (fun _ _ _ h => h) (wanted_free rfl _) (fun W hW => by go_simp) ?_
    simp only [Act.put, List.getElem_toArray, List.getElem_cons_succ, List.getElem_cons_zero, List.setIfInBounds_toArray, List.set_cons_succ, List.set_cons_zero]
    refine wpAnyC_take 7 (.bool true) rfl (by kernel_rfl) (by kernel_rfl) (by kernel_rfl) (fun _ _ _ h => h) (wanted_free rfl _) (fun W hW => by go_simp) ?_
    simp only [Act.put, List.getElem_toArray, List.getElem_cons_succ, List.getElem_cons_zero, List.setIfInBounds_toArray, List.set_cons_succ, List.set_cons_zero]
    refine wpAnyC_take 8 (.pointer (some ⟨M, 0, none⟩)) rfl (by kernel_rfl) (by kernel_rfl) (by kernel_rfl) (fun _ _ _ h => h) (wanted_at true rfl rfl rfl rfl) (fun W hW => by go_simp) ?_
    simp only [Act.put, List.getElem_toArray, List.getElem_cons_succ, List.getElem_cons_zero, List.setIfInBounds_toArray, List.set_cons_succ, List.set_cons_zero]
    refine wpAnyC_take 10 (.agg #[.bool ua, .bool ub, .bool uc]) rfl (by kernel_rfl) (by kernel_rfl) (by kernel_rfl) (fun _ _ _ h => h) (wanted_at true rfl rfl rfl rfl) (fun W hW => by obtain ⟨_, _, _, _, _, y0, y1, y2⟩ := hW; go_simp) ?_
    simp only [Act.put, List.getElem_toArray, List.getElem_cons_succ, List.getElem_cons_zero, List.setIfInBounds_toArray, List.set_cons_succ, List.set_cons_zero]
    refine wpAnyC_one 9 (carry.out _ (below_drew _)) rfl (by kernel_rfl) (wanted_at true rfl rfl rfl rfl) (fun KA hKA => ?_)
    go_simp
    refine (now_any M ⟨ua, ub, uc⟩ ⟨va, vb, vc⟩ _ (carry.out _ (below_drew _)).1).mono ?_
    rintro e wC ⟨rfl, hbC⟩
    replace hbC := below_undrew hbC
    rw [show Vs.vals ⟨ua, ub, uc⟩ = #[.bool ua, .bool ub, .bool uc] from rfl]
    refine hKA _ _ ?_
    clear hKA KA
    try simp only [Act.put, List.getElem_toArray, List.getElem_cons_succ, List.getElem_cons_zero, List.setIfInBounds_toArray, List.set_cons_succ, List.set_cons_zero]
    refine wpAnyC_take 11 (.bool true) rfl (by kernel_rfl) (by kernel_rfl) (by kernel_rfl) (fun _ _ _ h => h) (wanted_at true rfl rfl rfl rfl) (fun W hW => by go_simp) ?_
    simp only [Act.put, List.getElem_toArray, List.getElem_cons_succ, List.getElem_cons_zero, List.setIfInBounds_toArray, List.set_cons_succ, List.set_cons_zero]
    refine wpAnyC_take 12 (.bool true) rfl (by kernel_rfl) (by kernel_rfl) (by kernel_rfl) (fun _ _ _ h => h) (wanted_free rfl _) (fun W hW => by go_simp) ?_
    simp only [Act.put, List.getElem_toArray, List.getElem_cons_succ, List.getElem_cons_zero, List.setIfInBounds_toArray, List.set_cons_succ, List.set_cons_zero]
    refine wpAnyC_take 13 (.bool true) rfl (by kernel_rfl) (by kernel_rfl) (by kernel_rfl) (fun _ _ _ h => h) (wanted_free rfl _) (fun W hW => by go_simp) ?_
    simp only [Act.put, List.getElem_toArray, List.getElem_cons_succ, List.getElem_cons_zero, List.setIfInBounds_toArray, List.set_cons_succ, List.set_cons_zero]
    refine wpAnyC_take 14 (.pointer (some ⟨N, 0, none⟩)) rfl (by kernel_rfl) (by kernel_rfl) (by kernel_rfl) (fun _ _ _ h => h) (wanted_at true rfl rfl rfl rfl) (fun W hW => by go_simp) ?_
    simp only [Act.put, List.getElem_toArray, List.getElem_cons_succ, List.getElem_cons_zero, List.setIfInBounds_toArray, List.set_cons_succ, List.set_cons_zero]
    refine wpAnyC_take 16 (.agg #[.bool ua, .bool ub, .bool uc]) rfl (by kernel_rfl) (by kernel_rfl) (by kernel_rfl) (fun _ _ _ h => h) (wanted_at true rfl rfl rfl rfl) (fun W hW => by obtain ⟨_, _, _, _, _, y0, y1, y2⟩ := hW; go_simp) ?_
    simp only [Act.put, List.getElem_toArray, List.getElem_cons_succ, List.getElem_cons_zero, List.setIfInBounds_toArray, List.set_cons_succ, List.set_cons_zero]
    refine wpAnyC_one 15 (carry.out _ hbC) rfl (by kernel_rfl) (wanted_at true rfl rfl rfl rfl) (fun KA hKA => ?_)
    go_simp
    refine (now_any N ⟨ua, ub, uc⟩ ⟨va, vb, vc⟩ _ (carry.out _ hbC).2.1).mono ?_
    rintro e wD ⟨rfl, hbD⟩
    replace hbD : Below wB.heap.size wB wD := hbC.trans (hbD.mono hbC.size)
    rw [show Vs.vals ⟨ua, ub, uc⟩ = #[.bool ua, .bool ub, .bool uc] from rfl]
    refine hKA _ _ ?_
    clear hKA KA
    try simp only [Act.put, List.getElem_toArray, List.getElem_cons_succ, List.getElem_cons_zero, List.setIfInBounds_toArray, List.set_cons_succ, List.set_cons_zero]
    refine wpAnyC_take 17 (.bool true) rfl (by kernel_rfl) (by kernel_rfl) (by kernel_rfl) (fun _ _ _ h => h) (wanted_at true rfl rfl rfl rfl) (fun W hW => by go_simp) ?_
    simp only [Act.put, List.getElem_toArray, List.getElem_cons_succ, List.getElem_cons_zero, List.setIfInBounds_toArray, List.set_cons_succ, List.set_cons_zero]
    refine wpAnyC_take 18 (.bool true) rfl (by kernel_rfl) (by kernel_rfl) (by kernel_rfl) (fun _ _ _ h => h) (wanted_free rfl _) (fun W hW => by go_simp) ?_
    simp only [Act.put, List.getElem_toArray, List.getElem_cons_succ, List.getElem_cons_zero, List.setIfInBounds_toArray, List.set_cons_succ, List.set_cons_zero]
    refine wpAnyC_take 19 (.bool true) rfl (by kernel_rfl) (by kernel_rfl) (by kernel_rfl) (fun _ _ _ h => h) (wanted_free rfl _) (fun W hW => by go_simp) ?_
    simp only [Act.put, List.getElem_toArray, List.getElem_cons_succ, List.getElem_cons_zero, List.setIfInBounds_toArray, List.set_cons_succ, List.set_cons_zero]
    refine wpAnyC_take 20 (.bool true) rfl (by kernel_rfl) (by kernel_rfl) (by kernel_rfl) (fun _ _ _ h => h) (wanted_at true rfl rfl rfl rfl) (fun W hW => by go_simp) ?_
    simp only [Act.put, List.getElem_toArray, List.getElem_cons_succ, List.getElem_cons_zero, List.setIfInBounds_toArray, List.set_cons_succ, List.set_cons_zero]
    refine wpAnyC_take 21 (.agg #[.bool va, .bool vb, .bool vc]) rfl (by kernel_rfl) (by kernel_rfl) (by kernel_rfl) (fun _ _ _ h => h) (wanted_at true rfl rfl rfl rfl) (fun W hW => by obtain ⟨_, _, y0, y1, y2, _⟩ := hW; go_simp) ?_
    simp only [Act.put, List.getElem_toArray, List.getElem_cons_succ, List.getElem_cons_zero, List.setIfInBounds_toArray, List.set_cons_succ, List.set_cons_zero]
    refine wpAnyC_take 22 (.agg #[.bool ua, .bool ub, .bool uc]) rfl (by kernel_rfl) (by kernel_rfl) (by kernel_rfl) (fun _ _ _ h => h) (wanted_at true rfl rfl rfl rfl) (fun W hW => by obtain ⟨_, _, _, _, _, y0, y1, y2⟩ := hW; go_simp) ?_
    simp only [Act.put, List.getElem_toArray, List.getElem_cons_succ, List.getElem_cons_zero, List.setIfInBounds_toArray, List.set_cons_succ, List.set_cons_zero]
    refine wpAnyC_take 23 (.bool true) rfl (by kernel_rfl) (by kernel_rfl) (by kernel_rfl) (fun _ _ _ h => h) (wanted_at true rfl rfl rfl rfl) (fun W hW => by go_simp) ?_
    simp only [Act.put, List.getElem_toArray, List.getElem_cons_succ, List.getElem_cons_zero, List.setIfInBounds_toArray, List.set_cons_succ, List.set_cons_zero]
    refine wpAnyC_take 24 (.bool true) rfl (by kernel_rfl) (by kernel_rfl) (by kernel_rfl) (fun _ _ _ h => h) (wanted_at true rfl rfl rfl rfl) (fun W hW => by go_simp) ?_
    simp only [Act.put, List.getElem_toArray, List.getElem_cons_succ, List.getElem_cons_zero, List.setIfInBounds_toArray, List.set_cons_succ, List.set_cons_zero]
    refine wpAnyC_take 25 (.bool true) rfl (by kernel_rfl) (by kernel_rfl) (by kernel_rfl) (fun _ _ _ h => h) (wanted_free rfl _) (fun W hW => by go_simp) ?_
    simp only [Act.put, List.getElem_toArray, List.getElem_cons_succ, List.getElem_cons_zero, List.setIfInBounds_toArray, List.set_cons_succ, List.set_cons_zero]
    refine wpAnyC_take 26 (.bool true) rfl (by kernel_rfl) (by kernel_rfl) (by kernel_rfl) (fun _ _ _ h => h) (wanted_free rfl _) (fun W hW => by go_simp) ?_
    simp only [Act.put, List.getElem_toArray, List.getElem_cons_succ, List.getElem_cons_zero, List.setIfInBounds_toArray, List.set_cons_succ, List.set_cons_zero]
    refine wpAnyC_take 27 (.bool true) rfl (by kernel_rfl) (by kernel_rfl) (by kernel_rfl) (fun _ _ _ h => h) (wanted_at true rfl rfl rfl rfl) (fun W hW => by go_simp) ?_
    simp only [Act.put, List.getElem_toArray, List.getElem_cons_succ, List.getElem_cons_zero, List.setIfInBounds_toArray, List.set_cons_succ, List.set_cons_zero]
    refine wpAnyC_take 28 (.bool true) rfl (by kernel_rfl) (by kernel_rfl) (by kernel_rfl) (fun _ _ _ h => h) (wanted_at true rfl rfl rfl rfl) (fun W hW => by go_simp) ?_
    simp only [Act.put, List.getElem_toArray, List.getElem_cons_succ, List.getElem_cons_zero, List.setIfInBounds_toArray, List.set_cons_succ, List.set_cons_zero]
    refine wpAnyC_skip 29 rfl (by kernel_rfl) (by kernel_rfl) (by kernel_rfl) (fun _ _ _ h => h) (wanted_no false rfl rfl rfl rfl) ?_
    simp only [Act.put, List.getElem_toArray, List.getElem_cons_succ, List.getElem_cons_zero, List.setIfInBounds_toArray, List.set_cons_succ, List.set_cons_zero]
    refine wpAnyC_take 30 (.bool true) rfl (by kernel_rfl) (by kernel_rfl) (by kernel_rfl) (fun _ _ _ h => h) (wanted_at true rfl rfl rfl rfl) (fun W hW => by go_simp) ?_
    simp only [Act.put, List.getElem_toArray, List.getElem_cons_succ, List.getElem_cons_zero, List.setIfInBounds_toArray, List.set_cons_succ, List.set_cons_zero]
    refine wpAnyC_take 31 (.agg #[.bool va, .bool vb, .bool vc]) rfl (by kernel_rfl) (by kernel_rfl) (by kernel_rfl) (fun _ _ _ h => h) (wanted_at true rfl rfl rfl rfl) (fun W hW => by obtain ⟨_, _, y0, y1, y2, _⟩ := hW; go_simp) ?_
    simp only [Act.put, List.getElem_toArray, List.getElem_cons_succ, List.getElem_cons_zero, List.setIfInBounds_toArray, List.set_cons_succ, List.set_cons_zero]
    refine wpAnyC_take 32 (.agg #[.bool ua, .bool ub, .bool uc]) rfl (by kernel_rfl) (by kernel_rfl) (by kernel_rfl) (fun _ _ _ h => h) (wanted_at true rfl rfl rfl rfl) (fun W hW => by obtain ⟨_, _, _, _, _, y0, y1, y2⟩ := hW; go_simp) ?_
    simp only [Act.put, List.getElem_toArray, List.getElem_cons_succ, List.getElem_cons_zero, List.setIfInBounds_toArray, List.set_cons_succ, List.set_cons_zero]
    refine wpAnyC_take 33 (.bool true) rfl (by kernel_rfl) (by kernel_rfl) (by kernel_rfl) (fun _ _ _ h => h) (wanted_at true rfl rfl rfl rfl) (fun W hW => by go_simp) ?_
    simp only [Act.put, List.getElem_toArray, List.getElem_cons_succ, List.getElem_cons_zero, List.setIfInBounds_toArray, List.set_cons_succ, List.set_cons_zero]
    refine wpAnyC_take 34 (.bool true) rfl (by kernel_rfl) (by kernel_rfl) (by kernel_rfl) (fun _ _ _ h => h) (wanted_at true rfl rfl rfl rfl) (fun W hW => by go_simp) ?_
    simp only [Act.put, List.getElem_toArray, List.getElem_cons_succ, List.getElem_cons_zero, List.setIfInBounds_toArray, List.set_cons_succ, List.set_cons_zero]
    refine wpAnyC_take 35 (.bool true) rfl (by kernel_rfl) (by kernel_rfl) (by kernel_rfl) (fun _ _ _ h => h) (wanted_free rfl _) (fun W hW => by go_simp) ?_
    simp only [Act.put, List.getElem_toArray, List.getElem_cons_succ, List.getElem_cons_zero, List.setIfInBounds_toArray, List.set_cons_succ, List.set_cons_zero]
    refine wpAnyC_take 36 (.bool true) rfl (by kernel_rfl) (by kernel_rfl) (by kernel_rfl) (fun _ _ _ h => h) (wanted_free rfl _) (fun W hW => by go_simp) ?_
    simp only [Act.put, List.getElem_toArray, List.getElem_cons_succ, List.getElem_cons_zero, List.setIfInBounds_toArray, List.set_cons_succ, List.set_cons_zero]
    refine wpAnyC_done (carry.out _ hbD) (by kernel_rfl) ?_
    have hBE : Kpt (Below w.heap.size w wD) := ⟨hBB'.out.trans (hbD.mono hBB'.out.size)⟩
    clear hbC hbD carry hnq hes
    go_wp2_with fail
    go_ret
    exact ⟨rfl, hBE.out⟩

theorem join_any (v u : Vs) (f : Bool) (w : World) : Calls Try.prog 7 #[.agg v.vals, .agg u.vals, .bool f] w fun e w' => e = .returned (.bool true) ∧ Below w.heap.size w w' := by
  cases f
  · exact join_false v u w
  · exact join_true v u w
end Go.Proofs.Ytdojhgapdocngaa
