/-
  ModeTells: the walk.
-/
import Derived.Test.YtdojhgapdocngaaMOpen
namespace Go.Proofs.Ytdojhgapdocngaa
open Go.RowKit
set_option linter.unusedVariables false
set_option linter.unusedSimpArgs false

/-- What can be changed has all bits that any values have. -/
def fits (a b : List Int) (h : Nat) : Bool := (List.range 40).all fun j => decide (j < h) || decide (Go.bits .andNot .u8 (a.getD j 0) (b.getD j 0) = 0)
theorem fits_at {a b : List Int} {h j : Nat} (hf : fits a b h = true) (h1 : h ≤ j) (h2 : j < 40) : Go.bits .andNot .u8 (a.getD j 0) (b.getD j 0) = 0 := by
  unfold fits at hf
  rw [List.all_eq_true] at hf
  have := hf j (List.mem_range.2 h2)
  simp at this
  rcases this with h3 | h3
  · omega
  · simpa using h3
theorem fits_all : ∀ a b c lg : Bool, ∀ g : Fin 3, fits (senL lg (if g = 0 then 8 else if g = 1 then 10 else 63) 0 ⟨a, b, c⟩ ⟨a, b, c⟩) (senL lg (if g = 0 then 8 else if g = 1 then 10 else 63) 1 ⟨a, b, c⟩ ⟨a, b, c⟩) (if lg then 8 else 4) = true := by decide +kernel
theorem fits_pg (v : Vs) (lg : Bool) (pg : Int) (h : isPg pg) : fits (senL lg pg 0 v v) (senL lg pg 1 v v) (if lg then 8 else 4) = true := by
  obtain ⟨a, b, c⟩ := v
  rcases h with rfl | rfl | rfl
  · exact fits_all a b c lg 0
  · exact fits_all a b c lg 1
  · exact fits_all a b c lg 2

theorem own_cell {w : World} {base g : Nat} {zs : List Int} {n c : Nat} (h : w.ownsRow base 5 1 (.slice (some ⟨g, 0, none⟩) n c) n (cels zs)) : ∀ i, i < n → w.cell? ⟨g, i, none⟩ = some (.int .u8 (zs.getD i 0)) := fun i hi => own_facts h i hi

theorem sen_call (B : Nat) (n s : Vs) (c : Cm) (w : World) (m : Nat) (hP : Pg w B n s) (hpg : isPg c.pg) (hm : (senL c.lg c.pg c.ct n s).length = m) :
    Calls Try.prog 14 #[.pointer (some ⟨B, 0, none⟩), .agg c.vals] w fun e w' => ∃ g k, e = .returned (.tuple #[.slice (some ⟨g, 0, none⟩) m k, .agg #[.int .u8 0, .int .u16 0, .int .u64 0, .bool false, .int .i64 0, .int .i64 0, .bool false, .bool false], .bool true]) ∧ w.heap.size ≤ g ∧ w'.ownsRow w.heap.size 5 1 (.slice (some ⟨g, 0, none⟩) m k) m (cels (senL c.lg c.pg c.ct n s)) ∧ Below w.heap.size w w' := by
  subst hm
  exact sense_some B n s c w hP hpg

set_option maxRecDepth 100000 in
set_option maxHeartbeats 2000000 in
theorem tell_false_0 (v : Vs) (pg : Int) (w : World) (hp : 0 ≤ pg ∧ pg ≤ 255) (hr : pg % 3 = 0) : Calls Try.prog 6 #[.agg v.vals, .int .u8 pg, .bool false] w fun e w' => e = .returned (.bool true) ∧ Below w.heap.size w w' := by
  have hfit := fits_pg v false 8 (.inl rfl)
  have HA := Kpt.mk awake_any
  have HN := Kpt.mk (new_any v)
  have HS1 := Kpt.mk (fun B W (h : Pg W B v v) => sen_call B v v ⟨0, false, 0, 0, 0, false, 0, false, false, 8, 0, false, 0, 0, false⟩ W 24 h (.inl rfl) rfl)
  have HS2 := Kpt.mk (fun B W (h : Pg W B v v) => sen_call B v v ⟨0, false, 0, 0, 0, false, 0, false, false, 8, 1, false, 0, 0, false⟩ W 24 h (.inl rfl) rfl)
  simp only [Cm.vals] at HS1 HS2
  obtain ⟨a, ha⟩ : ∃ a, a = senL false 8 0 v v := ⟨_, rfl⟩
  obtain ⟨b, hb⟩ : ∃ b, b = senL false 8 1 v v := ⟨_, rfl⟩
  rw [← ha] at HS1 hfit
  rw [← hb] at HS2 hfit
  have ha0 : a.getD 0 0 = 23 := by rw [ha]; rfl
  have ha1 : a.getD 1 0 = 0 := by rw [ha]; rfl
  replace hfit := Kpt.mk hfit
  clear ha hb
  have ht : pg.tmod 3 = 0 := by rw [Int.tmod_eq_emod_of_nonneg hp.1]; exact hr
  have e6 : IntKind.i64.wrap pg = pg := by rw [IntKind.wrap_i64]; omega
  obtain ⟨va, vb, vc⟩ := v
  simp only [Vs.vals] at HN ⊢
  go_enter Try.func6, Try.ntmps6
  go_wp2_with (first
    | (go_at_call 14; have hmm := m2; refine (HS2.out B _ ((hP.out.below' hbS.out).below' ((Below.refl _ _).alloc (Nat.le_refl _) _))).mono ?_; rintro e w4 ⟨g2, k2, rfl, hg2, ho2, hb4⟩; replace ho2 := Kpt.mk ho2; replace hb4 := Kpt.mk hb4; replace hg2 := Kpt.mk hg2)
    | (go_at_call 14; refine (HS1.out B _ hP.out).mono ?_; rintro e w3 ⟨g1, k1, rfl, hg1, ho1, hb3⟩; replace ho1 := Kpt.mk ho1; have hbS := Kpt.mk hb3; replace hg1 := Kpt.mk hg1; have m2 : Kpt True := ⟨trivial⟩; clear hb3)
    | (go_at_call 10; refine (HN.out _).mono ?_; rintro e w2 ⟨B, rfl, hB, hP, hb2⟩; replace hP := Kpt.mk hP; replace hb2 := Kpt.mk hb2; replace hB := Kpt.mk hB)
    | (go_at_call 8; refine (HA.out _).mono ?_; rintro e w1 ⟨rfl, hb1⟩; have z0 : w1.cell? ⟨w.heap.size, 0, none⟩ = some (.bool va) := (hb1.cell (p := ⟨w.heap.size, 0, none⟩) (by simp)).trans (by simp); have z1 : w1.cell? ⟨w.heap.size, 1, none⟩ = some (.bool vb) := (hb1.cell (p := ⟨w.heap.size, 1, none⟩) (by simp)).trans (by simp); have z2 : w1.cell? ⟨w.heap.size, 2, none⟩ = some (.bool vc) := (hb1.cell (p := ⟨w.heap.size, 2, none⟩) (by simp)).trans (by simp); have zl : w.heap.size < w1.heap.size := Nat.lt_of_lt_of_le (by simp) hb1.size; replace hb1 := Kpt.mk hb1))
  obtain ⟨w5, hw5⟩ : ∃ w5, w5 = w4.alloc (.cells #[.int .u8 0, .int .u16 0, .int .u64 0, .bool false, .int .i64 0, .int .i64 0, .bool false, .bool false] 42) := ⟨_, rfl⟩
  rw [← hw5]
  have hl1 := (World.ownsRow.lt ho1.out g1 rfl).2
  have hbk : w5.heap[g1]? = w3.heap[g1]? := by rw [hw5, Below.heap_alloc w4 _ g1 (Nat.lt_of_lt_of_le (by simp; omega) hb4.out.size), hb4.out.block g1 (by simp; omega), Below.heap_alloc w3 _ g1 hl1]
  have hA : Kpt (∀ i, i < 24 → w5.cell? ⟨g1, i, none⟩ = some (.int .u8 (a.getD i 0))) := ⟨own_cell (own_of_block ho1.out (fun q hq => by cases hq; exact hbk))⟩
  have hB2 : Kpt (∀ i, i < 24 → w5.cell? ⟨g2, i, none⟩ = some (.int .u8 (b.getD i 0))) := ⟨own_cell (own_of_block ho2.out (fun q hq => by cases hq; rw [hw5]; exact Below.heap_alloc w4 _ g2 (World.ownsRow.lt ho2.out g2 rfl).2))⟩
  have hbF : Kpt (Below w.heap.size w w5) := ⟨by
    have q1 := ((Below.refl w.heap.size w).alloc (Nat.le_refl _) (.cells #[.bool va, .bool vb, .bool vc] 23)).trans (hb1.out.mono (by simp))
    have q2 := (q1.alloc q1.size (.cells #[.int .u8 8, .int .u8 10, .int .u8 63] 5)).trans (hb2.out.mono (by have := q1.size; simp; omega))
    have q3 := q2.trans (hbS.out.mono q2.size)
    have q4 := (q3.alloc q3.size (.cells #[.int .u8 0, .int .u16 0, .int .u64 0, .bool false, .int .i64 0, .int .i64 0, .bool false, .bool false] 42)).trans (hb4.out.mono (by have := q3.size; simp; omega))
    rw [hw5]
    exact q4.alloc q4.size _⟩
  clear hbk hw5 hl1 ho1 ho2 hbS hb4 hb1 hb2 hP hB hg1 hg2 m2 z0 z1 z2 zl HS1 HS2 HN HA
  go_loopw [16] (fun t wr => ∃ k : Nat, 4 ≤ k ∧ k ≤ 24 ∧ t = .int .i64 k ∧ Kpt (∃ q, wr = w5.drewN q)) (fun t _ => 24 - (intOf t).toNat)
  case atStart => exact ⟨4, by omega, by omega, rfl, ⟨0, rfl⟩⟩
  case round =>
    obtain ⟨k, hk1, hk2, rfl, hq⟩ := hrel
    obtain ⟨q, hq'⟩ := hq.out
    have hbk : Kpt (Below w.heap.size w wr) := ⟨by rw [hq']; exact below_drewN hbF.out q⟩
    by_cases hlt : k < 24
    · have e5 : (k : Int) < 24 := by omega
      have ca : wr.cell? ⟨g1, k, none⟩ = some (.int .u8 (a.getD k 0)) := by rw [hq']; exact hA.out k hlt
      have cb : wr.cell? ⟨g2, k, none⟩ = some (.int .u8 (b.getD k 0)) := by rw [hq']; exact hB2.out k hlt
      have hx := fits_at (j := k) hfit.out hk1 (by omega)
      obtain ⟨x, hx1⟩ : ∃ x, x = a.getD k 0 := ⟨_, rfl⟩
      obtain ⟨y, hy1⟩ : ∃ y, y = b.getD k 0 := ⟨_, rfl⟩
      rw [← hx1] at ca hx
      rw [← hy1] at cb hx
      clear hx1 hy1 hq' ha0 ha1 hr ht
      go_wp2
      go_quiet (fail)
      go_wp2
      go_roundw
      case rel => exact ⟨k + 1, by omega, by omega, by go_num, ⟨by obtain ⟨q, hq'⟩ := hq.out; exact ⟨_, by rw [hq', World.drewN_drewN]⟩⟩⟩
      case measure => simp [intOf]; omega
    · obtain rfl : k = 24 := by omega
      have c0 : wr.cell? ⟨g1, 0, none⟩ = some (.int .u8 (a.getD 0 0)) := by rw [hq']; exact hA.out 0 (by decide)
      have c1 : wr.cell? ⟨g1, 1, none⟩ = some (.int .u8 (a.getD 1 0)) := by rw [hq']; exact hA.out 1 (by decide)
      rw [ha0] at c0
      rw [ha1] at c1
      clear hq' ha0 ha1 hr ht
      go_wp2
      skip
      go_ret
      exact ⟨rfl, hbk.out⟩

set_option maxRecDepth 100000 in
set_option maxHeartbeats 2000000 in
theorem tell_false_1 (v : Vs) (pg : Int) (w : World) (hp : 0 ≤ pg ∧ pg ≤ 255) (hr : pg % 3 = 1) : Calls Try.prog 6 #[.agg v.vals, .int .u8 pg, .bool false] w fun e w' => e = .returned (.bool true) ∧ Below w.heap.size w w' := by
  have hfit := fits_pg v false 10 (.inr (.inl rfl))
  have HA := Kpt.mk awake_any
  have HN := Kpt.mk (new_any v)
  have HS1 := Kpt.mk (fun B W (h : Pg W B v v) => sen_call B v v ⟨0, false, 0, 0, 0, false, 0, false, false, 10, 0, false, 0, 0, false⟩ W 16 h (.inr (.inl rfl)) rfl)
  have HS2 := Kpt.mk (fun B W (h : Pg W B v v) => sen_call B v v ⟨0, false, 0, 0, 0, false, 0, false, false, 10, 1, false, 0, 0, false⟩ W 16 h (.inr (.inl rfl)) rfl)
  simp only [Cm.vals] at HS1 HS2
  obtain ⟨a, ha⟩ : ∃ a, a = senL false 10 0 v v := ⟨_, rfl⟩
  obtain ⟨b, hb⟩ : ∃ b, b = senL false 10 1 v v := ⟨_, rfl⟩
  rw [← ha] at HS1 hfit
  rw [← hb] at HS2 hfit
  have ha0 : a.getD 0 0 = 15 := by rw [ha]; rfl
  have ha1 : a.getD 1 0 = 0 := by rw [ha]; rfl
  replace hfit := Kpt.mk hfit
  clear ha hb
  have ht : pg.tmod 3 = 1 := by rw [Int.tmod_eq_emod_of_nonneg hp.1]; exact hr
  have e6 : IntKind.i64.wrap pg = pg := by rw [IntKind.wrap_i64]; omega
  obtain ⟨va, vb, vc⟩ := v
  simp only [Vs.vals] at HN ⊢
  go_enter Try.func6, Try.ntmps6
  go_wp2_with (first
    | (go_at_call 14; have hmm := m2; refine (HS2.out B _ ((hP.out.below' hbS.out).below' ((Below.refl _ _).alloc (Nat.le_refl _) _))).mono ?_; rintro e w4 ⟨g2, k2, rfl, hg2, ho2, hb4⟩; replace ho2 := Kpt.mk ho2; replace hb4 := Kpt.mk hb4; replace hg2 := Kpt.mk hg2)
    | (go_at_call 14; refine (HS1.out B _ hP.out).mono ?_; rintro e w3 ⟨g1, k1, rfl, hg1, ho1, hb3⟩; replace ho1 := Kpt.mk ho1; have hbS := Kpt.mk hb3; replace hg1 := Kpt.mk hg1; have m2 : Kpt True := ⟨trivial⟩; clear hb3)
    | (go_at_call 10; refine (HN.out _).mono ?_; rintro e w2 ⟨B, rfl, hB, hP, hb2⟩; replace hP := Kpt.mk hP; replace hb2 := Kpt.mk hb2; replace hB := Kpt.mk hB)
    | (go_at_call 8; refine (HA.out _).mono ?_; rintro e w1 ⟨rfl, hb1⟩; have z0 : w1.cell? ⟨w.heap.size, 0, none⟩ = some (.bool va) := (hb1.cell (p := ⟨w.heap.size, 0, none⟩) (by simp)).trans (by simp); have z1 : w1.cell? ⟨w.heap.size, 1, none⟩ = some (.bool vb) := (hb1.cell (p := ⟨w.heap.size, 1, none⟩) (by simp)).trans (by simp); have z2 : w1.cell? ⟨w.heap.size, 2, none⟩ = some (.bool vc) := (hb1.cell (p := ⟨w.heap.size, 2, none⟩) (by simp)).trans (by simp); have zl : w.heap.size < w1.heap.size := Nat.lt_of_lt_of_le (by simp) hb1.size; replace hb1 := Kpt.mk hb1))
  obtain ⟨w5, hw5⟩ : ∃ w5, w5 = w4.alloc (.cells #[.int .u8 0, .int .u16 0, .int .u64 0, .bool false, .int .i64 0, .int .i64 0, .bool false, .bool false] 42) := ⟨_, rfl⟩
  rw [← hw5]
  have hl1 := (World.ownsRow.lt ho1.out g1 rfl).2
  have hbk : w5.heap[g1]? = w3.heap[g1]? := by rw [hw5, Below.heap_alloc w4 _ g1 (Nat.lt_of_lt_of_le (by simp; omega) hb4.out.size), hb4.out.block g1 (by simp; omega), Below.heap_alloc w3 _ g1 hl1]
  have hA : Kpt (∀ i, i < 16 → w5.cell? ⟨g1, i, none⟩ = some (.int .u8 (a.getD i 0))) := ⟨own_cell (own_of_block ho1.out (fun q hq => by cases hq; exact hbk))⟩
  have hB2 : Kpt (∀ i, i < 16 → w5.cell? ⟨g2, i, none⟩ = some (.int .u8 (b.getD i 0))) := ⟨own_cell (own_of_block ho2.out (fun q hq => by cases hq; rw [hw5]; exact Below.heap_alloc w4 _ g2 (World.ownsRow.lt ho2.out g2 rfl).2))⟩
  have hbF : Kpt (Below w.heap.size w w5) := ⟨by
    have q1 := ((Below.refl w.heap.size w).alloc (Nat.le_refl _) (.cells #[.bool va, .bool vb, .bool vc] 23)).trans (hb1.out.mono (by simp))
    have q2 := (q1.alloc q1.size (.cells #[.int .u8 8, .int .u8 10, .int .u8 63] 5)).trans (hb2.out.mono (by have := q1.size; simp; omega))
    have q3 := q2.trans (hbS.out.mono q2.size)
    have q4 := (q3.alloc q3.size (.cells #[.int .u8 0, .int .u16 0, .int .u64 0, .bool false, .int .i64 0, .int .i64 0, .bool false, .bool false] 42)).trans (hb4.out.mono (by have := q3.size; simp; omega))
    rw [hw5]
    exact q4.alloc q4.size _⟩
  clear hbk hw5 hl1 ho1 ho2 hbS hb4 hb1 hb2 hP hB hg1 hg2 m2 z0 z1 z2 zl HS1 HS2 HN HA
  go_loopw [16] (fun t wr => ∃ k : Nat, 4 ≤ k ∧ k ≤ 16 ∧ t = .int .i64 k ∧ Kpt (∃ q, wr = w5.drewN q)) (fun t _ => 16 - (intOf t).toNat)
  case atStart => exact ⟨4, by omega, by omega, rfl, ⟨0, rfl⟩⟩
  case round =>
    obtain ⟨k, hk1, hk2, rfl, hq⟩ := hrel
    obtain ⟨q, hq'⟩ := hq.out
    have hbk : Kpt (Below w.heap.size w wr) := ⟨by rw [hq']; exact below_drewN hbF.out q⟩
    by_cases hlt : k < 16
    · have e5 : (k : Int) < 16 := by omega
      have ca : wr.cell? ⟨g1, k, none⟩ = some (.int .u8 (a.getD k 0)) := by rw [hq']; exact hA.out k hlt
      have cb : wr.cell? ⟨g2, k, none⟩ = some (.int .u8 (b.getD k 0)) := by rw [hq']; exact hB2.out k hlt
      have hx := fits_at (j := k) hfit.out hk1 (by omega)
      obtain ⟨x, hx1⟩ : ∃ x, x = a.getD k 0 := ⟨_, rfl⟩
      obtain ⟨y, hy1⟩ : ∃ y, y = b.getD k 0 := ⟨_, rfl⟩
      rw [← hx1] at ca hx
      rw [← hy1] at cb hx
      clear hx1 hy1 hq' ha0 ha1 hr ht
      go_wp2
      go_quiet (fail)
      go_wp2
      go_roundw
      case rel => exact ⟨k + 1, by omega, by omega, by go_num, ⟨by obtain ⟨q, hq'⟩ := hq.out; exact ⟨_, by rw [hq', World.drewN_drewN]⟩⟩⟩
      case measure => simp [intOf]; omega
    · obtain rfl : k = 16 := by omega
      have c0 : wr.cell? ⟨g1, 0, none⟩ = some (.int .u8 (a.getD 0 0)) := by rw [hq']; exact hA.out 0 (by decide)
      have c1 : wr.cell? ⟨g1, 1, none⟩ = some (.int .u8 (a.getD 1 0)) := by rw [hq']; exact hA.out 1 (by decide)
      rw [ha0] at c0
      rw [ha1] at c1
      clear hq' ha0 ha1 hr ht
      go_wp2
      skip
      go_ret
      exact ⟨rfl, hbk.out⟩

set_option maxRecDepth 100000 in
set_option maxHeartbeats 2000000 in
theorem tell_false_2 (v : Vs) (pg : Int) (w : World) (hp : 0 ≤ pg ∧ pg ≤ 255) (hr : pg % 3 = 2) : Calls Try.prog 6 #[.agg v.vals, .int .u8 pg, .bool false] w fun e w' => e = .returned (.bool true) ∧ Below w.heap.size w w' := by
  have hfit := fits_pg v false 63 (.inr (.inr rfl))
  have HA := Kpt.mk awake_any
  have HN := Kpt.mk (new_any v)
  have HS1 := Kpt.mk (fun B W (h : Pg W B v v) => sen_call B v v ⟨0, false, 0, 0, 0, false, 0, false, false, 63, 0, false, 0, 0, false⟩ W 36 h (.inr (.inr rfl)) rfl)
  have HS2 := Kpt.mk (fun B W (h : Pg W B v v) => sen_call B v v ⟨0, false, 0, 0, 0, false, 0, false, false, 63, 1, false, 0, 0, false⟩ W 36 h (.inr (.inr rfl)) rfl)
  simp only [Cm.vals] at HS1 HS2
  obtain ⟨a, ha⟩ : ∃ a, a = senL false 63 0 v v := ⟨_, rfl⟩
  obtain ⟨b, hb⟩ : ∃ b, b = senL false 63 1 v v := ⟨_, rfl⟩
  rw [← ha] at HS1 hfit
  rw [← hb] at HS2 hfit
  have ha0 : a.getD 0 0 = 35 := by rw [ha]; rfl
  have ha1 : a.getD 1 0 = 0 := by rw [ha]; rfl
  replace hfit := Kpt.mk hfit
  clear ha hb
  have ht : pg.tmod 3 = 2 := by rw [Int.tmod_eq_emod_of_nonneg hp.1]; exact hr
  have e6 : IntKind.i64.wrap pg = pg := by rw [IntKind.wrap_i64]; omega
  obtain ⟨va, vb, vc⟩ := v
  simp only [Vs.vals] at HN ⊢
  go_enter Try.func6, Try.ntmps6
  go_wp2_with (first
    | (go_at_call 14; have hmm := m2; refine (HS2.out B _ ((hP.out.below' hbS.out).below' ((Below.refl _ _).alloc (Nat.le_refl _) _))).mono ?_; rintro e w4 ⟨g2, k2, rfl, hg2, ho2, hb4⟩; replace ho2 := Kpt.mk ho2; replace hb4 := Kpt.mk hb4; replace hg2 := Kpt.mk hg2)
    | (go_at_call 14; refine (HS1.out B _ hP.out).mono ?_; rintro e w3 ⟨g1, k1, rfl, hg1, ho1, hb3⟩; replace ho1 := Kpt.mk ho1; have hbS := Kpt.mk hb3; replace hg1 := Kpt.mk hg1; have m2 : Kpt True := ⟨trivial⟩; clear hb3)
    | (go_at_call 10; refine (HN.out _).mono ?_; rintro e w2 ⟨B, rfl, hB, hP, hb2⟩; replace hP := Kpt.mk hP; replace hb2 := Kpt.mk hb2; replace hB := Kpt.mk hB)
    | (go_at_call 8; refine (HA.out _).mono ?_; rintro e w1 ⟨rfl, hb1⟩; have z0 : w1.cell? ⟨w.heap.size, 0, none⟩ = some (.bool va) := (hb1.cell (p := ⟨w.heap.size, 0, none⟩) (by simp)).trans (by simp); have z1 : w1.cell? ⟨w.heap.size, 1, none⟩ = some (.bool vb) := (hb1.cell (p := ⟨w.heap.size, 1, none⟩) (by simp)).trans (by simp); have z2 : w1.cell? ⟨w.heap.size, 2, none⟩ = some (.bool vc) := (hb1.cell (p := ⟨w.heap.size, 2, none⟩) (by simp)).trans (by simp); have zl : w.heap.size < w1.heap.size := Nat.lt_of_lt_of_le (by simp) hb1.size; replace hb1 := Kpt.mk hb1))
  obtain ⟨w5, hw5⟩ : ∃ w5, w5 = w4.alloc (.cells #[.int .u8 0, .int .u16 0, .int .u64 0, .bool false, .int .i64 0, .int .i64 0, .bool false, .bool false] 42) := ⟨_, rfl⟩
  rw [← hw5]
  have hl1 := (World.ownsRow.lt ho1.out g1 rfl).2
  have hbk : w5.heap[g1]? = w3.heap[g1]? := by rw [hw5, Below.heap_alloc w4 _ g1 (Nat.lt_of_lt_of_le (by simp; omega) hb4.out.size), hb4.out.block g1 (by simp; omega), Below.heap_alloc w3 _ g1 hl1]
  have hA : Kpt (∀ i, i < 36 → w5.cell? ⟨g1, i, none⟩ = some (.int .u8 (a.getD i 0))) := ⟨own_cell (own_of_block ho1.out (fun q hq => by cases hq; exact hbk))⟩
  have hB2 : Kpt (∀ i, i < 36 → w5.cell? ⟨g2, i, none⟩ = some (.int .u8 (b.getD i 0))) := ⟨own_cell (own_of_block ho2.out (fun q hq => by cases hq; rw [hw5]; exact Below.heap_alloc w4 _ g2 (World.ownsRow.lt ho2.out g2 rfl).2))⟩
  have hbF : Kpt (Below w.heap.size w w5) := ⟨by
    have q1 := ((Below.refl w.heap.size w).alloc (Nat.le_refl _) (.cells #[.bool va, .bool vb, .bool vc] 23)).trans (hb1.out.mono (by simp))
    have q2 := (q1.alloc q1.size (.cells #[.int .u8 8, .int .u8 10, .int .u8 63] 5)).trans (hb2.out.mono (by have := q1.size; simp; omega))
    have q3 := q2.trans (hbS.out.mono q2.size)
    have q4 := (q3.alloc q3.size (.cells #[.int .u8 0, .int .u16 0, .int .u64 0, .bool false, .int .i64 0, .int .i64 0, .bool false, .bool false] 42)).trans (hb4.out.mono (by have := q3.size; simp; omega))
    rw [hw5]
    exact q4.alloc q4.size _⟩
  clear hbk hw5 hl1 ho1 ho2 hbS hb4 hb1 hb2 hP hB hg1 hg2 m2 z0 z1 z2 zl HS1 HS2 HN HA
  go_loopw [16] (fun t wr => ∃ k : Nat, 4 ≤ k ∧ k ≤ 36 ∧ t = .int .i64 k ∧ Kpt (∃ q, wr = w5.drewN q)) (fun t _ => 36 - (intOf t).toNat)
  case atStart => exact ⟨4, by omega, by omega, rfl, ⟨0, rfl⟩⟩
  case round =>
    obtain ⟨k, hk1, hk2, rfl, hq⟩ := hrel
    obtain ⟨q, hq'⟩ := hq.out
    have hbk : Kpt (Below w.heap.size w wr) := ⟨by rw [hq']; exact below_drewN hbF.out q⟩
    by_cases hlt : k < 36
    · have e5 : (k : Int) < 36 := by omega
      have ca : wr.cell? ⟨g1, k, none⟩ = some (.int .u8 (a.getD k 0)) := by rw [hq']; exact hA.out k hlt
      have cb : wr.cell? ⟨g2, k, none⟩ = some (.int .u8 (b.getD k 0)) := by rw [hq']; exact hB2.out k hlt
      have hx := fits_at (j := k) hfit.out hk1 (by omega)
      obtain ⟨x, hx1⟩ : ∃ x, x = a.getD k 0 := ⟨_, rfl⟩
      obtain ⟨y, hy1⟩ : ∃ y, y = b.getD k 0 := ⟨_, rfl⟩
      rw [← hx1] at ca hx
      rw [← hy1] at cb hx
      clear hx1 hy1 hq' ha0 ha1 hr ht
      go_wp2
      go_quiet (fail)
      go_wp2
      go_roundw
      case rel => exact ⟨k + 1, by omega, by omega, by go_num, ⟨by obtain ⟨q, hq'⟩ := hq.out; exact ⟨_, by rw [hq', World.drewN_drewN]⟩⟩⟩
      case measure => simp [intOf]; omega
    · obtain rfl : k = 36 := by omega
      have c0 : wr.cell? ⟨g1, 0, none⟩ = some (.int .u8 (a.getD 0 0)) := by rw [hq']; exact hA.out 0 (by decide)
      have c1 : wr.cell? ⟨g1, 1, none⟩ = some (.int .u8 (a.getD 1 0)) := by rw [hq']; exact hA.out 1 (by decide)
      rw [ha0] at c0
      rw [ha1] at c1
      clear hq' ha0 ha1 hr ht
      go_wp2
      skip
      go_ret
      exact ⟨rfl, hbk.out⟩

set_option maxRecDepth 100000 in
set_option maxHeartbeats 2000000 in
theorem tell_true_0 (v : Vs) (pg : Int) (w : World) (hp : 0 ≤ pg ∧ pg ≤ 255) (hr : pg % 3 = 0) : Calls Try.prog 6 #[.agg v.vals, .int .u8 pg, .bool true] w fun e w' => e = .returned (.bool true) ∧ Below w.heap.size w w' := by
  have hfit := fits_pg v true 8 (.inl rfl)
  have HA := Kpt.mk awake_any
  have HN := Kpt.mk (new_any v)
  have HS1 := Kpt.mk (fun B W (h : Pg W B v v) => sen_call B v v ⟨0, true, 0, 0, 0, false, 0, false, false, 8, 0, false, 0, 0, false⟩ W 28 h (.inl rfl) rfl)
  have HS2 := Kpt.mk (fun B W (h : Pg W B v v) => sen_call B v v ⟨0, true, 0, 0, 0, false, 0, false, false, 8, 1, false, 0, 0, false⟩ W 28 h (.inl rfl) rfl)
  simp only [Cm.vals] at HS1 HS2
  obtain ⟨a, ha⟩ : ∃ a, a = senL true 8 0 v v := ⟨_, rfl⟩
  obtain ⟨b, hb⟩ : ∃ b, b = senL true 8 1 v v := ⟨_, rfl⟩
  rw [← ha] at HS1 hfit
  rw [← hb] at HS2 hfit
  have ha0 : a.getD 0 0 = 0 := by rw [ha]; rfl
  have ha1 : a.getD 1 0 = 26 := by rw [ha]; rfl
  replace hfit := Kpt.mk hfit
  clear ha hb
  have ht : pg.tmod 3 = 0 := by rw [Int.tmod_eq_emod_of_nonneg hp.1]; exact hr
  have e6 : IntKind.i64.wrap pg = pg := by rw [IntKind.wrap_i64]; omega
  obtain ⟨va, vb, vc⟩ := v
  simp only [Vs.vals] at HN ⊢
  go_enter Try.func6, Try.ntmps6
  go_wp2_with (first
    | (go_at_call 14; have hmm := m2; refine (HS2.out B _ ((hP.out.below' hbS.out).below' ((Below.refl _ _).alloc (Nat.le_refl _) _))).mono ?_; rintro e w4 ⟨g2, k2, rfl, hg2, ho2, hb4⟩; replace ho2 := Kpt.mk ho2; replace hb4 := Kpt.mk hb4; replace hg2 := Kpt.mk hg2)
    | (go_at_call 14; refine (HS1.out B _ hP.out).mono ?_; rintro e w3 ⟨g1, k1, rfl, hg1, ho1, hb3⟩; replace ho1 := Kpt.mk ho1; have hbS := Kpt.mk hb3; replace hg1 := Kpt.mk hg1; have m2 : Kpt True := ⟨trivial⟩; clear hb3)
    | (go_at_call 10; refine (HN.out _).mono ?_; rintro e w2 ⟨B, rfl, hB, hP, hb2⟩; replace hP := Kpt.mk hP; replace hb2 := Kpt.mk hb2; replace hB := Kpt.mk hB)
    | (go_at_call 8; refine (HA.out _).mono ?_; rintro e w1 ⟨rfl, hb1⟩; have z0 : w1.cell? ⟨w.heap.size, 0, none⟩ = some (.bool va) := (hb1.cell (p := ⟨w.heap.size, 0, none⟩) (by simp)).trans (by simp); have z1 : w1.cell? ⟨w.heap.size, 1, none⟩ = some (.bool vb) := (hb1.cell (p := ⟨w.heap.size, 1, none⟩) (by simp)).trans (by simp); have z2 : w1.cell? ⟨w.heap.size, 2, none⟩ = some (.bool vc) := (hb1.cell (p := ⟨w.heap.size, 2, none⟩) (by simp)).trans (by simp); have zl : w.heap.size < w1.heap.size := Nat.lt_of_lt_of_le (by simp) hb1.size; replace hb1 := Kpt.mk hb1))
  obtain ⟨w5, hw5⟩ : ∃ w5, w5 = w4.alloc (.cells #[.int .u8 0, .int .u16 0, .int .u64 0, .bool false, .int .i64 0, .int .i64 0, .bool false, .bool false] 42) := ⟨_, rfl⟩
  rw [← hw5]
  have hl1 := (World.ownsRow.lt ho1.out g1 rfl).2
  have hbk : w5.heap[g1]? = w3.heap[g1]? := by rw [hw5, Below.heap_alloc w4 _ g1 (Nat.lt_of_lt_of_le (by simp; omega) hb4.out.size), hb4.out.block g1 (by simp; omega), Below.heap_alloc w3 _ g1 hl1]
  have hA : Kpt (∀ i, i < 28 → w5.cell? ⟨g1, i, none⟩ = some (.int .u8 (a.getD i 0))) := ⟨own_cell (own_of_block ho1.out (fun q hq => by cases hq; exact hbk))⟩
  have hB2 : Kpt (∀ i, i < 28 → w5.cell? ⟨g2, i, none⟩ = some (.int .u8 (b.getD i 0))) := ⟨own_cell (own_of_block ho2.out (fun q hq => by cases hq; rw [hw5]; exact Below.heap_alloc w4 _ g2 (World.ownsRow.lt ho2.out g2 rfl).2))⟩
  have hbF : Kpt (Below w.heap.size w w5) := ⟨by
    have q1 := ((Below.refl w.heap.size w).alloc (Nat.le_refl _) (.cells #[.bool va, .bool vb, .bool vc] 23)).trans (hb1.out.mono (by simp))
    have q2 := (q1.alloc q1.size (.cells #[.int .u8 8, .int .u8 10, .int .u8 63] 5)).trans (hb2.out.mono (by have := q1.size; simp; omega))
    have q3 := q2.trans (hbS.out.mono q2.size)
    have q4 := (q3.alloc q3.size (.cells #[.int .u8 0, .int .u16 0, .int .u64 0, .bool false, .int .i64 0, .int .i64 0, .bool false, .bool false] 42)).trans (hb4.out.mono (by have := q3.size; simp; omega))
    rw [hw5]
    exact q4.alloc q4.size _⟩
  clear hbk hw5 hl1 ho1 ho2 hbS hb4 hb1 hb2 hP hB hg1 hg2 m2 z0 z1 z2 zl HS1 HS2 HN HA
  go_loopw [16] (fun t wr => ∃ k : Nat, 8 ≤ k ∧ k ≤ 28 ∧ t = .int .i64 k ∧ Kpt (∃ q, wr = w5.drewN q)) (fun t _ => 28 - (intOf t).toNat)
  case atStart => exact ⟨8, by omega, by omega, rfl, ⟨0, rfl⟩⟩
  case round =>
    obtain ⟨k, hk1, hk2, rfl, hq⟩ := hrel
    obtain ⟨q, hq'⟩ := hq.out
    have hbk : Kpt (Below w.heap.size w wr) := ⟨by rw [hq']; exact below_drewN hbF.out q⟩
    by_cases hlt : k < 28
    · have e5 : (k : Int) < 28 := by omega
      have ca : wr.cell? ⟨g1, k, none⟩ = some (.int .u8 (a.getD k 0)) := by rw [hq']; exact hA.out k hlt
      have cb : wr.cell? ⟨g2, k, none⟩ = some (.int .u8 (b.getD k 0)) := by rw [hq']; exact hB2.out k hlt
      have hx := fits_at (j := k) hfit.out hk1 (by omega)
      obtain ⟨x, hx1⟩ : ∃ x, x = a.getD k 0 := ⟨_, rfl⟩
      obtain ⟨y, hy1⟩ : ∃ y, y = b.getD k 0 := ⟨_, rfl⟩
      rw [← hx1] at ca hx
      rw [← hy1] at cb hx
      clear hx1 hy1 hq' ha0 ha1 hr ht
      go_wp2
      go_quiet (fail)
      go_wp2
      go_roundw
      case rel => exact ⟨k + 1, by omega, by omega, by go_num, ⟨by obtain ⟨q, hq'⟩ := hq.out; exact ⟨_, by rw [hq', World.drewN_drewN]⟩⟩⟩
      case measure => simp [intOf]; omega
    · obtain rfl : k = 28 := by omega
      have c0 : wr.cell? ⟨g1, 0, none⟩ = some (.int .u8 (a.getD 0 0)) := by rw [hq']; exact hA.out 0 (by decide)
      have c1 : wr.cell? ⟨g1, 1, none⟩ = some (.int .u8 (a.getD 1 0)) := by rw [hq']; exact hA.out 1 (by decide)
      rw [ha0] at c0
      rw [ha1] at c1
      clear hq' ha0 ha1 hr ht
      go_wp2
      go_quiet (fail)
      go_wp2
      go_ret
      exact ⟨rfl, below_drewN hbk.out _⟩

set_option maxRecDepth 100000 in
set_option maxHeartbeats 2000000 in
theorem tell_true_1 (v : Vs) (pg : Int) (w : World) (hp : 0 ≤ pg ∧ pg ≤ 255) (hr : pg % 3 = 1) : Calls Try.prog 6 #[.agg v.vals, .int .u8 pg, .bool true] w fun e w' => e = .returned (.bool true) ∧ Below w.heap.size w w' := by
  have hfit := fits_pg v true 10 (.inr (.inl rfl))
  have HA := Kpt.mk awake_any
  have HN := Kpt.mk (new_any v)
  have HS1 := Kpt.mk (fun B W (h : Pg W B v v) => sen_call B v v ⟨0, true, 0, 0, 0, false, 0, false, false, 10, 0, false, 0, 0, false⟩ W 20 h (.inr (.inl rfl)) rfl)
  have HS2 := Kpt.mk (fun B W (h : Pg W B v v) => sen_call B v v ⟨0, true, 0, 0, 0, false, 0, false, false, 10, 1, false, 0, 0, false⟩ W 20 h (.inr (.inl rfl)) rfl)
  simp only [Cm.vals] at HS1 HS2
  obtain ⟨a, ha⟩ : ∃ a, a = senL true 10 0 v v := ⟨_, rfl⟩
  obtain ⟨b, hb⟩ : ∃ b, b = senL true 10 1 v v := ⟨_, rfl⟩
  rw [← ha] at HS1 hfit
  rw [← hb] at HS2 hfit
  have ha0 : a.getD 0 0 = 0 := by rw [ha]; rfl
  have ha1 : a.getD 1 0 = 18 := by rw [ha]; rfl
  replace hfit := Kpt.mk hfit
  clear ha hb
  have ht : pg.tmod 3 = 1 := by rw [Int.tmod_eq_emod_of_nonneg hp.1]; exact hr
  have e6 : IntKind.i64.wrap pg = pg := by rw [IntKind.wrap_i64]; omega
  obtain ⟨va, vb, vc⟩ := v
  simp only [Vs.vals] at HN ⊢
  go_enter Try.func6, Try.ntmps6
  go_wp2_with (first
    | (go_at_call 14; have hmm := m2; refine (HS2.out B _ ((hP.out.below' hbS.out).below' ((Below.refl _ _).alloc (Nat.le_refl _) _))).mono ?_; rintro e w4 ⟨g2, k2, rfl, hg2, ho2, hb4⟩; replace ho2 := Kpt.mk ho2; replace hb4 := Kpt.mk hb4; replace hg2 := Kpt.mk hg2)
    | (go_at_call 14; refine (HS1.out B _ hP.out).mono ?_; rintro e w3 ⟨g1, k1, rfl, hg1, ho1, hb3⟩; replace ho1 := Kpt.mk ho1; have hbS := Kpt.mk hb3; replace hg1 := Kpt.mk hg1; have m2 : Kpt True := ⟨trivial⟩; clear hb3)
    | (go_at_call 10; refine (HN.out _).mono ?_; rintro e w2 ⟨B, rfl, hB, hP, hb2⟩; replace hP := Kpt.mk hP; replace hb2 := Kpt.mk hb2; replace hB := Kpt.mk hB)
    | (go_at_call 8; refine (HA.out _).mono ?_; rintro e w1 ⟨rfl, hb1⟩; have z0 : w1.cell? ⟨w.heap.size, 0, none⟩ = some (.bool va) := (hb1.cell (p := ⟨w.heap.size, 0, none⟩) (by simp)).trans (by simp); have z1 : w1.cell? ⟨w.heap.size, 1, none⟩ = some (.bool vb) := (hb1.cell (p := ⟨w.heap.size, 1, none⟩) (by simp)).trans (by simp); have z2 : w1.cell? ⟨w.heap.size, 2, none⟩ = some (.bool vc) := (hb1.cell (p := ⟨w.heap.size, 2, none⟩) (by simp)).trans (by simp); have zl : w.heap.size < w1.heap.size := Nat.lt_of_lt_of_le (by simp) hb1.size; replace hb1 := Kpt.mk hb1))
  obtain ⟨w5, hw5⟩ : ∃ w5, w5 = w4.alloc (.cells #[.int .u8 0, .int .u16 0, .int .u64 0, .bool false, .int .i64 0, .int .i64 0, .bool false, .bool false] 42) := ⟨_, rfl⟩
  rw [← hw5]
  have hl1 := (World.ownsRow.lt ho1.out g1 rfl).2
  have hbk : w5.heap[g1]? = w3.heap[g1]? := by rw [hw5, Below.heap_alloc w4 _ g1 (Nat.lt_of_lt_of_le (by simp; omega) hb4.out.size), hb4.out.block g1 (by simp; omega), Below.heap_alloc w3 _ g1 hl1]
  have hA : Kpt (∀ i, i < 20 → w5.cell? ⟨g1, i, none⟩ = some (.int .u8 (a.getD i 0))) := ⟨own_cell (own_of_block ho1.out (fun q hq => by cases hq; exact hbk))⟩
  have hB2 : Kpt (∀ i, i < 20 → w5.cell? ⟨g2, i, none⟩ = some (.int .u8 (b.getD i 0))) := ⟨own_cell (own_of_block ho2.out (fun q hq => by cases hq; rw [hw5]; exact Below.heap_alloc w4 _ g2 (World.ownsRow.lt ho2.out g2 rfl).2))⟩
  have hbF : Kpt (Below w.heap.size w w5) := ⟨by
    have q1 := ((Below.refl w.heap.size w).alloc (Nat.le_refl _) (.cells #[.bool va, .bool vb, .bool vc] 23)).trans (hb1.out.mono (by simp))
    have q2 := (q1.alloc q1.size (.cells #[.int .u8 8, .int .u8 10, .int .u8 63] 5)).trans (hb2.out.mono (by have := q1.size; simp; omega))
    have q3 := q2.trans (hbS.out.mono q2.size)
    have q4 := (q3.alloc q3.size (.cells #[.int .u8 0, .int .u16 0, .int .u64 0, .bool false, .int .i64 0, .int .i64 0, .bool false, .bool false] 42)).trans (hb4.out.mono (by have := q3.size; simp; omega))
    rw [hw5]
    exact q4.alloc q4.size _⟩
  clear hbk hw5 hl1 ho1 ho2 hbS hb4 hb1 hb2 hP hB hg1 hg2 m2 z0 z1 z2 zl HS1 HS2 HN HA
  go_loopw [16] (fun t wr => ∃ k : Nat, 8 ≤ k ∧ k ≤ 20 ∧ t = .int .i64 k ∧ Kpt (∃ q, wr = w5.drewN q)) (fun t _ => 20 - (intOf t).toNat)
  case atStart => exact ⟨8, by omega, by omega, rfl, ⟨0, rfl⟩⟩
  case round =>
    obtain ⟨k, hk1, hk2, rfl, hq⟩ := hrel
    obtain ⟨q, hq'⟩ := hq.out
    have hbk : Kpt (Below w.heap.size w wr) := ⟨by rw [hq']; exact below_drewN hbF.out q⟩
    by_cases hlt : k < 20
    · have e5 : (k : Int) < 20 := by omega
      have ca : wr.cell? ⟨g1, k, none⟩ = some (.int .u8 (a.getD k 0)) := by rw [hq']; exact hA.out k hlt
      have cb : wr.cell? ⟨g2, k, none⟩ = some (.int .u8 (b.getD k 0)) := by rw [hq']; exact hB2.out k hlt
      have hx := fits_at (j := k) hfit.out hk1 (by omega)
      obtain ⟨x, hx1⟩ : ∃ x, x = a.getD k 0 := ⟨_, rfl⟩
      obtain ⟨y, hy1⟩ : ∃ y, y = b.getD k 0 := ⟨_, rfl⟩
      rw [← hx1] at ca hx
      rw [← hy1] at cb hx
      clear hx1 hy1 hq' ha0 ha1 hr ht
      go_wp2
      go_quiet (fail)
      go_wp2
      go_roundw
      case rel => exact ⟨k + 1, by omega, by omega, by go_num, ⟨by obtain ⟨q, hq'⟩ := hq.out; exact ⟨_, by rw [hq', World.drewN_drewN]⟩⟩⟩
      case measure => simp [intOf]; omega
    · obtain rfl : k = 20 := by omega
      have c0 : wr.cell? ⟨g1, 0, none⟩ = some (.int .u8 (a.getD 0 0)) := by rw [hq']; exact hA.out 0 (by decide)
      have c1 : wr.cell? ⟨g1, 1, none⟩ = some (.int .u8 (a.getD 1 0)) := by rw [hq']; exact hA.out 1 (by decide)
      rw [ha0] at c0
      rw [ha1] at c1
      clear hq' ha0 ha1 hr ht
      go_wp2
      go_quiet (fail)
      go_wp2
      go_ret
      exact ⟨rfl, below_drewN hbk.out _⟩

set_option maxRecDepth 100000 in
set_option maxHeartbeats 2000000 in
theorem tell_true_2 (v : Vs) (pg : Int) (w : World) (hp : 0 ≤ pg ∧ pg ≤ 255) (hr : pg % 3 = 2) : Calls Try.prog 6 #[.agg v.vals, .int .u8 pg, .bool true] w fun e w' => e = .returned (.bool true) ∧ Below w.heap.size w w' := by
  have hfit := fits_pg v true 63 (.inr (.inr rfl))
  have HA := Kpt.mk awake_any
  have HN := Kpt.mk (new_any v)
  have HS1 := Kpt.mk (fun B W (h : Pg W B v v) => sen_call B v v ⟨0, true, 0, 0, 0, false, 0, false, false, 63, 0, false, 0, 0, false⟩ W 40 h (.inr (.inr rfl)) rfl)
  have HS2 := Kpt.mk (fun B W (h : Pg W B v v) => sen_call B v v ⟨0, true, 0, 0, 0, false, 0, false, false, 63, 1, false, 0, 0, false⟩ W 40 h (.inr (.inr rfl)) rfl)
  simp only [Cm.vals] at HS1 HS2
  obtain ⟨a, ha⟩ : ∃ a, a = senL true 63 0 v v := ⟨_, rfl⟩
  obtain ⟨b, hb⟩ : ∃ b, b = senL true 63 1 v v := ⟨_, rfl⟩
  rw [← ha] at HS1 hfit
  rw [← hb] at HS2 hfit
  have ha0 : a.getD 0 0 = 0 := by rw [ha]; rfl
  have ha1 : a.getD 1 0 = 38 := by rw [ha]; rfl
  replace hfit := Kpt.mk hfit
  clear ha hb
  have ht : pg.tmod 3 = 2 := by rw [Int.tmod_eq_emod_of_nonneg hp.1]; exact hr
  have e6 : IntKind.i64.wrap pg = pg := by rw [IntKind.wrap_i64]; omega
  obtain ⟨va, vb, vc⟩ := v
  simp only [Vs.vals] at HN ⊢
  go_enter Try.func6, Try.ntmps6
  go_wp2_with (first
    | (go_at_call 14; have hmm := m2; refine (HS2.out B _ ((hP.out.below' hbS.out).below' ((Below.refl _ _).alloc (Nat.le_refl _) _))).mono ?_; rintro e w4 ⟨g2, k2, rfl, hg2, ho2, hb4⟩; replace ho2 := Kpt.mk ho2; replace hb4 := Kpt.mk hb4; replace hg2 := Kpt.mk hg2)
    | (go_at_call 14; refine (HS1.out B _ hP.out).mono ?_; rintro e w3 ⟨g1, k1, rfl, hg1, ho1, hb3⟩; replace ho1 := Kpt.mk ho1; have hbS := Kpt.mk hb3; replace hg1 := Kpt.mk hg1; have m2 : Kpt True := ⟨trivial⟩; clear hb3)
    | (go_at_call 10; refine (HN.out _).mono ?_; rintro e w2 ⟨B, rfl, hB, hP, hb2⟩; replace hP := Kpt.mk hP; replace hb2 := Kpt.mk hb2; replace hB := Kpt.mk hB)
    | (go_at_call 8; refine (HA.out _).mono ?_; rintro e w1 ⟨rfl, hb1⟩; have z0 : w1.cell? ⟨w.heap.size, 0, none⟩ = some (.bool va) := (hb1.cell (p := ⟨w.heap.size, 0, none⟩) (by simp)).trans (by simp); have z1 : w1.cell? ⟨w.heap.size, 1, none⟩ = some (.bool vb) := (hb1.cell (p := ⟨w.heap.size, 1, none⟩) (by simp)).trans (by simp); have z2 : w1.cell? ⟨w.heap.size, 2, none⟩ = some (.bool vc) := (hb1.cell (p := ⟨w.heap.size, 2, none⟩) (by simp)).trans (by simp); have zl : w.heap.size < w1.heap.size := Nat.lt_of_lt_of_le (by simp) hb1.size; replace hb1 := Kpt.mk hb1))
  obtain ⟨w5, hw5⟩ : ∃ w5, w5 = w4.alloc (.cells #[.int .u8 0, .int .u16 0, .int .u64 0, .bool false, .int .i64 0, .int .i64 0, .bool false, .bool false] 42) := ⟨_, rfl⟩
  rw [← hw5]
  have hl1 := (World.ownsRow.lt ho1.out g1 rfl).2
  have hbk : w5.heap[g1]? = w3.heap[g1]? := by rw [hw5, Below.heap_alloc w4 _ g1 (Nat.lt_of_lt_of_le (by simp; omega) hb4.out.size), hb4.out.block g1 (by simp; omega), Below.heap_alloc w3 _ g1 hl1]
  have hA : Kpt (∀ i, i < 40 → w5.cell? ⟨g1, i, none⟩ = some (.int .u8 (a.getD i 0))) := ⟨own_cell (own_of_block ho1.out (fun q hq => by cases hq; exact hbk))⟩
  have hB2 : Kpt (∀ i, i < 40 → w5.cell? ⟨g2, i, none⟩ = some (.int .u8 (b.getD i 0))) := ⟨own_cell (own_of_block ho2.out (fun q hq => by cases hq; rw [hw5]; exact Below.heap_alloc w4 _ g2 (World.ownsRow.lt ho2.out g2 rfl).2))⟩
  have hbF : Kpt (Below w.heap.size w w5) := ⟨by
    have q1 := ((Below.refl w.heap.size w).alloc (Nat.le_refl _) (.cells #[.bool va, .bool vb, .bool vc] 23)).trans (hb1.out.mono (by simp))
    have q2 := (q1.alloc q1.size (.cells #[.int .u8 8, .int .u8 10, .int .u8 63] 5)).trans (hb2.out.mono (by have := q1.size; simp; omega))
    have q3 := q2.trans (hbS.out.mono q2.size)
    have q4 := (q3.alloc q3.size (.cells #[.int .u8 0, .int .u16 0, .int .u64 0, .bool false, .int .i64 0, .int .i64 0, .bool false, .bool false] 42)).trans (hb4.out.mono (by have := q3.size; simp; omega))
    rw [hw5]
    exact q4.alloc q4.size _⟩
  clear hbk hw5 hl1 ho1 ho2 hbS hb4 hb1 hb2 hP hB hg1 hg2 m2 z0 z1 z2 zl HS1 HS2 HN HA
  go_loopw [16] (fun t wr => ∃ k : Nat, 8 ≤ k ∧ k ≤ 40 ∧ t = .int .i64 k ∧ Kpt (∃ q, wr = w5.drewN q)) (fun t _ => 40 - (intOf t).toNat)
  case atStart => exact ⟨8, by omega, by omega, rfl, ⟨0, rfl⟩⟩
  case round =>
    obtain ⟨k, hk1, hk2, rfl, hq⟩ := hrel
    obtain ⟨q, hq'⟩ := hq.out
    have hbk : Kpt (Below w.heap.size w wr) := ⟨by rw [hq']; exact below_drewN hbF.out q⟩
    by_cases hlt : k < 40
    · have e5 : (k : Int) < 40 := by omega
      have ca : wr.cell? ⟨g1, k, none⟩ = some (.int .u8 (a.getD k 0)) := by rw [hq']; exact hA.out k hlt
      have cb : wr.cell? ⟨g2, k, none⟩ = some (.int .u8 (b.getD k 0)) := by rw [hq']; exact hB2.out k hlt
      have hx := fits_at (j := k) hfit.out hk1 (by omega)
      obtain ⟨x, hx1⟩ : ∃ x, x = a.getD k 0 := ⟨_, rfl⟩
      obtain ⟨y, hy1⟩ : ∃ y, y = b.getD k 0 := ⟨_, rfl⟩
      rw [← hx1] at ca hx
      rw [← hy1] at cb hx
      clear hx1 hy1 hq' ha0 ha1 hr ht
      go_wp2
      go_quiet (fail)
      go_wp2
      go_roundw
      case rel => exact ⟨k + 1, by omega, by omega, by go_num, ⟨by obtain ⟨q, hq'⟩ := hq.out; exact ⟨_, by rw [hq', World.drewN_drewN]⟩⟩⟩
      case measure => simp [intOf]; omega
    · obtain rfl : k = 40 := by omega
      have c0 : wr.cell? ⟨g1, 0, none⟩ = some (.int .u8 (a.getD 0 0)) := by rw [hq']; exact hA.out 0 (by decide)
      have c1 : wr.cell? ⟨g1, 1, none⟩ = some (.int .u8 (a.getD 1 0)) := by rw [hq']; exact hA.out 1 (by decide)
      rw [ha0] at c0
      rw [ha1] at c1
      clear hq' ha0 ha1 hr ht
      go_wp2
      go_quiet (fail)
      go_wp2
      go_ret
      exact ⟨rfl, below_drewN hbk.out _⟩

theorem tell_any (v : Vs) (pg : Int) (lg : Bool) (w : World) (hp : 0 ≤ pg ∧ pg ≤ 255) : Calls Try.prog 6 #[.agg v.vals, .int .u8 pg, .bool lg] w fun e w' => e = .returned (.bool true) ∧ Below w.heap.size w w' := by
  have h3 : pg % 3 = 0 ∨ pg % 3 = 1 ∨ pg % 3 = 2 := by omega
  rcases h3 with h | h | h <;> cases lg
  · exact tell_false_0 v pg w hp h
  · exact tell_true_0 v pg w hp h
  · exact tell_false_1 v pg w hp h
  · exact tell_true_1 v pg w hp h
  · exact tell_false_2 v pg w hp h
  · exact tell_true_2 v pg w hp h
end Go.Proofs.Ytdojhgapdocngaa
