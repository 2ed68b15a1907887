/-
  The contracts of readFixed and readDescribed.
-/
import Derived.Test.YtglfkpdbgddpdaaSGet
namespace Go.Proofs.Ytglfkpdbgddpdaa
open Go.RowKit
set_option linter.unusedVariables false
set_option linter.unusedSimpArgs false

def gF (zs : List Int) : Sn := Sn.withF ⟨getN zs 2 1, getN zs 12 2, getN zs 3 4, decide (bits .and .u64 (getN zs 0 1) 128 ≠ 0), 0, 0, false, false⟩ zs 15

theorem RdAt.own_lt {w : World} {v : Value} {zs : List Int} (h : RdAt w v zs) : ∃ v', RdAt w v' zs := ⟨v, h⟩

set_option maxRecDepth 100000 in
set_option maxHeartbeats 4000000 in
theorem readFixed_any (v : Value) (zs : List Int) (w : World) (hr : RdAt w v zs) (hb : B.Bytes zs) (hl : zs.length ≤ maxLen) (hvl : ∀ g, v.ownBlock = some g → g < w.heap.size) :
    Calls Try.prog 23 #[v] w fun e w' => e = .returned (.agg (gF zs).vals) ∧ Below w.heap.size w w' := by
  have G : ∀ (i n : Nat), 1 ≤ n → n ≤ 8 → i ≤ 1000 → ∀ W, Below w.heap.size w W → Calls Try.prog 31 #[v, .int .i64 i, .int .i64 n] W fun e w' => e = .returned (.int .u64 (getN zs i n)) ∧ w' = W := fun i n h1 h2 h3 W hW => get_any v zs i n W (hr.of_block (fun g hg => hW.block _ (hvl g hg))) hb hl h1 h2 h3
  have H1 : Kpt (∀ W, Below w.heap.size w W → Calls Try.prog 31 #[v, .int .i64 2, .int .i64 1] W fun e w' => e = .returned (.int .u64 (getN zs 2 1)) ∧ w' = W) := ⟨G 2 1 (by decide) (by decide) (by decide)⟩
  have H2 : Kpt (∀ W, Below w.heap.size w W → Calls Try.prog 31 #[v, .int .i64 12, .int .i64 2] W fun e w' => e = .returned (.int .u64 (getN zs 12 2)) ∧ w' = W) := ⟨G 12 2 (by decide) (by decide) (by decide)⟩
  have H3 : Kpt (∀ W, Below w.heap.size w W → Calls Try.prog 31 #[v, .int .i64 3, .int .i64 4] W fun e w' => e = .returned (.int .u64 (getN zs 3 4)) ∧ w' = W) := ⟨G 3 4 (by decide) (by decide) (by decide)⟩
  have H4 : Kpt (∀ W, Below w.heap.size w W → Calls Try.prog 31 #[v, .int .i64 0, .int .i64 1] W fun e w' => e = .returned (.int .u64 (getN zs 0 1)) ∧ w' = W) := ⟨G 0 1 (by decide) (by decide) (by decide)⟩
  have HW : Kpt (∀ s W, Below w.heap.size w W → w.heap.size ≤ W.heap.size → Calls Try.prog 32 #[.agg (Sn.vals s), v, .int .i64 (15 : Nat)] W fun e w' => e = .returned (.agg (s.withF zs 15).vals) ∧ Below W.heap.size W w') := ⟨fun s W hW hs => withField_any s v zs 15 W (hr.of_block (fun g hg => hW.block _ (hvl g hg))) hb hl (by decide) (fun g hg => Nat.lt_of_lt_of_le (hvl g hg) hs)⟩
  have b1 := getN_bd zs hb 2 1
  have b2 := getN_bd zs hb 12 2
  have b3 := getN_bd zs hb 3 4
  have b4 := getN_bd zs hb 0 1
  obtain ⟨x1, e1⟩ : ∃ x, x = getN zs 2 1 := ⟨_, rfl⟩
  obtain ⟨x2, e2⟩ : ∃ x, x = getN zs 12 2 := ⟨_, rfl⟩
  obtain ⟨x3, e3⟩ : ∃ x, x = getN zs 3 4 := ⟨_, rfl⟩
  obtain ⟨x4, e4⟩ : ∃ x, x = getN zs 0 1 := ⟨_, rfl⟩
  have hres : gF zs = Sn.withF ⟨x1, x2, x3, decide (bits .and .u64 x4 128 ≠ 0), 0, 0, false, false⟩ zs 15 := by rw [e1, e2, e3, e4]; rfl
  rw [hres]
  rw [← e1] at H1 b1
  rw [← e2] at H2 b2
  rw [← e3] at H3 b3
  rw [← e4] at H4 b4
  clear hres e1 e2 e3 e4 G
  by_cases hbit : bits .and .u64 x4 128 = 0
  · rw [decide_eq_false (show ¬ (bits BinOp.and IntKind.u64 x4 128 ≠ 0) from fun h => h hbit)]
    have hHW : Kpt (∀ W, Below w.heap.size w W → w.heap.size ≤ W.heap.size → Calls Try.prog 32 #[.agg #[.int .u8 x1, .int .u16 x2, .int .u64 x3, .bool false, .int .i64 0, .int .i64 0, .bool false, .bool false], v, .int .i64 15] W fun e w' => e = .returned (.agg (Sn.withF ⟨x1, x2, x3, false, 0, 0, false, false⟩ zs 15).vals) ∧ Below W.heap.size W w') := ⟨HW.out ⟨x1, x2, x3, false, 0, 0, false, false⟩⟩
    obtain ⟨R, hR⟩ : ∃ R, R = Sn.withF ⟨x1, x2, x3, false, 0, 0, false, false⟩ zs 15 := ⟨_, rfl⟩
    rw [← hR] at hHW ⊢
    clear hR HW
    obtain ⟨key, code, info, hi, field, bit, hf, ic⟩ := R
    simp only [Sn.vals] at hHW ⊢
    obtain ⟨a, c, rfl⟩ := rd_len hr
    obtain ⟨n, hn⟩ : ∃ n, n = zs.length := ⟨_, rfl⟩
    rw [← hn] at H1 H2 H3 H4 hHW hl ⊢
    clear hr hb hn hvl
    simp at b1 b2 b3 b4
    have BB : Kpt (Below w.heap.size w (w.alloc (.cells #[.int .u8 0, .int .u16 0, .int .u64 0, .bool false, .int .i64 0, .int .i64 0, .bool false, .bool false] 25))) := ⟨(Below.refl _ _).alloc (Nat.le_refl _) _⟩
    go_enter Try.func23, Try.ntmps23
    go_wp2_with (first
      | (go_at_call 32; refine (hHW.out _ (by repeat (first | refine Below.setCell ?_ (by simp) _ | refine Below.alloc ?_ (by simp) _ | exact Below.refl _ _)) (by simp; omega)).mono ?_; rintro e w' ⟨rfl, hw'⟩; have hbw : Kpt (Below w.heap.size w w') := ⟨Below.trans (by repeat (first | refine Below.setCell ?_ (by simp) _ | refine Below.alloc ?_ (by simp) _ | exact Below.refl _ _)) (hw'.mono (by simp; omega))⟩; have r0 : w'.cell? ⟨w.heap.size, 0, none⟩ = some (.int .u8 0) := (hw'.cell (p := ⟨w.heap.size, 0, none⟩) (by simp; omega)).trans (by go_simp); have z0 : w'.frozen? ⟨w.heap.size, 0, none⟩ = false := (hw'.frozen (p := ⟨w.heap.size, 0, none⟩) (by simp; omega)).trans (by go_simp); have r1 : w'.cell? ⟨w.heap.size, 1, none⟩ = some (.int .u16 0) := (hw'.cell (p := ⟨w.heap.size, 1, none⟩) (by simp; omega)).trans (by go_simp); have z1 : w'.frozen? ⟨w.heap.size, 1, none⟩ = false := (hw'.frozen (p := ⟨w.heap.size, 1, none⟩) (by simp; omega)).trans (by go_simp); have r2 : w'.cell? ⟨w.heap.size, 2, none⟩ = some (.int .u64 0) := (hw'.cell (p := ⟨w.heap.size, 2, none⟩) (by simp; omega)).trans (by go_simp); have z2 : w'.frozen? ⟨w.heap.size, 2, none⟩ = false := (hw'.frozen (p := ⟨w.heap.size, 2, none⟩) (by simp; omega)).trans (by go_simp); have r3 : w'.cell? ⟨w.heap.size, 3, none⟩ = some (.bool false) := (hw'.cell (p := ⟨w.heap.size, 3, none⟩) (by simp; omega)).trans (by go_simp); have z3 : w'.frozen? ⟨w.heap.size, 3, none⟩ = false := (hw'.frozen (p := ⟨w.heap.size, 3, none⟩) (by simp; omega)).trans (by go_simp); have r4 : w'.cell? ⟨w.heap.size, 4, none⟩ = some (.int .i64 0) := (hw'.cell (p := ⟨w.heap.size, 4, none⟩) (by simp; omega)).trans (by go_simp); have z4 : w'.frozen? ⟨w.heap.size, 4, none⟩ = false := (hw'.frozen (p := ⟨w.heap.size, 4, none⟩) (by simp; omega)).trans (by go_simp); have r5 : w'.cell? ⟨w.heap.size, 5, none⟩ = some (.int .i64 0) := (hw'.cell (p := ⟨w.heap.size, 5, none⟩) (by simp; omega)).trans (by go_simp); have z5 : w'.frozen? ⟨w.heap.size, 5, none⟩ = false := (hw'.frozen (p := ⟨w.heap.size, 5, none⟩) (by simp; omega)).trans (by go_simp); have r6 : w'.cell? ⟨w.heap.size, 6, none⟩ = some (.bool false) := (hw'.cell (p := ⟨w.heap.size, 6, none⟩) (by simp; omega)).trans (by go_simp); have z6 : w'.frozen? ⟨w.heap.size, 6, none⟩ = false := (hw'.frozen (p := ⟨w.heap.size, 6, none⟩) (by simp; omega)).trans (by go_simp); have r7 : w'.cell? ⟨w.heap.size, 7, none⟩ = some (.bool false) := (hw'.cell (p := ⟨w.heap.size, 7, none⟩) (by simp; omega)).trans (by go_simp); have z7 : w'.frozen? ⟨w.heap.size, 7, none⟩ = false := (hw'.frozen (p := ⟨w.heap.size, 7, none⟩) (by simp; omega)).trans (by go_simp); clear hw')
      | (go_at_call 31; have hm := m3; refine (H4.out _ BB.out).mono ?_; rintro e w' ⟨rfl, rfl⟩)
      | (go_at_call 31; have hm := m2; refine (H3.out _ BB.out).mono ?_; rintro e w' ⟨rfl, rfl⟩; have m3 : Kpt True := ⟨trivial⟩)
      | (go_at_call 31; have hm := m1; refine (H2.out _ BB.out).mono ?_; rintro e w' ⟨rfl, rfl⟩; have m2 : Kpt True := ⟨trivial⟩)
      | (go_at_call 31; refine (H1.out _ BB.out).mono ?_; rintro e w' ⟨rfl, rfl⟩; have m1 : Kpt True := ⟨trivial⟩))
    refine bodyPost_ret (v := .agg #[.int .u8 key, .int .u16 code, .int .u64 info, .bool hi, .int .i64 field, .int .i64 bit, .bool hf, .bool ic]) (by simp [results, Try.results23, go_sem, r0, r1, r2, r3, r4, r5, r6, r7]) rfl ⟨rfl, ?_⟩
    iterate 8 (refine Below.setCell ?_ (by simp) _)
    exact hbw.out
  · rw [decide_eq_true (show bits BinOp.and IntKind.u64 x4 128 ≠ 0 from hbit)]
    have hHW : Kpt (∀ (bb : Bool), bb = true → ∀ W, Below w.heap.size w W → w.heap.size ≤ W.heap.size → Calls Try.prog 32 #[.agg #[.int .u8 x1, .int .u16 x2, .int .u64 x3, .bool bb, .int .i64 0, .int .i64 0, .bool false, .bool false], v, .int .i64 15] W fun e w' => e = .returned (.agg (Sn.withF ⟨x1, x2, x3, true, 0, 0, false, false⟩ zs 15).vals) ∧ Below W.heap.size W w') := ⟨fun bb hbb => by subst hbb; exact HW.out ⟨x1, x2, x3, true, 0, 0, false, false⟩⟩
    obtain ⟨R, hR⟩ : ∃ R, R = Sn.withF ⟨x1, x2, x3, true, 0, 0, false, false⟩ zs 15 := ⟨_, rfl⟩
    rw [← hR] at hHW ⊢
    clear hR HW
    obtain ⟨key, code, info, hi, field, bit, hf, ic⟩ := R
    simp only [Sn.vals] at hHW ⊢
    obtain ⟨a, c, rfl⟩ := rd_len hr
    obtain ⟨n, hn⟩ : ∃ n, n = zs.length := ⟨_, rfl⟩
    rw [← hn] at H1 H2 H3 H4 hHW hl ⊢
    clear hr hb hn hvl
    simp at b1 b2 b3 b4
    have BB : Kpt (Below w.heap.size w (w.alloc (.cells #[.int .u8 0, .int .u16 0, .int .u64 0, .bool false, .int .i64 0, .int .i64 0, .bool false, .bool false] 25))) := ⟨(Below.refl _ _).alloc (Nat.le_refl _) _⟩
    go_enter Try.func23, Try.ntmps23
    go_wp2_with (first
      | (go_at_call 32; refine (hHW.out _ (by simp [hbit]) _ (by repeat (first | refine Below.setCell ?_ (by simp) _ | refine Below.alloc ?_ (by simp) _ | exact Below.refl _ _)) (by simp; omega)).mono ?_; rintro e w' ⟨rfl, hw'⟩; have hbw : Kpt (Below w.heap.size w w') := ⟨Below.trans (by repeat (first | refine Below.setCell ?_ (by simp) _ | refine Below.alloc ?_ (by simp) _ | exact Below.refl _ _)) (hw'.mono (by simp; omega))⟩; have r0 : w'.cell? ⟨w.heap.size, 0, none⟩ = some (.int .u8 0) := (hw'.cell (p := ⟨w.heap.size, 0, none⟩) (by simp; omega)).trans (by go_simp); have z0 : w'.frozen? ⟨w.heap.size, 0, none⟩ = false := (hw'.frozen (p := ⟨w.heap.size, 0, none⟩) (by simp; omega)).trans (by go_simp); have r1 : w'.cell? ⟨w.heap.size, 1, none⟩ = some (.int .u16 0) := (hw'.cell (p := ⟨w.heap.size, 1, none⟩) (by simp; omega)).trans (by go_simp); have z1 : w'.frozen? ⟨w.heap.size, 1, none⟩ = false := (hw'.frozen (p := ⟨w.heap.size, 1, none⟩) (by simp; omega)).trans (by go_simp); have r2 : w'.cell? ⟨w.heap.size, 2, none⟩ = some (.int .u64 0) := (hw'.cell (p := ⟨w.heap.size, 2, none⟩) (by simp; omega)).trans (by go_simp); have z2 : w'.frozen? ⟨w.heap.size, 2, none⟩ = false := (hw'.frozen (p := ⟨w.heap.size, 2, none⟩) (by simp; omega)).trans (by go_simp); have r3 : w'.cell? ⟨w.heap.size, 3, none⟩ = some (.bool false) := (hw'.cell (p := ⟨w.heap.size, 3, none⟩) (by simp; omega)).trans (by go_simp); have z3 : w'.frozen? ⟨w.heap.size, 3, none⟩ = false := (hw'.frozen (p := ⟨w.heap.size, 3, none⟩) (by simp; omega)).trans (by go_simp); have r4 : w'.cell? ⟨w.heap.size, 4, none⟩ = some (.int .i64 0) := (hw'.cell (p := ⟨w.heap.size, 4, none⟩) (by simp; omega)).trans (by go_simp); have z4 : w'.frozen? ⟨w.heap.size, 4, none⟩ = false := (hw'.frozen (p := ⟨w.heap.size, 4, none⟩) (by simp; omega)).trans (by go_simp); have r5 : w'.cell? ⟨w.heap.size, 5, none⟩ = some (.int .i64 0) := (hw'.cell (p := ⟨w.heap.size, 5, none⟩) (by simp; omega)).trans (by go_simp); have z5 : w'.frozen? ⟨w.heap.size, 5, none⟩ = false := (hw'.frozen (p := ⟨w.heap.size, 5, none⟩) (by simp; omega)).trans (by go_simp); have r6 : w'.cell? ⟨w.heap.size, 6, none⟩ = some (.bool false) := (hw'.cell (p := ⟨w.heap.size, 6, none⟩) (by simp; omega)).trans (by go_simp); have z6 : w'.frozen? ⟨w.heap.size, 6, none⟩ = false := (hw'.frozen (p := ⟨w.heap.size, 6, none⟩) (by simp; omega)).trans (by go_simp); have r7 : w'.cell? ⟨w.heap.size, 7, none⟩ = some (.bool false) := (hw'.cell (p := ⟨w.heap.size, 7, none⟩) (by simp; omega)).trans (by go_simp); have z7 : w'.frozen? ⟨w.heap.size, 7, none⟩ = false := (hw'.frozen (p := ⟨w.heap.size, 7, none⟩) (by simp; omega)).trans (by go_simp); clear hw')
      | (go_at_call 31; have hm := m3; refine (H4.out _ BB.out).mono ?_; rintro e w' ⟨rfl, rfl⟩)
      | (go_at_call 31; have hm := m2; refine (H3.out _ BB.out).mono ?_; rintro e w' ⟨rfl, rfl⟩; have m3 : Kpt True := ⟨trivial⟩)
      | (go_at_call 31; have hm := m1; refine (H2.out _ BB.out).mono ?_; rintro e w' ⟨rfl, rfl⟩; have m2 : Kpt True := ⟨trivial⟩)
      | (go_at_call 31; refine (H1.out _ BB.out).mono ?_; rintro e w' ⟨rfl, rfl⟩; have m1 : Kpt True := ⟨trivial⟩))
    refine bodyPost_ret (v := .agg #[.int .u8 key, .int .u16 code, .int .u64 info, .bool hi, .int .i64 field, .int .i64 bit, .bool hf, .bool ic]) (by simp [results, Try.results23, go_sem, r0, r1, r2, r3, r4, r5, r6, r7]) rfl ⟨rfl, ?_⟩
    iterate 8 (refine Below.setCell ?_ (by simp) _)
    exact hbw.out
end Go.Proofs.Ytglfkpdbgddpdaa
