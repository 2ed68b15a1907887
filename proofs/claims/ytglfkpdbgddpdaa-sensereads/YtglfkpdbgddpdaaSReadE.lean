/-
  The contract of readDescribed, of few bytes; of any.
-/
import Derived.Test.YtglfkpdbgddpdaaSReadD
namespace Go.Proofs.Ytglfkpdbgddpdaa
open Go.RowKit
set_option linter.unusedVariables false
set_option linter.unusedSimpArgs false

theorem rd_drop_if8 {w : World} {b off c : Nat} {zs : List Int} (h : RdAt w (.slice (some ⟨b, off, none⟩) zs.length c) zs) (h8 : 8 ≤ zs.length) :
    RdAt w (.slice (if c = 8 then some ⟨b, off, none⟩ else some ⟨b, off + 8, none⟩) (zs.length - 8) (c - 8)) (zs.drop 8) := by
  have hc : zs.length ≤ c := by obtain ⟨_, _, e, _, h, _⟩ := h; simp at e; omega
  split
  · rename_i e
    have h1 : zs.length - 8 = 0 := by omega
    have h2 : zs.drop 8 = [] := List.drop_eq_nil_of_le (by omega)
    rw [h1, h2]
    exact rd_empty _ _ _
  · exact rd_drop h 8 (by omega)

set_option maxRecDepth 100000 in
set_option maxHeartbeats 1000000 in
theorem readDescribed_mid (b off c : Nat) (zs : List Int) (w : World) (hr : RdAt w (.slice (some ⟨b, off, none⟩) zs.length c) zs) (hb : B.Bytes zs) (hl : zs.length ≤ maxLen) (hvl : ∀ g, (Value.slice (some ⟨b, off, none⟩) zs.length c).ownBlock = some g → g < w.heap.size) (h8 : 8 ≤ zs.length) (h20 : zs.length < 20) :
    Calls Try.prog 24 #[.slice (some ⟨b, off, none⟩) zs.length c] w fun e w' => e = .returned (.agg (gD zs).vals) ∧ Below w.heap.size w w' := by
  have hc : zs.length ≤ c := by obtain ⟨_, _, e, _, h, _⟩ := hr; simp at e; omega
  have G : ∀ (i n : Nat), 1 ≤ n → n ≤ 8 → i ≤ 1000 → ∀ W, Below w.heap.size w W → Calls Try.prog 31 #[.slice (some ⟨b, off, none⟩) zs.length c, .int .i64 i, .int .i64 n] W fun e w' => e = .returned (.int .u64 (getN zs i n)) ∧ w' = W := fun i n h1 h2 h3 W hW => get_any _ zs i n W (hr.of_block (fun g hg => hW.block _ (hvl g hg))) hb hl h1 h2 h3
  have H1 : Kpt (∀ W, Below w.heap.size w W → Calls Try.prog 31 #[.slice (some ⟨b, off, none⟩) zs.length c, .int .i64 1, .int .i64 1] W fun e w' => e = .returned (.int .u64 (getN zs 1 1)) ∧ w' = W) := ⟨G 1 1 (by decide) (by decide) (by decide)⟩
  have H2 : Kpt (∀ W, Below w.heap.size w W → Calls Try.prog 31 #[.slice (some ⟨b, off, none⟩) zs.length c, .int .i64 2, .int .i64 2] W fun e w' => e = .returned (.int .u64 (getN zs 2 2)) ∧ w' = W) := ⟨G 2 2 (by decide) (by decide) (by decide)⟩
  have HW : Kpt (∀  s W, Below w.heap.size w W → Calls Try.prog 32 #[.agg (Sn.vals s), .slice (if c = 8 then some ⟨b, off, none⟩ else some ⟨b, off + 8, none⟩) (zs.length - 8) (c - 8), .int .i64 4] W fun e w' => e = .returned (.agg (s.withF (zs.drop 8) 4).vals) ∧ Below W.heap.size W w') := ⟨fun s W hW => withField_any s _ (zs.drop 8) 4 W (rd_drop_if8 (hr.of_block (fun g hg => hW.block _ (hvl g hg))) h8) (bytes_drop hb 8) (by simp; omega) (by decide) (fun g hg => Nat.lt_of_lt_of_le (hvl g (by split at hg <;> exact hg)) hW.size)⟩
  have b1 := getN_bd zs hb 1 1
  have b2 := getN_bd zs hb 2 2
  obtain ⟨x1, e1⟩ : ∃ x, x = getN zs 1 1 := ⟨_, rfl⟩
  obtain ⟨x2, e2⟩ : ∃ x, x = getN zs 2 2 := ⟨_, rfl⟩
  rw [← e1] at H1 b1
  rw [← e2] at H2 b2
  simp at b1 b2
  obtain ⟨R, hR⟩ : ∃ R, R = gD zs := ⟨_, rfl⟩
  have hHW : Kpt (∀  W, Below w.heap.size w W → Calls Try.prog 32 #[.agg #[.int .u8 x1, .int .u16 x2, .int .u64 0, .bool false, .int .i64 0, .int .i64 0, .bool false, .bool false], .slice (if c = 8 then some ⟨b, off, none⟩ else some ⟨b, off + 8, none⟩) (zs.length - 8) (c - 8), .int .i64 4] W fun e w' => e = .returned (.agg R.vals) ∧ Below W.heap.size W w') := ⟨by
    have e : R = Sn.withF ⟨x1, x2, 0, false, 0, 0, false, false⟩ (zs.drop 8) 4 := by rw [hR, gD, if_neg (by omega), e1, e2]
    rw [e]
    exact HW.out _⟩
  rw [← hR]
  clear hR e1 e2 HW G
  obtain ⟨n, hn⟩ : ∃ n, n = zs.length := ⟨_, rfl⟩
  rw [← hn] at H1 H2 hHW hl hc h8 h20 ⊢
  clear hn
  have hmin : min (8 : Int) n = 8 := by omega
  unfold maxLen at hl
  clear hr hb hvl
  obtain ⟨key, code, info, hi, field, bit, hf, ic⟩ := R
  simp only [Sn.vals] at hHW ⊢
  have BB : Kpt (Below w.heap.size w (w.alloc (.cells #[.int .u8 0, .int .u16 0, .int .u64 0, .bool false, .int .i64 0, .int .i64 0, .bool false, .bool false] 25))) := ⟨(Below.refl _ _).alloc (Nat.le_refl _) _⟩
  go_enter Try.func24, Try.ntmps24
  go_wp2_with (first
    | (go_at_call 32; refine (hHW.out _ (by repeat (first | refine Below.setCell ?_ (by simp) _ | refine Below.alloc ?_ (by simp) _ | exact Below.refl _ _))).mono ?_; rintro e w' ⟨rfl, hw'⟩; have hbw : Kpt (Below w.heap.size w w') := ⟨Below.trans (by repeat (first | refine Below.setCell ?_ (by simp) _ | refine Below.alloc ?_ (by simp) _ | exact Below.refl _ _)) (hw'.mono (by simp; omega))⟩; have r0 : w'.cell? ⟨w.heap.size, 0, none⟩ = some (.int .u8 0) := (hw'.cell (p := ⟨w.heap.size, 0, none⟩) (by simp; omega)).trans (by go_simp); have z0 : w'.frozen? ⟨w.heap.size, 0, none⟩ = false := (hw'.frozen (p := ⟨w.heap.size, 0, none⟩) (by simp; omega)).trans (by go_simp); have r1 : w'.cell? ⟨w.heap.size, 1, none⟩ = some (.int .u16 0) := (hw'.cell (p := ⟨w.heap.size, 1, none⟩) (by simp; omega)).trans (by go_simp); have z1 : w'.frozen? ⟨w.heap.size, 1, none⟩ = false := (hw'.frozen (p := ⟨w.heap.size, 1, none⟩) (by simp; omega)).trans (by go_simp); have r2 : w'.cell? ⟨w.heap.size, 2, none⟩ = some (.int .u64 0) := (hw'.cell (p := ⟨w.heap.size, 2, none⟩) (by simp; omega)).trans (by go_simp); have z2 : w'.frozen? ⟨w.heap.size, 2, none⟩ = false := (hw'.frozen (p := ⟨w.heap.size, 2, none⟩) (by simp; omega)).trans (by go_simp); have r3 : w'.cell? ⟨w.heap.size, 3, none⟩ = some (.bool false) := (hw'.cell (p := ⟨w.heap.size, 3, none⟩) (by simp; omega)).trans (by go_simp); have z3 : w'.frozen? ⟨w.heap.size, 3, none⟩ = false := (hw'.frozen (p := ⟨w.heap.size, 3, none⟩) (by simp; omega)).trans (by go_simp); have r4 : w'.cell? ⟨w.heap.size, 4, none⟩ = some (.int .i64 0) := (hw'.cell (p := ⟨w.heap.size, 4, none⟩) (by simp; omega)).trans (by go_simp); have z4 : w'.frozen? ⟨w.heap.size, 4, none⟩ = false := (hw'.frozen (p := ⟨w.heap.size, 4, none⟩) (by simp; omega)).trans (by go_simp); have r5 : w'.cell? ⟨w.heap.size, 5, none⟩ = some (.int .i64 0) := (hw'.cell (p := ⟨w.heap.size, 5, none⟩) (by simp; omega)).trans (by go_simp); have z5 : w'.frozen? ⟨w.heap.size, 5, none⟩ = false := (hw'.frozen (p := ⟨w.heap.size, 5, none⟩) (by simp; omega)).trans (by go_simp); have r6 : w'.cell? ⟨w.heap.size, 6, none⟩ = some (.bool false) := (hw'.cell (p := ⟨w.heap.size, 6, none⟩) (by simp; omega)).trans (by go_simp); have z6 : w'.frozen? ⟨w.heap.size, 6, none⟩ = false := (hw'.frozen (p := ⟨w.heap.size, 6, none⟩) (by simp; omega)).trans (by go_simp); have r7 : w'.cell? ⟨w.heap.size, 7, none⟩ = some (.bool false) := (hw'.cell (p := ⟨w.heap.size, 7, none⟩) (by simp; omega)).trans (by go_simp); have z7 : w'.frozen? ⟨w.heap.size, 7, none⟩ = false := (hw'.frozen (p := ⟨w.heap.size, 7, none⟩) (by simp; omega)).trans (by go_simp); clear hw')
    | (go_at_call 31; have hm := m1; refine (H2.out _ BB.out).mono ?_; rintro e w' ⟨rfl, rfl⟩)
    | (go_at_call 31; refine (H1.out _ BB.out).mono ?_; rintro e w' ⟨rfl, rfl⟩; have m1 : Kpt True := ⟨trivial⟩))
  all_goals (
    refine bodyPost_ret (v := .agg #[.int .u8 key, .int .u16 code, .int .u64 info, .bool hi, .int .i64 field, .int .i64 bit, .bool hf, .bool ic]) (by simp [results, Try.results24, go_sem, r0, r1, r2, r3, r4, r5, r6, r7]) rfl ⟨rfl, ?_⟩
    iterate 8 (refine Below.setCell ?_ (by simp) _)
    exact hbw.out)

set_option maxRecDepth 100000 in
set_option maxHeartbeats 1000000 in
theorem readDescribed_few (b off : Nat) (lo) (c : Nat) (zs : List Int) (w : World) (hr : RdAt w (.slice (some ⟨b, off, lo⟩) zs.length c) zs) (hb : B.Bytes zs) (hl : zs.length ≤ maxLen) (hvl : ∀ g, (Value.slice (some ⟨b, off, lo⟩) zs.length c).ownBlock = some g → g < w.heap.size) (h8 : zs.length < 8) :
    Calls Try.prog 24 #[.slice (some ⟨b, off, lo⟩) zs.length c] w fun e w' => e = .returned (.agg (gD zs).vals) ∧ Below w.heap.size w w' := by
  have hc : zs.length ≤ c := by obtain ⟨_, _, e, _, h, _⟩ := hr; simp at e; omega
  have G : ∀ (i n : Nat), 1 ≤ n → n ≤ 8 → i ≤ 1000 → ∀ W, Below w.heap.size w W → Calls Try.prog 31 #[.slice (some ⟨b, off, lo⟩) zs.length c, .int .i64 i, .int .i64 n] W fun e w' => e = .returned (.int .u64 (getN zs i n)) ∧ w' = W := fun i n h1 h2 h3 W hW => get_any _ zs i n W (hr.of_block (fun g hg => hW.block _ (hvl g hg))) hb hl h1 h2 h3
  have H1 : Kpt (∀ W, Below w.heap.size w W → Calls Try.prog 31 #[.slice (some ⟨b, off, lo⟩) zs.length c, .int .i64 1, .int .i64 1] W fun e w' => e = .returned (.int .u64 (getN zs 1 1)) ∧ w' = W) := ⟨G 1 1 (by decide) (by decide) (by decide)⟩
  have H2 : Kpt (∀ W, Below w.heap.size w W → Calls Try.prog 31 #[.slice (some ⟨b, off, lo⟩) zs.length c, .int .i64 2, .int .i64 2] W fun e w' => e = .returned (.int .u64 (getN zs 2 2)) ∧ w' = W) := ⟨G 2 2 (by decide) (by decide) (by decide)⟩
  have HW : Kpt (∀ (x : Option Addr) (c' : Nat) (hx : ∃ o l, x = some ⟨b, o, l⟩) s W, Below w.heap.size w W → Calls Try.prog 32 #[.agg (Sn.vals s), .slice x 0 c', .int .i64 4] W fun e w' => e = .returned (.agg (s.withF (zs.drop 8) 4).vals) ∧ Below W.heap.size W w') := ⟨fun x c' hx s W hW => withField_any s _ (zs.drop 8) 4 W (by rw [List.drop_eq_nil_of_le (by omega)]; obtain ⟨_, _, rfl⟩ := hx; exact rd_empty _ _ _) (bytes_drop hb 8) (by simp; omega) (by decide) (fun g hg => Nat.lt_of_lt_of_le (hvl g (by obtain ⟨_, _, rfl⟩ := hx; exact hg)) hW.size)⟩
  have b1 := getN_bd zs hb 1 1
  have b2 := getN_bd zs hb 2 2
  obtain ⟨x1, e1⟩ : ∃ x, x = getN zs 1 1 := ⟨_, rfl⟩
  obtain ⟨x2, e2⟩ : ∃ x, x = getN zs 2 2 := ⟨_, rfl⟩
  rw [← e1] at H1 b1
  rw [← e2] at H2 b2
  simp at b1 b2
  obtain ⟨R, hR⟩ : ∃ R, R = gD zs := ⟨_, rfl⟩
  have hHW : Kpt (∀ (x : Option Addr) (c' : Nat) (hx : ∃ o l, x = some ⟨b, o, l⟩) W, Below w.heap.size w W → Calls Try.prog 32 #[.agg #[.int .u8 x1, .int .u16 x2, .int .u64 0, .bool false, .int .i64 0, .int .i64 0, .bool false, .bool false], .slice x 0 c', .int .i64 4] W fun e w' => e = .returned (.agg R.vals) ∧ Below W.heap.size W w') := ⟨by
    have e : R = Sn.withF ⟨x1, x2, 0, false, 0, 0, false, false⟩ (zs.drop 8) 4 := by rw [hR, gD, if_neg (by omega), e1, e2]
    rw [e]
    intro x c' hx
    exact HW.out x c' hx _⟩
  rw [← hR]
  clear hR e1 e2 HW G
  obtain ⟨n, hn⟩ : ∃ n, n = zs.length := ⟨_, rfl⟩
  rw [← hn] at H1 H2 hl hc h8 ⊢
  clear hn
  have hmin : min (8 : Int) n = n := by omega
  unfold maxLen at hl
  clear hr hb hvl
  obtain ⟨key, code, info, hi, field, bit, hf, ic⟩ := R
  simp only [Sn.vals] at hHW ⊢
  have BB : Kpt (Below w.heap.size w (w.alloc (.cells #[.int .u8 0, .int .u16 0, .int .u64 0, .bool false, .int .i64 0, .int .i64 0, .bool false, .bool false] 25))) := ⟨(Below.refl _ _).alloc (Nat.le_refl _) _⟩
  go_enter Try.func24, Try.ntmps24
  go_wp2_with (first
    | (go_at_call 32; refine (hHW.out _ _ (by first | exact ⟨_, _, rfl⟩ | (split <;> first | exact ⟨_, _, rfl⟩ | (simp only [Addr.add]; split <;> exact ⟨_, _, rfl⟩))) _ (by repeat (first | refine Below.setCell ?_ (by simp) _ | refine Below.alloc ?_ (by simp) _ | exact Below.refl _ _))).mono ?_; rintro e w' ⟨rfl, hw'⟩; have hbw : Kpt (Below w.heap.size w w') := ⟨Below.trans (by repeat (first | refine Below.setCell ?_ (by simp) _ | refine Below.alloc ?_ (by simp) _ | exact Below.refl _ _)) (hw'.mono (by simp; omega))⟩; have r0 : w'.cell? ⟨w.heap.size, 0, none⟩ = some (.int .u8 0) := (hw'.cell (p := ⟨w.heap.size, 0, none⟩) (by simp; omega)).trans (by go_simp); have z0 : w'.frozen? ⟨w.heap.size, 0, none⟩ = false := (hw'.frozen (p := ⟨w.heap.size, 0, none⟩) (by simp; omega)).trans (by go_simp); have r1 : w'.cell? ⟨w.heap.size, 1, none⟩ = some (.int .u16 0) := (hw'.cell (p := ⟨w.heap.size, 1, none⟩) (by simp; omega)).trans (by go_simp); have z1 : w'.frozen? ⟨w.heap.size, 1, none⟩ = false := (hw'.frozen (p := ⟨w.heap.size, 1, none⟩) (by simp; omega)).trans (by go_simp); have r2 : w'.cell? ⟨w.heap.size, 2, none⟩ = some (.int .u64 0) := (hw'.cell (p := ⟨w.heap.size, 2, none⟩) (by simp; omega)).trans (by go_simp); have z2 : w'.frozen? ⟨w.heap.size, 2, none⟩ = false := (hw'.frozen (p := ⟨w.heap.size, 2, none⟩) (by simp; omega)).trans (by go_simp); have r3 : w'.cell? ⟨w.heap.size, 3, none⟩ = some (.bool false) := (hw'.cell (p := ⟨w.heap.size, 3, none⟩) (by simp; omega)).trans (by go_simp); have z3 : w'.frozen? ⟨w.heap.size, 3, none⟩ = false := (hw'.frozen (p := ⟨w.heap.size, 3, none⟩) (by simp; omega)).trans (by go_simp); have r4 : w'.cell? ⟨w.heap.size, 4, none⟩ = some (.int .i64 0) := (hw'.cell (p := ⟨w.heap.size, 4, none⟩) (by simp; omega)).trans (by go_simp); have z4 : w'.frozen? ⟨w.heap.size, 4, none⟩ = false := (hw'.frozen (p := ⟨w.heap.size, 4, none⟩) (by simp; omega)).trans (by go_simp); have r5 : w'.cell? ⟨w.heap.size, 5, none⟩ = some (.int .i64 0) := (hw'.cell (p := ⟨w.heap.size, 5, none⟩) (by simp; omega)).trans (by go_simp); have z5 : w'.frozen? ⟨w.heap.size, 5, none⟩ = false := (hw'.frozen (p := ⟨w.heap.size, 5, none⟩) (by simp; omega)).trans (by go_simp); have r6 : w'.cell? ⟨w.heap.size, 6, none⟩ = some (.bool false) := (hw'.cell (p := ⟨w.heap.size, 6, none⟩) (by simp; omega)).trans (by go_simp); have z6 : w'.frozen? ⟨w.heap.size, 6, none⟩ = false := (hw'.frozen (p := ⟨w.heap.size, 6, none⟩) (by simp; omega)).trans (by go_simp); have r7 : w'.cell? ⟨w.heap.size, 7, none⟩ = some (.bool false) := (hw'.cell (p := ⟨w.heap.size, 7, none⟩) (by simp; omega)).trans (by go_simp); have z7 : w'.frozen? ⟨w.heap.size, 7, none⟩ = false := (hw'.frozen (p := ⟨w.heap.size, 7, none⟩) (by simp; omega)).trans (by go_simp); clear hw')
    | (go_at_call 31; have hm := m1; refine (H2.out _ BB.out).mono ?_; rintro e w' ⟨rfl, rfl⟩)
    | (go_at_call 31; refine (H1.out _ BB.out).mono ?_; rintro e w' ⟨rfl, rfl⟩; have m1 : Kpt True := ⟨trivial⟩))
  all_goals (
    refine bodyPost_ret (v := .agg #[.int .u8 key, .int .u16 code, .int .u64 info, .bool hi, .int .i64 field, .int .i64 bit, .bool hf, .bool ic]) (by simp [results, Try.results24, go_sem, r0, r1, r2, r3, r4, r5, r6, r7]) rfl ⟨rfl, ?_⟩
    iterate 8 (refine Below.setCell ?_ (by simp) _)
    exact hbw.out)

set_option maxRecDepth 100000 in
set_option maxHeartbeats 1000000 in
theorem readDescribed_nil (w : World) : Calls Try.prog 24 #[.slice none 0 0] w fun e w' => e = .returned (.agg (gD []).vals) ∧ Below w.heap.size w w' := by
  have hb : B.Bytes [] := fun j => by simp
  have H1 : Kpt (∀ W, Calls Try.prog 31 #[.slice none 0 0, .int .i64 1, .int .i64 1] W fun e w' => e = .returned (.int .u64 0) ∧ w' = W) := ⟨fun W => get_any _ [] 1 1 W (rd_nil W) hb (by simp) (by decide) (by decide) (by decide)⟩
  have H2 : Kpt (∀ W, Calls Try.prog 31 #[.slice none 0 0, .int .i64 2, .int .i64 2] W fun e w' => e = .returned (.int .u64 0) ∧ w' = W) := ⟨fun W => get_any _ [] 2 2 W (rd_nil W) hb (by simp) (by decide) (by decide) (by decide)⟩
  obtain ⟨R, hR⟩ : ∃ R, R = gD [] := ⟨_, rfl⟩
  have hHW : Kpt (∀ W, Calls Try.prog 32 #[.agg #[.int .u8 0, .int .u16 0, .int .u64 0, .bool false, .int .i64 0, .int .i64 0, .bool false, .bool false], .slice none 0 0, .int .i64 4] W fun e w' => e = .returned (.agg R.vals) ∧ Below W.heap.size W w') := ⟨fun W => by
    have e : R = Sn.withF ⟨0, 0, 0, false, 0, 0, false, false⟩ [] 4 := by rw [hR]; rfl
    rw [e]
    exact withField_any ⟨0, 0, 0, false, 0, 0, false, false⟩ _ [] 4 W (rd_nil W) hb (by simp) (by decide) (fun g hg => by simp [Value.ownBlock] at hg)⟩
  rw [← hR]
  clear hR
  obtain ⟨key, code, info, hi, field, bit, hf, ic⟩ := R
  simp only [Sn.vals] at hHW ⊢
  go_enter Try.func24, Try.ntmps24
  go_wp2_with (first
    | (go_at_call 32; refine (hHW.out _).mono ?_; rintro e w' ⟨rfl, hw'⟩; have hbw : Kpt (Below w.heap.size w w') := ⟨Below.trans (by repeat (first | refine Below.setCell ?_ (by simp) _ | refine Below.alloc ?_ (by simp) _ | exact Below.refl _ _)) (hw'.mono (by simp; omega))⟩; have r0 : w'.cell? ⟨w.heap.size, 0, none⟩ = some (.int .u8 0) := (hw'.cell (p := ⟨w.heap.size, 0, none⟩) (by simp; omega)).trans (by go_simp); have z0 : w'.frozen? ⟨w.heap.size, 0, none⟩ = false := (hw'.frozen (p := ⟨w.heap.size, 0, none⟩) (by simp; omega)).trans (by go_simp); have r1 : w'.cell? ⟨w.heap.size, 1, none⟩ = some (.int .u16 0) := (hw'.cell (p := ⟨w.heap.size, 1, none⟩) (by simp; omega)).trans (by go_simp); have z1 : w'.frozen? ⟨w.heap.size, 1, none⟩ = false := (hw'.frozen (p := ⟨w.heap.size, 1, none⟩) (by simp; omega)).trans (by go_simp); have r2 : w'.cell? ⟨w.heap.size, 2, none⟩ = some (.int .u64 0) := (hw'.cell (p := ⟨w.heap.size, 2, none⟩) (by simp; omega)).trans (by go_simp); have z2 : w'.frozen? ⟨w.heap.size, 2, none⟩ = false := (hw'.frozen (p := ⟨w.heap.size, 2, none⟩) (by simp; omega)).trans (by go_simp); have r3 : w'.cell? ⟨w.heap.size, 3, none⟩ = some (.bool false) := (hw'.cell (p := ⟨w.heap.size, 3, none⟩) (by simp; omega)).trans (by go_simp); have z3 : w'.frozen? ⟨w.heap.size, 3, none⟩ = false := (hw'.frozen (p := ⟨w.heap.size, 3, none⟩) (by simp; omega)).trans (by go_simp); have r4 : w'.cell? ⟨w.heap.size, 4, none⟩ = some (.int .i64 0) := (hw'.cell (p := ⟨w.heap.size, 4, none⟩) (by simp; omega)).trans (by go_simp); have z4 : w'.frozen? ⟨w.heap.size, 4, none⟩ = false := (hw'.frozen (p := ⟨w.heap.size, 4, none⟩) (by simp; omega)).trans (by go_simp); have r5 : w'.cell? ⟨w.heap.size, 5, none⟩ = some (.int .i64 0) := (hw'.cell (p := ⟨w.heap.size, 5, none⟩) (by simp; omega)).trans (by go_simp); have z5 : w'.frozen? ⟨w.heap.size, 5, none⟩ = false := (hw'.frozen (p := ⟨w.heap.size, 5, none⟩) (by simp; omega)).trans (by go_simp); have r6 : w'.cell? ⟨w.heap.size, 6, none⟩ = some (.bool false) := (hw'.cell (p := ⟨w.heap.size, 6, none⟩) (by simp; omega)).trans (by go_simp); have z6 : w'.frozen? ⟨w.heap.size, 6, none⟩ = false := (hw'.frozen (p := ⟨w.heap.size, 6, none⟩) (by simp; omega)).trans (by go_simp); have r7 : w'.cell? ⟨w.heap.size, 7, none⟩ = some (.bool false) := (hw'.cell (p := ⟨w.heap.size, 7, none⟩) (by simp; omega)).trans (by go_simp); have z7 : w'.frozen? ⟨w.heap.size, 7, none⟩ = false := (hw'.frozen (p := ⟨w.heap.size, 7, none⟩) (by simp; omega)).trans (by go_simp); clear hw')
    | (go_at_call 31; have hm := m1; refine (H2.out _).mono ?_; rintro e w' ⟨rfl, rfl⟩)
    | (go_at_call 31; refine (H1.out _).mono ?_; rintro e w' ⟨rfl, rfl⟩; have m1 : Kpt True := ⟨trivial⟩))
  all_goals (
    refine bodyPost_ret (v := .agg #[.int .u8 key, .int .u16 code, .int .u64 info, .bool hi, .int .i64 field, .int .i64 bit, .bool hf, .bool ic]) (by simp [results, Try.results24, go_sem, r0, r1, r2, r3, r4, r5, r6, r7]) rfl ⟨rfl, ?_⟩
    iterate 8 (refine Below.setCell ?_ (by simp) _)
    exact hbw.out)

theorem readDescribed_any (v : Value) (zs : List Int) (w : World) (hr : RdAt w v zs) (hb : B.Bytes zs) (hl : zs.length ≤ maxLen) (hvl : ∀ g, v.ownBlock = some g → g < w.heap.size) :
    Calls Try.prog 24 #[v] w fun e w' => e = .returned (.agg (gD zs).vals) ∧ Below w.heap.size w w' := by
  obtain ⟨a, c, rfl, hn, hlc, h⟩ := id hr
  cases a with
  | none =>
    obtain ⟨h0, rfl⟩ := hn rfl
    obtain rfl : zs = [] := List.eq_nil_of_length_eq_zero h0
    exact readDescribed_nil w
  | some x =>
    obtain ⟨b, off, lo⟩ := x
    have hx : lo = none ∨ zs.length = 0 := by
      rcases h with h | ⟨b', off', e, _⟩
      · exact .inr h
      · simp at e; exact .inl e.2.2
    by_cases h20 : 20 ≤ zs.length
    · obtain rfl : lo = none := by rcases hx with h | h; exact h; omega
      exact readDescribed_long b off c zs w hr hb hl (hvl b rfl) h20
    · by_cases h8 : 8 ≤ zs.length
      · obtain rfl : lo = none := by rcases hx with h | h; exact h; omega
        exact readDescribed_mid b off c zs w hr hb hl hvl h8 (by omega)
      · exact readDescribed_few b off lo c zs w hr hb hl hvl (by omega)

end Go.Proofs.Ytglfkpdbgddpdaa
