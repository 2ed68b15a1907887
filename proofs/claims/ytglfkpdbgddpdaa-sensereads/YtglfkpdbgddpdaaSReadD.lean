/-
  The contract of readDescribed.
-/
import Derived.Test.YtglfkpdbgddpdaaSRead
namespace Go.Proofs.Ytglfkpdbgddpdaa
open Go.RowKit
set_option linter.unusedVariables false
set_option linter.unusedSimpArgs false

def gD (zs : List Int) : Sn :=
  if 20 ≤ zs.length then Sn.withF ⟨getN zs 1 1, getN zs 2 2, getN (zs.drop 8) 4 8, true, 0, 0, false, false⟩ (zs.drop 20) 4
  else Sn.withF ⟨getN zs 1 1, getN zs 2 2, 0, false, 0, 0, false, false⟩ (zs.drop 8) 4

theorem bytes_drop {zs : List Int} (h : B.Bytes zs) (k : Nat) : B.Bytes (zs.drop k) := by
  intro j
  have := h (k + j)
  rw [List.getD_eq_getElem?_getD] at this ⊢
  rw [List.getElem?_drop]
  exact this

theorem rd_drop {w : World} {b off n c : Nat} {zs : List Int} (h : RdAt w (.slice (some ⟨b, off, none⟩) n c) zs) (k : Nat) (hk : k ≤ n) : RdAt w (.slice (some ⟨b, off + k, none⟩) (n - k) (c - k)) (zs.drop k) := by
  obtain ⟨a, c', e, _, hlc, h⟩ := h
  simp only [Value.slice.injEq] at e
  obtain ⟨rfl, rfl, rfl⟩ := e
  refine ⟨some ⟨b, off + k, none⟩, c - k, by simp, (fun e => by cases e), by simp; omega, ?_⟩
  rcases h with h | ⟨b', off', e, h⟩
  · exact .inl (by simp; omega)
  · simp only [Option.some.injEq, Addr.mk.injEq, and_true] at e
    obtain ⟨rfl, rfl⟩ := e
    refine .inr ⟨b, off + k, rfl, fun j u hu => ?_⟩
    have := h (k + j) u (by rw [← hu]; unfold cels; rw [List.map_drop, List.getElem?_drop])
    rw [Nat.add_assoc]
    exact this

theorem rd_empty (w : World) (x : Addr) (c : Nat) : RdAt w (.slice (some x) 0 c) [] := ⟨some x, c, rfl, (fun e => by cases e), Nat.zero_le _, .inl rfl⟩

theorem rd_drop_if {w : World} {b off c : Nat} {zs : List Int} (h : RdAt w (.slice (some ⟨b, off, none⟩) zs.length c) zs) (h20 : 20 ≤ zs.length) :
    RdAt w (.slice (if c - 8 = 12 then some ⟨b, off + 8, none⟩ else some ⟨b, off + 8 + 12, none⟩) (zs.length - 8 - 12) (c - 8 - 12)) (zs.drop 20) := by
  have hc : zs.length ≤ c := by obtain ⟨_, _, e, _, h, _⟩ := h; simp at e; omega
  split
  · rename_i e
    have h1 : zs.length - 8 - 12 = 0 := by omega
    have h2 : zs.drop 20 = [] := List.drop_eq_nil_of_le (by omega)
    rw [h1, h2]
    exact rd_empty _ _ _
  · have := rd_drop (rd_drop h 8 (by omega)) 12 (by omega)
    rw [List.drop_drop] at this
    exact this

set_option maxRecDepth 100000 in
set_option maxHeartbeats 1000000 in
theorem readDescribed_long (b off c : Nat) (zs : List Int) (w : World) (hr : RdAt w (.slice (some ⟨b, off, none⟩) zs.length c) zs) (hb : B.Bytes zs) (hl : zs.length ≤ maxLen) (hvl : b < w.heap.size) (h20 : 20 ≤ zs.length) :
    Calls Try.prog 24 #[.slice (some ⟨b, off, none⟩) zs.length c] w fun e w' => e = .returned (.agg (gD zs).vals) ∧ Below w.heap.size w w' := by
  have hc : zs.length ≤ c := by obtain ⟨_, _, e, _, h, _⟩ := hr; simp at e; omega
  have H1 : Kpt (∀ W, Below w.heap.size w W → Calls Try.prog 31 #[.slice (some ⟨b, off, none⟩) zs.length c, .int .i64 1, .int .i64 1] W fun e w' => e = .returned (.int .u64 (getN zs 1 1)) ∧ w' = W) := ⟨fun W hW => get_any _ zs 1 1 W (hr.of_block (fun g hg => by simp [Value.ownBlock] at hg; subst hg; exact hW.block _ hvl)) hb hl (by decide) (by decide) (by decide)⟩
  have H2 : Kpt (∀ W, Below w.heap.size w W → Calls Try.prog 31 #[.slice (some ⟨b, off, none⟩) zs.length c, .int .i64 2, .int .i64 2] W fun e w' => e = .returned (.int .u64 (getN zs 2 2)) ∧ w' = W) := ⟨fun W hW => get_any _ zs 2 2 W (hr.of_block (fun g hg => by simp [Value.ownBlock] at hg; subst hg; exact hW.block _ hvl)) hb hl (by decide) (by decide) (by decide)⟩
  have H3 : Kpt (∀ W, Below w.heap.size w W → Calls Try.prog 31 #[.slice (some ⟨b, off + 8, none⟩) (zs.length - 8) (c - 8), .int .i64 4, .int .i64 8] W fun e w' => e = .returned (.int .u64 (getN (zs.drop 8) 4 8)) ∧ w' = W) := ⟨fun W hW => get_any _ (zs.drop 8) 4 8 W (rd_drop (hr.of_block (fun g hg => by simp [Value.ownBlock] at hg; subst hg; exact hW.block _ hvl)) 8 (by omega)) (bytes_drop hb 8) (by simp; omega) (by decide) (by decide) (by decide)⟩
  have HW : Kpt (∀ s W, Below w.heap.size w W → Calls Try.prog 32 #[.agg (Sn.vals s), .slice (if c - 8 = 12 then some ⟨b, off + 8, none⟩ else some ⟨b, off + 8 + 12, none⟩) (zs.length - 8 - 12) (c - 8 - 12), .int .i64 4] W fun e w' => e = .returned (.agg (s.withF (zs.drop 20) 4).vals) ∧ Below W.heap.size W w') := ⟨fun s W hW => withField_any s _ (zs.drop 20) 4 W (rd_drop_if (hr.of_block (fun g hg => by simp [Value.ownBlock] at hg; subst hg; exact hW.block _ hvl)) h20) (bytes_drop hb 20) (by simp; omega) (by decide) (fun g hg => Nat.lt_of_lt_of_le (by split at hg <;> (simp [Value.ownBlock] at hg; omega)) hW.size)⟩
  have b3 := getN_bd (zs.drop 8) (bytes_drop hb 8) 4 8
  have b1 := getN_bd zs hb 1 1
  have b2 := getN_bd zs hb 2 2
  obtain ⟨x1, e1⟩ : ∃ x, x = getN zs 1 1 := ⟨_, rfl⟩
  obtain ⟨x2, e2⟩ : ∃ x, x = getN zs 2 2 := ⟨_, rfl⟩
  obtain ⟨x3, e3⟩ : ∃ x, x = getN (zs.drop 8) 4 8 := ⟨_, rfl⟩
  rw [← e3] at H3 b3
  rw [← e1] at H1 b1
  rw [← e2] at H2 b2
  obtain ⟨n, hn⟩ : ∃ n, n = zs.length := ⟨_, rfl⟩
  rw [← hn] at H1 H2 H3 HW hl hc h20 ⊢
  simp at b1 b2 b3
  obtain ⟨R, hR⟩ : ∃ R, R = gD zs := ⟨_, rfl⟩
  have hHW : Kpt (∀ W, Below w.heap.size w W → Calls Try.prog 32 #[.agg #[.int .u8 x1, .int .u16 x2, .int .u64 x3, .bool true, .int .i64 0, .int .i64 0, .bool false, .bool false], .slice (if c - 8 = 12 then some ⟨b, off + 8, none⟩ else some ⟨b, off + 8 + 12, none⟩) (n - 8 - 12) (c - 8 - 12), .int .i64 4] W fun e w' => e = .returned (.agg R.vals) ∧ Below W.heap.size W w') := ⟨by
    have e : R = Sn.withF ⟨x1, x2, x3, true, 0, 0, false, false⟩ (zs.drop 20) 4 := by rw [hR, gD, if_pos (by omega), e1, e2, e3]
    rw [e]
    exact HW.out _⟩
  rw [← hR]
  clear hR e1 e2 e3 hr hb hn HW
  unfold maxLen at hl
  have hmin : min (8 : Int) n = 8 := by omega
  obtain ⟨key, code, info, hi, field, bit, hf, ic⟩ := R
  simp only [Sn.vals] at hHW ⊢
  have BB : Kpt (Below w.heap.size w (w.alloc (.cells #[.int .u8 0, .int .u16 0, .int .u64 0, .bool false, .int .i64 0, .int .i64 0, .bool false, .bool false] 25))) := ⟨(Below.refl _ _).alloc (Nat.le_refl _) _⟩
  go_enter Try.func24, Try.ntmps24
  go_wp2_with (first
    | (go_at_call 32; refine (hHW.out _ (by repeat (first | refine Below.setCell ?_ (by simp) _ | refine Below.alloc ?_ (by simp) _ | exact Below.refl _ _))).mono ?_; rintro e w' ⟨rfl, hw'⟩; have hbw : Kpt (Below w.heap.size w w') := ⟨Below.trans (by repeat (first | refine Below.setCell ?_ (by simp) _ | refine Below.alloc ?_ (by simp) _ | exact Below.refl _ _)) (hw'.mono (by simp; omega))⟩; have r0 : w'.cell? ⟨w.heap.size, 0, none⟩ = some (.int .u8 0) := (hw'.cell (p := ⟨w.heap.size, 0, none⟩) (by simp; omega)).trans (by go_simp); have z0 : w'.frozen? ⟨w.heap.size, 0, none⟩ = false := (hw'.frozen (p := ⟨w.heap.size, 0, none⟩) (by simp; omega)).trans (by go_simp); have r1 : w'.cell? ⟨w.heap.size, 1, none⟩ = some (.int .u16 0) := (hw'.cell (p := ⟨w.heap.size, 1, none⟩) (by simp; omega)).trans (by go_simp); have z1 : w'.frozen? ⟨w.heap.size, 1, none⟩ = false := (hw'.frozen (p := ⟨w.heap.size, 1, none⟩) (by simp; omega)).trans (by go_simp); have r2 : w'.cell? ⟨w.heap.size, 2, none⟩ = some (.int .u64 0) := (hw'.cell (p := ⟨w.heap.size, 2, none⟩) (by simp; omega)).trans (by go_simp); have z2 : w'.frozen? ⟨w.heap.size, 2, none⟩ = false := (hw'.frozen (p := ⟨w.heap.size, 2, none⟩) (by simp; omega)).trans (by go_simp); have r3 : w'.cell? ⟨w.heap.size, 3, none⟩ = some (.bool false) := (hw'.cell (p := ⟨w.heap.size, 3, none⟩) (by simp; omega)).trans (by go_simp); have z3 : w'.frozen? ⟨w.heap.size, 3, none⟩ = false := (hw'.frozen (p := ⟨w.heap.size, 3, none⟩) (by simp; omega)).trans (by go_simp); have r4 : w'.cell? ⟨w.heap.size, 4, none⟩ = some (.int .i64 0) := (hw'.cell (p := ⟨w.heap.size, 4, none⟩) (by simp; omega)).trans (by go_simp); have z4 : w'.frozen? ⟨w.heap.size, 4, none⟩ = false := (hw'.frozen (p := ⟨w.heap.size, 4, none⟩) (by simp; omega)).trans (by go_simp); have r5 : w'.cell? ⟨w.heap.size, 5, none⟩ = some (.int .i64 0) := (hw'.cell (p := ⟨w.heap.size, 5, none⟩) (by simp; omega)).trans (by go_simp); have z5 : w'.frozen? ⟨w.heap.size, 5, none⟩ = false := (hw'.frozen (p := ⟨w.heap.size, 5, none⟩) (by simp; omega)).trans (by go_simp); have r6 : w'.cell? ⟨w.heap.size, 6, none⟩ = some (.bool false) := (hw'.cell (p := ⟨w.heap.size, 6, none⟩) (by simp; omega)).trans (by go_simp); have z6 : w'.frozen? ⟨w.heap.size, 6, none⟩ = false := (hw'.frozen (p := ⟨w.heap.size, 6, none⟩) (by simp; omega)).trans (by go_simp); have r7 : w'.cell? ⟨w.heap.size, 7, none⟩ = some (.bool false) := (hw'.cell (p := ⟨w.heap.size, 7, none⟩) (by simp; omega)).trans (by go_simp); have z7 : w'.frozen? ⟨w.heap.size, 7, none⟩ = false := (hw'.frozen (p := ⟨w.heap.size, 7, none⟩) (by simp; omega)).trans (by go_simp); clear hw')
    | (go_at_call 31; have hm := m2; refine (H3.out _ (BB.out.alloc (by simp) _)).mono ?_; rintro e w' ⟨rfl, rfl⟩)
    | (go_at_call 31; have hm := m1; refine (H2.out _ BB.out).mono ?_; rintro e w' ⟨rfl, rfl⟩; have m2 : Kpt True := ⟨trivial⟩)
    | (go_at_call 31; refine (H1.out _ BB.out).mono ?_; rintro e w' ⟨rfl, rfl⟩; have m1 : Kpt True := ⟨trivial⟩))
  all_goals (
    refine bodyPost_ret (v := .agg #[.int .u8 key, .int .u16 code, .int .u64 info, .bool hi, .int .i64 field, .int .i64 bit, .bool hf, .bool ic]) (by simp [results, Try.results24, go_sem, r0, r1, r2, r3, r4, r5, r6, r7]) rfl ⟨rfl, ?_⟩
    iterate 8 (refine Below.setCell ?_ (by simp) _)
    exact hbw.out)
end Go.Proofs.Ytglfkpdbgddpdaa
