/-
  Slots: the walk of SlotsTurns.
-/
import Derived.Test.YtndlpmnidpandaaLAwk
import Derived.Deep.Matrix
import Derived.Deep.Grids
namespace Go.Proofs.Ytndlpmnidpandaa
open Go.RowKit
set_option linter.unusedVariables false
set_option linter.unusedSimpArgs false

/-- The pieces: a slice of slices of bytes that can be read. -/
def PiecesAt (w : World) (v : Value) (n : Nat) (P : Nat → List Int) : Prop :=
  ∃ a c, v = .slice a n c ∧ ∀ i, i < n → ∃ b off ai ci, a = some ⟨b, off, none⟩ ∧ w.cell? ⟨b, off + i, none⟩ = some (.slice ai (P i).length ci) ∧ RdAt w (.slice ai (P i).length ci) (P i) ∧ Bytes (P i)
def BoolsAt (w : World) (v : Value) (n : Nat) (Q : Nat → Bool) : Prop :=
  ∃ a c, v = .slice a n c ∧ ∀ i, i < n → ∃ b off, a = some ⟨b, off, none⟩ ∧ w.cell? ⟨b, off + i, none⟩ = some (.bool (Q i))

/-- How far the saves have come. -/
structure Tu (w W : World) (B S : Nat) (k : Nat) : Prop where
  ex : ∃ tag st kn g nx p, Wd W B tag st ∧ Sl W S B tag ⟨#[107]⟩ kn g nx ∧ Ok st ⟨#[107]⟩ k p ∧ Knows kn g nx k ∧ st.cnt ≤ 100 * k ∧ ∀ i, i < w.heap.size → tag i = none
  below : Below w.heap.size w W
  lo : w.heap.size ≤ S
theorem Tu.drawn {w W : World} {B S k : Nat} (h : Tu w W B S k) (q : Nat) : Tu w { W with drawn := q } B S k := by
  obtain ⟨tag, st, kn, g, nx, p, hW, hS, hO, hK, hc, ht⟩ := h.ex
  exact ⟨⟨tag, st, kn, g, nx, p, wd_drawn hW q, sl_drawn hS q, hO, hK, hc, ht⟩, h.below.trans ((below_drawn W q).mono h.below.size), h.lo⟩
theorem rd_low {w W : World} {v : Value} {zs : List Int} (h : RdAt w v zs) (hb : Below w.heap.size w W) : RdAt W v zs := h.bel hb

theorem tu_save {w W : World} {B S k : Nat} (h : Tu w W B S k) (hk : k < 12) (a : Option Addr) (n c : Nat) (zs : List Int) (hrd : RdAt w (.slice a n c) zs) (hl : zs.length = n) (hn : n ≤ 300) (hb : Bytes zs) :
    Calls Try.prog 17 #[.pointer (some ⟨S, 0, none⟩), .slice a n c] W fun e w' => e = .returned (.tuple #[.int .u64 ((k : Int) + 1), .int .i64 0]) ∧
      ∃ tag st, Wd w' B tag st ∧ Ok st ⟨#[107]⟩ (k + 1) zs ∧ st.cnt ≤ 100 * k + 6 ∧ (∀ i, i < w.heap.size → tag i = none) ∧ Sl w' S B tag ⟨#[107]⟩ true ((k + 1 : Nat) : Int) (((k + 1) % 2 : Nat) : Int) ∧ Below w.heap.size w w' := by
  obtain ⟨tag, st, kn, g, nx, p, hW, hS, hO, hK, hc, ht⟩ := h.ex
  have e1 : ((k + 1 : Nat) : Int) = (k : Int) + 1 := by omega
  refine (save_h S B ⟨#[107]⟩ kn g nx tag st W hS hW (by omega) (by rw [size_k]; omega) (by rw [size_k]; omega) k p hO (by omega) hK a n c zs (hrd.bel h.below) hl (by omega) hb (fun hne q hq => ?_)).mono ?_
  · have : q < w.heap.size := hrd.lt (by cases zs; exact absurd rfl hne; simp) hq
    have := h.lo
    exact ⟨ht q (by omega), by omega⟩
  · rintro e w' ⟨rfl, tag', st', h1, h2, h3, h4, h5⟩
    rw [e1]
    exact ⟨rfl, tag', st', h1, h2, by omega, fun i hi => h4.bare i (Nat.lt_of_lt_of_le hi h.below.size) (ht i hi), e1 ▸ h5, h.below.trans (h4.bel h.below.size ht h.lo)⟩

set_option maxRecDepth 100000 in
set_option maxHeartbeats 4000000 in
theorem turns_walk (a0 : Option Addr) (n0 c0 : Nat) (P : Nat → List Int) (a1 : Option Addr) (n1 c1 : Nat) (Q : Nat → Bool) (w : World) (hP : PiecesAt w (.slice a0 n0 c0) n0 P) (l0 : n0 ≤ maxLen) (hQ : BoolsAt w (.slice a1 n1 c1) n1 Q) (l1 : n1 ≤ maxLen) :
    Calls Try.prog 6 #[.slice a0 n0 c0, .slice a1 n1 c1] w fun e w' => e = .returned (.bool true) ∧ Below w.heap.size w w' := by
  have HA := Kpt.mk (awake_any w)
  have HN : Kpt (∀ W, Below w.heap.size w W → Calls Try.prog 12 #[] W fun e w' => ∃ B tag, e = .returned (.pointer (some ⟨B, 0, none⟩)) ∧ Wd w' B tag st0 ∧ Below w.heap.size w w' ∧ (∀ i, i < w.heap.size → tag i = none)) := ⟨fun W hW => (new_any W).mono (fun e w' ⟨B, tag, h1, h2, h3, h4⟩ => ⟨B, tag, h1, h2, hW.trans (((Below.refl _ _).grown h3 (Nat.le_refl _) (fun k h => by cases h)).mono hW.size), fun i hi => h4 i (Nat.lt_of_lt_of_le hi hW.size)⟩)⟩
  have HO : Kpt (∀ W B tag st, Wd W B tag st → Below w.heap.size w W → Calls Try.prog 13 #[.pointer (some ⟨B, 0, none⟩), .string ⟨#[107]⟩] W fun e w' => ∃ S, e = .returned (.tuple #[.pointer (some ⟨S, 0, none⟩), .int .i64 0]) ∧ Wd w' B tag st ∧ Sl w' S B tag ⟨#[107]⟩ false 0 0 ∧ w.heap.size ≤ S ∧ Below w.heap.size w w') := ⟨fun W B tag st h hW => (open_h B ⟨#[107]⟩ tag st W h (by rw [size_k]; omega) (by rw [size_k]; omega)).mono (fun e w' ⟨S, h1, h2, h3, h4, h5⟩ => ⟨S, h1, h2, h3, Nat.le_trans hW.size h4, hW.trans (h5.mono hW.size)⟩)⟩
  unfold maxLen at l0 l1
  obtain ⟨x0, y0, e0, hP⟩ := hP
  simp only [Value.slice.injEq, true_and] at e0
  obtain ⟨rfl, rfl⟩ := e0
  obtain ⟨x1, y1, e1, hQ⟩ := hQ
  simp only [Value.slice.injEq, true_and] at e1
  obtain ⟨rfl, rfl⟩ := e1
  replace hP := Kpt.mk hP
  replace hQ := Kpt.mk hQ
  go_enter Try.func6, Try.ntmps6
  go_wp2_with (first
    | (go_at_call 13; go_must (refine (HO.out _ B tag1 st0 hw1.out hb1.out).mono ?_; rintro e w2 ⟨S, rfl, hw2, hS2, hSl, hb2⟩; have T0 : Kpt (Tu w w2 B S 0) := ⟨⟨⟨tag1, st0, false, 0, 0, [], hw2, hS2, ok_st0 _, ⟨by simp⟩, by simp [st0], ht1⟩, hb2, hSl⟩⟩; clear hw2 hS2 hSl hb2 hw1 hb1 ht1))
    | (go_at_call 12; go_must (refine (HN.out _ hb0.out).mono ?_; rintro e w1 ⟨B, tag1, rfl, hw1, hb1, ht1⟩; replace hw1 := Kpt.mk hw1; replace hb1 := Kpt.mk hb1; clear hb0 HN))
    | (go_at_call 7; go_must (refine HA.out.mono ?_; rintro e w0 ⟨rfl, hb0⟩; replace hb0 := Kpt.mk hb0; clear HA)))
  go_loopw [6, 7, 8] (fun t6 t7 t8 W => ∃ (k S : Nat), k ≤ n0 ∧ k ≤ 12 ∧ t8 = .int .i64 k ∧ t7 = .int .i64 0 ∧ t6 = .pointer (some ⟨S, 0, none⟩) ∧ Kpt (Tu w W B S k)) (fun _ _ t _ => 12 - (intOf t).toNat)
  case atStart => exact ⟨0, S, by omega, by omega, rfl, rfl, rfl, T0⟩
  case round =>
    obtain ⟨k, S', hk, hk12, rfl, rfl, rfl, T⟩ := hrel
    clear T0
    by_cases hlt : k < n0
    · by_cases h12 : k < 12
      · have i0 : (k : Int) < n0 := by omega
        have i12 : (k : Int) < 12 := by omega
        obtain ⟨b0, off0, A, C, rfl, hc0, hr0, hby⟩ := hP.out k hlt
        have hb0l : b0 < w.heap.size := World.block_lt_of_cell? w ⟨b0, off0 + k, none⟩ hc0
        have hcW : ∀ W, Below w.heap.size w W → W.cell? ⟨b0, off0 + k, none⟩ = some (.slice A (P k).length C) := fun W h => (World.cell?_of_block (a := ⟨b0, off0 + k, none⟩) (h.block b0 hb0l)).trans hc0
        obtain ⟨m, hm⟩ : ∃ m, m = (P k).length := ⟨_, rfl⟩
        rw [← hm] at hcW hr0
        have hcr := hcW _ T.out.below
        by_cases hlen : 300 < m
        · have j0 : (300 : Int) < m := by omega
          replace hcW := Kpt.mk hcW
          replace hr0 := Kpt.mk hr0
          replace hm := Kpt.mk hm
          clear hc0 hby
          go_wp2_with fail
          go_ret
          exact ⟨rfl, T.out.below⟩
        · have j0 : ¬ (300 : Int) < m := by omega
          have HSv := Kpt.mk (tu_save T.out h12 A m C (P k) hr0 hm.symm (by omega) hby)
          replace hcW := Kpt.mk hcW
          replace hr0 := Kpt.mk hr0
          replace hm := Kpt.mk hm
          have kw : IntKind.i64.wrap ((k : Int) + 1) = (k : Int) + 1 := by rw [IntKind.wrap_i64]; omega
          have T_lo := T.out.lo
          clear hc0 hby T
          have HWt : Kpt (∀ W tag st, Wd W B tag st → Ok st ⟨#[107]⟩ (k + 1) (P k) → Calls Try.prog 23 #[.pointer (some ⟨B, 0, none⟩)] W fun e w' => e = .returned (.int .i64 0) ∧ w' = W) := ⟨fun W tag st hW hO => by have := waits_any W B tag st hW; rw [hO.calm] at this; simpa using this⟩
          have HLd : Kpt (∀ W S tag st kn g nx, Wd W B tag st → Sl W S B tag ⟨#[107]⟩ kn g nx → Ok st ⟨#[107]⟩ (k + 1) (P k) → st.cnt ≤ 100 * k + 6 → (∀ i, i < w.heap.size → tag i = none) → w.heap.size ≤ S → Below w.heap.size w W → Calls Try.prog 19 #[.pointer (some ⟨S, 0, none⟩)] W fun e w' => ∃ a c, e = .returned (.tuple #[.slice a m c, .int .u64 ((k : Int) + 1), .int .i64 0]) ∧ RdAt w' (.slice a m c) (P k) ∧ Tu w w' B S (k + 1)) := ⟨fun W S tag st kn g nx hW hS hO hc ht hlo hb => by
            refine (load_h S B ⟨#[107]⟩ kn g nx tag st W hS hW (by omega) (by rw [size_k]; omega) (by rw [size_k]; omega) (k + 1) (P k) hO (by omega)).mono ?_
            rintro e w' ⟨a, c, h1, h2, h3, h4, h5, h6⟩
            have e1 : ((k + 1 : Nat) : Int) = (k : Int) + 1 := by omega
            rw [e1, ← hm.out] at h1
            rw [← hm.out] at h2
            exact ⟨a, c, h1, h2.rd, ⟨⟨tag, _, true, _, _, P k, h4, h6, hO.ops _ _, ⟨fun _ => ⟨rfl, rfl⟩⟩, by show st.cnt + 2 ≤ _; omega, ht⟩, hb.trans (h5.bel hb.size ht hlo), hlo⟩⟩⟩
          by_cases hn1 : k < n1
          · have j1 : (k : Int) < n1 := by omega
            obtain ⟨b1, off1, rfl, hc1⟩ := hQ.out k hn1
            have hb1l : b1 < w.heap.size := World.block_lt_of_cell? w ⟨b1, off1 + k, none⟩ hc1
            cases hqk : Q k with
            | true =>
              rw [hqk] at hc1
              have hQW : ∀ W, Below w.heap.size w W → W.cell? ⟨b1, off1 + k, none⟩ = some (.bool true) := fun W h => (World.cell?_of_block (a := ⟨b1, off1 + k, none⟩) (h.block b1 hb1l)).trans hc1
              clear hqk hc1
              go_wp2_with (first
                | (have hm := m2; go_at_call 19; go_must (refine (HLd.out _ S2 _ _ _ _ _ hwz.out hSz.out hOz.out hcz htz hSlo hbz.out).mono ?_; rintro e w5 ⟨a5, c5, rfl, hr5, hT5⟩; have hb5 := hT5.below; replace hr5 := Kpt.mk hr5; replace hT5 := Kpt.mk hT5; clear hm m2 HLd))
                | (have hm := m1; go_at_call 13; go_must (refine (HO.out _ B tagz stz hwz.out hbz.out).mono ?_; rintro e w4 ⟨S2, rfl, hw4, hS4, hSl4, hb4⟩; replace hwz := Kpt.mk hw4; replace hSz := Kpt.mk hS4; replace hbz := Kpt.mk hb4; replace hSlo := hSl4; clear hw4 hS4 hb4 hSl4 hm m1; have m2 : Kpt True := ⟨trivial⟩))
                | (have hm := m0; go_at_call 23; go_must (refine (HWt.out _ _ _ hwz.out hOz.out).mono ?_; rintro e w3x ⟨rfl, h3x⟩; have h3y := h3x.symm; subst h3y; clear hm m0 HWt; have m1 : Kpt True := ⟨trivial⟩))
                | (go_at_call 17; go_must (refine HSv.out.mono ?_; rintro e wz ⟨rfl, tagz, stz, hwz, hOz, hcz, htz, hSz, hbz⟩; have hSlo := T_lo; have hx1 := hQW wz hbz; replace hwz := Kpt.mk hwz; replace hOz := Kpt.mk hOz; replace hSz := Kpt.mk hSz; replace hbz := Kpt.mk hbz; clear HSv; have m0 : Kpt True := ⟨trivial⟩))
                | fail)
              refine wp_region_any (by kernel_rfl) ?_
              refine wpAny_of_C (C := fun W => W.cell? ⟨b0, off0 + k, none⟩ = some (.slice A m C) ∧ RdAt W (.slice A m C) (P k) ∧ RdAt W (.slice a5 m c5) (P k)) _ _ _ _ ?_
              refine wpAnyC_take 0 (.int .i64 0) rfl (by kernel_rfl) (by kernel_rfl) (by kernel_rfl) (fun _ _ _ h => h) (wanted_free rfl _) (fun W hW => by go_simp) ?_
              try simp only [Act.put, List.getElem_toArray, List.getElem_cons_succ, List.getElem_cons_zero, List.setIfInBounds_toArray, List.set_cons_succ, List.set_cons_zero]
              refine wpAnyC_take 1 (.bool false) rfl (by kernel_rfl) (by kernel_rfl) (by kernel_rfl) (fun _ _ _ h => h) (wanted_free rfl _) (fun W hW => by go_simp) ?_
              try simp only [Act.put, List.getElem_toArray, List.getElem_cons_succ, List.getElem_cons_zero, List.setIfInBounds_toArray, List.set_cons_succ, List.set_cons_zero]
              refine wpAnyC_take 2 (.bool false) rfl (by kernel_rfl) (by kernel_rfl) (by kernel_rfl) (fun _ _ _ h => h) (wanted_free rfl _) (fun W hW => by go_simp) ?_
              try simp only [Act.put, List.getElem_toArray, List.getElem_cons_succ, List.getElem_cons_zero, List.setIfInBounds_toArray, List.set_cons_succ, List.set_cons_zero]
              refine wpAnyC_take 3 (.int .u64 ((k : Int) + 1)) rfl (by kernel_rfl) (by kernel_rfl) (by kernel_rfl) (fun _ _ _ h => h) (wanted_at false rfl rfl rfl rfl) (fun W hW => by go_simp) ?_
              try simp only [Act.put, List.getElem_toArray, List.getElem_cons_succ, List.getElem_cons_zero, List.setIfInBounds_toArray, List.set_cons_succ, List.set_cons_zero]
              refine wpAnyC_take 4 (.int .u64 ((k : Int) + 1)) rfl (by kernel_rfl) (by kernel_rfl) (by kernel_rfl) (fun _ _ _ h => h) (wanted_at false rfl rfl rfl rfl) (fun W hW => by go_simp) ?_
              try simp only [Act.put, List.getElem_toArray, List.getElem_cons_succ, List.getElem_cons_zero, List.setIfInBounds_toArray, List.set_cons_succ, List.set_cons_zero]
              refine wpAnyC_take 5 (.bool false) rfl (by kernel_rfl) (by kernel_rfl) (by kernel_rfl) (fun _ _ _ h => h) (wanted_at false rfl rfl rfl rfl) (fun W hW => by go_simp) ?_
              try simp only [Act.put, List.getElem_toArray, List.getElem_cons_succ, List.getElem_cons_zero, List.setIfInBounds_toArray, List.set_cons_succ, List.set_cons_zero]
              refine wpAnyC_take 6 (.bool false) rfl (by kernel_rfl) (by kernel_rfl) (by kernel_rfl) (fun _ _ _ h => h) (wanted_free rfl _) (fun W hW => by go_simp) ?_
              try simp only [Act.put, List.getElem_toArray, List.getElem_cons_succ, List.getElem_cons_zero, List.setIfInBounds_toArray, List.set_cons_succ, List.set_cons_zero]
              refine wpAnyC_take 7 (.bool false) rfl (by kernel_rfl) (by kernel_rfl) (by kernel_rfl) (fun _ _ _ h => h) (wanted_free rfl _) (fun W hW => by go_simp) ?_
              try simp only [Act.put, List.getElem_toArray, List.getElem_cons_succ, List.getElem_cons_zero, List.setIfInBounds_toArray, List.set_cons_succ, List.set_cons_zero]
              refine wpAnyC_take 8 (.slice a5 m c5) rfl (by kernel_rfl) (by kernel_rfl) (by kernel_rfl) (fun _ _ _ h => h) (wanted_at false rfl rfl rfl rfl) (fun W hW => by go_simp) ?_
              try simp only [Act.put, List.getElem_toArray, List.getElem_cons_succ, List.getElem_cons_zero, List.setIfInBounds_toArray, List.set_cons_succ, List.set_cons_zero]
              refine wpAnyC_take 9 (.string (strOfNums (P k))) rfl (by kernel_rfl) (by kernel_rfl) (by kernel_rfl) (fun _ _ _ h => h) (wanted_at false rfl rfl rfl rfl) (fun W hW => by have h := conv_rd W _ (P k) hW.2.2; go_simp) ?_
              try simp only [Act.put, List.getElem_toArray, List.getElem_cons_succ, List.getElem_cons_zero, List.setIfInBounds_toArray, List.set_cons_succ, List.set_cons_zero]
              refine wpAnyC_take 10 (.slice (some ⟨b0, off0, none⟩) n0 c0) rfl (by kernel_rfl) (by kernel_rfl) (by kernel_rfl) (fun _ _ _ h => h) (wanted_at false rfl rfl rfl rfl) (fun W hW => by go_simp) ?_
              try simp only [Act.put, List.getElem_toArray, List.getElem_cons_succ, List.getElem_cons_zero, List.setIfInBounds_toArray, List.set_cons_succ, List.set_cons_zero]
              refine wpAnyC_take 11 (.int .i64 k) rfl (by kernel_rfl) (by kernel_rfl) (by kernel_rfl) (fun _ _ _ h => h) (wanted_at false rfl rfl rfl rfl) (fun W hW => by go_simp) ?_
              try simp only [Act.put, List.getElem_toArray, List.getElem_cons_succ, List.getElem_cons_zero, List.setIfInBounds_toArray, List.set_cons_succ, List.set_cons_zero]
              refine wpAnyC_take 12 (.pointer (some ⟨b0, off0 + k, none⟩)) rfl (by kernel_rfl) (by kernel_rfl) (by kernel_rfl) (fun _ _ _ h => h) (wanted_at false rfl rfl rfl rfl) (fun W hW => by go_simp) ?_
              try simp only [Act.put, List.getElem_toArray, List.getElem_cons_succ, List.getElem_cons_zero, List.setIfInBounds_toArray, List.set_cons_succ, List.set_cons_zero]
              refine wpAnyC_take 13 (.slice A m C) rfl (by kernel_rfl) (by kernel_rfl) (by kernel_rfl) (fun _ _ _ h => h) (wanted_at false rfl rfl rfl rfl) (fun W hW => by have h := hW.1; go_simp) ?_
              try simp only [Act.put, List.getElem_toArray, List.getElem_cons_succ, List.getElem_cons_zero, List.setIfInBounds_toArray, List.set_cons_succ, List.set_cons_zero]
              refine wpAnyC_take 14 (.string (strOfNums (P k))) rfl (by kernel_rfl) (by kernel_rfl) (by kernel_rfl) (fun _ _ _ h => h) (wanted_at false rfl rfl rfl rfl) (fun W hW => by have h := conv_rd W _ (P k) hW.2.1; go_simp) ?_
              try simp only [Act.put, List.getElem_toArray, List.getElem_cons_succ, List.getElem_cons_zero, List.setIfInBounds_toArray, List.set_cons_succ, List.set_cons_zero]
              refine wpAnyC_take 15 (.bool false) rfl (by kernel_rfl) (by kernel_rfl) (by kernel_rfl) (fun _ _ _ h => h) (wanted_at false rfl rfl rfl rfl) (fun W hW => by go_simp) ?_
              try simp only [Act.put, List.getElem_toArray, List.getElem_cons_succ, List.getElem_cons_zero, List.setIfInBounds_toArray, List.set_cons_succ, List.set_cons_zero]
              refine wpAnyC_take 16 (.bool false) rfl (by kernel_rfl) (by kernel_rfl) (by kernel_rfl) (fun _ _ _ h => h) (wanted_free rfl _) (fun W hW => by go_simp) ?_
              try simp only [Act.put, List.getElem_toArray, List.getElem_cons_succ, List.getElem_cons_zero, List.setIfInBounds_toArray, List.set_cons_succ, List.set_cons_zero]
              refine wpAnyC_done (⟨hcW.out _ (hT5.out.drawn _).below, hr0.out.bel (hT5.out.drawn _).below, hr5.out.bel (below_drawn w5 _)⟩) (by kernel_rfl) ?_
              go_wp2_with fail
              go_roundw
              case rel => exact ⟨k + 1, S2, by omega, by omega, by go_num, rfl, rfl, ⟨hT5.out.drawn _⟩⟩
              case measure => simp [intOf]; omega
            | false =>
              rw [hqk] at hc1
              have hQW : ∀ W, Below w.heap.size w W → W.cell? ⟨b1, off1 + k, none⟩ = some (.bool false) := fun W h => (World.cell?_of_block (a := ⟨b1, off1 + k, none⟩) (h.block b1 hb1l)).trans hc1
              clear hqk hc1
              go_wp2_with (first
                | (have hm := m2; go_at_call 19; go_must (refine (HLd.out _ S' _ _ _ _ _ hwz.out hSz.out hOz.out hcz htz hSlo hbz.out).mono ?_; rintro e w5 ⟨a5, c5, rfl, hr5, hT5⟩; have hb5 := hT5.below; replace hr5 := Kpt.mk hr5; replace hT5 := Kpt.mk hT5; clear hm m2 HLd))
                | (have hm := m0; go_at_call 23; go_must (refine (HWt.out _ _ _ hwz.out hOz.out).mono ?_; rintro e w3x ⟨rfl, h3x⟩; have h3y := h3x.symm; subst h3y; clear hm m0 HWt; have m2 : Kpt True := ⟨trivial⟩))
                | (go_at_call 17; go_must (refine HSv.out.mono ?_; rintro e wz ⟨rfl, tagz, stz, hwz, hOz, hcz, htz, hSz, hbz⟩; have hSlo := T_lo; have hx1 := hQW wz hbz; replace hwz := Kpt.mk hwz; replace hOz := Kpt.mk hOz; replace hSz := Kpt.mk hSz; replace hbz := Kpt.mk hbz; clear HSv; have m0 : Kpt True := ⟨trivial⟩))
                | fail)
              refine wp_region_any (by kernel_rfl) ?_
              refine wpAny_of_C (C := fun W => W.cell? ⟨b0, off0 + k, none⟩ = some (.slice A m C) ∧ RdAt W (.slice A m C) (P k) ∧ RdAt W (.slice a5 m c5) (P k)) _ _ _ _ ?_
              refine wpAnyC_take 0 (.int .i64 0) rfl (by kernel_rfl) (by kernel_rfl) (by kernel_rfl) (fun _ _ _ h => h) (wanted_free rfl _) (fun W hW => by go_simp) ?_
              try simp only [Act.put, List.getElem_toArray, List.getElem_cons_succ, List.getElem_cons_zero, List.setIfInBounds_toArray, List.set_cons_succ, List.set_cons_zero]
              refine wpAnyC_take 1 (.bool false) rfl (by kernel_rfl) (by kernel_rfl) (by kernel_rfl) (fun _ _ _ h => h) (wanted_free rfl _) (fun W hW => by go_simp) ?_
              try simp only [Act.put, List.getElem_toArray, List.getElem_cons_succ, List.getElem_cons_zero, List.setIfInBounds_toArray, List.set_cons_succ, List.set_cons_zero]
              refine wpAnyC_take 2 (.bool false) rfl (by kernel_rfl) (by kernel_rfl) (by kernel_rfl) (fun _ _ _ h => h) (wanted_free rfl _) (fun W hW => by go_simp) ?_
              try simp only [Act.put, List.getElem_toArray, List.getElem_cons_succ, List.getElem_cons_zero, List.setIfInBounds_toArray, List.set_cons_succ, List.set_cons_zero]
              refine wpAnyC_take 3 (.int .u64 ((k : Int) + 1)) rfl (by kernel_rfl) (by kernel_rfl) (by kernel_rfl) (fun _ _ _ h => h) (wanted_at false rfl rfl rfl rfl) (fun W hW => by go_simp) ?_
              try simp only [Act.put, List.getElem_toArray, List.getElem_cons_succ, List.getElem_cons_zero, List.setIfInBounds_toArray, List.set_cons_succ, List.set_cons_zero]
              refine wpAnyC_take 4 (.int .u64 ((k : Int) + 1)) rfl (by kernel_rfl) (by kernel_rfl) (by kernel_rfl) (fun _ _ _ h => h) (wanted_at false rfl rfl rfl rfl) (fun W hW => by go_simp) ?_
              try simp only [Act.put, List.getElem_toArray, List.getElem_cons_succ, List.getElem_cons_zero, List.setIfInBounds_toArray, List.set_cons_succ, List.set_cons_zero]
              refine wpAnyC_take 5 (.bool false) rfl (by kernel_rfl) (by kernel_rfl) (by kernel_rfl) (fun _ _ _ h => h) (wanted_at false rfl rfl rfl rfl) (fun W hW => by go_simp) ?_
              try simp only [Act.put, List.getElem_toArray, List.getElem_cons_succ, List.getElem_cons_zero, List.setIfInBounds_toArray, List.set_cons_succ, List.set_cons_zero]
              refine wpAnyC_take 6 (.bool false) rfl (by kernel_rfl) (by kernel_rfl) (by kernel_rfl) (fun _ _ _ h => h) (wanted_free rfl _) (fun W hW => by go_simp) ?_
              try simp only [Act.put, List.getElem_toArray, List.getElem_cons_succ, List.getElem_cons_zero, List.setIfInBounds_toArray, List.set_cons_succ, List.set_cons_zero]
              refine wpAnyC_take 7 (.bool false) rfl (by kernel_rfl) (by kernel_rfl) (by kernel_rfl) (fun _ _ _ h => h) (wanted_free rfl _) (fun W hW => by go_simp) ?_
              try simp only [Act.put, List.getElem_toArray, List.getElem_cons_succ, List.getElem_cons_zero, List.setIfInBounds_toArray, List.set_cons_succ, List.set_cons_zero]
              refine wpAnyC_take 8 (.slice a5 m c5) rfl (by kernel_rfl) (by kernel_rfl) (by kernel_rfl) (fun _ _ _ h => h) (wanted_at false rfl rfl rfl rfl) (fun W hW => by go_simp) ?_
              try simp only [Act.put, List.getElem_toArray, List.getElem_cons_succ, List.getElem_cons_zero, List.setIfInBounds_toArray, List.set_cons_succ, List.set_cons_zero]
              refine wpAnyC_take 9 (.string (strOfNums (P k))) rfl (by kernel_rfl) (by kernel_rfl) (by kernel_rfl) (fun _ _ _ h => h) (wanted_at false rfl rfl rfl rfl) (fun W hW => by have h := conv_rd W _ (P k) hW.2.2; go_simp) ?_
              try simp only [Act.put, List.getElem_toArray, List.getElem_cons_succ, List.getElem_cons_zero, List.setIfInBounds_toArray, List.set_cons_succ, List.set_cons_zero]
              refine wpAnyC_take 10 (.slice (some ⟨b0, off0, none⟩) n0 c0) rfl (by kernel_rfl) (by kernel_rfl) (by kernel_rfl) (fun _ _ _ h => h) (wanted_at false rfl rfl rfl rfl) (fun W hW => by go_simp) ?_
              try simp only [Act.put, List.getElem_toArray, List.getElem_cons_succ, List.getElem_cons_zero, List.setIfInBounds_toArray, List.set_cons_succ, List.set_cons_zero]
              refine wpAnyC_take 11 (.int .i64 k) rfl (by kernel_rfl) (by kernel_rfl) (by kernel_rfl) (fun _ _ _ h => h) (wanted_at false rfl rfl rfl rfl) (fun W hW => by go_simp) ?_
              try simp only [Act.put, List.getElem_toArray, List.getElem_cons_succ, List.getElem_cons_zero, List.setIfInBounds_toArray, List.set_cons_succ, List.set_cons_zero]
              refine wpAnyC_take 12 (.pointer (some ⟨b0, off0 + k, none⟩)) rfl (by kernel_rfl) (by kernel_rfl) (by kernel_rfl) (fun _ _ _ h => h) (wanted_at false rfl rfl rfl rfl) (fun W hW => by go_simp) ?_
              try simp only [Act.put, List.getElem_toArray, List.getElem_cons_succ, List.getElem_cons_zero, List.setIfInBounds_toArray, List.set_cons_succ, List.set_cons_zero]
              refine wpAnyC_take 13 (.slice A m C) rfl (by kernel_rfl) (by kernel_rfl) (by kernel_rfl) (fun _ _ _ h => h) (wanted_at false rfl rfl rfl rfl) (fun W hW => by have h := hW.1; go_simp) ?_
              try simp only [Act.put, List.getElem_toArray, List.getElem_cons_succ, List.getElem_cons_zero, List.setIfInBounds_toArray, List.set_cons_succ, List.set_cons_zero]
              refine wpAnyC_take 14 (.string (strOfNums (P k))) rfl (by kernel_rfl) (by kernel_rfl) (by kernel_rfl) (fun _ _ _ h => h) (wanted_at false rfl rfl rfl rfl) (fun W hW => by have h := conv_rd W _ (P k) hW.2.1; go_simp) ?_
              try simp only [Act.put, List.getElem_toArray, List.getElem_cons_succ, List.getElem_cons_zero, List.setIfInBounds_toArray, List.set_cons_succ, List.set_cons_zero]
              refine wpAnyC_take 15 (.bool false) rfl (by kernel_rfl) (by kernel_rfl) (by kernel_rfl) (fun _ _ _ h => h) (wanted_at false rfl rfl rfl rfl) (fun W hW => by go_simp) ?_
              try simp only [Act.put, List.getElem_toArray, List.getElem_cons_succ, List.getElem_cons_zero, List.setIfInBounds_toArray, List.set_cons_succ, List.set_cons_zero]
              refine wpAnyC_take 16 (.bool false) rfl (by kernel_rfl) (by kernel_rfl) (by kernel_rfl) (fun _ _ _ h => h) (wanted_free rfl _) (fun W hW => by go_simp) ?_
              try simp only [Act.put, List.getElem_toArray, List.getElem_cons_succ, List.getElem_cons_zero, List.setIfInBounds_toArray, List.set_cons_succ, List.set_cons_zero]
              refine wpAnyC_done (⟨hcW.out _ (hT5.out.drawn _).below, hr0.out.bel (hT5.out.drawn _).below, hr5.out.bel (below_drawn w5 _)⟩) (by kernel_rfl) ?_
              go_wp2_with fail
              go_roundw
              case rel => exact ⟨k + 1, S', by omega, by omega, by go_num, rfl, rfl, ⟨hT5.out.drawn _⟩⟩
              case measure => simp [intOf]; omega
          · have j1 : ¬ (k : Int) < n1 := by omega
            have hQW : ∀ W : World, Below w.heap.size w W → True := fun _ _ => trivial
            go_wp2_with (first
              | (have hm := m2; go_at_call 19; go_must (refine (HLd.out _ S' _ _ _ _ _ hwz.out hSz.out hOz.out hcz htz hSlo hbz.out).mono ?_; rintro e w5 ⟨a5, c5, rfl, hr5, hT5⟩; have hb5 := hT5.below; replace hr5 := Kpt.mk hr5; replace hT5 := Kpt.mk hT5; clear hm m2 HLd))
              | (have hm := m0; go_at_call 23; go_must (refine (HWt.out _ _ _ hwz.out hOz.out).mono ?_; rintro e w3x ⟨rfl, h3x⟩; have h3y := h3x.symm; subst h3y; clear hm m0 HWt; have m2 : Kpt True := ⟨trivial⟩))
              | (go_at_call 17; go_must (refine HSv.out.mono ?_; rintro e wz ⟨rfl, tagz, stz, hwz, hOz, hcz, htz, hSz, hbz⟩; have hSlo := T_lo; have hx1 := hQW wz hbz; replace hwz := Kpt.mk hwz; replace hOz := Kpt.mk hOz; replace hSz := Kpt.mk hSz; replace hbz := Kpt.mk hbz; clear HSv; have m0 : Kpt True := ⟨trivial⟩))
              | fail)
            refine wp_region_any (by kernel_rfl) ?_
            refine wpAny_of_C (C := fun W => W.cell? ⟨b0, off0 + k, none⟩ = some (.slice A m C) ∧ RdAt W (.slice A m C) (P k) ∧ RdAt W (.slice a5 m c5) (P k)) _ _ _ _ ?_
            refine wpAnyC_take 0 (.int .i64 0) rfl (by kernel_rfl) (by kernel_rfl) (by kernel_rfl) (fun _ _ _ h => h) (wanted_free rfl _) (fun W hW => by go_simp) ?_
            try simp only [Act.put, List.getElem_toArray, List.getElem_cons_succ, List.getElem_cons_zero, List.setIfInBounds_toArray, List.set_cons_succ, List.set_cons_zero]
            refine wpAnyC_take 1 (.bool false) rfl (by kernel_rfl) (by kernel_rfl) (by kernel_rfl) (fun _ _ _ h => h) (wanted_free rfl _) (fun W hW => by go_simp) ?_
            try simp only [Act.put, List.getElem_toArray, List.getElem_cons_succ, List.getElem_cons_zero, List.setIfInBounds_toArray, List.set_cons_succ, List.set_cons_zero]
            refine wpAnyC_take 2 (.bool false) rfl (by kernel_rfl) (by kernel_rfl) (by kernel_rfl) (fun _ _ _ h => h) (wanted_free rfl _) (fun W hW => by go_simp) ?_
            try simp only [Act.put, List.getElem_toArray, List.getElem_cons_succ, List.getElem_cons_zero, List.setIfInBounds_toArray, List.set_cons_succ, List.set_cons_zero]
            refine wpAnyC_take 3 (.int .u64 ((k : Int) + 1)) rfl (by kernel_rfl) (by kernel_rfl) (by kernel_rfl) (fun _ _ _ h => h) (wanted_at false rfl rfl rfl rfl) (fun W hW => by go_simp) ?_
            try simp only [Act.put, List.getElem_toArray, List.getElem_cons_succ, List.getElem_cons_zero, List.setIfInBounds_toArray, List.set_cons_succ, List.set_cons_zero]
            refine wpAnyC_take 4 (.int .u64 ((k : Int) + 1)) rfl (by kernel_rfl) (by kernel_rfl) (by kernel_rfl) (fun _ _ _ h => h) (wanted_at false rfl rfl rfl rfl) (fun W hW => by go_simp) ?_
            try simp only [Act.put, List.getElem_toArray, List.getElem_cons_succ, List.getElem_cons_zero, List.setIfInBounds_toArray, List.set_cons_succ, List.set_cons_zero]
            refine wpAnyC_take 5 (.bool false) rfl (by kernel_rfl) (by kernel_rfl) (by kernel_rfl) (fun _ _ _ h => h) (wanted_at false rfl rfl rfl rfl) (fun W hW => by go_simp) ?_
            try simp only [Act.put, List.getElem_toArray, List.getElem_cons_succ, List.getElem_cons_zero, List.setIfInBounds_toArray, List.set_cons_succ, List.set_cons_zero]
            refine wpAnyC_take 6 (.bool false) rfl (by kernel_rfl) (by kernel_rfl) (by kernel_rfl) (fun _ _ _ h => h) (wanted_free rfl _) (fun W hW => by go_simp) ?_
            try simp only [Act.put, List.getElem_toArray, List.getElem_cons_succ, List.getElem_cons_zero, List.setIfInBounds_toArray, List.set_cons_succ, List.set_cons_zero]
            refine wpAnyC_take 7 (.bool false) rfl (by kernel_rfl) (by kernel_rfl) (by kernel_rfl) (fun _ _ _ h => h) (wanted_free rfl _) (fun W hW => by go_simp) ?_
            try simp only [Act.put, List.getElem_toArray, List.getElem_cons_succ, List.getElem_cons_zero, List.setIfInBounds_toArray, List.set_cons_succ, List.set_cons_zero]
            refine wpAnyC_take 8 (.slice a5 m c5) rfl (by kernel_rfl) (by kernel_rfl) (by kernel_rfl) (fun _ _ _ h => h) (wanted_at false rfl rfl rfl rfl) (fun W hW => by go_simp) ?_
            try simp only [Act.put, List.getElem_toArray, List.getElem_cons_succ, List.getElem_cons_zero, List.setIfInBounds_toArray, List.set_cons_succ, List.set_cons_zero]
            refine wpAnyC_take 9 (.string (strOfNums (P k))) rfl (by kernel_rfl) (by kernel_rfl) (by kernel_rfl) (fun _ _ _ h => h) (wanted_at false rfl rfl rfl rfl) (fun W hW => by have h := conv_rd W _ (P k) hW.2.2; go_simp) ?_
            try simp only [Act.put, List.getElem_toArray, List.getElem_cons_succ, List.getElem_cons_zero, List.setIfInBounds_toArray, List.set_cons_succ, List.set_cons_zero]
            refine wpAnyC_take 10 (.slice (some ⟨b0, off0, none⟩) n0 c0) rfl (by kernel_rfl) (by kernel_rfl) (by kernel_rfl) (fun _ _ _ h => h) (wanted_at false rfl rfl rfl rfl) (fun W hW => by go_simp) ?_
            try simp only [Act.put, List.getElem_toArray, List.getElem_cons_succ, List.getElem_cons_zero, List.setIfInBounds_toArray, List.set_cons_succ, List.set_cons_zero]
            refine wpAnyC_take 11 (.int .i64 k) rfl (by kernel_rfl) (by kernel_rfl) (by kernel_rfl) (fun _ _ _ h => h) (wanted_at false rfl rfl rfl rfl) (fun W hW => by go_simp) ?_
            try simp only [Act.put, List.getElem_toArray, List.getElem_cons_succ, List.getElem_cons_zero, List.setIfInBounds_toArray, List.set_cons_succ, List.set_cons_zero]
            refine wpAnyC_take 12 (.pointer (some ⟨b0, off0 + k, none⟩)) rfl (by kernel_rfl) (by kernel_rfl) (by kernel_rfl) (fun _ _ _ h => h) (wanted_at false rfl rfl rfl rfl) (fun W hW => by go_simp) ?_
            try simp only [Act.put, List.getElem_toArray, List.getElem_cons_succ, List.getElem_cons_zero, List.setIfInBounds_toArray, List.set_cons_succ, List.set_cons_zero]
            refine wpAnyC_take 13 (.slice A m C) rfl (by kernel_rfl) (by kernel_rfl) (by kernel_rfl) (fun _ _ _ h => h) (wanted_at false rfl rfl rfl rfl) (fun W hW => by have h := hW.1; go_simp) ?_
            try simp only [Act.put, List.getElem_toArray, List.getElem_cons_succ, List.getElem_cons_zero, List.setIfInBounds_toArray, List.set_cons_succ, List.set_cons_zero]
            refine wpAnyC_take 14 (.string (strOfNums (P k))) rfl (by kernel_rfl) (by kernel_rfl) (by kernel_rfl) (fun _ _ _ h => h) (wanted_at false rfl rfl rfl rfl) (fun W hW => by have h := conv_rd W _ (P k) hW.2.1; go_simp) ?_
            try simp only [Act.put, List.getElem_toArray, List.getElem_cons_succ, List.getElem_cons_zero, List.setIfInBounds_toArray, List.set_cons_succ, List.set_cons_zero]
            refine wpAnyC_take 15 (.bool false) rfl (by kernel_rfl) (by kernel_rfl) (by kernel_rfl) (fun _ _ _ h => h) (wanted_at false rfl rfl rfl rfl) (fun W hW => by go_simp) ?_
            try simp only [Act.put, List.getElem_toArray, List.getElem_cons_succ, List.getElem_cons_zero, List.setIfInBounds_toArray, List.set_cons_succ, List.set_cons_zero]
            refine wpAnyC_take 16 (.bool false) rfl (by kernel_rfl) (by kernel_rfl) (by kernel_rfl) (fun _ _ _ h => h) (wanted_free rfl _) (fun W hW => by go_simp) ?_
            try simp only [Act.put, List.getElem_toArray, List.getElem_cons_succ, List.getElem_cons_zero, List.setIfInBounds_toArray, List.set_cons_succ, List.set_cons_zero]
            refine wpAnyC_done (⟨hcW.out _ (hT5.out.drawn _).below, hr0.out.bel (hT5.out.drawn _).below, hr5.out.bel (below_drawn w5 _)⟩) (by kernel_rfl) ?_
            go_wp2_with fail
            go_roundw
            case rel => exact ⟨k + 1, S', by omega, by omega, by go_num, rfl, rfl, ⟨hT5.out.drawn _⟩⟩
            case measure => simp [intOf]; omega
      · have i0 : (k : Int) < n0 := by omega
        have i12 : ¬ (k : Int) < 12 := by omega
        go_wp2_with fail
        go_ret
        exact ⟨rfl, T.out.below⟩
    · have i0 : ¬ (k : Int) < n0 := by omega
      go_wp2_with fail
      go_ret
      exact ⟨rfl, T.out.below⟩
end Go.Proofs.Ytndlpmnidpandaa
