/-
  PrPlays: the walk.
-/
import Derived.Test.YtikndkmpedoooaaPLook
import Derived.Test.YtikndkmpedoooaaPX13
import Derived.Test.YtikndkmpedoooaaPPlay
namespace Go.Proofs.Ytikndkmpedoooaa.prPlays
open Go.Proofs.Ytikndkmpedoooaa
open Go.RowKit
set_option linter.unusedVariables false
set_option linter.unusedSimpArgs false

theorem others_code {n c : Int} {l : List (Int × Int)} {r : Int × Int} (h : r ∈ othersL n c l) : r.2 = c := by
  unfold othersL at h
  rw [List.mem_map] at h
  obtain ⟨a, _, rfl⟩ := h
  rfl
theorem rm_code {n c : Int} {l : List (Int × Int)} {r : Int × Int} (h : r ∈ rmL n c l) : r.2 = 10757 := by
  unfold rmL at h
  rw [List.mem_map] at h
  obtain ⟨a, _, rfl⟩ := h
  rfl
theorem end_code {t : Tb} {n : Int} {r : Int × Int} (h : r ∈ t.endE n) : r.2 = 10756 := by
  unfold Tb.endE at h
  split at h
  · cases h
  · exact others_code h
theorem code_bd (t : Tb) (n : Int) (o : Ou) (r : Int × Int) (h : r ∈ t.doE n o) : 0 ≤ r.2 ∧ r.2 ≤ 65535 := by
  have key : r.2 = 10755 ∨ r.2 = 10756 ∨ r.2 = 10757 := by
    unfold Tb.doE at h
    split at h
    · cases h
    · split at h
      · cases h
      · split at h
        · cases h
        · split at h
          · unfold Tb.releaseE at h
            split at h
            · exact .inr (.inl (end_code h))
            · cases h
          · split at h
            · exact .inl (others_code h)
            · split at h
              · unfold Tb.preemptE at h
                split at h
                · cases h
                · rw [List.mem_append] at h
                  rcases h with h | h
                  · exact .inr (.inr (rm_code h))
                  · split at h
                    · exact .inr (.inl (others_code h))
                    · cases h
              · unfold Tb.registerE at h
                split at h
                · exact .inr (.inl (end_code h))
                · cases h
  omega
theorem res_bd (t : Tb) (n : Int) (o : Ou) : (0 ≤ (t.doR n o).1 ∧ (t.doR n o).1 ≤ 255) ∧ (0 ≤ (t.doR n o).2 ∧ (t.doR n o).2 ≤ 65535) := by
  rcases prKeeps.done_or t n o with h | ⟨h | h | h, _⟩ <;> rw [h] <;> decide
theorem save_pos (t : Tb) : 0 < t.save.length := by rw [save_len]; omega

structure Pt (w0 w : World) (B C : Nat) (t : Tb) (x : Int) : Prop where
  tab : Tab w B t
  rt : RTab w C t x
  b1 : w0.heap.size ≤ B
  c1 : w0.heap.size ≤ C
  ne : B ≠ C
  bel : Below w0.heap.size w0 w
  good : t.good
theorem Pt.below {w0 w w' : World} {B C : Nat} {t : Tb} {x : Int} (h : Pt w0 w B C t x) (hb : Below w.heap.size w w') : Pt w0 w' B C t x :=
  ⟨h.tab.below' hb, h.rt.below' hb, h.b1, h.c1, h.ne, h.bel.trans (hb.mono h.bel.size), h.good⟩
theorem below_drew (w : World) : Below w.heap.size w w.drew := ⟨rfl, rfl, rfl, Nat.le_refl _, fun _ _ => rfl⟩
theorem grown_undrew {a b : World} {r : Option Nat} (h : World.grownBy a.drew b r) : a.grownBy b r := ⟨h.os, h.tape, h.output, h.size, h.block⟩

set_option maxRecDepth 100000 in
set_option maxHeartbeats 16000000 in
theorem plays_walk (a : Option Addr) (m c : Nat) (w : World) (hA : Acts w a m) :
    Calls Try.prog 3 #[.slice a m c] w fun e w' => e = .returned (.bool true) ∧ Below w.heap.size w w' := by
  have hml : m ≤ maxLen := hA.1
  have hmi : (m : Int) ≤ 9223372036854775807 := by unfold maxLen at hml; omega
  replace hA := Kpt.mk hA.2
  go_enter Try.func3, Try.ntmps3
  go_wp2_with fail
  refine (awake_any _).mono ?_
  rintro e w1 ⟨rfl, hb1⟩
  replace hb1 := Kpt.mk hb1
  go_wp2_with fail
  refine (new_from hb1.out).mono ?_
  rintro e w2 ⟨B0, rfl, hS2, _, _⟩
  have hP0 : Kpt (Pt w (rnewW w2) B0 w2.heap.size zeroT 0) := ⟨⟨hS2.tab.alloc _, rtab_new w2, hS2.new, hS2.bel.size, (by have := hS2.tab.lt; omega), hS2.bel.alloc hS2.bel.size _, zero_good⟩⟩
  obtain ⟨w3, hw3⟩ : ∃ w3, w3 = rnewW w2 := ⟨_, rfl⟩
  rw [← hw3] at hP0
  have hw3' : w2.alloc (.cells #[.int .u64 0, .int .u64 0, .int .u64 0, .int .u64 0, .int .u64 0, .int .u64 0, .int .u64 0, .int .u64 0, .int .i64 0, .int .i64 0, .int .u32 0, .bool false] 31) = w3 := by rw [hw3]
  replace hw3' := Kpt.mk hw3'
  clear hS2 hb1 hw3
  go_wp2_with fail
  rw [hw3'.out]
  obtain ⟨C0, hC0⟩ : ∃ C, C = w2.heap.size := ⟨_, rfl⟩
  rw [← hC0] at hP0 ⊢
  clear hC0 hw3'
  go_loopw [3, 4, 5] (fun p r i wr => ∃ (k B C : Nat) (t : Tb) (x : Int), k ≤ m ∧ k ≤ 200 ∧ p = .pointer (some ⟨B, 0, none⟩) ∧ r = .pointer (some ⟨C, 0, none⟩) ∧ i = .int .i64 k ∧ Kpt (Pt w wr B C t x)) (fun _ _ i _ => 200 - (intOf i).toNat)
  case atStart => exact ⟨0, B0, C0, _, _, by omega, by omega, rfl, rfl, rfl, hP0⟩
  case round =>
    obtain ⟨k, B, C, t, x, hkm, hk200, rfl, rfl, rfl, hPt⟩ := hrel
    clear hP0
    by_cases hcd : k < m ∧ k < 200
    · obtain ⟨hc1', hc2'⟩ := hcd
      have e1 : (k : Int) < m := by omega
      have e2 : (k : Int) < 200 := by omega
      obtain ⟨b, off, rfl, hbl, N, o, A, hr, ho, hN⟩ := hA.out wr hPt.out.bel k hc1'
      obtain ⟨r0, r1, r2, r3, r4, r5, r6⟩ := range7 hr
      have hblr : b < wr.heap.size := Nat.lt_of_lt_of_le hbl hPt.out.bel.size
      have hsv := ho.sv
      have hty := ho.ty
      replace ho := Kpt.mk ho
      obtain ⟨sv, ty, ky, ac, ap⟩ := o
      simp only at r1 r2 r3 r4 r5 hsv hty
      clear hr
      obtain ⟨w3, hw3⟩ : ∃ w3, w3 = wr.alloc (.cells #[.int .u8 sv, .int .u8 ty, .int .u64 ky, .int .u64 ac, .bool ap] 33) := ⟨_, rfl⟩
      have hb3 : Below wr.heap.size wr w3 := by rw [hw3]; exact (Below.refl _ _).alloc (Nat.le_refl _) _
      have hcl : Kpt ((fun W : World => (W.cell? ⟨b, off + k * 7, none⟩ = some (.int .i64 N) ∧ W.cell? ⟨wr.heap.size, 0, none⟩ = some (.int .u8 sv) ∧ W.cell? ⟨wr.heap.size, 1, none⟩ = some (.int .u8 ty) ∧ W.cell? ⟨wr.heap.size, 2, none⟩ = some (.int .u64 ky) ∧ W.cell? ⟨wr.heap.size, 3, none⟩ = some (.int .u64 ac) ∧ W.cell? ⟨wr.heap.size, 4, none⟩ = some (.bool ap))) w3) := ⟨by
        rw [hw3]
        refine ⟨?_, ?_, ?_, ?_, ?_, ?_⟩
        · rw [← hw3, hb3.cell (p := ⟨b, off + k * 7, none⟩) hblr]; exact r0
        all_goals simp⟩
      have hXW : wr.heap.size < w3.heap.size := by rw [hw3]; simp
      have hP3 := Kpt.mk (hPt.out.below hb3)
      have hXn : wr.heap.size ≠ B ∧ wr.heap.size ≠ C := by have := hPt.out.tab.lt; have := hPt.out.rt.lt; omega
      have hw3K := Kpt.mk hw3
      have hwl : w.heap.size ≤ wr.heap.size := hPt.out.bel.size
      clear hw3 hb3 hPt
      cases A
      · go_wp2_with fail
        rw [← hw3K.out]
        obtain ⟨X, hX⟩ : ∃ X, X = wr.heap.size := ⟨_, rfl⟩
        rw [← hX] at hcl hXW hXn hwl ⊢
        replace hX := Kpt.mk hX
        have hPt := hP3
        have v8 : IntKind.i64.wrap sv = sv := by rw [IntKind.wrap_i64]; omega
        have v9 : IntKind.i64.wrap ty = ty := by rw [IntKind.wrap_i64]; omega
        clear r0 r1 r2 r3 r4 r5 r6 hP3 hw3K
        have hdo : Kpt (∀ W, Tab W B t → Calls Try.prog 15 #[.pointer (some ⟨B, 0, none⟩), .int .i64 N, .agg #[.int .u8 sv, .int .u8 ty, .int .u64 ky, .int .u64 ac, .bool ap]] W fun e w' => ∃ v, e = .returned (.tuple #[.int .u8 (t.doR N ⟨sv, ty, ky, ac, ap⟩).1, .int .u16 (t.doR N ⟨sv, ty, ky, ac, ap⟩).2, v]) ∧ Own .u16 55 W.heap.size w' v (t.doE N ⟨sv, ty, ky, ac, ap⟩) ∧ Tab w' B (t.doT N ⟨sv, ty, ky, ac, ap⟩) ∧ W.grownBy w' (some B)) := ⟨fun W hW => do_any B t N ⟨sv, ty, ky, ac, ap⟩ W hW hPt.out.good.ok⟩
        have hrdo : Kpt (∀ W, RTab W C t x → Calls Try.prog 16 #[.pointer (some ⟨C, 0, none⟩), .int .i64 N, .agg #[.int .i64 sv, .int .i64 ty, .int .u64 ky, .int .u64 ac, .bool ap]] W fun e w' => ∃ v y, e = .returned (.tuple #[.int .i64 (t.doR N ⟨sv, ty, ky, ac, ap⟩).1, .int .i64 (t.doR N ⟨sv, ty, ky, ac, ap⟩).2, v]) ∧ Own .i64 57 W.heap.size w' v (t.doE N ⟨sv, ty, ky, ac, ap⟩) ∧ RTab w' C (t.doT N ⟨sv, ty, ky, ac, ap⟩) y ∧ W.grownBy w' (some C)) := ⟨fun W hW => rdo_any C t x N ⟨sv, ty, ky, ac, ap⟩ W hW hPt.out.good ho.out⟩
        have hgd : Kpt (t.doT N ⟨sv, ty, ky, ac, ap⟩).good := ⟨good_do hPt.out.good N ⟨sv, ty, ky, ac, ap⟩ ho.out.ac⟩
        have hrb := res_bd t N ⟨sv, ty, ky, ac, ap⟩
        have hcb := Kpt.mk (code_bd t N ⟨sv, ty, ky, ac, ap⟩)
        generalize t.doR N ⟨sv, ty, ky, ac, ap⟩ = R at *
        generalize t.doE N ⟨sv, ty, ky, ac, ap⟩ = E at *
        generalize t.doT N ⟨sv, ty, ky, ac, ap⟩ = T at *
        obtain ⟨R1, R2⟩ := R
        simp only at hrb hdo hrdo
        obtain ⟨⟨hR1, hR2⟩, hR3, hR4⟩ := hrb
        have v1 : IntKind.i64.wrap R1 = R1 := by rw [IntKind.wrap_i64]; omega
        have v2 : IntKind.i64.wrap R2 = R2 := by rw [IntKind.wrap_i64]; omega
        refine wp_region_any (by kernel_rfl) ?_
        refine wpAny_of_C (C := fun W => (W.cell? ⟨b, off + k * 7, none⟩ = some (.int .i64 N) ∧ W.cell? ⟨X, 0, none⟩ = some (.int .u8 sv) ∧ W.cell? ⟨X, 1, none⟩ = some (.int .u8 ty) ∧ W.cell? ⟨X, 2, none⟩ = some (.int .u64 ky) ∧ W.cell? ⟨X, 3, none⟩ = some (.int .u64 ac) ∧ W.cell? ⟨X, 4, none⟩ = some (.bool ap))) _ _ _ _ ?_
        refine wpAnyC_take 0 (.pointer (some ⟨B, 0, none⟩)) rfl (by kernel_rfl) (by kernel_rfl) (by kernel_rfl) (fun _ _ _ h => h) (wanted_free rfl _) (fun W hW => by go_simp) ?_
        simp only [Act.put, List.getElem_toArray, List.getElem_cons_succ, List.getElem_cons_zero, List.setIfInBounds_toArray, List.set_cons_succ, List.set_cons_zero]
        refine wpAnyC_take 1 (.slice (some ⟨b, off, none⟩) m c) rfl (by kernel_rfl) (by kernel_rfl) (by kernel_rfl) (fun _ _ _ h => h) (wanted_free rfl _) (fun W hW => by go_simp) ?_
        simp only [Act.put, List.getElem_toArray, List.getElem_cons_succ, List.getElem_cons_zero, List.setIfInBounds_toArray, List.set_cons_succ, List.set_cons_zero]
        refine wpAnyC_take 2 (.int .i64 k) rfl (by kernel_rfl) (by kernel_rfl) (by kernel_rfl) (fun _ _ _ h => h) (wanted_free rfl _) (fun W hW => by go_simp) ?_
        simp only [Act.put, List.getElem_toArray, List.getElem_cons_succ, List.getElem_cons_zero, List.setIfInBounds_toArray, List.set_cons_succ, List.set_cons_zero]
        refine wpAnyC_take 3 (.pointer (some ⟨b, off + k * 7, none⟩)) rfl (by kernel_rfl) (by kernel_rfl) (by kernel_rfl) (fun _ _ _ h => h) (wanted_free rfl _) (fun W hW => by go_simp) ?_
        simp only [Act.put, List.getElem_toArray, List.getElem_cons_succ, List.getElem_cons_zero, List.setIfInBounds_toArray, List.set_cons_succ, List.set_cons_zero]
        refine wpAnyC_take 4 (.pointer (some ⟨b, off + k * 7, none⟩)) rfl (by kernel_rfl) (by kernel_rfl) (by kernel_rfl) (fun _ _ _ h => h) (wanted_free rfl _) (fun W hW => by go_simp) ?_
        simp only [Act.put, List.getElem_toArray, List.getElem_cons_succ, List.getElem_cons_zero, List.setIfInBounds_toArray, List.set_cons_succ, List.set_cons_zero]
        refine wpAnyC_take 5 (.int .i64 N) rfl (by kernel_rfl) (by kernel_rfl) (by kernel_rfl) (fun _ _ _ h => h) (wanted_free rfl _) (fun W hW => by obtain ⟨y0, y1, y2, y3, y4, y5⟩ := hW; go_simp) ?_
        simp only [Act.put, List.getElem_toArray, List.getElem_cons_succ, List.getElem_cons_zero, List.setIfInBounds_toArray, List.set_cons_succ, List.set_cons_zero]
        refine wpAnyC_take 6 (.agg #[.int .u8 sv, .int .u8 ty, .int .u64 ky, .int .u64 ac, .bool ap]) rfl (by kernel_rfl) (by kernel_rfl) (by kernel_rfl) (fun _ _ _ h => h) (wanted_free rfl _) (fun W hW => by obtain ⟨y0, y1, y2, y3, y4, y5⟩ := hW; go_simp) ?_
        simp only [Act.put, List.getElem_toArray, List.getElem_cons_succ, List.getElem_cons_zero, List.setIfInBounds_toArray, List.set_cons_succ, List.set_cons_zero]
        refine wpAnyC_one 7 hcl.out rfl (by kernel_rfl) (wanted_free rfl _) (fun KA hKA => ?_)
        go_simp
        refine (hdo.out _ (hPt.out.tab.below' (below_drew _))).mono ?_
        rintro e wD ⟨vD, rfl, hOD, hTD, hgD⟩
        replace hgD := grown_undrew hgD
        refine hKA _ _ ?_
        clear hKA KA
        try simp only [Act.put, List.getElem_toArray, List.getElem_cons_succ, List.getElem_cons_zero, List.setIfInBounds_toArray, List.set_cons_succ, List.set_cons_zero]
        have hclD : (fun W : World => (W.cell? ⟨b, off + k * 7, none⟩ = some (.int .i64 N) ∧ W.cell? ⟨X, 0, none⟩ = some (.int .u8 sv) ∧ W.cell? ⟨X, 1, none⟩ = some (.int .u8 ty) ∧ W.cell? ⟨X, 2, none⟩ = some (.int .u64 ky) ∧ W.cell? ⟨X, 3, none⟩ = some (.int .u64 ac) ∧ W.cell? ⟨X, 4, none⟩ = some (.bool ap))) wD := ⟨(World.cell?_of_block (w := w3) (a := ⟨b, off + k * 7, none⟩) (hgD.block b (Nat.lt_of_lt_of_le hbl hPt.out.bel.size) (fun e => by have e' : b = B := Option.some.inj e; have := hPt.out.b1; omega))).trans hcl.out.1, (box_kept hgD hXW (by omega) 0).trans hcl.out.2.1, (box_kept hgD hXW (by omega) 1).trans hcl.out.2.2.1, (box_kept hgD hXW (by omega) 2).trans hcl.out.2.2.2.1, (box_kept hgD hXW (by omega) 3).trans hcl.out.2.2.2.2.1, (box_kept hgD hXW (by omega) 4).trans hcl.out.2.2.2.2.2⟩
        obtain ⟨aD, cD, hvD, hsD⟩ := hOD.shape
        subst hvD
        obtain ⟨l, hl⟩ : ∃ l, l = E.length := ⟨_, rfl⟩
        rw [← hl]
        refine wpAnyC_take 8 (.tuple #[.int .u8 R1, .int .u16 R2, .slice aD l cD]) rfl (by kernel_rfl) (by kernel_rfl) (by kernel_rfl) (fun _ _ _ h => h) (wanted_free rfl _) (fun W hW => by go_simp) ?_
        simp only [Act.put, List.getElem_toArray, List.getElem_cons_succ, List.getElem_cons_zero, List.setIfInBounds_toArray, List.set_cons_succ, List.set_cons_zero]
        refine wpAnyC_take 9 (.int .u8 R1) rfl (by kernel_rfl) (by kernel_rfl) (by kernel_rfl) (fun _ _ _ h => h) (wanted_free rfl _) (fun W hW => by go_simp) ?_
        simp only [Act.put, List.getElem_toArray, List.getElem_cons_succ, List.getElem_cons_zero, List.setIfInBounds_toArray, List.set_cons_succ, List.set_cons_zero]
        refine wpAnyC_take 10 (.int .u16 R2) rfl (by kernel_rfl) (by kernel_rfl) (by kernel_rfl) (fun _ _ _ h => h) (wanted_free rfl _) (fun W hW => by go_simp) ?_
        simp only [Act.put, List.getElem_toArray, List.getElem_cons_succ, List.getElem_cons_zero, List.setIfInBounds_toArray, List.set_cons_succ, List.set_cons_zero]
        refine wpAnyC_take 11 (.slice aD l cD) rfl (by kernel_rfl) (by kernel_rfl) (by kernel_rfl) (fun _ _ _ h => h) (wanted_free rfl _) (fun W hW => by go_simp) ?_
        simp only [Act.put, List.getElem_toArray, List.getElem_cons_succ, List.getElem_cons_zero, List.setIfInBounds_toArray, List.set_cons_succ, List.set_cons_zero]
        refine wpAnyC_take 12 (.int .u8 R1) rfl (by kernel_rfl) (by kernel_rfl) (by kernel_rfl) (fun _ _ _ h => h) (wanted_free rfl _) (fun W hW => by go_simp) ?_
        simp only [Act.put, List.getElem_toArray, List.getElem_cons_succ, List.getElem_cons_zero, List.setIfInBounds_toArray, List.set_cons_succ, List.set_cons_zero]
        refine wpAnyC_take 13 (.int .u16 R2) rfl (by kernel_rfl) (by kernel_rfl) (by kernel_rfl) (fun _ _ _ h => h) (wanted_free rfl _) (fun W hW => by go_simp) ?_
        simp only [Act.put, List.getElem_toArray, List.getElem_cons_succ, List.getElem_cons_zero, List.setIfInBounds_toArray, List.set_cons_succ, List.set_cons_zero]
        refine wpAnyC_take 14 (.slice aD l cD) rfl (by kernel_rfl) (by kernel_rfl) (by kernel_rfl) (fun _ _ _ h => h) (wanted_free rfl _) (fun W hW => by go_simp) ?_
        simp only [Act.put, List.getElem_toArray, List.getElem_cons_succ, List.getElem_cons_zero, List.setIfInBounds_toArray, List.set_cons_succ, List.set_cons_zero]
        refine wpAnyC_done hclD (by kernel_rfl) ?_
        have hRD := hPt.out.rt.grown hgD (fun e => hPt.out.ne (Option.some.inj e))
        have hBD : Below w.heap.size w wD := hPt.out.bel.grown hgD hPt.out.bel.size (fun q hq => by cases hq; exact hPt.out.b1)
        have hXD : X < wD.heap.size := Nat.lt_of_lt_of_le hXW hgD.size
        have hsDw : w3.heap.size ≤ wD.heap.size := hgD.size
        replace hcl := Kpt.mk hclD
        replace hsD := Kpt.mk hsD
        replace hTD := Kpt.mk hTD
        replace hRD := Kpt.mk hRD
        replace hBD := Kpt.mk hBD
        replace hl := Kpt.mk hl
        have hb1 := hPt.out.b1
        have hc1 := hPt.out.c1
        have hne := hPt.out.ne
        have hBW := hPt.out.tab.lt
        have hCW := hPt.out.rt.lt
        clear hOD hclD hgD hdo hPt
        go_wp2_with fail
        refine wp_region_any (by kernel_rfl) ?_
        refine wpAny_of_C (C := fun W => (W.cell? ⟨b, off + k * 7, none⟩ = some (.int .i64 N) ∧ W.cell? ⟨X, 0, none⟩ = some (.int .u8 sv) ∧ W.cell? ⟨X, 1, none⟩ = some (.int .u8 ty) ∧ W.cell? ⟨X, 2, none⟩ = some (.int .u64 ky) ∧ W.cell? ⟨X, 3, none⟩ = some (.int .u64 ac) ∧ W.cell? ⟨X, 4, none⟩ = some (.bool ap))) _ _ _ _ ?_
        refine wpAnyC_take 0 (.pointer (some ⟨C, 0, none⟩)) rfl (by kernel_rfl) (by kernel_rfl) (by kernel_rfl) (fun _ _ _ h => h) (wanted_free rfl _) (fun W hW => by go_simp) ?_
        simp only [Act.put, List.getElem_toArray, List.getElem_cons_succ, List.getElem_cons_zero, List.setIfInBounds_toArray, List.set_cons_succ, List.set_cons_zero]
        refine wpAnyC_take 1 (.slice (some ⟨b, off, none⟩) m c) rfl (by kernel_rfl) (by kernel_rfl) (by kernel_rfl) (fun _ _ _ h => h) (wanted_free rfl _) (fun W hW => by go_simp) ?_
        simp only [Act.put, List.getElem_toArray, List.getElem_cons_succ, List.getElem_cons_zero, List.setIfInBounds_toArray, List.set_cons_succ, List.set_cons_zero]
        refine wpAnyC_take 2 (.int .i64 k) rfl (by kernel_rfl) (by kernel_rfl) (by kernel_rfl) (fun _ _ _ h => h) (wanted_free rfl _) (fun W hW => by go_simp) ?_
        simp only [Act.put, List.getElem_toArray, List.getElem_cons_succ, List.getElem_cons_zero, List.setIfInBounds_toArray, List.set_cons_succ, List.set_cons_zero]
        refine wpAnyC_take 3 (.pointer (some ⟨b, off + k * 7, none⟩)) rfl (by kernel_rfl) (by kernel_rfl) (by kernel_rfl) (fun _ _ _ h => h) (wanted_free rfl _) (fun W hW => by go_simp) ?_
        simp only [Act.put, List.getElem_toArray, List.getElem_cons_succ, List.getElem_cons_zero, List.setIfInBounds_toArray, List.set_cons_succ, List.set_cons_zero]
        refine wpAnyC_take 4 (.pointer (some ⟨b, off + k * 7, none⟩)) rfl (by kernel_rfl) (by kernel_rfl) (by kernel_rfl) (fun _ _ _ h => h) (wanted_free rfl _) (fun W hW => by go_simp) ?_
        simp only [Act.put, List.getElem_toArray, List.getElem_cons_succ, List.getElem_cons_zero, List.setIfInBounds_toArray, List.set_cons_succ, List.set_cons_zero]
        refine wpAnyC_take 5 (.int .i64 N) rfl (by kernel_rfl) (by kernel_rfl) (by kernel_rfl) (fun _ _ _ h => h) (wanted_free rfl _) (fun W hW => by obtain ⟨y0, y1, y2, y3, y4, y5⟩ := hW; go_simp) ?_
        simp only [Act.put, List.getElem_toArray, List.getElem_cons_succ, List.getElem_cons_zero, List.setIfInBounds_toArray, List.set_cons_succ, List.set_cons_zero]
        refine wpAnyC_take 6 (.pointer (some ⟨X, 0, none⟩)) rfl (by kernel_rfl) (by kernel_rfl) (by kernel_rfl) (fun _ _ _ h => h) (wanted_free rfl _) (fun W hW => by go_simp) ?_
        simp only [Act.put, List.getElem_toArray, List.getElem_cons_succ, List.getElem_cons_zero, List.setIfInBounds_toArray, List.set_cons_succ, List.set_cons_zero]
        refine wpAnyC_take 7 (.int .u8 sv) rfl (by kernel_rfl) (by kernel_rfl) (by kernel_rfl) (fun _ _ _ h => h) (wanted_free rfl _) (fun W hW => by obtain ⟨y0, y1, y2, y3, y4, y5⟩ := hW; go_simp) ?_
        simp only [Act.put, List.getElem_toArray, List.getElem_cons_succ, List.getElem_cons_zero, List.setIfInBounds_toArray, List.set_cons_succ, List.set_cons_zero]
        refine wpAnyC_take 8 (.int .i64 sv) rfl (by kernel_rfl) (by kernel_rfl) (by kernel_rfl) (fun _ _ _ h => h) (wanted_free rfl _) (fun W hW => by go_simp) ?_
        simp only [Act.put, List.getElem_toArray, List.getElem_cons_succ, List.getElem_cons_zero, List.setIfInBounds_toArray, List.set_cons_succ, List.set_cons_zero]
        refine wpAnyC_take 9 (.pointer (some ⟨X, 1, none⟩)) rfl (by kernel_rfl) (by kernel_rfl) (by kernel_rfl) (fun _ _ _ h => h) (wanted_free rfl _) (fun W hW => by go_simp) ?_
        simp only [Act.put, List.getElem_toArray, List.getElem_cons_succ, List.getElem_cons_zero, List.setIfInBounds_toArray, List.set_cons_succ, List.set_cons_zero]
        refine wpAnyC_take 10 (.int .u8 ty) rfl (by kernel_rfl) (by kernel_rfl) (by kernel_rfl) (fun _ _ _ h => h) (wanted_free rfl _) (fun W hW => by obtain ⟨y0, y1, y2, y3, y4, y5⟩ := hW; go_simp) ?_
        simp only [Act.put, List.getElem_toArray, List.getElem_cons_succ, List.getElem_cons_zero, List.setIfInBounds_toArray, List.set_cons_succ, List.set_cons_zero]
        refine wpAnyC_take 11 (.int .i64 ty) rfl (by kernel_rfl) (by kernel_rfl) (by kernel_rfl) (fun _ _ _ h => h) (wanted_free rfl _) (fun W hW => by go_simp) ?_
        simp only [Act.put, List.getElem_toArray, List.getElem_cons_succ, List.getElem_cons_zero, List.setIfInBounds_toArray, List.set_cons_succ, List.set_cons_zero]
        refine wpAnyC_take 12 (.pointer (some ⟨X, 2, none⟩)) rfl (by kernel_rfl) (by kernel_rfl) (by kernel_rfl) (fun _ _ _ h => h) (wanted_free rfl _) (fun W hW => by go_simp) ?_
        simp only [Act.put, List.getElem_toArray, List.getElem_cons_succ, List.getElem_cons_zero, List.setIfInBounds_toArray, List.set_cons_succ, List.set_cons_zero]
        refine wpAnyC_take 13 (.int .u64 ky) rfl (by kernel_rfl) (by kernel_rfl) (by kernel_rfl) (fun _ _ _ h => h) (wanted_free rfl _) (fun W hW => by obtain ⟨y0, y1, y2, y3, y4, y5⟩ := hW; go_simp) ?_
        simp only [Act.put, List.getElem_toArray, List.getElem_cons_succ, List.getElem_cons_zero, List.setIfInBounds_toArray, List.set_cons_succ, List.set_cons_zero]
        refine wpAnyC_take 14 (.pointer (some ⟨X, 3, none⟩)) rfl (by kernel_rfl) (by kernel_rfl) (by kernel_rfl) (fun _ _ _ h => h) (wanted_free rfl _) (fun W hW => by go_simp) ?_
        simp only [Act.put, List.getElem_toArray, List.getElem_cons_succ, List.getElem_cons_zero, List.setIfInBounds_toArray, List.set_cons_succ, List.set_cons_zero]
        refine wpAnyC_take 15 (.int .u64 ac) rfl (by kernel_rfl) (by kernel_rfl) (by kernel_rfl) (fun _ _ _ h => h) (wanted_free rfl _) (fun W hW => by obtain ⟨y0, y1, y2, y3, y4, y5⟩ := hW; go_simp) ?_
        simp only [Act.put, List.getElem_toArray, List.getElem_cons_succ, List.getElem_cons_zero, List.setIfInBounds_toArray, List.set_cons_succ, List.set_cons_zero]
        refine wpAnyC_take 16 (.pointer (some ⟨X, 4, none⟩)) rfl (by kernel_rfl) (by kernel_rfl) (by kernel_rfl) (fun _ _ _ h => h) (wanted_free rfl _) (fun W hW => by go_simp) ?_
        simp only [Act.put, List.getElem_toArray, List.getElem_cons_succ, List.getElem_cons_zero, List.setIfInBounds_toArray, List.set_cons_succ, List.set_cons_zero]
        refine wpAnyC_take 17 (.bool ap) rfl (by kernel_rfl) (by kernel_rfl) (by kernel_rfl) (fun _ _ _ h => h) (wanted_free rfl _) (fun W hW => by obtain ⟨y0, y1, y2, y3, y4, y5⟩ := hW; go_simp) ?_
        simp only [Act.put, List.getElem_toArray, List.getElem_cons_succ, List.getElem_cons_zero, List.setIfInBounds_toArray, List.set_cons_succ, List.set_cons_zero]
        refine wpAnyC_take 18 (.agg #[.int .i64 sv, .int .i64 ty, .int .u64 ky, .int .u64 ac, .bool ap]) rfl (by kernel_rfl) (by kernel_rfl) (by kernel_rfl) (fun _ _ _ h => h) (wanted_free rfl _) (fun W hW => by go_simp) ?_
        simp only [Act.put, List.getElem_toArray, List.getElem_cons_succ, List.getElem_cons_zero, List.setIfInBounds_toArray, List.set_cons_succ, List.set_cons_zero]
        refine wpAnyC_one 19 hcl.out rfl (by kernel_rfl) (wanted_free rfl _) (fun KA hKA => ?_)
        go_simp
        refine (hrdo.out _ (hRD.out.below' (below_drew _))).mono ?_
        rintro e wE ⟨vE, y, rfl, hOE, hRE, hgE⟩
        replace hgE := grown_undrew hgE
        refine hKA _ _ ?_
        clear hKA KA
        try simp only [Act.put, List.getElem_toArray, List.getElem_cons_succ, List.getElem_cons_zero, List.setIfInBounds_toArray, List.set_cons_succ, List.set_cons_zero]
        have hclE : (fun W : World => (W.cell? ⟨b, off + k * 7, none⟩ = some (.int .i64 N) ∧ W.cell? ⟨X, 0, none⟩ = some (.int .u8 sv) ∧ W.cell? ⟨X, 1, none⟩ = some (.int .u8 ty) ∧ W.cell? ⟨X, 2, none⟩ = some (.int .u64 ky) ∧ W.cell? ⟨X, 3, none⟩ = some (.int .u64 ac) ∧ W.cell? ⟨X, 4, none⟩ = some (.bool ap))) wE := ⟨(World.cell?_of_block (w := wD) (a := ⟨b, off + k * 7, none⟩) (hgE.block b (Nat.lt_of_lt_of_le hbl hBD.out.size) (fun e => by have e' : b = C := Option.some.inj e; omega))).trans hcl.out.1, (box_kept hgE hXD (by omega) 0).trans hcl.out.2.1, (box_kept hgE hXD (by omega) 1).trans hcl.out.2.2.1, (box_kept hgE hXD (by omega) 2).trans hcl.out.2.2.2.1, (box_kept hgE hXD (by omega) 3).trans hcl.out.2.2.2.2.1, (box_kept hgE hXD (by omega) 4).trans hcl.out.2.2.2.2.2⟩
        obtain ⟨aE, cE, hvE, hsE⟩ := hOE.shape
        subst hvE
        rw [← hl.out]
        refine wpAnyC_take 20 (.tuple #[.int .i64 R1, .int .i64 R2, .slice aE l cE]) rfl (by kernel_rfl) (by kernel_rfl) (by kernel_rfl) (fun _ _ _ h => h) (wanted_free rfl _) (fun W hW => by go_simp) ?_
        simp only [Act.put, List.getElem_toArray, List.getElem_cons_succ, List.getElem_cons_zero, List.setIfInBounds_toArray, List.set_cons_succ, List.set_cons_zero]
        refine wpAnyC_take 21 (.int .i64 R1) rfl (by kernel_rfl) (by kernel_rfl) (by kernel_rfl) (fun _ _ _ h => h) (wanted_free rfl _) (fun W hW => by go_simp) ?_
        simp only [Act.put, List.getElem_toArray, List.getElem_cons_succ, List.getElem_cons_zero, List.setIfInBounds_toArray, List.set_cons_succ, List.set_cons_zero]
        refine wpAnyC_take 22 (.int .i64 R2) rfl (by kernel_rfl) (by kernel_rfl) (by kernel_rfl) (fun _ _ _ h => h) (wanted_free rfl _) (fun W hW => by go_simp) ?_
        simp only [Act.put, List.getElem_toArray, List.getElem_cons_succ, List.getElem_cons_zero, List.setIfInBounds_toArray, List.set_cons_succ, List.set_cons_zero]
        refine wpAnyC_take 23 (.slice aE l cE) rfl (by kernel_rfl) (by kernel_rfl) (by kernel_rfl) (fun _ _ _ h => h) (wanted_free rfl _) (fun W hW => by go_simp) ?_
        simp only [Act.put, List.getElem_toArray, List.getElem_cons_succ, List.getElem_cons_zero, List.setIfInBounds_toArray, List.set_cons_succ, List.set_cons_zero]
        refine wpAnyC_take 24 (.int .i64 R1) rfl (by kernel_rfl) (by kernel_rfl) (by kernel_rfl) (fun _ _ _ h => h) (wanted_free rfl _) (fun W hW => by go_simp) ?_
        simp only [Act.put, List.getElem_toArray, List.getElem_cons_succ, List.getElem_cons_zero, List.setIfInBounds_toArray, List.set_cons_succ, List.set_cons_zero]
        refine wpAnyC_take 25 (.int .i64 R2) rfl (by kernel_rfl) (by kernel_rfl) (by kernel_rfl) (fun _ _ _ h => h) (wanted_free rfl _) (fun W hW => by go_simp) ?_
        simp only [Act.put, List.getElem_toArray, List.getElem_cons_succ, List.getElem_cons_zero, List.setIfInBounds_toArray, List.set_cons_succ, List.set_cons_zero]
        refine wpAnyC_take 26 (.slice aE l cE) rfl (by kernel_rfl) (by kernel_rfl) (by kernel_rfl) (fun _ _ _ h => h) (wanted_free rfl _) (fun W hW => by go_simp) ?_
        simp only [Act.put, List.getElem_toArray, List.getElem_cons_succ, List.getElem_cons_zero, List.setIfInBounds_toArray, List.set_cons_succ, List.set_cons_zero]
        refine wpAnyC_done hclE (by kernel_rfl) ?_
        have hTE := hTD.out.grown hgE (fun e => by have e' : C = B := Option.some.inj e; omega)
        have hBE : Below w.heap.size w wE := hBD.out.grown hgE hBD.out.size (fun q hq => by cases hq; exact hc1)
        have hPE : Kpt (Pt w wE B C T y) := ⟨⟨hTE, hRE, hb1, hc1, hne, hBE, hgd.out⟩⟩
        have hU : Kpt ((aD = none ∧ cD = 0 ∧ l = 0) ∨ ∃ g, aD = some ⟨g, 0, none⟩ ∧ g < wE.heap.size ∧ l ≤ cD ∧ cD ≤ maxLen ∧ ∀ j r, E[j]? = some r → wE.rangeAt g (j * 2) (pv .u16 r).toList) := ⟨by
          rw [hl.out]
          rcases hsD.out with h | ⟨g, h1, hg0, h2, h3, h4, h5⟩
          · exact .inl h
          · have hgC : g ≠ C := by intro e; have : w3.drew.heap.size = w3.heap.size := rfl; omega
            exact .inr ⟨g, h1, Nat.lt_of_lt_of_le h2 hgE.size, h3, h4, fun j r hj => rangeAt_of_block (h5 j r hj) (hgE.block g h2 (fun e => hgC (Option.some.inj e)))⟩⟩
        have hV : Kpt ((aE = none ∧ cE = 0 ∧ l = 0) ∨ ∃ g, aE = some ⟨g, 0, none⟩ ∧ g < wE.heap.size ∧ l ≤ cE ∧ cE ≤ maxLen ∧ ∀ j r, E[j]? = some r → wE.rangeAt g (j * 2) (pv .i64 r).toList) := ⟨by
          rw [hl.out]
          rcases hsE with h | ⟨g, h1, hg0, h2, h3, h4, h5⟩
          · exact .inl h
          · exact .inr ⟨g, h1, h2, h3, h4, h5⟩⟩
        have HLk := Kpt.mk (looks_any B C T y wE hTE hRE hgd.out)
        clear hOE hclE hgE hrdo hsE hsD hTD hRD hBD hTE hBE hcl hRE
        go_wp2_with fail
        refine HLk.out.mono ?_
        rintro e wF ⟨rfl, hbF⟩
        have hPF := Kpt.mk (hPE.out.below hbF)
        have hUF : Kpt ((aD = none ∧ cD = 0 ∧ l = 0) ∨ ∃ g, aD = some ⟨g, 0, none⟩ ∧ g < wF.heap.size ∧ l ≤ cD ∧ cD ≤ maxLen ∧ ∀ j r, E[j]? = some r → wF.rangeAt g (j * 2) (pv .u16 r).toList) := ⟨by
          rcases hU.out with h | ⟨g, h1, h2, h3, h4, h5⟩
          · exact .inl h
          · exact .inr ⟨g, h1, Nat.lt_of_lt_of_le h2 hbF.size, h3, h4, fun j r hj => rangeAt_of_block (h5 j r hj) (hbF.block g h2)⟩⟩
        have hVF : Kpt ((aE = none ∧ cE = 0 ∧ l = 0) ∨ ∃ g, aE = some ⟨g, 0, none⟩ ∧ g < wF.heap.size ∧ l ≤ cE ∧ cE ≤ maxLen ∧ ∀ j r, E[j]? = some r → wF.rangeAt g (j * 2) (pv .i64 r).toList) := ⟨by
          rcases hV.out with h | ⟨g, h1, h2, h3, h4, h5⟩
          · exact .inl h
          · exact .inr ⟨g, h1, Nat.lt_of_lt_of_le h2 hbF.size, h3, h4, fun j r hj => rangeAt_of_block (h5 j r hj) (hbF.block g h2)⟩⟩
        clear hU hV hPE HLk hbF
        go_wp2_with fail
        go_loopw [17] (fun r wq => ∃ i : Nat, i ≤ l ∧ r = .int .i64 i ∧ Kpt (∃ q, wq = wF.drewN q)) (fun r _ => l - (intOf r).toNat)
        case atStart => exact ⟨0, by omega, rfl, ⟨0, rfl⟩⟩
        case round =>
          obtain ⟨i, hi, rfl, hq⟩ := hrel
          by_cases hlt : i < l
          · have e6 : (i : Int) < l := by omega
            have hiz : i < E.length := by rw [← hl.out]; exact hlt
            obtain ⟨r, hr⟩ : ∃ r, E[i]? = some r := ⟨_, List.getElem?_eq_getElem hiz⟩
            have hcd := hcb.out r (List.mem_of_getElem? hr)
            obtain ⟨q, hq'⟩ := hq.out
            rcases hUF.out with ⟨_, _, hz⟩ | ⟨g, rfl, hg, hc1, hc1', hr1⟩
            · omega
            rcases hVF.out with ⟨_, _, hz⟩ | ⟨g2, rfl, hg2, hc2, hc2', hr2⟩
            · omega
            have hl63 : (l : Int) ≤ 9223372036854775807 := by unfold maxLen at hc1'; omega
            obtain ⟨x1, x2⟩ := r
            obtain ⟨p0, p1⟩ := range2 (κ := .u16) (t := (x1, x2)) (fun j v hv => (by rw [hq']; exact hr1 i _ hr j v hv : wr.cell? ⟨g, i * 2 + j, none⟩ = some v))
            obtain ⟨z0, z1⟩ := range2 (κ := .i64) (t := (x1, x2)) (fun j v hv => (by rw [hq']; exact hr2 i _ hr j v hv : wr.cell? ⟨g2, i * 2 + j, none⟩ = some v))
            have hgl : g < wr.heap.size := by rw [hq']; exact hg
            have hgl2 : g2 < wr.heap.size := by rw [hq']; exact hg2
            simp only at p0 p1 z0 z1 hcd
            obtain ⟨hcd1, hcd2⟩ := hcd
            have v3 : IntKind.i64.wrap x2 = x2 := by rw [IntKind.wrap_i64]; omega
            clear hr1 hr2 hr hq' hUF hVF hg hg2
            go_wp2_with fail
            go_quiet (fail)
            go_wp2
            go_roundw
            case rel => exact ⟨i + 1, by omega, by go_num, ⟨by obtain ⟨q, hq⟩ := hq.out; exact ⟨_, by rw [hq, World.drewN_drewN]⟩⟩⟩
            case measure => simp [intOf]; omega
          · have e6 : ¬ (i : Int) < l := by omega
            obtain ⟨q, hq'⟩ := hq.out
            have hPG : Kpt (Pt w wr B C T y) := ⟨by rw [hq']; exact hPF.out.below (below_drewN (Below.refl _ _) q)⟩
            clear hUF hVF hq' hPF
            go_wp2
            go_roundw
            case rel => exact ⟨k + 1, B, C, T, y, by omega, by omega, rfl, rfl, by go_num, hPG⟩
            case measure => simp [intOf]; omega
      · go_wp2_with fail
        rw [← hw3K.out]
        obtain ⟨X, hX⟩ : ∃ X, X = wr.heap.size := ⟨_, rfl⟩
        rw [← hX] at hcl hXW hXn hwl ⊢
        replace hX := Kpt.mk hX
        clear r0 r1 r2 r3 r4 r5 r6 hw3K
        refine (save_any B t w3 hP3.out.tab hP3.out.good).mono ?_
        rintro e w4 ⟨a4, n4, c4, rfl, hn4, hR4, hb4, _, hcc4, hla4⟩
        have hP4 := Kpt.mk (hP3.out.below hb4)
        have hXW4 : X < w4.heap.size := Nat.lt_of_lt_of_le hXW hb4.size
        have hla4' : t.la = true → ∃ g, a4 = some ⟨g, 0, none⟩ ∧ g < w4.heap.size := fun h => by
          obtain ⟨g, h1, _⟩ := hla4 h
          refine ⟨g, h1, ?_⟩
          rcases hR4 with h0 | ⟨b', off', ha', hc'⟩
          · have : t.saved = t.save := by unfold Tb.saved; rw [if_pos h]
            rw [this] at hn4; have := save_pos t; omega
          · rw [h1] at ha'
            simp only [Option.some.injEq, Addr.mk.injEq] at ha'
            rw [ha'.1]
            have hpos : 0 < n4 := by
              have : t.saved = t.save := by unfold Tb.saved; rw [if_pos h]
              rw [this] at hn4; have := save_pos t; omega
            exact World.block_lt_of_cell? w4 ⟨b', off' + 0, none⟩ (hc' 0 hpos)
        have HL := Kpt.mk (load_saved t hP4.out.good a4 n4 c4 w4 hn4 hR4 hcc4 hla4')
        have hbS := Kpt.mk hb4
        clear hb4 hR4 hla4 hla4' hn4 hP3
        go_wp2_with fail
        refine HL.out.mono ?_
        rintro e w5 ⟨B', rfl, hB', hT5, hb5⟩
        have hP5 := Kpt.mk (hP4.out.below hb5)
        have hb35 : Kpt (Below w3.heap.size w3 w5) := ⟨hbS.out.trans (hb5.mono hbS.out.size)⟩
        have hB5l := hT5.lt
        replace hT5 := Kpt.mk hT5
        have hBw : w4.heap.size ≤ B' := hB'
        have hb5s := hb5.size
        clear HL hP4 hbS hb5 hB'
        go_wp2_with fail
        refine (rsave_any C t x w5 hP5.out.rt hP5.out.good).mono ?_
        rintro e w6 ⟨a6, n6, c6, rfl, hn6, hR6, hb6, _, hcc6, hla6⟩
        have hT6 := Kpt.mk (hT5.out.below' hb6)
        have hP6 := Kpt.mk (hP5.out.below hb6)
        have hla6' : t.la = true → ∃ g, a6 = some ⟨g, 0, none⟩ ∧ g < w6.heap.size := fun h => by
          obtain ⟨g, h1, _⟩ := hla6 h
          refine ⟨g, h1, ?_⟩
          rcases hR6 with h0 | ⟨b', off', ha', hc'⟩
          · have : t.saved = t.save := by unfold Tb.saved; rw [if_pos h]
            rw [this] at hn6; have := save_pos t; omega
          · rw [h1] at ha'
            simp only [Option.some.injEq, Addr.mk.injEq] at ha'
            rw [ha'.1]
            have hpos : 0 < n6 := by
              have : t.saved = t.save := by unfold Tb.saved; rw [if_pos h]
              rw [this] at hn6; have := save_pos t; omega
            exact World.block_lt_of_cell? w6 ⟨b', off' + 0, none⟩ (hc' 0 hpos)
        have HL := Kpt.mk (rload_saved t hP6.out.good a6 n6 c6 w6 hn6 hR6 hcc6 hla6')
        have hbS := Kpt.mk hb6
        have hb6s := hb6.size
        clear hb6 hR6 hla6 hla6' hn6 hP5 hT5
        go_wp2_with fail
        refine HL.out.mono ?_
        rintro e w7 ⟨C', x', rfl, hC', hT7, hb7⟩
        have hB7 := hT6.out.below' hb7
        have hb37 : Below w3.heap.size w3 w7 := (hb35.out.trans (hbS.out.mono hb35.out.size)).trans (hb7.mono (by have := hb35.out.size; omega))
        have hBl := hP6.out.bel
        have hPt : Kpt (Pt w w7 B' C' t.anew x') := ⟨⟨hB7, hT7, by have := hBl.size; have := hXW4; omega, by have := hBl.size; omega, by omega, hBl.trans (hb7.mono hBl.size), anew_good t hP6.out.good⟩⟩
        have hcl7 : Kpt ((fun W : World => (W.cell? ⟨b, off + k * 7, none⟩ = some (.int .i64 N) ∧ W.cell? ⟨X, 0, none⟩ = some (.int .u8 sv) ∧ W.cell? ⟨X, 1, none⟩ = some (.int .u8 ty) ∧ W.cell? ⟨X, 2, none⟩ = some (.int .u64 ky) ∧ W.cell? ⟨X, 3, none⟩ = some (.int .u64 ac) ∧ W.cell? ⟨X, 4, none⟩ = some (.bool ap))) w7) := ⟨⟨(hb37.cell (p := ⟨b, off + k * 7, none⟩) (by show b < w3.heap.size; omega)).trans hcl.out.1, (hb37.cell (p := ⟨X, 0, none⟩) hXW).trans hcl.out.2.1, (hb37.cell (p := ⟨X, 1, none⟩) hXW).trans hcl.out.2.2.1, (hb37.cell (p := ⟨X, 2, none⟩) hXW).trans hcl.out.2.2.2.1, (hb37.cell (p := ⟨X, 3, none⟩) hXW).trans hcl.out.2.2.2.2.1, (hb37.cell (p := ⟨X, 4, none⟩) hXW).trans hcl.out.2.2.2.2.2⟩⟩
        have hXW7 : X < w7.heap.size := Nat.lt_of_lt_of_le hXW hb37.size
        have hXn' : X ≠ B' ∧ X ≠ C' := by omega
        clear HL hP6 hT6 hbS hb35 hb7 hB7 hT7 hcl hXW hXn hb37 hBl
        obtain ⟨t', ht'⟩ : ∃ t', t' = t.anew := ⟨_, rfl⟩
        rw [← ht'] at hPt
        clear ht'
        have hcl := hcl7
        have hXW := hXW7
        have hXn := hXn'
        clear hcl7 hXW7 hXn'
        go_wp2_with fail
        have v8 : IntKind.i64.wrap sv = sv := by rw [IntKind.wrap_i64]; omega
        have v9 : IntKind.i64.wrap ty = ty := by rw [IntKind.wrap_i64]; omega
        have hdo : Kpt (∀ W, Tab W B' t' → Calls Try.prog 15 #[.pointer (some ⟨B', 0, none⟩), .int .i64 N, .agg #[.int .u8 sv, .int .u8 ty, .int .u64 ky, .int .u64 ac, .bool ap]] W fun e w' => ∃ v, e = .returned (.tuple #[.int .u8 (t'.doR N ⟨sv, ty, ky, ac, ap⟩).1, .int .u16 (t'.doR N ⟨sv, ty, ky, ac, ap⟩).2, v]) ∧ Own .u16 55 W.heap.size w' v (t'.doE N ⟨sv, ty, ky, ac, ap⟩) ∧ Tab w' B' (t'.doT N ⟨sv, ty, ky, ac, ap⟩) ∧ W.grownBy w' (some B')) := ⟨fun W hW => do_any B' t' N ⟨sv, ty, ky, ac, ap⟩ W hW hPt.out.good.ok⟩
        have hrdo : Kpt (∀ W, RTab W C' t' x' → Calls Try.prog 16 #[.pointer (some ⟨C', 0, none⟩), .int .i64 N, .agg #[.int .i64 sv, .int .i64 ty, .int .u64 ky, .int .u64 ac, .bool ap]] W fun e w' => ∃ v y, e = .returned (.tuple #[.int .i64 (t'.doR N ⟨sv, ty, ky, ac, ap⟩).1, .int .i64 (t'.doR N ⟨sv, ty, ky, ac, ap⟩).2, v]) ∧ Own .i64 57 W.heap.size w' v (t'.doE N ⟨sv, ty, ky, ac, ap⟩) ∧ RTab w' C' (t'.doT N ⟨sv, ty, ky, ac, ap⟩) y ∧ W.grownBy w' (some C')) := ⟨fun W hW => rdo_any C' t' x' N ⟨sv, ty, ky, ac, ap⟩ W hW hPt.out.good ho.out⟩
        have hgd : Kpt (t'.doT N ⟨sv, ty, ky, ac, ap⟩).good := ⟨good_do hPt.out.good N ⟨sv, ty, ky, ac, ap⟩ ho.out.ac⟩
        have hrb := res_bd t' N ⟨sv, ty, ky, ac, ap⟩
        have hcb := Kpt.mk (code_bd t' N ⟨sv, ty, ky, ac, ap⟩)
        generalize t'.doR N ⟨sv, ty, ky, ac, ap⟩ = R at *
        generalize t'.doE N ⟨sv, ty, ky, ac, ap⟩ = E at *
        generalize t'.doT N ⟨sv, ty, ky, ac, ap⟩ = T at *
        obtain ⟨R1, R2⟩ := R
        simp only at hrb hdo hrdo
        obtain ⟨⟨hR1, hR2⟩, hR3, hR4⟩ := hrb
        have v1 : IntKind.i64.wrap R1 = R1 := by rw [IntKind.wrap_i64]; omega
        have v2 : IntKind.i64.wrap R2 = R2 := by rw [IntKind.wrap_i64]; omega
        refine wp_region_any (by kernel_rfl) ?_
        refine wpAny_of_C (C := fun W => (W.cell? ⟨b, off + k * 7, none⟩ = some (.int .i64 N) ∧ W.cell? ⟨X, 0, none⟩ = some (.int .u8 sv) ∧ W.cell? ⟨X, 1, none⟩ = some (.int .u8 ty) ∧ W.cell? ⟨X, 2, none⟩ = some (.int .u64 ky) ∧ W.cell? ⟨X, 3, none⟩ = some (.int .u64 ac) ∧ W.cell? ⟨X, 4, none⟩ = some (.bool ap))) _ _ _ _ ?_
        refine wpAnyC_take 0 (.pointer (some ⟨B', 0, none⟩)) rfl (by kernel_rfl) (by kernel_rfl) (by kernel_rfl) (fun _ _ _ h => h) (wanted_free rfl _) (fun W hW => by go_simp) ?_
        simp only [Act.put, List.getElem_toArray, List.getElem_cons_succ, List.getElem_cons_zero, List.setIfInBounds_toArray, List.set_cons_succ, List.set_cons_zero]
        refine wpAnyC_take 1 (.slice (some ⟨b, off, none⟩) m c) rfl (by kernel_rfl) (by kernel_rfl) (by kernel_rfl) (fun _ _ _ h => h) (wanted_free rfl _) (fun W hW => by go_simp) ?_
        simp only [Act.put, List.getElem_toArray, List.getElem_cons_succ, List.getElem_cons_zero, List.setIfInBounds_toArray, List.set_cons_succ, List.set_cons_zero]
        refine wpAnyC_take 2 (.int .i64 k) rfl (by kernel_rfl) (by kernel_rfl) (by kernel_rfl) (fun _ _ _ h => h) (wanted_free rfl _) (fun W hW => by go_simp) ?_
        simp only [Act.put, List.getElem_toArray, List.getElem_cons_succ, List.getElem_cons_zero, List.setIfInBounds_toArray, List.set_cons_succ, List.set_cons_zero]
        refine wpAnyC_take 3 (.pointer (some ⟨b, off + k * 7, none⟩)) rfl (by kernel_rfl) (by kernel_rfl) (by kernel_rfl) (fun _ _ _ h => h) (wanted_free rfl _) (fun W hW => by go_simp) ?_
        simp only [Act.put, List.getElem_toArray, List.getElem_cons_succ, List.getElem_cons_zero, List.setIfInBounds_toArray, List.set_cons_succ, List.set_cons_zero]
        refine wpAnyC_take 4 (.pointer (some ⟨b, off + k * 7, none⟩)) rfl (by kernel_rfl) (by kernel_rfl) (by kernel_rfl) (fun _ _ _ h => h) (wanted_free rfl _) (fun W hW => by go_simp) ?_
        simp only [Act.put, List.getElem_toArray, List.getElem_cons_succ, List.getElem_cons_zero, List.setIfInBounds_toArray, List.set_cons_succ, List.set_cons_zero]
        refine wpAnyC_take 5 (.int .i64 N) rfl (by kernel_rfl) (by kernel_rfl) (by kernel_rfl) (fun _ _ _ h => h) (wanted_free rfl _) (fun W hW => by obtain ⟨y0, y1, y2, y3, y4, y5⟩ := hW; go_simp) ?_
        simp only [Act.put, List.getElem_toArray, List.getElem_cons_succ, List.getElem_cons_zero, List.setIfInBounds_toArray, List.set_cons_succ, List.set_cons_zero]
        refine wpAnyC_take 6 (.agg #[.int .u8 sv, .int .u8 ty, .int .u64 ky, .int .u64 ac, .bool ap]) rfl (by kernel_rfl) (by kernel_rfl) (by kernel_rfl) (fun _ _ _ h => h) (wanted_free rfl _) (fun W hW => by obtain ⟨y0, y1, y2, y3, y4, y5⟩ := hW; go_simp) ?_
        simp only [Act.put, List.getElem_toArray, List.getElem_cons_succ, List.getElem_cons_zero, List.setIfInBounds_toArray, List.set_cons_succ, List.set_cons_zero]
        refine wpAnyC_one 7 hcl.out rfl (by kernel_rfl) (wanted_free rfl _) (fun KA hKA => ?_)
        go_simp
        refine (hdo.out _ (hPt.out.tab.below' (below_drew _))).mono ?_
        rintro e wD ⟨vD, rfl, hOD, hTD, hgD⟩
        replace hgD := grown_undrew hgD
        refine hKA _ _ ?_
        clear hKA KA
        try simp only [Act.put, List.getElem_toArray, List.getElem_cons_succ, List.getElem_cons_zero, List.setIfInBounds_toArray, List.set_cons_succ, List.set_cons_zero]
        have hclD : (fun W : World => (W.cell? ⟨b, off + k * 7, none⟩ = some (.int .i64 N) ∧ W.cell? ⟨X, 0, none⟩ = some (.int .u8 sv) ∧ W.cell? ⟨X, 1, none⟩ = some (.int .u8 ty) ∧ W.cell? ⟨X, 2, none⟩ = some (.int .u64 ky) ∧ W.cell? ⟨X, 3, none⟩ = some (.int .u64 ac) ∧ W.cell? ⟨X, 4, none⟩ = some (.bool ap))) wD := ⟨(World.cell?_of_block (w := w7) (a := ⟨b, off + k * 7, none⟩) (hgD.block b (Nat.lt_of_lt_of_le hbl hPt.out.bel.size) (fun e => by have e' : b = B' := Option.some.inj e; have := hPt.out.b1; omega))).trans hcl.out.1, (box_kept hgD hXW (by omega) 0).trans hcl.out.2.1, (box_kept hgD hXW (by omega) 1).trans hcl.out.2.2.1, (box_kept hgD hXW (by omega) 2).trans hcl.out.2.2.2.1, (box_kept hgD hXW (by omega) 3).trans hcl.out.2.2.2.2.1, (box_kept hgD hXW (by omega) 4).trans hcl.out.2.2.2.2.2⟩
        obtain ⟨aD, cD, hvD, hsD⟩ := hOD.shape
        subst hvD
        obtain ⟨l, hl⟩ : ∃ l, l = E.length := ⟨_, rfl⟩
        rw [← hl]
        refine wpAnyC_take 8 (.tuple #[.int .u8 R1, .int .u16 R2, .slice aD l cD]) rfl (by kernel_rfl) (by kernel_rfl) (by kernel_rfl) (fun _ _ _ h => h) (wanted_free rfl _) (fun W hW => by go_simp) ?_
        simp only [Act.put, List.getElem_toArray, List.getElem_cons_succ, List.getElem_cons_zero, List.setIfInBounds_toArray, List.set_cons_succ, List.set_cons_zero]
        refine wpAnyC_take 9 (.int .u8 R1) rfl (by kernel_rfl) (by kernel_rfl) (by kernel_rfl) (fun _ _ _ h => h) (wanted_free rfl _) (fun W hW => by go_simp) ?_
        simp only [Act.put, List.getElem_toArray, List.getElem_cons_succ, List.getElem_cons_zero, List.setIfInBounds_toArray, List.set_cons_succ, List.set_cons_zero]
        refine wpAnyC_take 10 (.int .u16 R2) rfl (by kernel_rfl) (by kernel_rfl) (by kernel_rfl) (fun _ _ _ h => h) (wanted_free rfl _) (fun W hW => by go_simp) ?_
        simp only [Act.put, List.getElem_toArray, List.getElem_cons_succ, List.getElem_cons_zero, List.setIfInBounds_toArray, List.set_cons_succ, List.set_cons_zero]
        refine wpAnyC_take 11 (.slice aD l cD) rfl (by kernel_rfl) (by kernel_rfl) (by kernel_rfl) (fun _ _ _ h => h) (wanted_free rfl _) (fun W hW => by go_simp) ?_
        simp only [Act.put, List.getElem_toArray, List.getElem_cons_succ, List.getElem_cons_zero, List.setIfInBounds_toArray, List.set_cons_succ, List.set_cons_zero]
        refine wpAnyC_take 12 (.int .u8 R1) rfl (by kernel_rfl) (by kernel_rfl) (by kernel_rfl) (fun _ _ _ h => h) (wanted_free rfl _) (fun W hW => by go_simp) ?_
        simp only [Act.put, List.getElem_toArray, List.getElem_cons_succ, List.getElem_cons_zero, List.setIfInBounds_toArray, List.set_cons_succ, List.set_cons_zero]
        refine wpAnyC_take 13 (.int .u16 R2) rfl (by kernel_rfl) (by kernel_rfl) (by kernel_rfl) (fun _ _ _ h => h) (wanted_free rfl _) (fun W hW => by go_simp) ?_
        simp only [Act.put, List.getElem_toArray, List.getElem_cons_succ, List.getElem_cons_zero, List.setIfInBounds_toArray, List.set_cons_succ, List.set_cons_zero]
        refine wpAnyC_take 14 (.slice aD l cD) rfl (by kernel_rfl) (by kernel_rfl) (by kernel_rfl) (fun _ _ _ h => h) (wanted_free rfl _) (fun W hW => by go_simp) ?_
        simp only [Act.put, List.getElem_toArray, List.getElem_cons_succ, List.getElem_cons_zero, List.setIfInBounds_toArray, List.set_cons_succ, List.set_cons_zero]
        refine wpAnyC_done hclD (by kernel_rfl) ?_
        have hRD := hPt.out.rt.grown hgD (fun e => hPt.out.ne (Option.some.inj e))
        have hBD : Below w.heap.size w wD := hPt.out.bel.grown hgD hPt.out.bel.size (fun q hq => by cases hq; exact hPt.out.b1)
        have hXD : X < wD.heap.size := Nat.lt_of_lt_of_le hXW hgD.size
        have hsDw : w7.heap.size ≤ wD.heap.size := hgD.size
        replace hcl := Kpt.mk hclD
        replace hsD := Kpt.mk hsD
        replace hTD := Kpt.mk hTD
        replace hRD := Kpt.mk hRD
        replace hBD := Kpt.mk hBD
        replace hl := Kpt.mk hl
        have hb1 := hPt.out.b1
        have hc1 := hPt.out.c1
        have hne := hPt.out.ne
        have hBW := hPt.out.tab.lt
        have hCW := hPt.out.rt.lt
        clear hOD hclD hgD hdo hPt
        go_wp2_with fail
        refine wp_region_any (by kernel_rfl) ?_
        refine wpAny_of_C (C := fun W => (W.cell? ⟨b, off + k * 7, none⟩ = some (.int .i64 N) ∧ W.cell? ⟨X, 0, none⟩ = some (.int .u8 sv) ∧ W.cell? ⟨X, 1, none⟩ = some (.int .u8 ty) ∧ W.cell? ⟨X, 2, none⟩ = some (.int .u64 ky) ∧ W.cell? ⟨X, 3, none⟩ = some (.int .u64 ac) ∧ W.cell? ⟨X, 4, none⟩ = some (.bool ap))) _ _ _ _ ?_
        refine wpAnyC_take 0 (.pointer (some ⟨C', 0, none⟩)) rfl (by kernel_rfl) (by kernel_rfl) (by kernel_rfl) (fun _ _ _ h => h) (wanted_free rfl _) (fun W hW => by go_simp) ?_
        simp only [Act.put, List.getElem_toArray, List.getElem_cons_succ, List.getElem_cons_zero, List.setIfInBounds_toArray, List.set_cons_succ, List.set_cons_zero]
        refine wpAnyC_take 1 (.slice (some ⟨b, off, none⟩) m c) rfl (by kernel_rfl) (by kernel_rfl) (by kernel_rfl) (fun _ _ _ h => h) (wanted_free rfl _) (fun W hW => by go_simp) ?_
        simp only [Act.put, List.getElem_toArray, List.getElem_cons_succ, List.getElem_cons_zero, List.setIfInBounds_toArray, List.set_cons_succ, List.set_cons_zero]
        refine wpAnyC_take 2 (.int .i64 k) rfl (by kernel_rfl) (by kernel_rfl) (by kernel_rfl) (fun _ _ _ h => h) (wanted_free rfl _) (fun W hW => by go_simp) ?_
        simp only [Act.put, List.getElem_toArray, List.getElem_cons_succ, List.getElem_cons_zero, List.setIfInBounds_toArray, List.set_cons_succ, List.set_cons_zero]
        refine wpAnyC_take 3 (.pointer (some ⟨b, off + k * 7, none⟩)) rfl (by kernel_rfl) (by kernel_rfl) (by kernel_rfl) (fun _ _ _ h => h) (wanted_free rfl _) (fun W hW => by go_simp) ?_
        simp only [Act.put, List.getElem_toArray, List.getElem_cons_succ, List.getElem_cons_zero, List.setIfInBounds_toArray, List.set_cons_succ, List.set_cons_zero]
        refine wpAnyC_take 4 (.pointer (some ⟨b, off + k * 7, none⟩)) rfl (by kernel_rfl) (by kernel_rfl) (by kernel_rfl) (fun _ _ _ h => h) (wanted_free rfl _) (fun W hW => by go_simp) ?_
        simp only [Act.put, List.getElem_toArray, List.getElem_cons_succ, List.getElem_cons_zero, List.setIfInBounds_toArray, List.set_cons_succ, List.set_cons_zero]
        refine wpAnyC_take 5 (.int .i64 N) rfl (by kernel_rfl) (by kernel_rfl) (by kernel_rfl) (fun _ _ _ h => h) (wanted_free rfl _) (fun W hW => by obtain ⟨y0, y1, y2, y3, y4, y5⟩ := hW; go_simp) ?_
        simp only [Act.put, List.getElem_toArray, List.getElem_cons_succ, List.getElem_cons_zero, List.setIfInBounds_toArray, List.set_cons_succ, List.set_cons_zero]
        refine wpAnyC_take 6 (.pointer (some ⟨X, 0, none⟩)) rfl (by kernel_rfl) (by kernel_rfl) (by kernel_rfl) (fun _ _ _ h => h) (wanted_free rfl _) (fun W hW => by go_simp) ?_
        simp only [Act.put, List.getElem_toArray, List.getElem_cons_succ, List.getElem_cons_zero, List.setIfInBounds_toArray, List.set_cons_succ, List.set_cons_zero]
        refine wpAnyC_take 7 (.int .u8 sv) rfl (by kernel_rfl) (by kernel_rfl) (by kernel_rfl) (fun _ _ _ h => h) (wanted_free rfl _) (fun W hW => by obtain ⟨y0, y1, y2, y3, y4, y5⟩ := hW; go_simp) ?_
        simp only [Act.put, List.getElem_toArray, List.getElem_cons_succ, List.getElem_cons_zero, List.setIfInBounds_toArray, List.set_cons_succ, List.set_cons_zero]
        refine wpAnyC_take 8 (.int .i64 sv) rfl (by kernel_rfl) (by kernel_rfl) (by kernel_rfl) (fun _ _ _ h => h) (wanted_free rfl _) (fun W hW => by go_simp) ?_
        simp only [Act.put, List.getElem_toArray, List.getElem_cons_succ, List.getElem_cons_zero, List.setIfInBounds_toArray, List.set_cons_succ, List.set_cons_zero]
        refine wpAnyC_take 9 (.pointer (some ⟨X, 1, none⟩)) rfl (by kernel_rfl) (by kernel_rfl) (by kernel_rfl) (fun _ _ _ h => h) (wanted_free rfl _) (fun W hW => by go_simp) ?_
        simp only [Act.put, List.getElem_toArray, List.getElem_cons_succ, List.getElem_cons_zero, List.setIfInBounds_toArray, List.set_cons_succ, List.set_cons_zero]
        refine wpAnyC_take 10 (.int .u8 ty) rfl (by kernel_rfl) (by kernel_rfl) (by kernel_rfl) (fun _ _ _ h => h) (wanted_free rfl _) (fun W hW => by obtain ⟨y0, y1, y2, y3, y4, y5⟩ := hW; go_simp) ?_
        simp only [Act.put, List.getElem_toArray, List.getElem_cons_succ, List.getElem_cons_zero, List.setIfInBounds_toArray, List.set_cons_succ, List.set_cons_zero]
        refine wpAnyC_take 11 (.int .i64 ty) rfl (by kernel_rfl) (by kernel_rfl) (by kernel_rfl) (fun _ _ _ h => h) (wanted_free rfl _) (fun W hW => by go_simp) ?_
        simp only [Act.put, List.getElem_toArray, List.getElem_cons_succ, List.getElem_cons_zero, List.setIfInBounds_toArray, List.set_cons_succ, List.set_cons_zero]
        refine wpAnyC_take 12 (.pointer (some ⟨X, 2, none⟩)) rfl (by kernel_rfl) (by kernel_rfl) (by kernel_rfl) (fun _ _ _ h => h) (wanted_free rfl _) (fun W hW => by go_simp) ?_
        simp only [Act.put, List.getElem_toArray, List.getElem_cons_succ, List.getElem_cons_zero, List.setIfInBounds_toArray, List.set_cons_succ, List.set_cons_zero]
        refine wpAnyC_take 13 (.int .u64 ky) rfl (by kernel_rfl) (by kernel_rfl) (by kernel_rfl) (fun _ _ _ h => h) (wanted_free rfl _) (fun W hW => by obtain ⟨y0, y1, y2, y3, y4, y5⟩ := hW; go_simp) ?_
        simp only [Act.put, List.getElem_toArray, List.getElem_cons_succ, List.getElem_cons_zero, List.setIfInBounds_toArray, List.set_cons_succ, List.set_cons_zero]
        refine wpAnyC_take 14 (.pointer (some ⟨X, 3, none⟩)) rfl (by kernel_rfl) (by kernel_rfl) (by kernel_rfl) (fun _ _ _ h => h) (wanted_free rfl _) (fun W hW => by go_simp) ?_
        simp only [Act.put, List.getElem_toArray, List.getElem_cons_succ, List.getElem_cons_zero, List.setIfInBounds_toArray, List.set_cons_succ, List.set_cons_zero]
        refine wpAnyC_take 15 (.int .u64 ac) rfl (by kernel_rfl) (by kernel_rfl) (by kernel_rfl) (fun _ _ _ h => h) (wanted_free rfl _) (fun W hW => by obtain ⟨y0, y1, y2, y3, y4, y5⟩ := hW; go_simp) ?_
        simp only [Act.put, List.getElem_toArray, List.getElem_cons_succ, List.getElem_cons_zero, List.setIfInBounds_toArray, List.set_cons_succ, List.set_cons_zero]
        refine wpAnyC_take 16 (.pointer (some ⟨X, 4, none⟩)) rfl (by kernel_rfl) (by kernel_rfl) (by kernel_rfl) (fun _ _ _ h => h) (wanted_free rfl _) (fun W hW => by go_simp) ?_
        simp only [Act.put, List.getElem_toArray, List.getElem_cons_succ, List.getElem_cons_zero, List.setIfInBounds_toArray, List.set_cons_succ, List.set_cons_zero]
        refine wpAnyC_take 17 (.bool ap) rfl (by kernel_rfl) (by kernel_rfl) (by kernel_rfl) (fun _ _ _ h => h) (wanted_free rfl _) (fun W hW => by obtain ⟨y0, y1, y2, y3, y4, y5⟩ := hW; go_simp) ?_
        simp only [Act.put, List.getElem_toArray, List.getElem_cons_succ, List.getElem_cons_zero, List.setIfInBounds_toArray, List.set_cons_succ, List.set_cons_zero]
        refine wpAnyC_take 18 (.agg #[.int .i64 sv, .int .i64 ty, .int .u64 ky, .int .u64 ac, .bool ap]) rfl (by kernel_rfl) (by kernel_rfl) (by kernel_rfl) (fun _ _ _ h => h) (wanted_free rfl _) (fun W hW => by go_simp) ?_
        simp only [Act.put, List.getElem_toArray, List.getElem_cons_succ, List.getElem_cons_zero, List.setIfInBounds_toArray, List.set_cons_succ, List.set_cons_zero]
        refine wpAnyC_one 19 hcl.out rfl (by kernel_rfl) (wanted_free rfl _) (fun KA hKA => ?_)
        go_simp
        refine (hrdo.out _ (hRD.out.below' (below_drew _))).mono ?_
        rintro e wE ⟨vE, y, rfl, hOE, hRE, hgE⟩
        replace hgE := grown_undrew hgE
        refine hKA _ _ ?_
        clear hKA KA
        try simp only [Act.put, List.getElem_toArray, List.getElem_cons_succ, List.getElem_cons_zero, List.setIfInBounds_toArray, List.set_cons_succ, List.set_cons_zero]
        have hclE : (fun W : World => (W.cell? ⟨b, off + k * 7, none⟩ = some (.int .i64 N) ∧ W.cell? ⟨X, 0, none⟩ = some (.int .u8 sv) ∧ W.cell? ⟨X, 1, none⟩ = some (.int .u8 ty) ∧ W.cell? ⟨X, 2, none⟩ = some (.int .u64 ky) ∧ W.cell? ⟨X, 3, none⟩ = some (.int .u64 ac) ∧ W.cell? ⟨X, 4, none⟩ = some (.bool ap))) wE := ⟨(World.cell?_of_block (w := wD) (a := ⟨b, off + k * 7, none⟩) (hgE.block b (Nat.lt_of_lt_of_le hbl hBD.out.size) (fun e => by have e' : b = C' := Option.some.inj e; omega))).trans hcl.out.1, (box_kept hgE hXD (by omega) 0).trans hcl.out.2.1, (box_kept hgE hXD (by omega) 1).trans hcl.out.2.2.1, (box_kept hgE hXD (by omega) 2).trans hcl.out.2.2.2.1, (box_kept hgE hXD (by omega) 3).trans hcl.out.2.2.2.2.1, (box_kept hgE hXD (by omega) 4).trans hcl.out.2.2.2.2.2⟩
        obtain ⟨aE, cE, hvE, hsE⟩ := hOE.shape
        subst hvE
        rw [← hl.out]
        refine wpAnyC_take 20 (.tuple #[.int .i64 R1, .int .i64 R2, .slice aE l cE]) rfl (by kernel_rfl) (by kernel_rfl) (by kernel_rfl) (fun _ _ _ h => h) (wanted_free rfl _) (fun W hW => by go_simp) ?_
        simp only [Act.put, List.getElem_toArray, List.getElem_cons_succ, List.getElem_cons_zero, List.setIfInBounds_toArray, List.set_cons_succ, List.set_cons_zero]
        refine wpAnyC_take 21 (.int .i64 R1) rfl (by kernel_rfl) (by kernel_rfl) (by kernel_rfl) (fun _ _ _ h => h) (wanted_free rfl _) (fun W hW => by go_simp) ?_
        simp only [Act.put, List.getElem_toArray, List.getElem_cons_succ, List.getElem_cons_zero, List.setIfInBounds_toArray, List.set_cons_succ, List.set_cons_zero]
        refine wpAnyC_take 22 (.int .i64 R2) rfl (by kernel_rfl) (by kernel_rfl) (by kernel_rfl) (fun _ _ _ h => h) (wanted_free rfl _) (fun W hW => by go_simp) ?_
        simp only [Act.put, List.getElem_toArray, List.getElem_cons_succ, List.getElem_cons_zero, List.setIfInBounds_toArray, List.set_cons_succ, List.set_cons_zero]
        refine wpAnyC_take 23 (.slice aE l cE) rfl (by kernel_rfl) (by kernel_rfl) (by kernel_rfl) (fun _ _ _ h => h) (wanted_free rfl _) (fun W hW => by go_simp) ?_
        simp only [Act.put, List.getElem_toArray, List.getElem_cons_succ, List.getElem_cons_zero, List.setIfInBounds_toArray, List.set_cons_succ, List.set_cons_zero]
        refine wpAnyC_take 24 (.int .i64 R1) rfl (by kernel_rfl) (by kernel_rfl) (by kernel_rfl) (fun _ _ _ h => h) (wanted_free rfl _) (fun W hW => by go_simp) ?_
        simp only [Act.put, List.getElem_toArray, List.getElem_cons_succ, List.getElem_cons_zero, List.setIfInBounds_toArray, List.set_cons_succ, List.set_cons_zero]
        refine wpAnyC_take 25 (.int .i64 R2) rfl (by kernel_rfl) (by kernel_rfl) (by kernel_rfl) (fun _ _ _ h => h) (wanted_free rfl _) (fun W hW => by go_simp) ?_
        simp only [Act.put, List.getElem_toArray, List.getElem_cons_succ, List.getElem_cons_zero, List.setIfInBounds_toArray, List.set_cons_succ, List.set_cons_zero]
        refine wpAnyC_take 26 (.slice aE l cE) rfl (by kernel_rfl) (by kernel_rfl) (by kernel_rfl) (fun _ _ _ h => h) (wanted_free rfl _) (fun W hW => by go_simp) ?_
        simp only [Act.put, List.getElem_toArray, List.getElem_cons_succ, List.getElem_cons_zero, List.setIfInBounds_toArray, List.set_cons_succ, List.set_cons_zero]
        refine wpAnyC_done hclE (by kernel_rfl) ?_
        have hTE := hTD.out.grown hgE (fun e => by have e' : C' = B' := Option.some.inj e; omega)
        have hBE : Below w.heap.size w wE := hBD.out.grown hgE hBD.out.size (fun q hq => by cases hq; exact hc1)
        have hPE : Kpt (Pt w wE B' C' T y) := ⟨⟨hTE, hRE, hb1, hc1, hne, hBE, hgd.out⟩⟩
        have hU : Kpt ((aD = none ∧ cD = 0 ∧ l = 0) ∨ ∃ g, aD = some ⟨g, 0, none⟩ ∧ g < wE.heap.size ∧ l ≤ cD ∧ cD ≤ maxLen ∧ ∀ j r, E[j]? = some r → wE.rangeAt g (j * 2) (pv .u16 r).toList) := ⟨by
          rw [hl.out]
          rcases hsD.out with h | ⟨g, h1, hg0, h2, h3, h4, h5⟩
          · exact .inl h
          · have hgC : g ≠ C' := by intro e; have : w7.drew.heap.size = w7.heap.size := rfl; omega
            exact .inr ⟨g, h1, Nat.lt_of_lt_of_le h2 hgE.size, h3, h4, fun j r hj => rangeAt_of_block (h5 j r hj) (hgE.block g h2 (fun e => hgC (Option.some.inj e)))⟩⟩
        have hV : Kpt ((aE = none ∧ cE = 0 ∧ l = 0) ∨ ∃ g, aE = some ⟨g, 0, none⟩ ∧ g < wE.heap.size ∧ l ≤ cE ∧ cE ≤ maxLen ∧ ∀ j r, E[j]? = some r → wE.rangeAt g (j * 2) (pv .i64 r).toList) := ⟨by
          rw [hl.out]
          rcases hsE with h | ⟨g, h1, hg0, h2, h3, h4, h5⟩
          · exact .inl h
          · exact .inr ⟨g, h1, h2, h3, h4, h5⟩⟩
        have HLk := Kpt.mk (looks_any B' C' T y wE hTE hRE hgd.out)
        clear hOE hclE hgE hrdo hsE hsD hTD hRD hBD hTE hBE hcl hRE
        go_wp2_with fail
        refine HLk.out.mono ?_
        rintro e wF ⟨rfl, hbF⟩
        have hPF := Kpt.mk (hPE.out.below hbF)
        have hUF : Kpt ((aD = none ∧ cD = 0 ∧ l = 0) ∨ ∃ g, aD = some ⟨g, 0, none⟩ ∧ g < wF.heap.size ∧ l ≤ cD ∧ cD ≤ maxLen ∧ ∀ j r, E[j]? = some r → wF.rangeAt g (j * 2) (pv .u16 r).toList) := ⟨by
          rcases hU.out with h | ⟨g, h1, h2, h3, h4, h5⟩
          · exact .inl h
          · exact .inr ⟨g, h1, Nat.lt_of_lt_of_le h2 hbF.size, h3, h4, fun j r hj => rangeAt_of_block (h5 j r hj) (hbF.block g h2)⟩⟩
        have hVF : Kpt ((aE = none ∧ cE = 0 ∧ l = 0) ∨ ∃ g, aE = some ⟨g, 0, none⟩ ∧ g < wF.heap.size ∧ l ≤ cE ∧ cE ≤ maxLen ∧ ∀ j r, E[j]? = some r → wF.rangeAt g (j * 2) (pv .i64 r).toList) := ⟨by
          rcases hV.out with h | ⟨g, h1, h2, h3, h4, h5⟩
          · exact .inl h
          · exact .inr ⟨g, h1, Nat.lt_of_lt_of_le h2 hbF.size, h3, h4, fun j r hj => rangeAt_of_block (h5 j r hj) (hbF.block g h2)⟩⟩
        clear hU hV hPE HLk hbF
        go_wp2_with fail
        go_loopw [17] (fun r wq => ∃ i : Nat, i ≤ l ∧ r = .int .i64 i ∧ Kpt (∃ q, wq = wF.drewN q)) (fun r _ => l - (intOf r).toNat)
        case atStart => exact ⟨0, by omega, rfl, ⟨0, rfl⟩⟩
        case round =>
          obtain ⟨i, hi, rfl, hq⟩ := hrel
          by_cases hlt : i < l
          · have e6 : (i : Int) < l := by omega
            have hiz : i < E.length := by rw [← hl.out]; exact hlt
            obtain ⟨r, hr⟩ : ∃ r, E[i]? = some r := ⟨_, List.getElem?_eq_getElem hiz⟩
            have hcd := hcb.out r (List.mem_of_getElem? hr)
            obtain ⟨q, hq'⟩ := hq.out
            rcases hUF.out with ⟨_, _, hz⟩ | ⟨g, rfl, hg, hc1, hc1', hr1⟩
            · omega
            rcases hVF.out with ⟨_, _, hz⟩ | ⟨g2, rfl, hg2, hc2, hc2', hr2⟩
            · omega
            have hl63 : (l : Int) ≤ 9223372036854775807 := by unfold maxLen at hc1'; omega
            obtain ⟨x1, x2⟩ := r
            obtain ⟨p0, p1⟩ := range2 (κ := .u16) (t := (x1, x2)) (fun j v hv => (by rw [hq']; exact hr1 i _ hr j v hv : wr.cell? ⟨g, i * 2 + j, none⟩ = some v))
            obtain ⟨z0, z1⟩ := range2 (κ := .i64) (t := (x1, x2)) (fun j v hv => (by rw [hq']; exact hr2 i _ hr j v hv : wr.cell? ⟨g2, i * 2 + j, none⟩ = some v))
            have hgl : g < wr.heap.size := by rw [hq']; exact hg
            have hgl2 : g2 < wr.heap.size := by rw [hq']; exact hg2
            simp only at p0 p1 z0 z1 hcd
            obtain ⟨hcd1, hcd2⟩ := hcd
            have v3 : IntKind.i64.wrap x2 = x2 := by rw [IntKind.wrap_i64]; omega
            clear hr1 hr2 hr hq' hUF hVF hg hg2
            go_wp2_with fail
            go_quiet (fail)
            go_wp2
            go_roundw
            case rel => exact ⟨i + 1, by omega, by go_num, ⟨by obtain ⟨q, hq⟩ := hq.out; exact ⟨_, by rw [hq, World.drewN_drewN]⟩⟩⟩
            case measure => simp [intOf]; omega
          · have e6 : ¬ (i : Int) < l := by omega
            obtain ⟨q, hq'⟩ := hq.out
            have hPG : Kpt (Pt w wr B' C' T y) := ⟨by rw [hq']; exact hPF.out.below (below_drewN (Below.refl _ _) q)⟩
            clear hUF hVF hq' hPF
            go_wp2
            go_roundw
            case rel => exact ⟨k + 1, B', C', T, y, by omega, by omega, rfl, rfl, by go_num, hPG⟩
            case measure => simp [intOf]; omega
    · have hor : ¬ (k : Int) < m ∨ ((k : Int) < m ∧ ¬ (k : Int) < 200) := by omega
      have hbel := Kpt.mk hPt.out.bel
      clear hPt
      rcases hor with e1 | ⟨e1, e2⟩
      all_goals
        go_wp2
        go_ret
        exact ⟨rfl, hbel.out⟩
end Go.Proofs.Ytikndkmpedoooaa.prPlays
