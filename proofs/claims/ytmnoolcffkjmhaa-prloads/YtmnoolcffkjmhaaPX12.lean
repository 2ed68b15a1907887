/-
  The document's Save.
-/
import Derived.Test.YtmnoolcffkjmhaaPX11
import Derived.Test.YtmnoolcffkjmhaaPBack
namespace Go.Proofs.Ytmnoolcffkjmhaa
open Go.RowKit
set_option linter.unusedVariables false
set_option linter.unusedSimpArgs false

theorem body_snoc (f : Nat → Int) (k : Nat) : bodyB (regsTo f (k + 1)) = bodyB (regsTo f k) ++ if f k ≠ 0 then ((k : Int) :: be8 (f k)) else [] := by
  show bodyB (regsTo f k ++ _) = _
  unfold bodyB
  rw [List.flatMap_append]
  congr 1
  split <;> simp [regB]
theorem wrap_hold (t : Tb) (hg : t.good) : t.res.2 % 256 = (if t.res.2 = -1 then 255 else t.res.2) := by
  rcases res_cases t hg with ⟨h0, e⟩ | ⟨h0, h1, e⟩ | ⟨h0, h1, e, a, b, c⟩
  · rw [e]; rfl
  · rw [e]; rfl
  · rw [e]
    have : ¬ t.ho = -1 := by omega
    simp only [this, if_false]
    omega

set_option maxRecDepth 100000 in
set_option maxHeartbeats 4000000 in
theorem rsave_last (B : Nat) (t : Tb) (x : Int) (w : World) (h : RTab w B t x) (hg : t.good) (hla : t.la = true) :
    Calls Try.prog 14 #[.pointer (some ⟨B, 0, none⟩)] w fun e w' => ∃ v, e = .returned v ∧ OwnB w.heap.size w' v t.save ∧ Below w.heap.size w w' := by
  have c11 := h.c11
  rw [hla] at c11
  have hlt := h.lt
  have HRv := Kpt.mk (rres_any B t x w h)
  have hK := Kpt.mk h
  have hl8 := regs_len t
  have hu8 := res_u8 t hg
  have hr1 : t.res.1 % 256 = t.res.1 := by omega
  have hr2 := wrap_hold t hg
  have hkr := Kpt.mk hg.kr
  have hhead : Kpt (headB t = [80, 82, t.res.1, if t.res.2 = -1 then 255 else t.res.2, t.regs.length]) := ⟨rfl⟩
  have hsv : Kpt (t.save = headB t ++ bodyB (regsTo t.ks 8)) := ⟨rfl⟩
  have hrl : (t.regs.length : Int) % 256 = t.regs.length := by omega
  generalize t.res.1 = r1 at *
  generalize (if t.res.2 = -1 then 255 else t.res.2) = X at *
  generalize t.res.2 = r2 at *
  obtain ⟨m, hm⟩ : ∃ m, m = t.regs.length := ⟨_, rfl⟩
  rw [← hm] at hhead hl8 hrl
  replace hm := Kpt.mk hm
  have hkey := Kpt.mk h.key
  clear h hg
  go_enter Try.func14, Try.ntmps14
  go_wp2_with fail
  refine HRv.out.mono ?_
  rintro e w2 ⟨rfl, q, hq⟩
  have hB2 : Kpt (Below w.heap.size w w2) := ⟨by rw [hq]; exact below_drewN (Below.refl _ _) q⟩
  have hT2 : Kpt (RTab w2 B t x) := ⟨by rw [hq]; exact hK.out.drewN q⟩
  clear hq HRv c11
  go_wp2_with fail
  refine (rcount_any B t x w2 hT2.out).mono ?_
  rw [← hm.out]
  rintro e w3 ⟨rfl, hb3⟩
  have hB3 : Kpt (Below w.heap.size w w3) := ⟨hB2.out.trans (hb3.mono hB2.out.size)⟩
  have hT3 := Kpt.mk (hT2.out.below' hb3)
  clear hb3 hT2 hB2 hK
  go_wp2_with fail
  go_loopw [5, 6] (fun r i wr => ∃ (k : Nat) (xx : Value), k ≤ 8 ∧ r = xx ∧ i = .int .i64 k ∧ Kpt (OwnB w3.heap.size wr xx (headB t ++ bodyB (regsTo t.ks k))) ∧ Kpt (Below w3.heap.size w3 wr)) (fun _ i _ => 8 - (intOf i).toNat)
  case atStart => exact ⟨0, _, Nat.zero_le _, rfl, rfl, ⟨by rw [hhead.out]; simpa [bodyB, regsTo] using ownB_new w3 [80, 82, r1, X, (m : Int)] rfl⟩, ⟨(Below.refl _ _).alloc (Nat.le_refl _) _⟩⟩
  case round =>
    obtain ⟨k, xx, hk, hx0, rfl, hO, hB⟩ := hrel
    replace hx0 := hx0.symm
    subst hx0
    by_cases hlt2 : k < 8
    · have e1 : (k : Int) < 8 := by omega
      have hck : wr.cell? ⟨B, k, none⟩ = some (.int .u64 (t.ks k)) := (hB.out.cell (p := ⟨B, k, none⟩) hT3.out.lt).trans (hT3.out.key k hlt2)
      have hBw : B < wr.heap.size := Nat.lt_of_lt_of_le hT3.out.lt hB.out.size
      have hst := Kpt.mk (body_snoc t.ks k)
      have hyr := hkr.out k hlt2
      have hk256 : (k : Int) % 256 = k := by omega
      have hl9 := Kpt.mk (bodyB_len (regsTo t.ks k))
      have hl10 := Kpt.mk (regsTo_len t.ks k)
      have hs1 : w3.heap.size ≤ wr.heap.size := hB.out.size
      have hx1 : Kpt (∀ g, xx.ownBlock = some g → w3.heap.size ≤ g ∧ g < wr.heap.size) := ⟨fun g hg => hO.out.lt hg⟩
      have hll : Kpt ((headB t ++ bodyB (regsTo t.ks k)).length ≤ 100) := ⟨by rw [List.length_append, hl9.out, hhead.out]; have := hl10.out; simp only [List.length_cons, List.length_nil]; omega⟩
      have hBC : Kpt (∀ g, xx.ownBlock = some g → g ≠ B) := ⟨fun g hg e => by have := (hx1.out g hg).1; have := hT3.out.lt; omega⟩
      by_cases hy : t.ks k = 0
      · rw [hy] at hck hst
        go_wp2
        go_roundw
        case rel => exact ⟨k + 1, xx, by omega, rfl, by go_num, ⟨by rw [hst.out]; simpa using hO.out⟩, hB⟩
        case measure => simp [intOf]; omega
      · have hyb : ((t.ks k : Int) != 0) = true := by simp [hy]
        have hst2 : Kpt (bodyB (regsTo t.ks (k + 1)) = bodyB (regsTo t.ks k) ++ ((k : Int) :: be8 (t.ks k))) := ⟨by rw [hst.out, if_pos hy]⟩
        generalize t.ks k = y at *
        generalize hLe : headB t ++ bodyB (regsTo t.ks k) = L at *
        replace hLe := Kpt.mk hLe
        replace hy := Kpt.mk hy
        go_wp2_with (at_builtin; go_must (refine wpList_append_bytes rfl (.tmp 36) (.tmp 39) rfl w3.heap.size xx L [(k : Int)] wr.heap.size 1 1 rfl rfl rfl (one_cell wr (k : Int) _ rfl) (hO.out.of_block (fun g hg => Below.heap_alloc _ _ _ (hO.out.lt hg).2)) (by have := hll.out; simp; omega) (by simp; omega) ?_; intro v6 w6 ho6 hg6 hor6; have hB6 : Kpt (Below w3.heap.size w3 w6) := ⟨(hB.out.alloc hB.out.size _).grown hg6.out (by simp; omega) (fun g hg => (hx1.out g hg).1)⟩; have hs6 : Kpt (wr.heap.size < w6.heap.size) := ⟨Nat.lt_of_lt_of_le (by simp) hg6.out.size⟩; have hck6 : w6.cell? ⟨B, k, none⟩ = some (.int .u64 y) := ((World.cell?_of_block (w := wr) (w' := w6) (a := ⟨B, k, none⟩) ((hg6.out.block B (by simp; omega) (fun e => hBC.out B e.symm rfl)).trans (Below.heap_alloc _ _ _ hBw))).trans hck); have hBw6 : B < w6.heap.size := Nat.lt_of_lt_of_le hT3.out.lt hB6.out.size; have hov6 : Kpt (∀ g, v6.ownBlock = some g → w3.heap.size ≤ g) := ⟨fun g hg => (ho6.out.lt hg).1⟩; clear hck))
        refine (big8 y w6 hyr).mono ?_
        rintro e w7 ⟨g7, rfl, hO7, hb7⟩
        have ho67 : Kpt (OwnB w3.heap.size w7 v6 (L ++ [(k : Int)])) := ⟨ho6.out.of_block (fun g hg => hb7.block g (ho6.out.lt hg).2)⟩
        have hB7 : Kpt (Below w3.heap.size w3 w7) := ⟨hB6.out.trans (hb7.mono hB6.out.size)⟩
        have hc7 : Kpt (∀ j u, ((be8 y).map (Value.int .u8))[j]? = some u → w7.cell? ⟨g7, j, none⟩ = some u) := ⟨fun j u hu => by
          have hj : j < 8 := by have := (List.getElem?_eq_some_iff.1 hu).1; simpa [be8_len] using this
          rw [World.ownsRow.cellAt hO7 j (by first | omega | (rw [be8_len]; omega)), hu]⟩
        have hs7 : Kpt (w3.heap.size ≤ w7.heap.size) := ⟨hB7.out.size⟩
        clear hO7 hb7 hck6
        go_wp2_with (at_builtin; go_must (refine wpList_append_bytes rfl (.tmp 41) (.tmp 48) rfl w3.heap.size v6 (L ++ [(k : Int)]) (be8 y) g7 8 8 (be8_len y).symm rfl rfl hc7.out ho67.out (by have := hll.out; rw [be8_len]; simp; omega) hs7.out ?_; intro v8 w8 ho8 hg8 hor8))
        have hB8 : Kpt (Below w3.heap.size w3 w8) := ⟨hB7.out.grown hg8.out hs7.out (fun g hg => (ho67.out.lt hg).1)⟩
        go_roundw
        case rel => exact ⟨k + 1, v8, by omega, rfl, by go_num, ⟨by have := ho8.out; rw [hst2.out, ← List.append_assoc, hLe.out]; simpa using this⟩, hB8⟩
        case measure => simp [intOf]; omega
    · have e1 : ¬ (k : Int) < 8 := by omega
      have ek : k = 8 := by omega
      go_wp2
      go_ret
      exact ⟨xx, rfl, by have := hO.out; rw [ek] at this; rw [hsv.out]; exact this.lower hB3.out.size, hB3.out.trans (hB.out.mono hB3.out.size)⟩
end Go.Proofs.Ytmnoolcffkjmhaa
