/-
  Queues: an array of slices of codes in a block; the contracts of New, codes, first, Peek, List.
-/
import Derived.Test.YtodppeldliliaaaAQ
namespace Go.Proofs.Ytodppeldliliaaa
open Go.RowKit
set_option linter.unusedVariables false
set_option linter.unusedSimpArgs false

/-- Queues in a block: what waits for each nexus. -/
structure Qu (base : Nat) (w : World) (B : Nat) (L : Nat → List Int) (S : Nat → Value) : Prop where
  lt : B < w.heap.size
  le : base ≤ B
  cells : ∀ n, n < 8 → w.cell? ⟨B, n, none⟩ = some (S n)
  free : ∀ n, w.frozen? ⟨B, n, none⟩ = false
  own : ∀ n, n < 8 → Own base w (S n) (L n)
  apart : ∀ n k g, n < 8 → k < 8 → (S n).ownBlock = some g → (S k).ownBlock = some g → n = k
  other : ∀ n g, n < 8 → (S n).ownBlock = some g → g ≠ B
  few : ∀ n, n < 8 → (L n).length ≤ 8
  good : ∀ n, n < 8 → ∀ c ∈ L n, 0 ≤ c ∧ c ≤ 65535

theorem Own.of_block {base : Nat} {w w' : World} {v : Value} {zs : List Int} (h : Own base w v zs) (hb : ∀ g, v.ownBlock = some g → w'.heap[g]? = w.heap[g]?) : Own base w' v zs := by
  refine ⟨h.1, ?_⟩
  rcases h.2 with hn | ⟨g, cap, cur, rfl, h0, hgg, rest⟩
  · exact .inl hn
  · exact .inr ⟨g, cap, cur, rfl, h0, (hb g rfl).trans hgg, rest⟩

theorem Own.lt {base : Nat} {w : World} {v : Value} {zs : List Int} (h : Own base w v zs) {g : Nat} (hg : v.ownBlock = some g) : base ≤ g ∧ g < w.heap.size := World.ownsRow.lt h g hg

theorem Qu.below {base n : Nat} {w w' : World} {B : Nat} {L : Nat → List Int} {S : Nat → Value} (h : Qu base w B L S) (hb : Below w.heap.size w w') : Qu base w' B L S := by
  refine ⟨Nat.lt_of_lt_of_le h.lt hb.size, h.le, fun n hn => (hb.cell (p := ⟨B, n, none⟩) h.lt).trans (h.cells n hn), fun n => (hb.frozen (p := ⟨B, n, none⟩) h.lt).trans (h.free n), fun n hn => (h.own n hn).of_block (fun g hg => hb.block _ ((h.own n hn).lt hg).2), h.apart, h.other, h.few, h.good⟩

theorem getD_good {zs : List Int} (h : ∀ c ∈ zs, 0 ≤ c ∧ c ≤ 65535) (j : Nat) : 0 ≤ zs.getD j 0 ∧ zs.getD j 0 ≤ 65535 := by
  rw [List.getD_eq_getElem?_getD]
  cases e : zs[j]? with
  | none => simp
  | some v => exact h v (List.mem_of_getElem? e)

theorem new_any (w : World) : Calls Try.prog 8 #[] w fun e w' => e = .returned (.pointer (some ⟨w.heap.size, 0, none⟩)) ∧ w' = w.alloc (.cells #[.slice none 0 0, .slice none 0 0, .slice none 0 0, .slice none 0 0, .slice none 0 0, .slice none 0 0, .slice none 0 0, .slice none 0 0] 46) := by
  go_enter Try.func8, Try.ntmps8
  go_wp2
  go_ret
  exact ⟨rfl, rfl⟩

theorem qu_new (w : World) : Qu w.heap.size (w.alloc (.cells #[.slice none 0 0, .slice none 0 0, .slice none 0 0, .slice none 0 0, .slice none 0 0, .slice none 0 0, .slice none 0 0, .slice none 0 0] 46)) w.heap.size (fun _ => []) (fun _ => .slice none 0 0) := by
  refine ⟨by simp, Nat.le_refl _, fun n hn => ?_, fun n => by simp, fun n hn => World.ownsRow_nil _ _ _ _, fun n k g _ _ h => by simp [Value.ownBlock] at h, fun n g _ h => by simp [Value.ownBlock] at h, fun n _ => by simp, fun n _ c hc => by simp at hc⟩
  have : n = 0 ∨ n = 1 ∨ n = 2 ∨ n = 3 ∨ n = 4 ∨ n = 5 ∨ n = 6 ∨ n = 7 := by omega
  rcases this with rfl | rfl | rfl | rfl | rfl | rfl | rfl | rfl <;> simp

theorem codes_any (base B n : Nat) (L : Nat → List Int) (S : Nat → Value) (w : World) (h : Qu base w B L S) (hn : n < 8) :
    Calls Try.prog 20 #[.pointer (some ⟨B, 0, none⟩), .int .i64 n] w fun e w' => e = .returned (S n) ∧ w' = w := by
  have hc := h.cells n hn
  have H := Kpt.mk (has_any B n w)
  rw [show hasB (n : Int) = true from by simp [hasB]; omega] at H
  have e1 : (0 : Int) ≤ (n : Int) := by omega
  have e2 : (n : Int) < 8 := by omega
  clear h
  go_enter Try.func20, Try.ntmps20
  go_wp2_with (go_at_call 18; refine H.out.mono ?_; rintro e w' ⟨rfl, rfl⟩)
  go_ret
  exact ⟨rfl, rfl⟩

/-- The place of the code with the least rank, the first of several, looked for from i on. -/
def bestFrom (zs : List Int) : Nat → Nat → Nat → Nat
  | 0, _, b => b
  | f + 1, i, b => bestFrom zs f (i + 1) (if rnk (zs.getD i 0) < rnk (zs.getD b 0) then i else b)
theorem best_lt (zs : List Int) : ∀ (f i b : Nat), i + f = zs.length → b < zs.length → bestFrom zs f i b < zs.length
  | 0, _, _, _, h => h
  | f + 1, i, b, h, hb => by
    unfold bestFrom
    refine best_lt zs f (i + 1) _ (by omega) ?_
    split <;> omega

set_option maxHeartbeats 2000000 in
theorem first_any (g cap : Nat) (zs : List Int) (w : World) (h0 : 0 < zs.length) (hl : zs.length ≤ 8) (hgood : ∀ c ∈ zs, 0 ≤ c ∧ c ≤ 65535) (hc : ∀ j, j < zs.length → w.cell? ⟨g, j, none⟩ = some (.int .u16 (zs.getD j 0))) :
    Calls Try.prog 21 #[.slice (some ⟨g, 0, none⟩) zs.length cap] w fun e w' => e = .returned (.int .i64 (bestFrom zs zs.length 0 0)) ∧ ∃ k, w' = w.drewN k := by
  replace hc := Kpt.mk hc
  go_enter Try.func21, Try.ntmps21
  go_wp2
  go_loopw [3, 7] (fun x t wr => ∃ (b k : Nat), k ≤ zs.length ∧ b < zs.length ∧ x = .int .i64 b ∧ t = .int .i64 k ∧ Kpt (bestFrom zs zs.length 0 0 = bestFrom zs (zs.length - k) k b) ∧ Kpt (∃ q, wr = w.drewN q)) (fun _ t _ => zs.length - (intOf t).toNat)
  case atStart => exact ⟨0, 0, Nat.zero_le _, h0, rfl, rfl, ⟨rfl⟩, ⟨0, rfl⟩⟩
  case round =>
    obtain ⟨b, k, hk, hb, rfl, rfl, hI, hW⟩ := hrel
    by_cases hlt : k < zs.length
    · have c1 : wr.cell? ⟨g, k, none⟩ = some (.int .u16 (zs.getD k 0)) := by obtain ⟨q, hq⟩ := hW.out; rw [hq]; exact hc.out k hlt
      have c2 : wr.cell? ⟨g, b, none⟩ = some (.int .u16 (zs.getD b 0)) := by obtain ⟨q, hq⟩ := hW.out; rw [hq]; exact hc.out b hb
      have g1 := getD_good hgood k
      have g2 := getD_good hgood b
      have hlk : zs.length - k = (zs.length - (k + 1)) + 1 := by omega
      have hR : Kpt (bestFrom zs zs.length 0 0 = bestFrom zs (zs.length - (k + 1)) (k + 1) (if rnk (zs.getD k 0) < rnk (zs.getD b 0) then k else b)) := ⟨by rw [hI.out, hlk, bestFrom]⟩
      obtain ⟨x, hx⟩ : ∃ x, x = zs.getD k 0 := ⟨_, rfl⟩
      obtain ⟨y, hy⟩ : ∃ y, y = zs.getD b 0 := ⟨_, rfl⟩
      rw [← hx] at c1 g1 hR
      rw [← hy] at c2 g2 hR
      have R1 : Kpt (∀ W, Calls Try.prog 24 #[.int .u16 x] W fun e w' => e = .returned (.int .i64 (rnk x)) ∧ w' = W) := ⟨fun W => rank_any x W g1⟩
      have R2 : Kpt (∀ W, Calls Try.prog 24 #[.int .u16 y] W fun e w' => e = .returned (.int .i64 (rnk y)) ∧ w' = W) := ⟨fun W => rank_any y W g2⟩
      clear hx hy hlk hI hgood
      have e1 : (k : Int) < zs.length := by omega
      have e2 : (b : Int) < zs.length := by omega
      by_cases hcmp : rnk x < rnk y
      · rw [if_pos hcmp] at hR
        go_wp2
        go_quiet ((first | (go_at_call_of 24 (Value.int .u16 x); exact Calls.quiet_of_same (R1.out _)) | (go_at_call_of 24 (Value.int .u16 y); exact Calls.quiet_of_same (R2.out _))))
        go_wp2
        go_roundw
        case rel => exact ⟨k, k + 1, by omega, hlt, rfl, by go_num, hR, ⟨by obtain ⟨q, hq⟩ := hW.out; exact ⟨_, by rw [hq, World.drewN_drewN]⟩⟩⟩
        case measure => simp [intOf]; omega
      · rw [if_neg hcmp] at hR
        go_wp2
        go_quiet ((first | (go_at_call_of 24 (Value.int .u16 x); exact Calls.quiet_of_same (R1.out _)) | (go_at_call_of 24 (Value.int .u16 y); exact Calls.quiet_of_same (R2.out _))))
        go_wp2
        go_roundw
        case rel => exact ⟨b, k + 1, by omega, hb, rfl, by go_num, hR, ⟨by obtain ⟨q, hq⟩ := hW.out; exact ⟨_, by rw [hq, World.drewN_drewN]⟩⟩⟩
        case measure => simp [intOf]; omega
    · go_wp2
      go_ret
      exact ⟨ret_int (by rw [hI.out, show zs.length - k = 0 by omega]; rfl), hW.out⟩
end Go.Proofs.Ytodppeldliliaaa
