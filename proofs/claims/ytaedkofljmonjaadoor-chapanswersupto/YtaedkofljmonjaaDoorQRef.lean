/-
  Contracts of the document's constants and turn to the left.
-/
import Derived.Test.YtaedkofljmonjaaDoorQMix
import Derived.Test.YtaedkofljmonjaaDoorQEnd
namespace Go.Proofs.YtaedkofljmonjaaDoor
open Go.RowKit
set_option linter.unusedVariables false
set_option linter.unusedSimpArgs false

theorem info37 : (Tryd.prog.info? 37).map (fun i => (i.zero, i.size, i.bytes)) = some (some (.int .u32 0), 1, 4) := by kernel_rfl

theorem own_bx {w : World} {base g n c : Nat} {e : TypeId} {xs : List Value} (h : w.ownsRow base e 1 (.slice (some ⟨g, 0, none⟩) n c) n xs) : Bx w g xs.toArray := by
  refine ⟨(World.ownsRow.lt h g rfl).2, fun j hj => ?_, fun j => ?_⟩
  · have hj' : j < xs.length := by simpa using hj
    have := World.ownsRow.cells h (g := g) rfl j xs[j] (by rw [List.getElem?_eq_getElem hj'])
    rw [Go.WideShapes.add_plain, Nat.zero_add] at this
    rw [this]; simp
  · rcases h.2 with ⟨hx, _⟩ | ⟨g', cap', cur, hx, hbg, hg, _⟩
    · cases hx
    · simp only [Value.slice.injEq, Option.some.injEq, Addr.mk.injEq, and_true, true_and] at hx
      obtain ⟨rfl, rfl⟩ := hx
      simp [World.frozen?, hg]

/-- The constants as cells; the first k of them laid. -/
def kV (k : Nat) : Array Value := ((List.range 64).map fun j => Value.int .u32 (if j < k then (kL.getD j 0 : Int) else 0)).toArray
def bV : Array Value := ((List.range 64).map fun j => Value.int .u32 (kL.getD (63 - j) 0 : Int)).toArray
theorem kV_size (k : Nat) : (kV k).size = 64 := by simp [kV]
theorem kV_at (k j : Nat) (hj : j < 64) : (kV k)[j]? = some (.int .u32 (if j < k then (kL.getD j 0 : Int) else 0)) := by simp [kV, hj]
theorem bV_at (j : Nat) (hj : j < 64) : bV[j]? = some (.int .u32 (kL.getD (63 - j) 0 : Int)) := by simp [bV, hj]
theorem kV_succ (k : Nat) (hk : k < 64) : (kV k).setIfInBounds k (.int .u32 (kL.getD k 0 : Int)) = kV (k + 1) := by
  apply Array.ext (by simp [kV])
  intro j h1 h2
  have hj : j < 64 := by simpa [kV] using h2
  simp only [kV, List.setIfInBounds_toArray, List.getElem_toArray, List.getElem_set, List.getElem_map, List.getElem_range]
  by_cases e : k = j
  · subst e; simp
  · simp only [e, if_false]
    by_cases h : j < k
    · simp [h, show j < k + 1 by omega]
    · simp [h, show ¬ j < k + 1 by omega]
theorem kV_zero : (madeCells (Value.int .u32 0).cells (64 * 1)) = kV 0 := by kernel_rfl

set_option maxRecDepth 100000 in
set_option maxHeartbeats 1000000 in
theorem rconst_any (w : World) : Calls Tryd.prog 21 #[] w fun e w' => ∃ g, e = .returned (.slice (some ⟨g, 0, none⟩) 64 64) ∧ Bx w' g (kV 64) ∧ w.heap.size ≤ g ∧ Below w.heap.size w w' := by
  obtain ⟨i0', hi0, hz0, hz1, hz2⟩ := info_parts info37
  have hnm : 64 ≤ maxLen := by unfold maxLen; omega
  go_enter Tryd.func21, Tryd.ntmps21
  go_wp2_with (first
    | (at_make; have hm := m1; go_must (refine wpList_make_full _ rfl _ _ 46 rfl w1.heap.size 37 i0' (.int .u32 0) 1 Tryd.underlying46 hi0 hz0 hz1 .i64 .i64 _ _ 64 rfl rfl rfl rfl (by rw [hz2]; omega) hnm (Nat.le_refl _) ?_; intro w2 hown2 hg2; have hb2 : Kpt (Below w.heap.size w w2) := ⟨hb1.out.grown hg2 hb1.out.size (fun k h => by cases h)⟩; have hX2 : Kpt (Bx w2 w1.heap.size (kV 0)) := ⟨by have := own_bx hown2; rw [Array.toArray_toList, kV_zero] at this; exact this⟩; have hX1' : Kpt (Bx w2 w.heap.size bV) := ⟨hX1.out.grown hg2 (by simp)⟩; clear hown2 hg2 hX1 hb1 hm m1))
    | (refine (?_ : wpList _ _ _ (Oper.mk (some 4) _ _ _ _ _ :: _) _ _); go_must (refine wpList_of_exec (v := .slice (some ⟨w.heap.size, 0, none⟩) 64 64) (w1 := w.alloc (.cells bV 37)) rfl (by kernel_rfl) ?_; obtain ⟨w1, hw1⟩ : ∃ w1, w.alloc (.cells bV 37) = w1 := ⟨_, rfl⟩; have hX1 : Kpt (Bx w1 w.heap.size bV) := ⟨by rw [← hw1]; exact bx_new w bV 37⟩; have hb1 : Kpt (Below w.heap.size w w1) := ⟨by rw [← hw1]; exact (Below.refl _ w).alloc (Nat.le_refl _) _⟩; have hs1 : Kpt (w.heap.size < w1.heap.size) := ⟨hX1.out.lt⟩; rw [hw1]; clear hw1; have m1 : Kpt True := ⟨trivial⟩)))
  go_loopw [3] (fun t wr => ∃ k : Nat, k ≤ 64 ∧ t = .int .i64 k ∧ Kpt (Bx wr w1.heap.size (kV k)) ∧ Kpt (Bx wr w.heap.size bV) ∧ Kpt (Below w.heap.size w wr)) (fun t _ => 64 - (intOf t).toNat)
  case atStart => exact ⟨0, by omega, rfl, hX2, hX1', hb2⟩
  case round =>
    obtain ⟨k, hk, rfl, hX, hY, hb⟩ := hrel
    clear hX2 hX1' hb2
    by_cases hlt : k < 64
    · have hc : wr.cell? ⟨w.heap.size, 63 - k, none⟩ = some (.int .u32 (kL.getD k 0 : Int)) := by
        rw [hY.out.cells (63 - k) (by simp [bV]; omega), bV_at _ (by omega), show 63 - (63 - k) = k by omega]
      have hd : wr.cell? ⟨w1.heap.size, k, none⟩ = some (.int .u32 0) := by
        rw [hX.out.cells k (by rw [kV_size]; exact hlt), kV_at _ _ hlt, if_neg (by omega)]
      have hf : wr.frozen? ⟨w1.heap.size, k, none⟩ = false := hX.out.free k
      have hs := Kpt.mk (kV_succ k hlt)
      generalize kL.getD k 0 = q at hc hs
      go_wp2
      refine ⟨⟨k + 1, by omega, by simp, ⟨?_⟩, ⟨hY.out.grown (grown_setCellK _ _ _) (by have := hs1.out; simp; omega)⟩, ⟨hb.out.setCell (p := ⟨w1.heap.size, k, none⟩) (by have := hs1.out; simp; omega) _⟩⟩, by simp [intOf]; omega⟩
      have := bx_setCell (.int .u32 (q : Int)) hX.out (j := k) (by rw [kV_size]; exact hlt)
      rwa [hs.out] at this
    · obtain rfl : k = 64 := by omega
      go_wp2
      go_ret
      exact ⟨_, rfl, hX.out, Nat.le_of_lt hs1.out, hb.out⟩

set_option maxRecDepth 100000 in
theorem rleft_any (x n : Nat) (w : World) (hx : x < 4294967296) (hn : n < 32) :
    Calls Tryd.prog 22 #[.int .u32 (x : Int), .int .i64 (n : Int)] w fun e w' => e = .returned (.int .u32 (rotN x n : Int)) ∧ ∃ k, w' = w.drewN k := by
  generalize hF : rotN x n = F
  replace hF := Kpt.mk hF
  go_enter Tryd.func22, Tryd.ntmps22
  go_wp2
  go_quiet (fail)
  go_wp2
  go_ret
  exact ⟨ret_int (by rw [rot_eq x n hx, hF.out]), _, rfl⟩
end Go.Proofs.YtaedkofljmonjaaDoor
