/-
  The contracts of Regs and others.
-/
import Derived.Test.YtmnoolcffkjmhaaPTab
import Derived.ChangeKeysEq
namespace Go.Proofs.Ytmnoolcffkjmhaa
open Go.RowKit
set_option linter.unusedVariables false
set_option linter.unusedSimpArgs false

/-- The keys as the values of an array. -/
def keyL (f : Nat → Int) : List Value := [.int .u64 (f 0), .int .u64 (f 1), .int .u64 (f 2), .int .u64 (f 3), .int .u64 (f 4), .int .u64 (f 5), .int .u64 (f 6), .int .u64 (f 7)]
theorem keyL_at (f : Nat → Int) (k : Nat) (hk : k < 8) : (keyL f).toArray[k]? = some (.int .u64 (f k)) := by
  obtain rfl | rfl | rfl | rfl | rfl | rfl | rfl | rfl : k = 0 ∨ k = 1 ∨ k = 2 ∨ k = 3 ∨ k = 4 ∨ k = 5 ∨ k = 6 ∨ k = 7 := by omega
  all_goals rfl
theorem Tab.range {w : World} {B : Nat} {t : Tb} (h : Tab w B t) : w.rangeAt B 0 (keyL t.ks) := fun j v hv => by
  have hj : j < 8 := by have := (List.getElem?_eq_some_iff.1 hv).1; simpa [keyL] using this
  have := keyL_at t.ks j hj
  rw [List.getElem?_toArray] at this
  rw [Nat.zero_add, h.key j hj, ← hv, this]
theorem run_index_arr (A : Array Value) (k : Nat) (hk : k < 8) (x : Int) (hA : A[k]? = some (.int .u64 x)) (w : World) : (Instr.index 28 (.agg A) (.int .i64 k)).run Try.prog w = .ok (.int .u64 x) w := by
  obtain ⟨i, hi⟩ := info_of_underlying Try.underlying27
  have hp := run_part_plain (P := Try.prog) w (e := 27) (off := k) (xs := A) (v := .int .u64 x) (by kernel_rfl) hA
  have hs : (sizeOf 27).run Try.prog w = .ok 1 w := by rw [run_sizeOf w hi, show Try.prog.cellsOf 27 = 1 from by kernel_rfl]
  have h2 : (0 : Int) ≤ k ∧ (k : Int) < 8 := by omega
  simp [Instr.index, asIntOf, run_underlying Try.underlying28, h2, go_sem, hs, hp, hk, hA]

/-- The registrations among the first k. -/
def regsTo (f : Nat → Int) : Nat → List (Int × Int)
  | 0 => []
  | k + 1 => regsTo f k ++ if f k ≠ 0 then [((k : Int), f k)] else []
def Tb.regs (t : Tb) : List (Int × Int) := regsTo t.ks 8
theorem regsTo_len (f : Nat → Int) : ∀ k, (regsTo f k).length ≤ k
  | 0 => Nat.le_refl _
  | k + 1 => by
    unfold regsTo
    rw [List.length_append]
    have := regsTo_len f k
    split <;> simp <;> omega
theorem regs_len (t : Tb) : t.regs.length ≤ 8 := regsTo_len t.ks 8

set_option maxRecDepth 100000 in
set_option maxHeartbeats 2000000 in
theorem regs_any (B : Nat) (t : Tb) (w : World) (h : Tab w B t) :
    Calls Try.prog 19 #[.pointer (some ⟨B, 0, none⟩)] w fun e w' => ∃ v, e = .returned v ∧ Own .u64 67 w.heap.size w' v t.regs ∧ Below w.heap.size w w' := by
  have hra := Kpt.mk h.range
  have hlt := h.lt
  unfold Tb.regs
  obtain ⟨A, hA⟩ : ∃ A, A = (keyL t.ks).toArray := ⟨_, rfl⟩
  have hix : Kpt (∀ k, k < 8 → A[k]? = some (.int .u64 (t.ks k))) := ⟨fun k hk => by rw [hA]; exact keyL_at t.ks k hk⟩
  generalize t.ks = f at *
  clear h
  replace hA := Kpt.mk hA
  go_enter Try.func19, Try.ntmps19
  go_wp2_with (refine wpList_load_mid rfl 28 (.tmp 10) rfl B 0 rfl (keyL f) _ hra.out Try.underlying28 rfl Try.infoARR ?_; rw [← hA.out])
  go_loopw [3, 12] (fun r t wr => ∃ (k : Nat) (x : Value), k ≤ 8 ∧ r = x ∧ t = .int .i64 k ∧ Kpt (Own .u64 67 w.heap.size wr x (regsTo f k)) ∧ Kpt (Below w.heap.size w wr)) (fun _ t _ => 8 - (intOf t).toNat)
  case atStart => exact ⟨0, _, Nat.zero_le _, rfl, rfl, ⟨own_nil _ _ _ _⟩, ⟨Below.refl _ _⟩⟩
  case round =>
    obtain ⟨k, x, hk, hx0, rfl, hO, hB⟩ := hrel
    replace hx0 := hx0.symm
    subst hx0
    by_cases hlt2 : k < 8
    · have e1 : (k : Int) < 8 := by omega
      have hi := run_index_arr A k hlt2 (f k) (hix.out k hlt2)
      have hst : Kpt (regsTo f (k + 1) = regsTo f k ++ if f k ≠ 0 then [((k : Int), f k)] else []) := ⟨rfl⟩
      have hl := Kpt.mk (regsTo_len f k)
      generalize f k = y at *
      have hsz : w.heap.size ≤ wr.heap.size := hB.out.size
      by_cases hy : y = 0
      · subst hy
        go_wp2
        go_roundw
        case rel => exact ⟨k + 1, x, by omega, rfl, by go_num, ⟨by rw [hst.out]; simpa using hO.out⟩, hB⟩
        case measure => simp [intOf]; omega
      · go_wp2_with (at_builtin; go_must (refine wpList_append_row (κ := .u64) Try.underlying61 Try.infoRG rfl (by decide) rfl (.tmp 18) (.tmp 22) rfl w.heap.size x _ (regsTo f k) [((k : Int), y)] rfl rfl (rowOf_new .u64 wr ((k : Int), y) _) (hO.out.of_block (fun g hg => Below.heap_alloc _ _ _ (hO.out.lt hg).2)) (by have := hl.out; simp; omega) (by simp; omega) ?_; intro v' w3 ho3 hg3 hor))
        have hB3 : Kpt (Below w.heap.size w w3) := ⟨(hB.out.alloc hB.out.size _).grown hg3.out (by simp; omega) (fun k hk => (hO.out.lt hk).1)⟩
        go_wp2
        go_roundw
        case rel => exact ⟨k + 1, v', by omega, rfl, by go_num, ⟨by rw [hst.out]; simpa [hy] using ho3.out⟩, hB3⟩
        case measure => simp [intOf]; omega
    · have e1 : ¬ (k : Int) < 8 := by omega
      have ek : k = 8 := by omega
      go_wp2
      go_ret
      exact ⟨x, rfl, by rw [← ek]; exact hO.out, hB.out⟩
end Go.Proofs.Ytmnoolcffkjmhaa
