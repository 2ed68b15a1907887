/-
  AttnFull: the lists alone.
-/
import Derived.Test.YtodppeldliliaaaAAwake
namespace Go.Proofs.Ytodppeldliliaaa
open Go.RowKit
set_option linter.unusedVariables false
set_option linter.unusedSimpArgs false

/-- What waits behind i codes from x on. -/
def fl (x : Int) (i : Nat) : List Int := (List.range (min i 8)).map (fun (j : Nat) => x + (j : Int))

theorem fl_zero (x : Int) : fl x 0 = [] := rfl
theorem fl_step (x : Int) (i : Nat) (hx : 12288 ≤ x) : addL (fl x i) (x + i) = fl x (i + 1) := by
  unfold addL
  rw [if_neg (by omega)]
  by_cases h8 : 8 ≤ i
  · rw [if_pos (.inl (by simp [fl]; omega))]
    unfold fl
    rw [Nat.min_eq_right h8, Nat.min_eq_right (by omega)]
  · have e1 : min i 8 = i := by omega
    have e2 : min (i + 1) 8 = i + 1 := by omega
    rw [if_neg]
    · unfold fl
      rw [e1, e2, List.range_succ, List.map_append]
      rfl
    · unfold fl
      rw [e1]
      rintro (h | h)
      · simp at h; omega
      · simp only [List.mem_map, List.mem_range] at h
        obtain ⟨a, ha, hb⟩ := h
        omega
theorem fl_end (x : Int) : fl x 12 = [x, x + 1, x + 2, x + 3, x + 4, x + 5, x + 6, x + 7] := by
  simp [fl, List.range_succ]

theorem rnk_high (c : Int) (h : 12288 ≤ c) : rnk c = 3 := by
  unfold rnk
  rw [if_neg (by omega), if_neg (by omega), if_neg (by omega)]

theorem full_first (x : Int) (hx : 12288 ≤ x) : bestAt (fl x 12) = 0 ∧ bestC (fl x 12) = x := by
  have r0 := rnk_high x hx
  have r1 := rnk_high (x + 1) (by omega)
  have r2 := rnk_high (x + 2) (by omega)
  have r3 := rnk_high (x + 3) (by omega)
  have r4 := rnk_high (x + 4) (by omega)
  have r5 := rnk_high (x + 5) (by omega)
  have r6 := rnk_high (x + 6) (by omega)
  have r7 := rnk_high (x + 7) (by omega)
  rw [fl_end]
  constructor <;> simp [bestAt, bestC, bestFrom, r0, r1, r2, r3, r4, r5, r6, r7]

def flB (x : Int) : List Int := [x + 1, x + 2, x + 3, x + 4, x + 5, x + 6, x + 7, 12032]
theorem full_room (x : Int) (hx : 12288 ≤ x) : addL ((fl x 12).eraseIdx 0) 12032 = flB x := by
  rw [fl_end]
  unfold addL flB
  rw [if_neg (by decide), if_neg]
  · rfl
  · simp
    omega
theorem full_peek (x : Int) (hx : 12288 ≤ x) : bestC (flB x) = 12032 := by
  have r1 := rnk_high (x + 1) (by omega)
  have r2 := rnk_high (x + 2) (by omega)
  have r3 := rnk_high (x + 3) (by omega)
  have r4 := rnk_high (x + 4) (by omega)
  have r5 := rnk_high (x + 5) (by omega)
  have r6 := rnk_high (x + 6) (by omega)
  have r7 := rnk_high (x + 7) (by omega)
  have r8 : rnk 12032 = 1 := by decide
  simp [flB, bestC, bestFrom, r1, r2, r3, r4, r5, r6, r7, r8]
theorem full_more (x : Int) : addL (flB x) 12033 = flB x := by
  unfold addL
  rw [if_neg (by decide), if_pos (.inl (by simp [flB]))]
end Go.Proofs.Ytodppeldliliaaa
