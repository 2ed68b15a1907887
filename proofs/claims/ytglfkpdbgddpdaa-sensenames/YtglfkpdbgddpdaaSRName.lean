/-
  The document's names of codes; both are alike.
-/
import Derived.Test.YtglfkpdbgddpdaaSName
import Derived.Outline
namespace Go.Proofs.Ytglfkpdbgddpdaa
open Go.RowKit
set_option linter.unusedVariables false
set_option linter.unusedSimpArgs false

def codeCells : Array Value := (codesL.map (Value.int .u16)).toArray
def nameCells : Array Value := (namesL.map Value.string).toArray

theorem codes_cell (w : World) (i : Nat) (hi : i < 22) : ((w.alloc (.cells codeCells 22)).alloc (.cells nameCells 9)).cell? ⟨w.heap.size, i, none⟩ = some (.int .u16 (codesL.getD i 0)) := by
  have h : ((w.alloc (.cells codeCells 22)).alloc (.cells nameCells 9)).cell? ⟨w.heap.size, i, none⟩ = codeCells[i]? := by simp
  rw [h, codeCells, List.getElem?_toArray, List.getElem?_map, List.getElem?_eq_getElem (show i < codesL.length from hi), List.getD_eq_getElem?_getD, List.getElem?_eq_getElem (show i < codesL.length from hi)]
  rfl
theorem names_cell (w : World) (i : Nat) (hi : i < 22) : ((w.alloc (.cells codeCells 22)).alloc (.cells nameCells 9)).cell? ⟨w.heap.size + 1, i, none⟩ = some (.string (namesL.getD i ⟨#[]⟩)) := by
  have h : ((w.alloc (.cells codeCells 22)).alloc (.cells nameCells 9)).cell? ⟨w.heap.size + 1, i, none⟩ = nameCells[i]? := by
    have := box_keep (w := w.alloc (.cells codeCells 22)) (w1 := (w.alloc (.cells codeCells 22)).alloc (.cells nameCells 9)) (cs := nameCells) (t := 9) (row := none) ⟨rfl, rfl, rfl, Nat.le_refl _, fun _ _ _ => rfl⟩ (by simp) i
    rw [← this]; simp
  rw [h, nameCells, List.getElem?_toArray, List.getElem?_map, List.getElem?_eq_getElem (show i < namesL.length from hi), List.getD_eq_getElem?_getD, List.getElem?_eq_getElem (show i < namesL.length from hi)]
  rfl

set_option maxRecDepth 100000 in
set_option maxHeartbeats 1000000 in
theorem rname_any (c : Int) (w : World) : Calls Try.prog 18 #[.int .u16 c] w fun e w' => (∃ k, k < 22 ∧ codesL.getD k 0 = c ∧ (∀ j, j < k → codesL.getD j 0 ≠ c) ∧ e = .returned (.string (namesL.getD k ⟨#[]⟩)) ∧ Below w.heap.size w w') ∨ ((∀ j, j < 22 → codesL.getD j 0 ≠ c) ∧ e = .returned (.string ⟨#[]⟩) ∧ Below w.heap.size w w') := by
  go_enter Try.func18, Try.ntmps18
  go_wp2
  change Code.wp _ _ _ _ ((w.alloc (.cells codeCells 22)).alloc (.cells nameCells 9))
  obtain ⟨W, hW⟩ : ∃ W, W = (w.alloc (.cells codeCells 22)).alloc (.cells nameCells 9) := ⟨_, rfl⟩
  rw [← hW]
  have hc : Kpt (∀ i, i < 22 → W.cell? ⟨w.heap.size, i, none⟩ = some (.int .u16 (codesL.getD i 0))) := ⟨fun i hi => by rw [hW]; exact codes_cell w i hi⟩
  have hn : Kpt (∀ i, i < 22 → W.cell? ⟨w.heap.size + 1, i, none⟩ = some (.string (namesL.getD i ⟨#[]⟩))) := ⟨fun i hi => by rw [hW]; exact names_cell w i hi⟩
  have hb : Kpt (Below w.heap.size w W) := ⟨by rw [hW]; exact ((Below.refl _ _).alloc (Nat.le_refl _) _).alloc (by simp) _⟩
  clear hW
  go_loop [5] (fun t => ∃ i : Nat, i ≤ 22 ∧ t = .int .i64 i ∧ Kpt (∀ j, j < i → codesL.getD j 0 ≠ c)) (fun t => 22 - (intOf t).toNat)
  case atStart => exact ⟨0, by omega, rfl, ⟨fun j hj => by omega⟩⟩
  case round =>
    obtain ⟨i, hi, rfl, hne⟩ := hrel
    by_cases hlt : i < 22
    · have h1 := hc.out i hlt
      have h2 := hn.out i hlt
      obtain ⟨x, hx⟩ : ∃ x, x = codesL.getD i 0 := ⟨_, rfl⟩
      obtain ⟨y, hy⟩ : ∃ y, y = namesL.getD i ⟨#[]⟩ := ⟨_, rfl⟩
      rw [← hx] at h1
      rw [← hy] at h2
      replace hx := Kpt.mk hx
      replace hy := Kpt.mk hy
      by_cases he : x = c
      · have hR : Kpt (∃ k, k < 22 ∧ codesL.getD k 0 = c ∧ (∀ j, j < k → codesL.getD j 0 ≠ c) ∧ Ending.returned (.string y) = .returned (.string (namesL.getD k ⟨#[]⟩)) ∧ Below w.heap.size w W) := ⟨i, hlt, by rw [← hx.out]; exact he, hne.out, by rw [← hy.out], hb.out⟩
        go_wp2
        go_ret
        exact .inl hR.out
      · go_wp2
        go_round
        case rel => exact ⟨i + 1, by omega, by go_num, ⟨fun j hj => by
          by_cases hji : j < i
          · exact hne.out j hji
          · obtain rfl : j = i := by omega
            rw [← hx.out]; exact he⟩⟩
        case measure => simp [intOf]; omega
    · obtain rfl : i = 22 := by omega
      go_wp2
      go_ret
      exact .inr ⟨hne.out, rfl, hb.out⟩

theorem codes_nodup : ∀ k, k < 22 → ∀ j, j < k → codesL.getD j 0 ≠ codesL.getD k 0 := by decide

theorem rname_hit (k : Nat) (hk : k < 22) (w : World) : Calls Try.prog 18 #[.int .u16 (codesL.getD k 0)] w fun e w' => e = .returned (.string (namesL.getD k ⟨#[]⟩)) ∧ Below w.heap.size w w' := by
  refine (rname_any _ w).mono ?_
  rintro e w' (⟨k', hk', he, hne, rfl, hb⟩ | ⟨hne, _, _⟩)
  · have : k' = k := by
      rcases Nat.lt_trichotomy k' k with h | h | h
      · exact absurd he (codes_nodup k hk k' h)
      · exact h
      · exact absurd rfl (hne k h)
    subst this
    exact ⟨rfl, hb⟩
  · exact absurd rfl (hne k hk)

theorem both_names (c : Int) : ∃ S, (∀ w, Calls Try.prog 17 #[.int .u16 c] w fun e w' => e = .returned (.string S) ∧ w' = w) ∧ (∀ w, Calls Try.prog 18 #[.int .u16 c] w fun e w' => e = .returned (.string S) ∧ Below w.heap.size w w') := by
  by_cases h0 : c = 0
  · subst h0
    exact ⟨_, name_0, fun w => rname_hit 0 (by decide) w⟩
  by_cases h1 : c = 3072
  · subst h1
    exact ⟨_, name_1, fun w => rname_hit 1 (by decide) w⟩
  by_cases h2 : c = 3330
  · subst h2
    exact ⟨_, name_2, fun w => rname_hit 2 (by decide) w⟩
  by_cases h3 : c = 4097
  · subst h3
    exact ⟨_, name_3, fun w => rname_hit 3 (by decide) w⟩
  by_cases h4 : c = 4098
  · subst h4
    exact ⟨_, name_4, fun w => rname_hit 4 (by decide) w⟩
  by_cases h5 : c = 4099
  · subst h5
    exact ⟨_, name_5, fun w => rname_hit 5 (by decide) w⟩
  by_cases h6 : c = 4352
  · subst h6
    exact ⟨_, name_6, fun w => rname_hit 6 (by decide) w⟩
  by_cases h7 : c = 6656
  · subst h7
    exact ⟨_, name_7, fun w => rname_hit 7 (by decide) w⟩
  by_cases h8 : c = 7424
  · subst h8
    exact ⟨_, name_8, fun w => rname_hit 8 (by decide) w⟩
  by_cases h9 : c = 8192
  · subst h9
    exact ⟨_, name_9, fun w => rname_hit 9 (by decide) w⟩
  by_cases h10 : c = 8448
  · subst h10
    exact ⟨_, name_10, fun w => rname_hit 10 (by decide) w⟩
  by_cases h11 : c = 9216
  · subst h11
    exact ⟨_, name_11, fun w => rname_hit 11 (by decide) w⟩
  by_cases h12 : c = 9472
  · subst h12
    exact ⟨_, name_12, fun w => rname_hit 12 (by decide) w⟩
  by_cases h13 : c = 9728
  · subst h13
    exact ⟨_, name_13, fun w => rname_hit 13 (by decide) w⟩
  by_cases h14 : c = 9736
  · subst h14
    exact ⟨_, name_14, fun w => rname_hit 14 (by decide) w⟩
  by_cases h15 : c = 9984
  · subst h15
    exact ⟨_, name_15, fun w => rname_hit 15 (by decide) w⟩
  by_cases h16 : c = 10496
  · subst h16
    exact ⟨_, name_16, fun w => rname_hit 16 (by decide) w⟩
  by_cases h17 : c = 10753
  · subst h17
    exact ⟨_, name_17, fun w => rname_hit 17 (by decide) w⟩
  by_cases h18 : c = 10755
  · subst h18
    exact ⟨_, name_18, fun w => rname_hit 18 (by decide) w⟩
  by_cases h19 : c = 10756
  · subst h19
    exact ⟨_, name_19, fun w => rname_hit 19 (by decide) w⟩
  by_cases h20 : c = 10757
  · subst h20
    exact ⟨_, name_20, fun w => rname_hit 20 (by decide) w⟩
  by_cases h21 : c = 12032
  · subst h21
    exact ⟨_, name_21, fun w => rname_hit 21 (by decide) w⟩
  refine ⟨⟨#[]⟩, fun w => name_none c w h0 h1 h2 h3 h4 h5 h6 h7 h8 h9 h10 h11 h12 h13 h14 h15 h16 h17 h18 h19 h20 h21, fun w => (rname_any c w).mono ?_⟩
  rintro e w' (⟨k, hk, he, _⟩ | ⟨_, rfl, hb⟩)
  · exfalso
    have hm : codesL.getD k 0 ∈ codesL := by
      rw [List.getD_eq_getElem?_getD, List.getElem?_eq_getElem (show k < codesL.length from hk)]
      exact List.getElem_mem _
    rw [he] at hm
    simp only [codesL, List.mem_cons, List.not_mem_nil, or_false] at hm
    rcases hm with hm | hm | hm | hm | hm | hm | hm | hm | hm | hm | hm | hm | hm | hm | hm | hm | hm | hm | hm | hm | hm | hm
    · exact h0 hm
    · exact h1 hm
    · exact h2 hm
    · exact h3 hm
    · exact h4 hm
    · exact h5 hm
    · exact h6 hm
    · exact h7 hm
    · exact h8 hm
    · exact h9 hm
    · exact h10 hm
    · exact h11 hm
    · exact h12 hm
    · exact h13 hm
    · exact h14 hm
    · exact h15 hm
    · exact h16 hm
    · exact h17 hm
    · exact h18 hm
    · exact h19 hm
    · exact h20 hm
    · exact h21 hm
  · exact ⟨rfl, hb⟩
end Go.Proofs.Ytglfkpdbgddpdaa
