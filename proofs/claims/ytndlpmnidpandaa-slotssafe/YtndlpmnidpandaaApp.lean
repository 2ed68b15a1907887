/-
  One change more behind those that wait: the list's memory stays, or is new.
-/
import Derived.Test.YtndlpmnidpandaaMem
namespace Go.Proofs.Ytndlpmnidpandaa
open Go.RowKit
set_option linter.unusedVariables false
set_option linter.unusedSimpArgs false

theorem Try.infoCHG : (Try.prog.info? 83).map (fun i => (i.zero, i.size, i.bytes)) = some (some (.agg #[.int .i64 0, .string ⟨#[]⟩, .string ⟨#[]⟩, .int .i64 0, .slice none 0 0]), 5, 72) := by kernel_rfl

theorem run_append_chg (w : World) (v : Value) (n : Nat) (xs : List Value) (hown : w.ownsRow 0 83 5 v n xs) (ad : Addr) (c : Nat) (news : List Value) (hl : news.length = 5)
    (hnews : ∀ j u, news[j]? = some u → w.cell? (ad.add j) = some u) (h1 : ∀ u ∈ news, u.oneCell' = true) (hb : n < 1099511627776) :
    ∃ v' w', (∀ ty, (Builtin.append_ #[68, 68] ty #[v, .slice (some ad) 1 c]).run Try.prog w = .ok v' w') ∧ w'.ownsRow 0 83 5 v' (n + 1) (xs ++ news) ∧ w.grownBy w' v.ownBlock ∧
      (v'.ownBlock = v.ownBlock ∨ ∃ g, v'.ownBlock = some g ∧ w.heap.size ≤ g) ∧ v'.oneCell' = true := by
  obtain ⟨i, hi, hz, hsize, hby⟩ := info_parts Try.infoCHG
  have hlen : (xs ++ news).length = (n + 1) * 5 := by rw [List.length_append, hown.1, hl]; omega
  have mk : ∀ old : Nat, old < n + 1 → ∀ row, (w.drew.alloc (.cells (xs.toArray ++ news.toArray ++ Builtin.zeroCells (Value.agg #[.int .i64 0, .string ⟨#[]⟩, .string ⟨#[]⟩, .int .i64 0, .slice none 0 0]).cells (grownCap w (n + 1) old 83 - (n + 1))) 83)).ownsRow 0 83 5
      (.slice (some ⟨w.heap.size, 0, none⟩) (n + 1) (grownCap w (n + 1) old 83)) (n + 1) (xs ++ news) ∧
      w.grownBy (w.drew.alloc (.cells (xs.toArray ++ news.toArray ++ Builtin.zeroCells (Value.agg #[.int .i64 0, .string ⟨#[]⟩, .string ⟨#[]⟩, .int .i64 0, .slice none 0 0]).cells (grownCap w (n + 1) old 83 - (n + 1))) 83)) row := by
    intro old ho row
    have hge := grownCap_ge w (n + 1) old 83
    have hcm : grownCap w (n + 1) old 83 ≤ maxLen := grownCap_le_maxLen w (n + 1) old 83 (by unfold maxLen; omega)
    refine ⟨⟨hlen, .inr ⟨w.heap.size, _, _, rfl, Nat.zero_le _, heap_alloc_new w.drew _, hge, hcm, ?_, ?_⟩⟩, ⟨rfl, rfl, rfl, by simp, fun j hj _ => heap_alloc_old w.drew _ hj⟩⟩
    · simp only [Array.size_append, List.size_toArray, size_zeroCells, hown.1, hl]
      simp [Value.cells]; omega
    · simp only [Array.toList_append]
      rw [List.take_append_of_le_length (by simp [hown.1, hl]; omega), List.take_of_length_le (by simp [hown.1, hl]; omega)]
  rcases hown.2 with ⟨rfl, rfl⟩ | ⟨g, cap, cur, rfl, hbg, hg, hnc, hcm, hcs, htake⟩
  · have hx : xs = [] := List.eq_nil_of_length_eq_zero (by simpa using hown.1)
    subst hx
    have hr := fun ty => run_append_nil (P := Try.prog) w 68 ty 83 i _ Try.underlying68 hi hz ad 1 c news (by rw [hl, hsize]) hnews (by omega) (by omega) (by rw [hby]; omega)
    have hm := mk 0 (by omega) (Value.ownBlock (.slice none 0 0))
    simp only [Nat.zero_add, List.nil_append, Array.empty_append] at hm ⊢
    exact ⟨_, _, hr, hm.1, hm.2, .inr ⟨_, rfl, Nat.le_refl _⟩, rfl⟩
  · by_cases hroom : n + 1 ≤ cap
    · have hr := fun ty => run_append_room (P := Try.prog) w 68 ty 83 i Try.underlying68 hi g n cap cur hg ad 1 c news (by rw [hl, hsize]) hnews h1 hroom (by rw [hl, hsize, hcs]; omega)
      refine ⟨_, _, hr, ⟨hlen, .inr ⟨g, cap, _, rfl, Nat.zero_le _, setRow_heap w g cur _ 83 _ hg, hroom, hcm, ?_, ?_⟩⟩, ⟨rfl, rfl, rfl, by simp, fun j _ hk => setRow_other w g j _ (fun e => hk (by simp [Value.ownBlock, e]))⟩, .inl rfl, rfl⟩
      · simp only [List.size_toArray, List.length_append, List.length_take, List.length_drop, Array.length_toList, hsize]
        omega
      · simp only [hsize]
        rw [htake, List.take_append_of_le_length (by simp [hown.1, hl]; omega), List.take_of_length_le (by simp [hown.1, hl]; omega)]
    · have holds : ∀ j u, xs[j]? = some u → w.cell? ((⟨g, 0, none⟩ : Addr).add j) = some u := hown.cells (g := g) rfl
      have hr := fun ty => run_append_grow (P := Try.prog) w 68 ty 83 i _ Try.underlying68 hi hz ⟨g, 0, none⟩ n cap xs (by rw [hown.1, hsize]) holds ad 1 c news (by rw [hl, hsize]) hnews (by omega) (by omega) (growslice_fits (by omega) (by rw [hby]; omega))
      have hm := mk cap (by omega) (Value.ownBlock (.slice (some ⟨g, 0, none⟩) n cap))
      exact ⟨_, _, hr, hm.1, hm.2, .inr ⟨_, rfl, Nat.le_refl _⟩, rfl⟩
end Go.Proofs.Ytndlpmnidpandaa
