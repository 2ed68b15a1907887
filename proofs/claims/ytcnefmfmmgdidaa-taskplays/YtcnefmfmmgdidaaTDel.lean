/-
  The contract of slices.Delete of one task.
-/
import Derived.Test.YtcnefmfmmgdidaaTStart
import Derived.Test.YtcnefmfmmgdidaaTOrder
import Derived.Laws.OwnMore
import Derived.Lib.SliceRun
namespace Go.Proofs.Ytcnefmfmmgdidaa
open Go.RowKit
set_option linter.unusedVariables false
set_option linter.unusedSimpArgs false

theorem wp_append_fits {w : World} {o : Oper} {a : Act} {K : Act → World → Prop} {Q : Exit → Act → World → Prop} (d s : Operand)
    (ho : o.op = .call { callee := .builtin .append, args := #[d, s], argTypes := #[34, 34] })
    (base g n cap m c : Nat) (zs ds : List Tk) (ad : Addr) (hd : a.eval d = .slice (some ⟨g, 0, none⟩) n cap) (hs : a.eval s = .slice (some ad) m c)
    (hown : w.ownsRow base 48 4 (.slice (some ⟨g, 0, none⟩) n cap) n (cels zs)) (hl : ds.length = m) (hnews : ∀ j u, (cels ds)[j]? = some u → w.cell? (ad.add j) = some u) (hroom : n + m ≤ cap)
    (h : ∀ w', w'.ownsRow base 48 4 (.slice (some ⟨g, 0, none⟩) (n + m) cap) (n + m) (cels (zs ++ ds)) → w.grownBy w' (some g) → K (a.put o.dst (.slice (some ⟨g, 0, none⟩) (n + m) cap)) w') : o.wp Try.prog a w K Q := by
  obtain ⟨i0, hi0, hz0, hz1, hz2⟩ := info_parts Try.info48
  obtain ⟨w', hrun, ho', hg'⟩ := run_append_fits (P := Try.prog) (w := w) base 34 o.type 48 i0 4 Try.underlying34 hi0 hz1 g n cap (cels zs) hown ad m c (cels ds) (by rw [cels_length, hl]) hnews (cels_one _) hroom
  unfold Oper.wp
  simp [execOp, ho, resolve, invoke, builtin, hd, hs, hrun, Result.andThen]
  exact h w' (by rw [cels_append]; exact ho') hg'

theorem cels_take : ∀ (zs : List Tk) (k : Nat), (cels zs).take (k * 4) = cels (zs.take k)
  | _, 0 => by simp [cels]
  | [], k + 1 => by simp [cels]
  | t :: r, k + 1 => by
    rw [List.take_succ_cons, cels_cons, cels_cons, ← cels_take r k, List.take_append, List.take_of_length_le (by simp; omega)]
    congr 2
    simp
    omega
theorem cels_drop : ∀ (zs : List Tk) (k : Nat), (cels zs).drop (k * 4) = cels (zs.drop k)
  | _, 0 => by simp
  | [], k + 1 => by simp [cels]
  | t :: r, k + 1 => by
    rw [List.drop_succ_cons, cels_cons, ← cels_drop r k, List.drop_append, List.drop_of_length_le (by simp; omega), List.nil_append]
    congr 1
    simp
    omega
theorem own_take {base : Nat} {w : World} {g n cap : Nat} {zs : List Tk} (h : w.ownsRow base 48 4 (.slice (some ⟨g, 0, none⟩) n cap) n (cels zs)) (k : Nat) (hk : k ≤ n) : w.ownsRow base 48 4 (.slice (some ⟨g, 0, none⟩) k cap) k (cels (zs.take k)) := by
  have hz : zs.length = n := by have := h.1; rw [cels_length] at this; omega
  rcases h.2 with ⟨hx, _⟩ | ⟨g', cap', cur, hx, hb, hg, hc, hm, hs, ht⟩
  · cases hx
  · simp only [Value.slice.injEq, Option.some.injEq, Addr.mk.injEq, and_true, true_and] at hx
    obtain ⟨rfl, rfl⟩ := hx
    refine ⟨by rw [cels_length, List.length_take]; omega, .inr ⟨g, cap, cur, rfl, hb, hg, by omega, hm, hs, ?_⟩⟩
    have e : cur.toList.take (k * 4) = (cur.toList.take (n * 4)).take (k * 4) := by rw [List.take_take, Nat.min_eq_left (by omega)]
    rw [e, ht, cels_take]

theorem zero48 (w : World) : (zeroValue 48).run Try.prog w = .ok (.agg #[.int .i64 0, .int .u32 0, .int .u8 0, .bool false]) w := by
  obtain ⟨i0, hi0, hz0, _⟩ := info_parts Try.info48
  simp [zeroValue, typeInfo, hi0, hz0]
abbrev zeroT : List Value := [.int .i64 0, .int .u32 0, .int .u8 0, .bool false]
theorem run_clear_task (w : World) (ty : TypeId) (g o c : Nat) (hc : ∀ j, j < 4 → (w.cell? ⟨g, o + j, none⟩).isSome = true) (hf : ∀ j, j < 4 → w.frozen? ⟨g, o + j, none⟩ = false) :
    Sem.run Try.prog (Builtin.clear_ #[34] ty #[.slice (some ⟨g, o, none⟩) 1 c]) w = .ok (.tuple #[]) (w.setCells g o zeroT) := by
  have hst := run_storeCells_cells (P := Try.prog) g o zeroT 0 w (by simpa using hc) (by simpa using hf) (by intro v hv; simp [zeroT] at hv; rcases hv with rfl | rfl | rfl | rfl <;> rfl)
  simp only [Nat.add_zero] at hst
  have hzc : (Builtin.zeroCells (Value.agg #[.int .i64 0, .int .u32 0, .int .u8 0, .bool false]).cells 1).toList = zeroT := by first | kernel_rfl | simp [Builtin.zeroCells, Value.cells, zeroT] | decide
  simp [Builtin.clear_, run_underlying Try.underlying34, zero48, hzc, hst]

theorem own_room {base : Nat} {w : World} {g n cap : Nat} {xs : List Value} (h : w.ownsRow base 48 4 (.slice (some ⟨g, 0, none⟩) n cap) n xs) (j : Nat) (hj : j < cap * 4) : (w.cell? ⟨g, j, none⟩).isSome = true := by
  rcases h.2 with ⟨h', _⟩ | ⟨g', cap', cur, h', _, hg, _, _, hs, htake⟩
  · simp at h'
  · simp only [Value.slice.injEq, Option.some.injEq, Addr.mk.injEq, and_true, true_and] at h'
    obtain ⟨rfl, rfl⟩ := h'
    rw [cell_of_row w g j cur 48 (0, 0) hg]
    have : j < cur.size := by omega
    simp [this]
theorem own_behind {base : Nat} {g n cap : Nat} {xs : List Value} : ∀ (vs : List Value) (o : Nat) (w : World), n * 4 ≤ o → w.ownsRow base 48 4 (.slice (some ⟨g, 0, none⟩) n cap) n xs → (w.setCells g o vs).ownsRow base 48 4 (.slice (some ⟨g, 0, none⟩) n cap) n xs ∧ w.grownBy (w.setCells g o vs) (some g)
  | [], _, w, _, h => ⟨h, ⟨rfl, rfl, rfl, Nat.le_refl _, fun _ _ _ => rfl⟩⟩
  | v :: r, o, w, ho, h => by
    obtain ⟨h1, h2⟩ := h.stored o v
    rw [List.set_eq_of_length_le (by rw [h.1]; exact ho)] at h1
    obtain ⟨h3, h4⟩ := own_behind r (o + 1) (w.setCell ⟨g, o, none⟩ v) (by omega) h1
    exact ⟨h3, World.grownBy.trans h2 h4⟩
end Go.Proofs.Ytcnefmfmmgdidaa
