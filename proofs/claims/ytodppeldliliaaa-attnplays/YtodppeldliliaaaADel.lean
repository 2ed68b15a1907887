/-
  The contract of slices.Delete of one code.
-/
import Derived.Test.YtodppeldliliaaaAAddM
import Derived.Laws.OwnMore
import Derived.Lib.SliceRun
namespace Go.Proofs.Ytodppeldliliaaa
open Go.RowKit
set_option linter.unusedVariables false
set_option linter.unusedSimpArgs false

theorem wp_append_fits {w : World} {o : Oper} {a : Act} {K : Act → World → Prop} {Q : Exit → Act → World → Prop} (d s : Operand)
    (ho : o.op = .call { callee := .builtin .append, args := #[d, s], argTypes := #[27, 27] })
    (base g n cap m c : Nat) (zs ds : List Int) (ad : Addr) (hd : a.eval d = .slice (some ⟨g, 0, none⟩) n cap) (hs : a.eval s = .slice (some ad) m c)
    (hown : w.ownsRow base 31 1 (.slice (some ⟨g, 0, none⟩) n cap) n (cels zs)) (hl : ds.length = m) (hnews : ∀ j u, (cels ds)[j]? = some u → w.cell? (ad.add j) = some u) (hroom : n + m ≤ cap)
    (h : ∀ w', w'.ownsRow base 31 1 (.slice (some ⟨g, 0, none⟩) (n + m) cap) (n + m) (cels (zs ++ ds)) → w.grownBy w' (some g) → K (a.put o.dst (.slice (some ⟨g, 0, none⟩) (n + m) cap)) w') : o.wp Try.prog a w K Q := by
  obtain ⟨i0, hi0, hz0, hz1, hz2⟩ := info_parts Try.info31
  obtain ⟨w', hrun, ho', hg'⟩ := run_append_fits (P := Try.prog) (w := w) base 27 o.type 31 i0 1 Try.underlying27 hi0 hz1 g n cap (cels zs) hown ad m c (cels ds) (by simp [hl]) hnews (cels_one _) hroom
  unfold Oper.wp
  simp [execOp, ho, resolve, invoke, builtin, hd, hs, hrun, Result.andThen]
  exact h w' (by rw [cels_append]; exact ho') hg'

theorem own_take {base : Nat} {w : World} {g n cap : Nat} {zs : List Int} (h : w.ownsRow base 31 1 (.slice (some ⟨g, 0, none⟩) n cap) n (cels zs)) (k : Nat) (hk : k ≤ n) : w.ownsRow base 31 1 (.slice (some ⟨g, 0, none⟩) k cap) k (cels (zs.take k)) := by
  have hz : zs.length = n := by have := h.1; simpa using this
  rcases h.2 with ⟨hx, _⟩ | ⟨g', cap', cur, hx, hb, hg, hc, hm, hs, ht⟩
  · cases hx
  · simp only [Value.slice.injEq, Option.some.injEq, Addr.mk.injEq, and_true, true_and] at hx
    obtain ⟨rfl, rfl⟩ := hx
    refine ⟨by simp; omega, .inr ⟨g, cap, cur, rfl, hb, hg, by omega, hm, hs, ?_⟩⟩
    simp only [Nat.mul_one] at ht ⊢
    have e : cur.toList.take k = (cur.toList.take n).take k := by rw [List.take_take, Nat.min_eq_left hk]
    rw [e, ht]
    simp [cels, List.map_take]
end Go.Proofs.Ytodppeldliliaaa
