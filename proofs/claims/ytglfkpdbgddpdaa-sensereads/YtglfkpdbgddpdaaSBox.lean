/-
  A boxed sense; copy as one operation.
-/
import Derived.Test.YtglfkpdbgddpdaaSFld
namespace Go.Proofs.Ytglfkpdbgddpdaa
open Go.RowKit
set_option linter.unusedVariables false
set_option linter.unusedSimpArgs false

/-- A sense lies in a block. -/
def Box (w : World) (b : Nat) (s : Sn) : Prop := ∀ i, w.cell? ⟨b, i, none⟩ = s.vals[i]?

theorem Box.below {w w' : World} {b n : Nat} {s : Sn} (h : Box w b s) (hb : Below n w w') (hn : b < n) : Box w' b s := fun i => (hb.cell (p := ⟨b, i, none⟩) hn).trans (h i)
theorem Box.set {w : World} {b g i : Nat} {s : Sn} {u : Value} (h : Box w b s) (hn : b ≠ g) : Box (w.setCell ⟨g, i, none⟩ u) b s := by
  intro j
  have := h j
  rw [← this]
  exact World.cell?_of_block (w := w) (a := ⟨b, j, none⟩) (Below.heap_setCell _ _ _ _ (fun e => hn (by simpa using e)))
theorem Box.drew {w : World} {b : Nat} {s : Sn} (h : Box w b s) : Box w.drew b s := h

theorem wp_copy_at {w : World} {o : Oper} {a : Act} {K : Act → World → Prop} {Q : Exit → Act → World → Prop} (d s : Operand)
    (ho : o.op = .call { callee := .builtin .copy, args := #[d, s], argTypes := #[27, 27] })
    (base g off n dLen dCap : Nat) (zs ds : List Int) (sv : Value) (hd : a.eval d = .slice (some ⟨g, off, none⟩) dLen dCap) (hs : a.eval s = sv)
    (hown : w.ownsRow base 5 1 (.slice (some ⟨g, 0, none⟩) n n) n (cels zs)) (hrd : RdAt w sv ds) (hdl : ds.length ≤ dLen) (hfit : off + ds.length ≤ n) (hpos : 0 < ds.length)
    (h : ∀ w', w'.ownsRow base 5 1 (.slice (some ⟨g, 0, none⟩) n n) n (cels (over zs off ds)) → w.grownBy w' (some g) → K (a.put o.dst (goInt ds.length)) w') : o.wp Try.prog a w K Q := by
  obtain ⟨sa, sc, rfl, hsn, hsl, hsr⟩ := hrd
  rcases hsr with h1 | ⟨b, soff, rfl, hc⟩
  · omega
  have hz : zs.length = n := by have := hown.1; simpa using this
  rcases hown.2 with ⟨hx, _⟩ | ⟨g', cap', cur, hx, hbg, hg, hnc, hcm, hcs, htake⟩
  · cases hx
  simp only [Value.slice.injEq, Option.some.injEq, Addr.mk.injEq, and_true, true_and] at hx
  obtain ⟨rfl, rfl⟩ := hx
  have hrun := run_copy_row (P := Try.prog) w 27 27 o.type 5 g off dLen dCap ⟨b, soff, none⟩ ds.length sc cur 5 (cels ds) Try.underlying27 Try.size5 hg
    (by simp only [cels_length]; exact (Nat.min_eq_left hdl).symm) (fun j u hu => by rw [Go.WideShapes.add_plain]; exact hc j u hu) (by simp; omega) (cels_one _)
  unfold Oper.wp
  simp [execOp, ho, resolve, invoke, builtin, hd, hs, hrun, Result.andThen]
  rw [cels_length] at *
  refine h _ ⟨?_, .inr ⟨g, n, _, rfl, hbg, setRow_heap w g cur _ 5 _ hg, Nat.le_refl _, hcm, ?_, ?_⟩⟩ ⟨rfl, rfl, rfl, by simp, fun j _ hk => setRow_other w g j _ (fun e => hk (by rw [e]))⟩
  · simp [over_length zs ds off (by omega), hz]
  · simp; omega
  · simp only [Nat.mul_one] at htake ⊢
    obtain ⟨R, hl⟩ : ∃ R, cur.toList = cels zs ++ R := ⟨cur.toList.drop n, by rw [← htake, List.take_append_drop]⟩
    have e1 : (cels zs ++ R).take off = (cels zs).take off := List.take_append_of_le_length (by simp; omega)
    have e2 : (cels zs ++ R).drop (off + ds.length) = (cels zs).drop (off + ds.length) ++ R := List.drop_append_of_le_length (by simp; omega)
    rw [hl, e1, e2]
    simp only [← List.append_assoc]
    rw [List.take_append_of_le_length (by simp; omega), List.take_of_length_le (by simp; omega)]
    simp [over, cels, List.map_take, List.map_drop]

theorem put_new' (g len : Nat) (zs : List Int) (i n : Nat) (x : Int) (w : World) (base : Nat) (hz : zs.length = len) (ho : w.ownsRow base 5 1 (.slice (some ⟨g, 0, none⟩) len len) len (cels zs)) (hl : len ≤ 1000) (hn1 : 1 ≤ n) (hn2 : n ≤ 8) (hi : i + n ≤ len) (hx : 0 ≤ x) (hx2 : x < 2 ^ (8 * n)) :
    Calls Try.prog 27 #[.slice (some ⟨g, 0, none⟩) len len, .int .i64 i, .int .i64 n, .int .u64 x] w fun e w' => ∃ g', e = .returned (.slice (some ⟨g', 0, none⟩) len len) ∧ New w w' (.slice (some ⟨g', 0, none⟩) len len) (B.asc zs i n x n) := by
  subst hz
  exact put_new _ zs i n x w (own_rd ho) (by omega) hn1 hn2 hi hx (by simp; rw [Int.ediv_eq_zero_of_lt hx hx2])
end Go.Proofs.Ytglfkpdbgddpdaa
