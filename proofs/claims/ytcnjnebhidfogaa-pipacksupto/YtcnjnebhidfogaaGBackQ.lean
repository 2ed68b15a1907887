/-
  PiBack: the walk.
-/
import Derived.Test.YtcnjnebhidfogaaGBackP
namespace Go.Proofs.Ytcnjnebhidfogaa
open Go.RowKit
set_option linter.unusedVariables false
set_option linter.unusedSimpArgs false

theorem Bks.below {w w' : World} {v : Value} {bs : List Bk} (h : Bks w v bs) (hb : Below w.heap.size w w') : Bks w' v bs := by
  obtain ⟨a, c, e, hm, h⟩ := h
  refine ⟨a, c, e, hm, fun j b hj => ?_⟩
  obtain ⟨h1, g, o, h2, h3, h4⟩ := h j b hj
  exact ⟨h1, g, o, h2, Nat.lt_of_lt_of_le h3 hb.size, rangeAt_keep h4 (hb.block g h3)⟩
def blk (bs : List Bk) (j : Nat) : Bk := (bs[j]?).getD ⟨[], 0, 0, 0⟩
theorem blk_at (bs : List Bk) (j : Nat) (hj : j < bs.length) : bs[j]? = some (blk bs j) := by
  unfold blk
  rw [List.getElem?_eq_getElem hj]
  rfl
theorem rows_of_bks {w : World} {a : Option Addr} {n cp : Nat} {bs : List Bk} (h : Bks w (.slice a n cp) bs) (hl : bs.length = n) : Rows w a n (blk bs) := by
  intro j hj
  obtain ⟨a', c, e, hm, h⟩ := h
  simp only [Value.slice.injEq] at e
  obtain ⟨rfl, _, _⟩ := e
  exact h j _ (blk_at bs j (by omega))
theorem rows_of_heap {w : World} {g m : Nat} {c : Bool} {zs : List Int} {bl : Nat → Bk} (hb : Bytes zs) (hl : zs.length = m * sz c) (hg : w.heap[g]? = some (.cells (unL c zs m).toArray 33 (0, 0))) (he : ∀ j, j < m → unB c zs j = bl j) : Rows w (some ⟨g, 0, none⟩) m bl := by
  intro j hj
  rw [← he j hj]
  refine ⟨unB_ok c zs j m hb hl hj, g, 0, rfl, (Array.getElem?_eq_some_iff.1 hg).1, ?_⟩
  rw [Nat.zero_add]
  exact range_of_heap hg _ _ (fun i u hu => unL_range c zs m hb hl m (Nat.le_refl _) j hj i u hu)
theorem Rows.below {w w' : World} {a : Option Addr} {n : Nat} {bl : Nat → Bk} (h : Rows w a n bl) (hb : Below w.heap.size w w') : Rows w' a n bl := by
  intro j hj
  obtain ⟨h1, g, o, h2, h3, h4⟩ := h j hj
  exact ⟨h1, g, o, h2, Nat.lt_of_lt_of_le h3 hb.size, rangeAt_keep h4 (hb.block g h3)⟩
theorem range_data {W : World} {g q : Nat} {b : Bk} (h : W.rangeAt g q b.cs) : W.rangeAt g q (cels b.d) := fun j v hv => h j v (by
  rw [Bk.cs, List.getElem?_append_left (List.getElem?_eq_some_iff.1 hv).1]; exact hv)
theorem range_tup {W : World} {g q : Nat} {b : Bk} (h : W.rangeAt g q b.cs) (hb : b.ok) : W.rangeAt g (q + 16) [.int .u16 b.g, .int .u16 b.a, .int .u32 b.r] := fun j v hv => by
  have := h (16 + j) v (by rw [Bk.cs, List.getElem?_append_right (by simp [hb.len])]; simp only [cels_length, hb.len, Nat.add_sub_cancel_left]; exact hv)
  rw [← Nat.add_assoc] at this
  exact this
theorem exec_load_mid {W : World} {o : Oper} {a : Act} (ty : TypeId) (x : Operand) (ho : o.op = .load ty x) (g q : Nat) (cs : List Value) (V : Array Value) (hV : V = cs.toArray) (hx : a.eval x = .pointer (some ⟨g, q, none⟩)) (hB : W.rangeAt g q cs) (d : TypeDesc)
    (hu : Try.prog.underlying ty = some d) (hd : d.isRow = true) (hi : (Try.prog.info? ty).map (·.size) = some cs.length) :
    (execOp a.eval o).run Try.prog W = .ok (.value (.agg V)) W := by
  subst hV
  have := run_loadAt_mid (P := Try.prog) W g q ty cs d hB hu hd hi
  unfold execOp
  simp only [ho, hx]
  simp [this]
theorem arr_equal (d : List Int) (hd : d.length = 16) (w : World) : (Op.equalIn 10000 23 (.agg (cels d).toArray) (.agg (cels d).toArray)).run Try.prog w = .ok true w := by
  obtain ⟨i, hi⟩ := info_of_underlying Try.underlying5
  rw [run_equalIn_array w 9999 _ _ Try.underlying23 hi, show Try.prog.cellsOf 5 = 1 from by kernel_rfl]
  refine items_same w 9998 _ _ (fun j hj => ?_)
  have hj' : j < 16 := by simpa using hj
  refine ⟨d.getD j 0, ?_⟩
  rw [List.getElem?_toArray]
  unfold cels
  rw [List.getElem?_map, List.getElem?_eq_getElem (by omega), List.getD_eq_getElem?_getD, List.getElem?_eq_getElem (by omega)]
  rfl
theorem exec_neq_arr {W : World} {o : Oper} {a : Act} (x y : Operand) (ho : o.op = .binOp .neq 23 x y 23) (d : List Int) (V : Array Value) (hV : V = (cels d).toArray) (h : d.length = 16) (hx : a.eval x = .agg V) (hy : a.eval y = .agg V) :
    (execOp a.eval o).run Try.prog W = .ok (.value (.bool false)) W := by
  subst hV
  unfold execOp
  simp only [ho, hx, hy]
  have hg := run_eqGuard_agg (P := Try.prog) W .neq 23 x y (cels d).toArray (cels d).toArray (by kernel_rfl)
  have he := arr_equal d h W
  simp [hg, run_neq_struct, he]
end Go.Proofs.Ytcnjnebhidfogaa
