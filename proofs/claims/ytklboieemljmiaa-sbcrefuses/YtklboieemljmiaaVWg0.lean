/-
  The contract of writeSame, of a block that came, in all ways.
-/
import Derived.Test.YtklboieemljmiaaVRz
import Derived.Test.YtklboieemljmiaaVWu
namespace Go.Proofs.Ytklboieemljmiaa
open Go.RowKit
set_option linter.unusedVariables false
set_option linter.unusedSimpArgs false
theorem items_difU (w : World) (d : Nat) (xs ys : Array Value) : ∀ is : List Nat, (∀ i ∈ is, ∃ x y, xs[i]? = some (.int .u8 x) ∧ ys[i]? = some (.int .u8 y)) → (∃ i ∈ is, xs[i]? ≠ ys[i]?) → (Op.eqItems (d + 1) 5 1 xs ys is).run Try.prog w = .ok false w
  | [], _, h2 => by obtain ⟨i, hi, _⟩ := h2; cases hi
  | i :: is, h, h2 => by
    obtain ⟨x, y, hx, hy⟩ := h i (by simp)
    have hp := run_part_plain (P := Try.prog) w (e := 5) (off := i * 1) (xs := xs) (v := .int .u8 x) (by kernel_rfl) (by rw [Nat.mul_one]; exact hx)
    have hq := run_part_plain (P := Try.prog) w (e := 5) (off := i * 1) (xs := ys) (v := .int .u8 y) (by kernel_rfl) (by rw [Nat.mul_one]; exact hy)
    have he := run_equalIn_int (P := Try.prog) w d 5 .u8 .u8 x y Try.underlying5
    by_cases hxy : x = y
    · subst hxy
      have ih := items_difU w d xs ys is (fun j hj => h j (by simp [hj])) (by
        obtain ⟨j, hj, hne⟩ := h2
        rcases List.mem_cons.1 hj with rfl | hj
        · exact absurd (hx.trans hy.symm) hne
        · exact ⟨j, hj, hne⟩)
      simp only [Op.eqItems, Sem.run_bind, hp, hq, he, Result.andThen_ok, beq_self_eq_true, Bool.not_true, Bool.false_eq_true, if_false, ih]
    · have hb : (x == y) = false := beq_eq_false_iff_ne.mpr hxy
      simp only [Op.eqItems, Sem.run_bind, hp, hq, he, Result.andThen_ok, hb, Bool.not_false, if_true, Sem.run_pure]
theorem arr_difU (d : List Int) (hd : d.length = 16) (hne : d ≠ z16) (w : World) : (Op.equalIn 10000 71 (.agg (cels d).toArray) (.agg zA16)).run Try.prog w = .ok false w := by
  obtain ⟨i, hi⟩ := info_of_underlying Try.underlying5
  rw [run_equalIn_array w 9999 _ _ Try.underlying71 hi, show Try.prog.cellsOf 5 = 1 from by kernel_rfl]
  have hxs : ∀ j, j < 16 → (cels d).toArray[j]? = some (.int .u8 (d.getD j 0)) := fun j hj => by
    rw [List.getElem?_toArray]
    unfold cels
    rw [List.getElem?_map, List.getElem?_eq_getElem (by omega), List.getD_eq_getElem?_getD, List.getElem?_eq_getElem (by omega)]
    rfl
  have hys : ∀ j, j < 16 → zA16[j]? = some (.int .u8 0) := fun j hj => by
    rw [← z16_cs, List.getElem?_toArray]
    unfold cels z16
    rw [List.getElem?_map, List.getElem?_replicate, if_pos hj]
    rfl
  refine items_difU w 9998 _ _ _ (fun j hj => ?_) ?_
  · have hj' : j < 16 := by simpa using hj
    exact ⟨_, _, hxs j hj', hys j hj'⟩
  · apply Classical.byContradiction
    intro hc
    apply hne
    refine List.ext_getElem (by rw [hd]; rfl) (fun q hq1 hq2 => ?_)
    have hq16 : q < 16 := by omega
    have e : (cels d).toArray[q]? = zA16[q]? := Classical.byContradiction (fun h => hc ⟨q, by simpa using hq16, h⟩)
    rw [hxs q hq16, hys q hq16] at e
    simp only [Option.some.injEq, Value.int.injEq, true_and] at e
    rw [List.getD_eq_getElem?_getD, List.getElem?_eq_getElem hq1] at e
    simp only [Option.getD_some] at e
    have h0 : z16[q]? = some 0 := by unfold z16; rw [List.getElem?_replicate, if_pos hq16]
    rw [List.getElem?_eq_getElem hq2] at h0
    exact e.trans (Option.some.inj h0).symm
theorem wpList_dif_arrU {w : World} {ops : Array Oper} {rest : List Oper} {o : Oper} {a : Act} {Q : Exit → Act → World → Prop} (hwt : Region.wanted o (yielded ops a.tmps) = true) (x y : Operand) (ho : o.op = .binOp .eql 71 x y 71) (V : Array Value) (hV : ∀ W, (Op.equalIn 10000 71 (.agg V) (.agg zA16)).run Try.prog W = .ok false W) (hx : a.eval x = .agg V) (hy : a.eval y = .agg zA16)
    (h : wpList Try.prog ops Q rest (a.put o.dst (.bool false)) w) : wpList Try.prog ops Q (o :: rest) a w :=
  BigFrame.wpList_want hwt fun K hK => by
    have e : (execOp a.eval o).run Try.prog w = .ok (.value (.bool false)) w := by
      unfold execOp
      simp only [ho, hx, hy]
      have hg := run_eqGuard_agg (P := Try.prog) w .eql 71 x y V zA16 (by kernel_rfl)
      have he := hV w
      simp [hg, run_eql_struct, he]
    unfold Oper.wp
    rw [e]
    exact hK _ _ h
end Go.Proofs.Ytklboieemljmiaa
