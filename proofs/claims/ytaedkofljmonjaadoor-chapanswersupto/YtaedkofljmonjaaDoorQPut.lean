/-
  A cell of an array that is stored; the contract of a number that is laid in bytes, the lowest first.
-/
import Derived.Test.YtaedkofljmonjaaDoorQSml
import Derived.Laws.IdiomCopy
namespace Go.Proofs.YtaedkofljmonjaaDoor
open Go.RowKit
set_option linter.unusedVariables false
set_option linter.unusedSimpArgs false

theorem run_storeVar_one {P : Program} (w : World) (b o : Nat) (ty : TypeId) (v : Value) (hc : (w.cell? ⟨b, o, none⟩).isSome = true) (hf : w.frozen? ⟨b, o, none⟩ = false) (hi : (P.info? ty).map (·.size) = some 1) (h1 : v.oneCell' = true) :
    (storeVar ty ⟨b, o, none⟩ v).run P w = .ok () (w.setCell ⟨b, o, none⟩ v) := by
  have hv : v.cells = #[v] := by cases v <;> first | rfl | (simp [Value.oneCell'] at h1)
  have := run_storeCells_cells (P := P) b o [v] 0 w (fun j hj => by simp at hj; subst hj; simpa using hc) (fun j hj => by simp at hj; subst hj; simpa using hf) (fun u hu => by simp at hu; subst hu; exact h1)
  cases hq : P.info? ty with
  | none => simp [hq] at hi
  | some i =>
    have hs : 1 = i.size := by simp [hq] at hi; omega
    simp only [Nat.add_zero] at this
    simp [storeVar, sizeOf, typeInfo, hq, hv, ← hs, this]
    rfl

theorem bx_setCell {w : World} {b j : Nat} {cs : Array Value} (v : Value) (h : Bx w b cs) (hj : j < cs.size) : Bx (w.setCell ⟨b, j, none⟩ v) b (cs.setIfInBounds j v) := by
  have hg := grown_setCellK w ⟨b, j, none⟩ v
  refine ⟨Nat.lt_of_lt_of_le h.lt hg.size, fun i hi => ?_, fun i => ?_⟩
  · simp only [Array.size_setIfInBounds] at hi
    by_cases e : i = j
    · subst e
      have hs : (w.cell? ⟨b, i, none⟩).isSome = true := by rw [h.cells i hj, Array.getElem?_eq_getElem hj]; rfl
      rw [Array.getElem?_setIfInBounds_self_of_lt hj]
      exact World.cell?_setCell_same' w _ v hs
    · rw [Array.getElem?_setIfInBounds_ne (fun h => e h.symm), ← h.cells i hi]
      exact World.cell?_setCell_other _ _ _ _ (fun h => e (by cases h; rfl))
  · rw [← h.free i]; exact World.frozen?_setCells b [v] j w _

/-- A cell of a struct is stored. -/
theorem wp_store_cell {w : World} {o : Oper} {a : Act} {K : Act → World → Prop} {Q : Exit → Act → World → Prop} {ty : TypeId} {x y : Operand}
    (ho : o.op = .store ty x y) {b j : Nat} {cs : Array Value} {v : Value} (hx : a.eval x = .pointer (some ⟨b, j, none⟩)) (hy : a.eval y = v) (h1 : v.oneCell' = true) (hB : Bx w b cs) (hj : j < cs.size)
    (hi : (Tryd.prog.info? ty).map (·.size) = some 1)
    (h : ∀ w', Bx w' b (cs.setIfInBounds j v) → w.grownBy w' (some b) → K (a.put o.dst undef) w') : o.wp Tryd.prog a w K Q := by
  have hs : (w.cell? ⟨b, j, none⟩).isSome = true := by rw [hB.cells j hj, Array.getElem?_eq_getElem hj]; rfl
  unfold Oper.wp execOp
  simp only [ho, hx, hy, Instr.storeAt, Instr.sureAddr, Sem.run_bind, Sem.run_pure, Result.andThen_ok, run_storeVar_one w b j ty v hs (hB.free j) hi h1]
  exact h _ (bx_setCell v hB hj) (grown_setCellK w _ v)
theorem wpList_store_cell {w : World} {ops : Array Oper} {rest : List Oper} {o : Oper} {a : Act} {Q : Exit → Act → World → Prop} (hgd : o.guard = none) {ty : TypeId} {x y : Operand}
    (ho : o.op = .store ty x y) (b j : Nat) (cs : Array Value) (v : Value) (hx : a.eval x = .pointer (some ⟨b, j, none⟩)) (hy : a.eval y = v) (h1 : v.oneCell' = true) (hB : Bx w b cs) (hj : j < cs.size)
    (hi : (Tryd.prog.info? ty).map (·.size) = some 1) (hdst : o.dst = none)
    (h : ∀ w', Bx w' b (cs.setIfInBounds j v) → w.grownBy w' (some b) → wpList Tryd.prog ops Q rest a w') : wpList Tryd.prog ops Q (o :: rest) a w :=
  wpList_plain hgd fun K hK => wp_store_cell ho hx hy h1 hB hj hi (fun w' h1 h2 => hK _ _ (by rw [hdst]; exact h w' h1 h2))


theorem over_step (Z : List Int) (off : Nat) (ds : List Int) (x : Int) (h : off + ds.length < Z.length) : (over Z off ds).set (off + ds.length) x = over Z off (ds ++ [x]) := by
  unfold over
  rw [List.set_append_right _ _ (by simp; omega), List.set_append_right _ _ (by simp; omega)]
  have e : off + ds.length - (Z.take off).length - ds.length = 0 := by simp; omega
  rw [e, List.drop_eq_getElem_cons h]
  simp [Nat.add_assoc]
theorem over_nil (Z : List Int) (off : Nat) : over Z off [] = Z := by simp [over]
theorem cels_set (zs : List Int) (j : Nat) (x : Int) : (cels zs).toArray.setIfInBounds j (.int .u8 x) = (cels (zs.set j x)).toArray := by
  simp [cels, List.map_set]

theorem grown_two {w w1 w2 : World} {b : Nat} (h : w.grownBy w1 (some b)) (k : w1.grownBy w2 (some b)) : w.grownBy w2 (some b) :=
  ⟨k.os.trans h.os, k.tape.trans h.tape, k.output.trans h.output, Nat.le_trans h.size k.size, fun j hj hn => (k.block j (Nat.lt_of_lt_of_le hj h.size) hn).trans (h.block j hj hn)⟩
theorem grown_refl (w : World) (row : Option Nat) : w.grownBy w row := ⟨rfl, rfl, rfl, Nat.le_refl _, fun _ _ _ => rfl⟩

theorem low_num (v k : Nat) : ((v : Int) / 2 ^ (8 * k)) % 256 = ((v / 2 ^ (8 * k) % 256 : Nat) : Int) := by
  rw [Int.natCast_emod, Int.natCast_ediv, Int.natCast_pow]; rfl

theorem put_any (b off n c v : Nat) (Z : List Int) (w : World) (hB : Bx w b (cels Z).toArray) (hn : n ≤ 8) (hl : off + n ≤ Z.length) (hc : n ≤ c) (hv : v < 18446744073709551616) :
    Calls Tryd.prog 20 #[.slice (some ⟨b, off, none⟩) n c, .int .u64 (v : Int)] w fun e w' => (∃ r, e = .returned r) ∧ Bx w' b (cels (over Z off (lowL v n))).toArray ∧ w.grownBy w' (some b) := by
  replace hB := Kpt.mk hB
  go_enter Tryd.func20, Tryd.ntmps20
  go_wp2
  go_loopw [7] (fun t wr => ∃ k : Nat, k ≤ n ∧ t = .int .i64 k ∧ Kpt (Bx wr b (cels (over Z off (lowL v k))).toArray) ∧ Kpt (w.grownBy wr (some b))) (fun t _ => n - (intOf t).toNat)
  case atStart => exact ⟨0, by omega, rfl, ⟨by rw [lowL, over_nil]; exact hB.out⟩, ⟨grown_refl _ _⟩⟩
  case round =>
    obtain ⟨k, hk, rfl, hX, hg⟩ := hrel
    by_cases hlt : k < n
    · have h8 : 8 * k ≤ 64 := by omega
      have hz : (over Z off (lowL v k)).length = Z.length := over_length _ _ _ (by rw [lowL_length]; omega)
      have hcell : wr.cell? ⟨b, off + k, none⟩ = some (.int .u8 ((over Z off (lowL v k)).getD (off + k) 0)) := by
        rw [hX.out.cells (off + k) (by simp [hz]; omega)]
        simp [cels, List.getD_eq_getElem?_getD, hz, show off + k < Z.length by omega]
      have hfree : wr.frozen? ⟨b, off + k, none⟩ = false := hX.out.free _
      replace hcell := hcell
      generalize hq : (over Z off (lowL v k)).getD (off + k) 0 = q at hcell
      clear hq hz
      go_wp2
      refine ⟨⟨k + 1, by omega, by simp, ⟨?_⟩, ⟨grown_two hg.out (grown_setCellK _ _ _)⟩⟩, by simp [intOf]; omega⟩
      have hs := bx_setCell (.int .u8 (((v : Int) / 2 ^ (8 * k)) % 256)) hX.out (j := off + k) (by simp [over_length Z (lowL v k) off (by rw [lowL_length]; omega)]; omega)
      rw [cels_set] at hs
      have ho := over_step Z off (lowL v k) (((v : Int) / 2 ^ (8 * k)) % 256) (by rw [lowL_length]; omega)
      rw [lowL_length] at ho
      rw [ho, low_num] at hs
      rw [low_num]
      exact hs
    · obtain rfl : k = n := by omega
      go_wp2
      go_end0
      exact ⟨⟨_, rfl⟩, hX.out, hg.out⟩

end Go.Proofs.YtaedkofljmonjaaDoor
