/-
  Cells of a struct stored in a region that draws its order: three that may come up in any order.
-/
import Derived.Test.YtndlpmnidpandaaLRd
import Derived.Laws.IdiomCopy
namespace Go.Proofs.Ytndlpmnidpandaa
open Go.RowKit
set_option linter.unusedVariables false
set_option linter.unusedSimpArgs false

theorem run_storeVar_one {P : Program} (w : World) (b o : Nat) (ty : TypeId) (v : Value) (hc : (w.cell? ⟨b, o, none⟩).isSome = true) (hf : w.frozen? ⟨b, o, none⟩ = false) (hi : (P.info? ty).map (·.size) = some 1) (h1 : v.oneCell' = true) :
    (storeVar ty ⟨b, o, none⟩ v).run P w = .ok () (w.setCell ⟨b, o, none⟩ v) := by
  have hv : v.cells = #[v] := by cases v <;> first | rfl | (simp [Value.oneCell'] at h1)
  have := run_storeCells_cells (P := P) b o [v] 0 w (fun j hj => by simp at hj; subst hj; simpa using hc) (fun j hj => by simp at hj; subst hj; simpa using hf) (fun u hu => by simp at hu; subst hu; exact h1)
  cases hq : P.info? ty with
  | none => simp [hq] at hi
  | some i =>
    have hs : 1 = i.size := by simp [hq] at hi; omega
    simp only [Nat.add_zero] at this
    simp [storeVar, sizeOf, typeInfo, hq, hv, ← hs, this]
    rfl

theorem bx_setCell {w : World} {b j : Nat} {cs : Array Value} (v : Value) (h : Bx w b cs) (hj : j < cs.size) : Bx (w.setCell ⟨b, j, none⟩ v) b (cs.setIfInBounds j v) := by
  have hg := grown_setCellS w ⟨b, j, none⟩ v
  refine ⟨Nat.lt_of_lt_of_le h.lt hg.size, fun i hi => ?_, fun i => ?_⟩
  · simp only [Array.size_setIfInBounds] at hi
    by_cases e : i = j
    · subst e
      have hs : (w.cell? ⟨b, i, none⟩).isSome = true := by rw [h.cells i hj, Array.getElem?_eq_getElem hj]; rfl
      rw [Array.getElem?_setIfInBounds_self_of_lt hj]
      exact World.cell?_setCell_same' w _ v hs
    · rw [Array.getElem?_setIfInBounds_ne (fun h => e h.symm), ← h.cells i hi]
      exact World.cell?_setCell_other _ _ _ _ (fun h => e (by cases h; rfl))
  · rw [← h.free i]; exact World.frozen?_setCells b [v] j w _

/-- A cell of a struct is stored. -/
theorem wp_store_cell {w : World} {o : Oper} {a : Act} {K : Act → World → Prop} {Q : Exit → Act → World → Prop} {ty : TypeId} {x y : Operand}
    (ho : o.op = .store ty x y) {b j : Nat} {cs : Array Value} {v : Value} (hx : a.eval x = .pointer (some ⟨b, j, none⟩)) (hy : a.eval y = v) (h1 : v.oneCell' = true) (hB : Bx w b cs) (hj : j < cs.size)
    (hi : (Try.prog.info? ty).map (·.size) = some 1)
    (h : ∀ w', Bx w' b (cs.setIfInBounds j v) → w.grownBy w' (some b) → K (a.put o.dst undef) w') : o.wp Try.prog a w K Q := by
  have hs : (w.cell? ⟨b, j, none⟩).isSome = true := by rw [hB.cells j hj, Array.getElem?_eq_getElem hj]; rfl
  unfold Oper.wp execOp
  simp only [ho, hx, hy, Instr.storeAt, Instr.sureAddr, Sem.run_bind, Sem.run_pure, Result.andThen_ok, run_storeVar_one w b j ty v hs (hB.free j) hi h1]
  exact h _ (bx_setCell v hB hj) (grown_setCellS w _ v)
theorem wpList_store_cell {w : World} {ops : Array Oper} {rest : List Oper} {o : Oper} {a : Act} {Q : Exit → Act → World → Prop} (hgd : o.guard = none) {ty : TypeId} {x y : Operand}
    (ho : o.op = .store ty x y) (b j : Nat) (cs : Array Value) (v : Value) (hx : a.eval x = .pointer (some ⟨b, j, none⟩)) (hy : a.eval y = v) (h1 : v.oneCell' = true) (hB : Bx w b cs) (hj : j < cs.size)
    (hi : (Try.prog.info? ty).map (·.size) = some 1) (hdst : o.dst = none)
    (h : ∀ w', Bx w' b (cs.setIfInBounds j v) → w.grownBy w' (some b) → wpList Try.prog ops Q rest a w') : wpList Try.prog ops Q (o :: rest) a w :=
  wpList_plain hgd fun K hK => wp_store_cell ho hx hy h1 hB hj hi (fun w' h1 h2 => hK _ _ (by rw [hdst]; exact h w' h1 h2))

section
variable {md : Region.Mode} {ops : Array Oper} {C : World → Prop} {Q : Exit → Act → World → Prop}
/-- What a store in a region is. -/
structure StoreIs (ops : Array Oper) (a : Act) (i b j : Nat) (v : Value) (o : Oper) : Prop where
  at_ : ops[i]? = some o
  free : o.guard = none
  op : ∃ ty x y, o.op = .store ty x y ∧ a.eval x = .pointer (some ⟨b, j, none⟩) ∧ a.eval y = v ∧ (Try.prog.info? ty).map (·.size) = some 1
  dst : o.dst = none
  one : v.oneCell' = true
theorem StoreIs.wp {a : Act} {i b j : Nat} {v : Value} {o : Oper} (h : StoreIs ops a i b j v o) {w : World} {cs : Array Value} {K : Act → World → Prop} (hB : Bx w b cs) (hj : j < cs.size)
    (hk : ∀ w', Bx w' b (cs.setIfInBounds j v) → w.grownBy w' (some b) → K a w') : o.wp Try.prog a w K Q := by
  obtain ⟨ty, x, y, h1, h2, h3, h4⟩ := h.op
  refine wp_store_cell h1 h2 h3 h.one hB hj h4 (fun w' a1 a2 => ?_)
  rw [h.dst]
  exact hk w' a1 a2
theorem StoreIs.want {a : Act} {i b j : Nat} {v : Value} {o : Oper} (h : StoreIs ops a i b j v o) : Region.wanted o (yielded ops a.tmps) = true := wanted_free h.free _
theorem grown_twice {w w1 w2 : World} {b : Nat} (h : w.grownBy w1 (some b)) (k : w1.grownBy w2 (some b)) : w.grownBy w2 (some b) :=
  ⟨k.os.trans h.os, k.tape.trans h.tape, k.output.trans h.output, Nat.le_trans h.size k.size, fun j hj hn => (k.block j (Nat.lt_of_lt_of_le hj h.size) hn).trans (h.block j hj hn)⟩

theorem wpAnyC_store2 (i j : Nat) {oi oj : Oper} {a : Act} {w : World} {fuel : Nat} {listed : Array Bool} {b ci cj : Nat} {vi vj : Value} {cs : Array Value}
    (Hi : StoreIs ops a i b ci vi oi) (Hj : StoreIs ops a j b cj vj oj) (hci : ci < cs.size) (hcj : cj < cs.size) (hij : ci ≠ cj)
    (hC : ∀ W, w.grownBy W (some b) → C W) (hB : Bx w b cs)
    (r2 : Region.ready md ops listed = [i, j]) (ri : Region.ready md ops (listed.setIfInBounds i true) = [j]) (rj : Region.ready md ops (listed.setIfInBounds j true) = [i])
    (r0 : Region.ready md ops ((listed.setIfInBounds i true).setIfInBounds j true) = [])
    (h : ∀ W, Bx W b ((cs.setIfInBounds ci vi).setIfInBounds cj vj) → w.grownBy W (some b) → Q .normal a W) : wpAnyC Try.prog md ops C Q (fuel + 2) listed a w := by
  have g0 : w.grownBy w (some b) := ⟨rfl, rfl, rfl, Nat.le_refl _, fun _ _ _ => rfl⟩
  have r0' : Region.ready md ops ((listed.setIfInBounds j true).setIfInBounds i true) = [] := by
    by_cases e : i = j
    · subst e; exact r0
    · rw [Array.setIfInBounds_comm _ _ (fun h => e h.symm)]; exact r0
  refine wpAnyC_two i j (hC _ g0) Hi.at_ Hj.at_ r2 Hi.want Hj.want (fun K hK => Hi.wp hB hci (fun w1 b1 g1 => hK _ _ ?_)) (fun K hK => Hj.wp hB hcj (fun w1 b1 g1 => hK _ _ ?_))
  · refine wpAnyC_one j (hC _ g1) Hj.at_ ri Hj.want (fun K hK => Hj.wp b1 (by simpa using hcj) (fun w2 b2 g2 => hK _ _ ?_))
    exact wpAnyC_done (hC _ (grown_twice g1 g2)) r0 (h _ b2 (grown_twice g1 g2))
  · refine wpAnyC_one i (hC _ g1) Hi.at_ rj Hi.want (fun K hK => Hi.wp b1 (by simpa using hci) (fun w2 b2 g2 => hK _ _ ?_))
    rw [Array.setIfInBounds_comm _ _ (fun h => hij h.symm)] at b2
    exact wpAnyC_done (hC _ (grown_twice g1 g2)) r0' (h _ b2 (grown_twice g1 g2))

theorem wpAnyC_three (i j k : Nat) {P : Program} {oi oj ok : Oper} {fuel : Nat} {listed : Array Bool} {a : Act} {w : World} (hC : C w) (hi : ops[i]? = some oi) (hj : ops[j]? = some oj) (hk : ops[k]? = some ok) (hr : Region.ready md ops listed = [i, j, k]) (hwi : Region.wanted oi (yielded ops a.tmps) = true) (hwj : Region.wanted oj (yielded ops a.tmps) = true) (hwk : Region.wanted ok (yielded ops a.tmps) = true)
    (h : ∀ K : Act → World → Prop, (∀ a w, wpAnyC P md ops C Q fuel (listed.setIfInBounds i true) a w → K a w) → oi.wp P a w K Q)
    (h2 : ∀ K : Act → World → Prop, (∀ a w, wpAnyC P md ops C Q fuel (listed.setIfInBounds j true) a w → K a w) → oj.wp P a w K Q)
    (h3 : ∀ K : Act → World → Prop, (∀ a w, wpAnyC P md ops C Q fuel (listed.setIfInBounds k true) a w → K a w) → ok.wp P a w K Q) : wpAnyC P md ops C Q (fuel + 1) listed a w := by
  refine ⟨hC, (fun h0 => by rw [hr] at h0; cases h0), fun x hx => ?_⟩
  rw [hr] at hx
  simp only [List.mem_cons, List.not_mem_nil, or_false] at hx
  unfold wpOp
  rcases hx with rfl | rfl | rfl
  · simp only [hi, hwi, if_true]
    exact .inl (h _ (fun _ _ h => h))
  · simp only [hj, hwj, if_true]
    exact .inl (h2 _ (fun _ _ h => h))
  · simp only [hk, hwk, if_true]
    exact .inl (h3 _ (fun _ _ h => h))

theorem wpAnyC_store3 (i j k : Nat) {oi oj ok : Oper} {a : Act} {w : World} {fuel : Nat} {listed : Array Bool} {b ci cj ck : Nat} {vi vj vk : Value} {cs : Array Value}
    (Hi : StoreIs ops a i b ci vi oi) (Hj : StoreIs ops a j b cj vj oj) (Hk : StoreIs ops a k b ck vk ok) (hci : ci < cs.size) (hcj : cj < cs.size) (hck : ck < cs.size) (hij : ci ≠ cj) (hik : ci ≠ ck) (hjk : cj ≠ ck)
    (hC : ∀ W, w.grownBy W (some b) → C W) (hB : Bx w b cs)
    (r3 : Region.ready md ops listed = [i, j, k])
    (ri : Region.ready md ops (listed.setIfInBounds i true) = [j, k]) (rj : Region.ready md ops (listed.setIfInBounds j true) = [i, k]) (rk : Region.ready md ops (listed.setIfInBounds k true) = [i, j])
    (rij : Region.ready md ops ((listed.setIfInBounds i true).setIfInBounds j true) = [k]) (rik : Region.ready md ops ((listed.setIfInBounds i true).setIfInBounds k true) = [j])
    (rji : Region.ready md ops ((listed.setIfInBounds j true).setIfInBounds i true) = [k]) (rjk : Region.ready md ops ((listed.setIfInBounds j true).setIfInBounds k true) = [i])
    (rki : Region.ready md ops ((listed.setIfInBounds k true).setIfInBounds i true) = [j]) (rkj : Region.ready md ops ((listed.setIfInBounds k true).setIfInBounds j true) = [i])
    (r0 : Region.ready md ops (((listed.setIfInBounds i true).setIfInBounds j true).setIfInBounds k true) = []) (r1 : Region.ready md ops (((listed.setIfInBounds j true).setIfInBounds i true).setIfInBounds k true) = []) (r2 : Region.ready md ops (((listed.setIfInBounds k true).setIfInBounds i true).setIfInBounds j true) = [])
    (h : ∀ W, Bx W b (((cs.setIfInBounds ci vi).setIfInBounds cj vj).setIfInBounds ck vk) → w.grownBy W (some b) → Q .normal a W) : wpAnyC Try.prog md ops C Q (fuel + 3) listed a w := by
  have g0 : w.grownBy w (some b) := ⟨rfl, rfl, rfl, Nat.le_refl _, fun _ _ _ => rfl⟩
  refine wpAnyC_three i j k (hC _ g0) Hi.at_ Hj.at_ Hk.at_ r3 Hi.want Hj.want Hk.want (fun K hK => Hi.wp hB hci (fun w1 b1 g1 => hK _ _ ?_)) (fun K hK => Hj.wp hB hcj (fun w1 b1 g1 => hK _ _ ?_)) (fun K hK => Hk.wp hB hck (fun w1 b1 g1 => hK _ _ ?_))
  · exact wpAnyC_store2 j k Hj Hk (by simpa using hcj) (by simpa using hck) hjk (fun W g => hC W (grown_twice g1 g)) b1 ri rij rik r0 (fun W b2 g2 => h W b2 (grown_twice g1 g2))
  · refine wpAnyC_store2 i k Hi Hk (by simpa using hci) (by simpa using hck) hik (fun W g => hC W (grown_twice g1 g)) b1 rj rji rjk r1 (fun W b2 g2 => h W ?_ (grown_twice g1 g2))
    rw [Array.setIfInBounds_comm _ _ (fun h => hij h.symm)] at b2
    exact b2
  · refine wpAnyC_store2 i j Hi Hj (by simpa using hci) (by simpa using hcj) hij (fun W g => hC W (grown_twice g1 g)) b1 rk rki rkj r2 (fun W b2 g2 => h W ?_ (grown_twice g1 g2))
    rw [Array.setIfInBounds_comm _ _ (fun h => hik h.symm), Array.setIfInBounds_comm _ _ (fun h => hjk h.symm)] at b2
    exact b2
end
end Go.Proofs.Ytndlpmnidpandaa
