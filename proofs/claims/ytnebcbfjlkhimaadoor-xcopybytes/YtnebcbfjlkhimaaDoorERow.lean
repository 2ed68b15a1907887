/-
  sess: rows of structs, whatever their size.
-/
import Derived.Test.YtnebcbfjlkhimaaDoorXBox
import Derived.Laws.OwnMore
import Derived.Lib.SliceRun
import Derived.Conc.MuLone
namespace Go.Proofs.YtnebcbfjlkhimaaDoor
open Go.RowKit
set_option linter.unusedVariables false
set_option linter.unusedSimpArgs false

/-- The cells of structs, one behind the other. -/
def chs (zs : List (Array Value)) : List Value := zs.flatMap (fun z => z.toList)
theorem chs_nil : chs [] = [] := rfl
theorem chs_cons (z : Array Value) (zs : List (Array Value)) : chs (z :: zs) = z.toList ++ chs zs := rfl
theorem chs_one (z : Array Value) : chs [z] = z.toList := by simp [chs]
theorem chs_append (a b : List (Array Value)) : chs (a ++ b) = chs a ++ chs b := by simp [chs, List.flatMap_append]
/-- Structs of k cells. -/
def Wide (k : Nat) (zs : List (Array Value)) : Prop := ∀ z ∈ zs, z.size = k ∧ z.all (·.oneCell') = true
theorem Wide.nil (k : Nat) : Wide k [] := fun z h => by simp at h
theorem Wide.cons {k : Nat} {z : Array Value} {zs : List (Array Value)} (h1 : z.size = k ∧ z.all (·.oneCell') = true) (h : Wide k zs) : Wide k (z :: zs) := fun y hy => by
  rcases List.mem_cons.1 hy with rfl | hy
  · exact h1
  · exact h y hy
theorem Wide.append {k : Nat} {a b : List (Array Value)} (h1 : Wide k a) (h2 : Wide k b) : Wide k (a ++ b) := fun y hy => by
  rcases List.mem_append.1 hy with hy | hy
  · exact h1 y hy
  · exact h2 y hy
theorem Wide.tail {k : Nat} {z : Array Value} {zs : List (Array Value)} (h : Wide k (z :: zs)) : Wide k zs := fun y hy => h y (List.mem_cons_of_mem _ hy)
theorem Wide.erase {k : Nat} {zs : List (Array Value)} (h : Wide k zs) (i : Nat) : Wide k (zs.eraseIdx i) := fun y hy => h y (List.mem_of_mem_eraseIdx hy)
theorem chs_length {k : Nat} : ∀ {zs : List (Array Value)}, Wide k zs → (chs zs).length = zs.length * k
  | [], _ => by simp [chs]
  | z :: zs, h => by rw [chs_cons, List.length_append, chs_length h.tail, Array.length_toList, (h z (by simp)).1, List.length_cons, Nat.add_mul]; omega
theorem chs_oneC {k : Nat} {zs : List (Array Value)} (h : Wide k zs) : ∀ v ∈ chs zs, v.oneCell' = true := by
  intro v hv
  simp only [chs, List.mem_flatMap] at hv
  obtain ⟨z, hz, hv⟩ := hv
  have := (h z hz).2
  rw [Array.all_eq_true_iff_forall_mem] at this
  exact this v (by simpa using hv)
theorem chs_at {k : Nat} : ∀ (zs : List (Array Value)) (h : Wide k zs) (j i : Nat) (z : Array Value), zs[j]? = some z → i < k → (chs zs)[j * k + i]? = z[i]?
  | [], _, j, i, z, h, _ => by simp at h
  | u :: zs, hw, 0, i, z, h, hi => by
    simp at h
    subst h
    rw [chs_cons, List.getElem?_append_left (by rw [Array.length_toList, (hw u (by simp)).1]; omega), Nat.zero_mul, Nat.zero_add, Array.getElem?_toList]
  | u :: zs, hw, j + 1, i, z, h, hi => by
    have h' : zs[j]? = some z := by simpa using h
    have hu := (hw u (by simp)).1
    rw [chs_cons, List.getElem?_append_right (by rw [Array.length_toList, hu, Nat.add_mul]; omega), ← chs_at zs hw.tail j i z h' hi]
    congr 1
    rw [Array.length_toList, hu, Nat.add_mul]
    omega
theorem chs_take {k : Nat} : ∀ (zs : List (Array Value)), Wide k zs → ∀ n, (chs zs).take (n * k) = chs (zs.take n)
  | _, _, 0 => by simp [chs]
  | [], _, n + 1 => by simp [chs]
  | z :: r, h, n + 1 => by
    have hu := (h z (by simp)).1
    rw [List.take_succ_cons, chs_cons, chs_cons, ← chs_take r h.tail n, List.take_append, List.take_of_length_le (by rw [Array.length_toList, hu, Nat.add_mul]; omega)]
    congr 2
    rw [Array.length_toList, hu, Nat.add_mul]
    omega
theorem chs_drop {k : Nat} : ∀ (zs : List (Array Value)), Wide k zs → ∀ n, (chs zs).drop (n * k) = chs (zs.drop n)
  | _, _, 0 => by simp
  | [], _, n + 1 => by simp [chs]
  | z :: r, h, n + 1 => by
    have hu := (h z (by simp)).1
    rw [List.drop_succ_cons, chs_cons, ← chs_drop r h.tail n, List.drop_append, List.drop_of_length_le (by rw [Array.length_toList, hu, Nat.add_mul]; omega), List.nil_append]
    congr 1
    rw [Array.length_toList, hu, Nat.add_mul]
    omega
theorem Wide.take {k : Nat} {zs : List (Array Value)} (h : Wide k zs) (n : Nat) : Wide k (zs.take n) := fun y hy => h y (List.mem_of_mem_take hy)
theorem Wide.drop {k : Nat} {zs : List (Array Value)} (h : Wide k zs) (n : Nat) : Wide k (zs.drop n) := fun y hy => h y (List.mem_of_mem_drop hy)

/-- A slice of structs, owned whole. -/
structure OwnR (ty k : Nat) (w : World) (v : Value) (zs : List (Array Value)) : Prop where
  own : w.ownsRow 0 ty k v zs.length (chs zs)
  wide : Wide k zs
/-- A slice of structs that can be read. -/
structure RdR (k : Nat) (w : World) (v : Value) (zs : List (Array Value)) : Prop where
  wide : Wide k zs
  rd : ∃ a c, v = .slice a zs.length c ∧ zs.length ≤ c ∧ (0 < zs.length → ∃ g, a = some ⟨g, 0, none⟩ ∧ g < w.heap.size ∧ c ≤ maxLen ∧ ∀ j z, zs[j]? = some z → w.rangeAt g (j * k) z.toList)

theorem OwnR.nil (ty k : Nat) (w : World) : OwnR ty k w (.slice none 0 0) [] := ⟨World.ownsRow_nil _ _ _ _, Wide.nil k⟩
theorem OwnR.lt {ty k : Nat} {w : World} {v : Value} {zs : List (Array Value)} (h : OwnR ty k w v zs) {g : Nat} (hg : v.ownBlock = some g) : g < w.heap.size := (World.ownsRow.lt h.own g hg).2
theorem OwnR.of_block {ty k : Nat} {w w' : World} {v : Value} {zs : List (Array Value)} (h : OwnR ty k w v zs) (hb : ∀ g, v.ownBlock = some g → w'.heap[g]? = w.heap[g]?) : OwnR ty k w' v zs := by
  refine ⟨⟨h.own.1, ?_⟩, h.wide⟩
  rcases h.own.2 with hn | ⟨g, cap, cur, rfl, h0, hgg, rest⟩
  · exact .inl hn
  · exact .inr ⟨g, cap, cur, rfl, h0, (hb g rfl).trans hgg, rest⟩
theorem OwnR.shape {ty k : Nat} {w : World} {v : Value} {zs : List (Array Value)} (h : OwnR ty k w v zs) : ∃ a c, v = .slice a zs.length c ∧ ((a = none ∧ c = 0 ∧ zs.length = 0) ∨ ∃ g, a = some ⟨g, 0, none⟩ ∧ g < w.heap.size ∧ zs.length ≤ c ∧ c ≤ maxLen ∧ (∀ j, w.frozen? ⟨g, j, none⟩ = false) ∧ ∀ j z, zs[j]? = some z → w.rangeAt g (j * k) z.toList) := by
  have ho := h.own
  rcases id ho.2 with ⟨rfl, h0⟩ | ⟨g, cap, cur, rfl, hb, hg, h1, h2, rest⟩
  · exact ⟨none, 0, by rw [h0], .inl ⟨rfl, rfl, h0⟩⟩
  · refine ⟨_, cap, rfl, .inr ⟨g, rfl, (World.ownsRow.lt ho g rfl).2, h1, h2, fun j => World.ownsRow.frozenAt ho j, fun j z hj i u hu => ?_⟩⟩
    have hj' : j < zs.length := (List.getElem?_eq_some_iff.1 hj).1
    have hz := (h.wide z (List.mem_of_getElem? hj)).1
    have hi : i < k := by have := (List.getElem?_eq_some_iff.1 hu).1; rw [Array.length_toList, hz] at this; exact this
    have hjk : j * k + i < zs.length * k := by have := Nat.mul_le_mul_right k (show j + 1 ≤ zs.length from hj'); rw [Nat.add_mul] at this; omega
    rw [World.ownsRow.cellAt ho (j * k + i) hjk, chs_at zs h.wide j i z hj hi, ← hu, Array.getElem?_toList]
theorem OwnR.rd {ty k : Nat} {w : World} {v : Value} {zs : List (Array Value)} (h : OwnR ty k w v zs) : RdR k w v zs := by
  obtain ⟨a, c, hv, hs⟩ := h.shape
  rcases hs with ⟨_, h1, h2⟩ | ⟨g, h1, h2, h3, h4, _, h5⟩
  · exact ⟨h.wide, a, c, hv, by omega, fun h0 => by omega⟩
  · exact ⟨h.wide, a, c, hv, h3, fun _ => ⟨g, h1, h2, h4, h5⟩⟩
theorem rangeAt_block {w w' : World} {b o : Nat} {cs : List Value} (h : w.rangeAt b o cs) (hb : w'.heap[b]? = w.heap[b]?) : w'.rangeAt b o cs :=
  fun j v hv => (World.cell?_of_block (w := w) (w' := w') (a := ⟨b, o + j, none⟩) hb).trans (h j v hv)
theorem RdR.of_block {k : Nat} {w w' : World} {v : Value} {zs : List (Array Value)} (h : RdR k w v zs) (hb : ∀ g, v.ownBlock = some g → w'.heap[g]? = w.heap[g]?) (hs : w.heap.size ≤ w'.heap.size) : RdR k w' v zs := by
  obtain ⟨hw, a, c, rfl, hc, h⟩ := h
  refine ⟨hw, a, c, rfl, hc, fun h0 => ?_⟩
  obtain ⟨g, rfl, h2, h3, h4⟩ := h h0
  exact ⟨g, rfl, Nat.lt_of_lt_of_le h2 hs, h3, fun j z hj => rangeAt_block (h4 j z hj) (hb g rfl)⟩
theorem RdR.below {k : Nat} {w w' : World} {v : Value} {zs : List (Array Value)} (h : RdR k w v zs) (hb : Below w.heap.size w w') : RdR k w' v zs := by
  obtain ⟨hw, a, c, rfl, hc, h⟩ := h
  refine ⟨hw, a, c, rfl, hc, fun h0 => ?_⟩
  obtain ⟨g, rfl, h2, h3, h4⟩ := h h0
  exact ⟨g, rfl, Nat.lt_of_lt_of_le h2 hb.size, h3, fun j z hj => rangeAt_block (h4 j z hj) (hb.block g h2)⟩

/-- append of structs to a row of one's own. -/
theorem wp_append_row {w : World} {o : Oper} {a : Act} {K : Act → World → Prop} {Q : Exit → Act → World → Prop} (sl ty k by' : Nat) (Z : Value) (hu : Tryd.prog.underlying sl = some (.slice ty)) (hinf : (Tryd.prog.info? ty).map (fun i => (i.zero, i.size, i.bytes)) = some (some Z, k, by')) (hzl : Z.cells.size = k) (hk0 : 0 < k) (hby : by' ≤ 1000)
    (d s : Operand) (ho : o.op = .call { callee := .builtin .append, args := #[d, s], argTypes := #[sl, sl] })
    (v sv : Value) (zs ds : List (Array Value)) (hd : a.eval d = v) (hs : a.eval s = sv) (hown : OwnR ty k w v zs) (hrd : RdR k w sv ds) (hds : 0 < ds.length) (hl : zs.length + ds.length ≤ 10000)
    (h : ∀ v' w', OwnR ty k w' v' (zs ++ ds) → w.grownBy w' v.ownBlock → (v'.ownBlock = v.ownBlock ∨ v'.ownBlock = some w.heap.size) → K (a.put o.dst v') w') : o.wp Tryd.prog a w K Q := by
  obtain ⟨i0, hi0, hz0, hz1, hz2⟩ := info_parts hinf
  obtain ⟨hw, sa, sc, rfl, hsc, hr⟩ := hrd
  obtain ⟨g, rfl, hg1, hg2, hg3⟩ := hr hds
  obtain ⟨v', w', hr, h2, h3, h4, h5⟩ := run_append_own_at (P := Tryd.prog) w 0 sl o.type ty i0 Z k by' hu hi0 hz0 hz1 hz2 hzl hk0 v zs.length (chs zs) hown.own ⟨g, 0, none⟩ ds.length sc (chs ds) (chs_length hw) (fun j u hu => by
    rw [Go.WideShapes.add_plain, Nat.zero_add]
    have hj : j < ds.length * k := by rw [← chs_length hw]; exact (List.getElem?_eq_some_iff.1 hu).1
    have hq : j / k < ds.length := Nat.div_lt_of_lt_mul (by rw [Nat.mul_comm]; exact hj)
    have hm : j % k < k := Nat.mod_lt _ hk0
    have he : j / k * k + j % k = j := by rw [Nat.mul_comm]; exact Nat.div_add_mod j k
    have hz := List.getElem?_eq_getElem hq
    have h1 := hg3 (j / k) _ hz
    have h2 := chs_at ds hw (j / k) (j % k) _ hz hm
    rw [he, hu] at h2
    have h3 := h1 (j % k) u (by rw [Array.getElem?_toList]; exact h2.symm)
    rw [he] at h3
    exact h3) (chs_oneC hw) (by unfold maxLen; omega) (by have := Nat.mul_le_mul (show zs.length + ds.length ≤ 10000 from hl) hby; omega) (Nat.zero_le _)
  unfold Oper.wp execOp
  simp only [ho, resolve, invoke, builtin, Sem.run_bind, Sem.run_pure, Result.andThen_ok, List.map_toArray, List.map_cons, List.map_nil, hd, hs, hr]
  exact h v' w' ⟨by rw [chs_append, List.length_append]; exact h2, hown.wide.append hw⟩ h3 h5
theorem wpList_append_row {w : World} {ops : Array Oper} {rest : List Oper} {o : Oper} {a : Act} {Q : Exit → Act → World → Prop} (hgd : o.guard = none) (sl ty k by' : Nat) (Z : Value) (hu : Tryd.prog.underlying sl = some (.slice ty)) (hinf : (Tryd.prog.info? ty).map (fun i => (i.zero, i.size, i.bytes)) = some (some Z, k, by')) (hzl : Z.cells.size = k) (hk0 : 0 < k) (hby : by' ≤ 1000)
    (d s : Operand) (ho : o.op = .call { callee := .builtin .append, args := #[d, s], argTypes := #[sl, sl] })
    (v sv : Value) (zs ds : List (Array Value)) (hd : a.eval d = v) (hs : a.eval s = sv) (hown : OwnR ty k w v zs) (hrd : RdR k w sv ds) (hds : 0 < ds.length) (hl : zs.length + ds.length ≤ 10000)
    (h : ∀ v' w', Kpt (OwnR ty k w' v' (zs ++ ds)) → Kpt (w.grownBy w' v.ownBlock) → Kpt (v'.ownBlock = v.ownBlock ∨ v'.ownBlock = some w.heap.size) → wpList Tryd.prog ops Q rest (a.put o.dst v') w') : wpList Tryd.prog ops Q (o :: rest) a w :=
  wpList_plain hgd fun K hK => wp_append_row sl ty k by' Z hu hinf hzl hk0 hby d s ho v sv zs ds hd hs hown hrd hds hl (fun v' w' h1 h2 h3 => hK _ _ (h v' w' ⟨h1⟩ ⟨h2⟩ ⟨h3⟩))
/-- A struct in a block of its own is a row of one. -/
theorem Bx.one {w : World} {b k : Nat} {z : Array Value} (h : Bx w b z) (hz : z.size = k ∧ z.all (·.oneCell') = true) : RdR k w (.slice (some ⟨b, 0, none⟩) 1 1) [z] :=
  ⟨Wide.cons hz (Wide.nil k), _, 1, rfl, Nat.le_refl _, fun _ => ⟨b, rfl, h.lt, by decide, fun j y hj => by
    cases j with
    | zero => simp at hj; subst hj; rw [Nat.zero_mul]; exact h.range
    | succ j => simp at hj⟩⟩
theorem Bx.oneOwn {w : World} {b k ty : Nat} {z : Array Value} (h : w.heap[b]? = some (.cells z ty (0, 0))) (hz : z.size = k ∧ z.all (·.oneCell') = true) : OwnR ty k w (.slice (some ⟨b, 0, none⟩) 1 1) [z] :=
  ⟨⟨by simp [chs, hz.1], .inr ⟨b, 1, z, rfl, Nat.zero_le _, h, Nat.le_refl _, by decide, by simp [hz.1], by simp [chs, hz.1]; rw [← hz.1]; exact List.take_of_length_le (by simp)⟩⟩, Wide.cons hz (Wide.nil k)⟩

/-- Only blocks of X may have turned. -/
structure Fr (X : Nat → Prop) (w w' : World) : Prop where
  os : w'.os = w.os
  tape : w'.tape = w.tape
  output : w'.output = w.output
  size : w.heap.size ≤ w'.heap.size
  block : ∀ b, b < w.heap.size → ¬ X b → w'.heap[b]? = w.heap[b]?
theorem Fr.refl (X : Nat → Prop) (w : World) : Fr X w w := ⟨rfl, rfl, rfl, Nat.le_refl _, fun _ _ _ => rfl⟩
theorem Fr.trans {X Y : Nat → Prop} {a b c : World} (h : Fr X a b) (k : Fr Y b c) (hY : ∀ n, Y n → X n ∨ a.heap.size ≤ n) : Fr X a c :=
  ⟨k.os.trans h.os, k.tape.trans h.tape, k.output.trans h.output, Nat.le_trans h.size k.size, fun n hn hx => (k.block n (Nat.lt_of_lt_of_le hn h.size) (fun hy => by rcases hY n hy with h1 | h1; exact hx h1; omega)).trans (h.block n hn hx)⟩
theorem Fr.of_below {X : Nat → Prop} {w w' : World} (h : Below w.heap.size w w') : Fr X w w' := ⟨h.os, h.tape, h.output, h.size, fun b hb _ => h.block b hb⟩
theorem Fr.of_grown {X : Nat → Prop} {w w' : World} {r : Option Nat} (h : w.grownBy w' r) (hr : ∀ b, r = some b → X b) : Fr X w w' := ⟨h.os, h.tape, h.output, h.size, fun b hb hx => h.block b hb (fun e => hx (hr b e.symm))⟩
theorem Fr.below {X : Nat → Prop} {n : Nat} {w w' : World} (h : Fr X w w') (hn : n ≤ w.heap.size) (hX : ∀ b, X b → n ≤ b) : Below n w w' := ⟨h.os, h.tape, h.output, h.size, fun b hb => h.block b (Nat.lt_of_lt_of_le hb hn) (fun hx => by have := hX b hx; omega)⟩
theorem Fr.mono {X Y : Nat → Prop} {w w' : World} (h : Fr X w w') (hXY : ∀ b, b < w.heap.size → X b → Y b) : Fr Y w w' := ⟨h.os, h.tape, h.output, h.size, fun b hb hy => h.block b hb (fun hx => hy (hXY b hb hx))⟩
theorem Fr.drew (X : Nat → Prop) (w : World) : Fr X w w.drew := ⟨rfl, rfl, rfl, Nat.le_refl _, fun _ _ _ => rfl⟩
theorem Fr.drewN (X : Nat → Prop) (w : World) (n : Nat) : Fr X w (w.drewN n) := ⟨rfl, rfl, rfl, Nat.le_refl _, fun _ _ _ => rfl⟩
theorem Fr.bx {X : Nat → Prop} {w w' : World} {b : Nat} {cs : Array Value} (h : Fr X w w') (hb : Bx w b cs) (hX : ¬ X b) : Bx w' b cs := hb.of_block (Nat.lt_of_lt_of_le hb.lt h.size) (h.block b hb.lt hX)
theorem Fr.rdr {X : Nat → Prop} {w w' : World} {k : Nat} {v : Value} {zs : List (Array Value)} (h : Fr X w w') (hr : RdR k w v zs) (hX : ∀ b, v.ownBlock = some b → ¬ X b) : RdR k w' v zs := by
  obtain ⟨hw, a, c, rfl, hc, hr⟩ := hr
  refine ⟨hw, a, c, rfl, hc, fun h0 => ?_⟩
  obtain ⟨g, rfl, h2, h3, h4⟩ := hr h0
  exact ⟨g, rfl, Nat.lt_of_lt_of_le h2 h.size, h3, fun j z hj => rangeAt_block (h4 j z hj) (h.block g h2 (hX g rfl))⟩
end Go.Proofs.YtnebcbfjlkhimaaDoor
