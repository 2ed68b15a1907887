/-
  The document's Select, plainly.
-/
import Derived.Test.YtdojhgapdocngaaMVr
import Derived.Test.YtdojhgapdocngaaMSelD
namespace Go.Proofs.Ytdojhgapdocngaa
open Go.RowKit
set_option linter.unusedVariables false
set_option linter.unusedSimpArgs false
theorem run_storeVar_one {P : Program} (w : World) (b o : Nat) (ty : TypeId) (v : Value) (hc : (w.cell? ⟨b, o, none⟩).isSome = true) (hf : w.frozen? ⟨b, o, none⟩ = false) (hi : (P.info? ty).map (·.size) = some 1) (h1 : v.oneCell' = true) :
    (storeVar ty ⟨b, o, none⟩ v).run P w = .ok () (w.setCell ⟨b, o, none⟩ v) := by
  have hv : v.cells = #[v] := by cases v <;> first | rfl | (simp [Value.oneCell'] at h1)
  have := run_storeCells_cells (P := P) b o [v] 0 w (fun j hj => by simp at hj; subst hj; simpa using hc) (fun j hj => by simp at hj; subst hj; simpa using hf) (fun u hu => by simp at hu; subst hu; exact h1)
  cases hq : P.info? ty with
  | none => simp [hq] at hi
  | some i =>
    have hs : 1 = i.size := by simp [hq] at hi; omega
    simp only [Nat.add_zero] at this
    simp [storeVar, sizeOf, typeInfo, hq, hv, ← hs, this]
    rfl
theorem bx_setCell {w : World} {b j : Nat} {cs : Array Value} (v : Value) (h : Bx w b cs) (hj : j < cs.size) : Bx (w.setCell ⟨b, j, none⟩ v) b (cs.setIfInBounds j v) := by
  have hg := grown_setCell w ⟨b, j, none⟩ v
  refine ⟨Nat.lt_of_lt_of_le h.lt hg.size, fun i hi => ?_, fun i => ?_⟩
  · simp only [Array.size_setIfInBounds] at hi
    by_cases e : i = j
    · subst e
      have hs : (w.cell? ⟨b, i, none⟩).isSome = true := by rw [h.cells i hj, Array.getElem?_eq_getElem hj]; rfl
      rw [Array.getElem?_setIfInBounds_self_of_lt hj]
      exact World.cell?_setCell_same' w _ v hs
    · rw [Array.getElem?_setIfInBounds_ne (fun h => e h.symm), ← h.cells i hi]
      exact World.cell?_setCell_other _ _ _ _ (fun h => e (by cases h; rfl))
  · rw [← h.free i]; exact World.frozen?_setCells b [v] j w _

/-- A cell of a struct is stored. -/
theorem wp_store_cell {w : World} {o : Oper} {a : Act} {K : Act → World → Prop} {Q : Exit → Act → World → Prop} {ty : TypeId} {x y : Operand}
    (ho : o.op = .store ty x y) {b j : Nat} {cs : Array Value} {v : Value} (hx : a.eval x = .pointer (some ⟨b, j, none⟩)) (hy : a.eval y = v) (h1 : v.oneCell' = true) (hB : Bx w b cs) (hj : j < cs.size)
    (hi : (Try.prog.info? ty).map (·.size) = some 1)
    (h : ∀ w', Bx w' b (cs.setIfInBounds j v) → w.grownBy w' (some b) → K (a.put o.dst undef) w') : o.wp Try.prog a w K Q := by
  have hs : (w.cell? ⟨b, j, none⟩).isSome = true := by rw [hB.cells j hj, Array.getElem?_eq_getElem hj]; rfl
  unfold Oper.wp execOp
  simp only [ho, hx, hy, Instr.storeAt, Instr.sureAddr, Sem.run_bind, Sem.run_pure, Result.andThen_ok, run_storeVar_one w b j ty v hs (hB.free j) hi h1]
  exact h _ (bx_setCell v hB hj) (grown_setCell w _ v)
theorem wpList_store_cell {w : World} {ops : Array Oper} {rest : List Oper} {o : Oper} {a : Act} {Q : Exit → Act → World → Prop} (hgd : o.guard = none) {ty : TypeId} {x y : Operand}
    (ho : o.op = .store ty x y) (b j : Nat) (cs : Array Value) (v : Value) (hx : a.eval x = .pointer (some ⟨b, j, none⟩)) (hy : a.eval y = v) (h1 : v.oneCell' = true) (hB : Bx w b cs) (hj : j < cs.size)
    (hi : (Try.prog.info? ty).map (·.size) = some 1) (hdst : o.dst = none)
    (h : ∀ w', Bx w' b (cs.setIfInBounds j v) → w.grownBy w' (some b) → wpList Try.prog ops Q rest a w') : wpList Try.prog ops Q (o :: rest) a w :=
  wpList_plain hgd fun K hK => wp_store_cell ho hx hy h1 hB hj hi (fun w' h1 h2 => hK _ _ (by rw [hdst]; exact h w' h1 h2))
/-- The highest bit below k that a byte has. -/
def dbit (y : Int) (k : Nat) : Bool := y / 2 ^ k % 2 == 1
def dbad (y : Int) : Nat → Option Nat
  | 0 => none
  | k + 1 => if dbit y k then some k else dbad y k
theorem dbad_dec : ∀ y : Fin 256, dbad (y : Nat) 8 = if (y : Nat) = 0 then none else some ((y : Nat).log2) := by decide +kernel
theorem dbad_at {y : Int} (h : 0 ≤ y ∧ y ≤ 255) : dbad y 8 = if y = 0 then none else some (y.toNat.log2) := by
  have := dbad_dec ⟨y.toNat, by omega⟩
  simp only at this
  rw [show ((y.toNat : Nat) : Int) = y from by omega] at this
  rw [this]
  by_cases h0 : y = 0
  · subst h0; rfl
  · rw [if_neg (by omega), if_neg h0]
theorem andn_dec : ∀ y : Fin 256, ∀ m : Fin 3, 0 ≤ Go.bits .andNot .u8 (y : Nat) (4 * (m : Nat) : Nat) ∧ Go.bits .andNot .u8 (y : Nat) (4 * (m : Nat) : Nat) ≤ 255 := by decide +kernel
theorem bit_dec : ∀ y : Fin 256, ∀ m : Fin 3, ∀ k : Fin 8, dbit (Go.bits .andNot .u8 (y : Nat) (4 * (m : Nat) : Nat)) k = ((Go.bits .and .u8 (((y : Nat) : Int) / 2 ^ (k : Nat)) 1 == 1) && (Go.bits .and .u8 (((4 * (m : Nat) : Nat) : Int) / 2 ^ (k : Nat)) 1 == 0)) := by decide +kernel
/-- A mask's byte. -/
def isM (m : Int) : Prop := m = 0 ∨ m = 4 ∨ m = 8
theorem andn_at {y m : Int} (h : 0 ≤ y ∧ y ≤ 255) (hm : isM m) : 0 ≤ Go.bits .andNot .u8 y m ∧ Go.bits .andNot .u8 y m ≤ 255 := by
  rcases hm with rfl | rfl | rfl
  · have := andn_dec ⟨y.toNat, by omega⟩ 0; simp only [show ((y.toNat : Nat) : Int) = y from by omega] at this; exact this
  · have := andn_dec ⟨y.toNat, by omega⟩ 1; simp only [show ((y.toNat : Nat) : Int) = y from by omega] at this; exact this
  · have := andn_dec ⟨y.toNat, by omega⟩ 2; simp only [show ((y.toNat : Nat) : Int) = y from by omega] at this; exact this
theorem bit_at {y m : Int} (h : 0 ≤ y ∧ y ≤ 255) (hm : isM m) (k : Nat) (hk : k < 8) : dbit (Go.bits .andNot .u8 y m) k = ((Go.bits .and .u8 (y / 2 ^ k) 1 == 1) && (Go.bits .and .u8 (m / 2 ^ k) 1 == 0)) := by
  rcases hm with rfl | rfl | rfl
  · have := bit_dec ⟨y.toNat, by omega⟩ 0 ⟨k, hk⟩; simp only [show ((y.toNat : Nat) : Int) = y from by omega] at this; exact this
  · have := bit_dec ⟨y.toNat, by omega⟩ 1 ⟨k, hk⟩; simp only [show ((y.toNat : Nat) : Int) = y from by omega] at this; exact this
  · have := bit_dec ⟨y.toNat, by omega⟩ 2 ⟨k, hk⟩; simp only [show ((y.toNat : Nat) : Int) = y from by omega] at this; exact this
theorem mask_8 : ∀ j, isM ((cachL allV).getD (j + 2) 0) := by
  intro j
  by_cases h : j < 18
  · have : ∀ j : Fin 18, (cachL allV).getD ((j : Nat) + 2) 0 = 0 ∨ (cachL allV).getD ((j : Nat) + 2) 0 = 4 ∨ (cachL allV).getD ((j : Nat) + 2) 0 = 8 := by decide
    exact this ⟨j, h⟩
  · rw [List.getD_eq_getElem?_getD, List.getElem?_eq_none (by show 20 ≤ _; omega)]; exact .inl rfl
theorem mask_10 : ∀ j, isM ((ctlL allV).getD (j + 2) 0) := by
  intro j
  by_cases h : j < 10
  · have : ∀ j : Fin 10, (ctlL allV).getD ((j : Nat) + 2) 0 = 0 ∨ (ctlL allV).getD ((j : Nat) + 2) 0 = 4 ∨ (ctlL allV).getD ((j : Nat) + 2) 0 = 8 := by decide
    exact this ⟨j, h⟩
  · rw [List.getD_eq_getElem?_getD, List.getElem?_eq_none (by show 12 ≤ _; omega)]; exact .inl rfl
theorem set_dec : ∀ y : Fin 256, (Go.bits .andNot .u8 (y : Nat) 4 = 0 → ((y : Nat) : Int) / 4 = b2 (bset (y : Nat) 4) 1) ∧ (Go.bits .andNot .u8 (y : Nat) 8 = 0 → ((y : Nat) : Int) / 8 = b2 (bset (y : Nat) 8) 1) := by decide +kernel
theorem set_at {y : Int} (h : 0 ≤ y ∧ y ≤ 255) : (Go.bits .andNot .u8 y 4 = 0 → y / 4 = b2 (bset y 4) 1) ∧ (Go.bits .andNot .u8 y 8 = 0 → y / 8 = b2 (bset y 8) 1) := by
  have := set_dec ⟨y.toNat, by omega⟩
  simp only [show ((y.toNat : Nat) : Int) = y from by omega] at this
  exact this
theorem val_8 (v : Vs) (t : Bool) : vB v / 2 * 2 + b2 t 1 = vB ⟨t, v.b, v.c⟩ := by
  obtain ⟨a, b, c⟩ := v
  cases a <;> cases b <;> cases c <;> cases t <;> rfl
theorem val_10 (v : Vs) (t u : Bool) : vB v % 2 + b2 t 1 * 2 + b2 u 1 * 4 = vB ⟨v.a, t, u⟩ := by
  obtain ⟨a, b, c⟩ := v
  cases a <;> cases b <;> cases c <;> cases t <;> cases u <;> rfl
theorem vB_ne (x y : Vs) : (vB x != vB y) = neV x y := by
  obtain ⟨a, b, c⟩ := x
  obtain ⟨d, e, f⟩ := y
  cases a <;> cases b <;> cases c <;> cases d <;> cases e <;> cases f <;> rfl
theorem rf_any (f b : Int) (w : World) : Calls Try.prog 19 #[.int .u16 9728, .int .i64 f, .int .i64 b, .bool false] w fun e w' => e = .returned (.agg (faultS f b).vals) ∧ Below w.heap.size w w' := rfault_any 9728 f b false w
/-- What the document's Select answers. -/
def SelP (B : Nat) (n s : Vs) (sv : Bool) (r : Vs × Option Sn) (w : World) (e : Ending) (w' : World) : Prop :=
  match r.2 with
  | some sn => e = .returned (.tuple #[.bool false, .agg sn.vals, .bool false]) ∧ Below w.heap.size w w'
  | none => e = .returned (.tuple #[.bool (neV r.1 n), .agg noS.vals, .bool true]) ∧ RPg w' B r.1 (if sv then r.1 else s) ∧ w.grownBy w' (some B)
theorem SelP.bad {B : Nat} {n s v : Vs} {sv : Bool} {r : Vs × Option Sn} {w w' : World} {sn : Sn} (h : r = (v, some sn)) (hb : Below w.heap.size w w') : SelP B n s sv r w (.returned (.tuple #[.bool false, .agg sn.vals, .bool false])) w' := by subst h; exact ⟨rfl, hb⟩
theorem SelP.good {B : Nat} {n s v : Vs} {sv : Bool} {r : Vs × Option Sn} {w w' : World} (h : r = (v, none)) (hp : RPg w' B v (if sv then v else s)) (hb : w.grownBy w' (some B)) : SelP B n s sv r w (.returned (.tuple #[.bool (neV v n), .agg noS.vals, .bool true])) w' := by subst h; exact ⟨rfl, hp, hb⟩
theorem rp_bx {w : World} {B : Nat} {n s : Vs} (h : RPg w B n s) : Bx w B #[.int .i64 (vB n), .int .i64 (vB s)] := ⟨h.lt, fun j hj => by
  have hj2 : j = 0 ∨ j = 1 := by simp at hj; omega
  rcases hj2 with rfl | rfl
  · exact h.c0
  · exact h.c1, h.free⟩
theorem bx_rp {w : World} {B : Nat} {n s : Vs} (h : Bx w B #[.int .i64 (vB n), .int .i64 (vB s)]) : RPg w B n s := ⟨h.lt, h.cells 0 (show 0 < 2 by decide), h.cells 1 (show 1 < 2 by decide), h.free⟩
theorem rp_c0 {w : World} {B : Nat} {x y : Value} (h : Bx w B #[x, y]) : w.cell? ⟨B, 0, none⟩ = some x := h.cells 0 (show 0 < 2 by decide)
theorem rp_c1 {w : World} {B : Nat} {x y : Value} (h : Bx w B #[x, y]) : w.cell? ⟨B, 1, none⟩ = some y := h.cells 1 (show 1 < 2 by decide)
theorem info3s : (Try.prog.info? 3).map (·.size) = some 1 := by kernel_rfl
theorem getDd (p : List Int) (q i : Nat) : (p.drop q).getD i 0 = p.getD (q + i) 0 := by
  rw [List.getD_eq_getElem?_getD, List.getElem?_drop, ← List.getD_eq_getElem?_getD]
theorem layB8 (v : Vs) : layB 8 v = cachL v := rfl
theorem layB10 (v : Vs) : layB 10 v = ctlL v := rfl
/-- One page, by what is wrong with it. -/
theorem pe_kind {p : List Int} {q : Nat} (h : p.getD q 0 ≠ 8 ∧ p.getD q 0 ≠ 10) : pageE (p.drop q) q = some (faultS q (-1)) := by
  unfold pageE
  rw [getDd, Nat.add_zero, if_pos h]
theorem pe_eq {p : List Int} {q M : Nat} {ml : List Int} {x m1 : Int} (hx : p.getD q 0 = x) (h8 : x = 8 ∨ x = 10) (hml : layB x allV = ml) (hM : ml.length = M) (hm1 : ml.getD 1 0 = m1) : pageE (p.drop q) q = if (p.drop q).length < 2 then some shortS else if p.getD (q + 1) 0 ≠ m1 then some (faultS (q + 1) (-1)) else if (p.drop q).length < M then some shortS else (pbad (p.drop q) ml (M - 2) 2).map fun x => faultS (q + x.1) (x.2.toNat.log2 : Nat) := by
  unfold pageE
  rw [getDd, Nat.add_zero, hx, if_neg (by omega), getDd, hml, hm1, hM]
theorem rd_bad {f : Nat} {v : Vs} {p : List Int} {q : Nat} {sn : Sn} (hq : q < p.length) (h : pageE (p.drop q) q = some sn) : rdL (f + 1) v p q = (v, some sn) := by
  rw [rdL, if_neg (by omega), h]
theorem rd_good {f : Nat} {v : Vs} {p : List Int} {q : Nat} (hq : q < p.length) (h : pageE (p.drop q) q = none) : rdL (f + 1) v p q = rdL f (withV v (p.drop q)) p (q + plen (p.drop q)) := by
  rw [rdL, if_neg (by omega), h]
theorem pbad_go {r m : List Int} {f i : Nat} (h : Go.bits .andNot .u8 (r.getD i 0) (m.getD i 0) = 0) : pbad r m (f + 1) i = pbad r m f (i + 1) := by rw [pbad, if_pos h]
theorem pbad_no {r m : List Int} {f i : Nat} (h : Go.bits .andNot .u8 (r.getD i 0) (m.getD i 0) ≠ 0) : pbad r m (f + 1) i = some (i, Go.bits .andNot .u8 (r.getD i 0) (m.getD i 0)) := by rw [pbad, if_neg h]
theorem pbad_all {r m : List Int} : ∀ {f i : Nat}, pbad r m f i = none → ∀ j, i ≤ j → j < i + f → Go.bits .andNot .u8 (r.getD j 0) (m.getD j 0) = 0
  | 0, i, _, j, h1, h2 => by omega
  | f + 1, i, h, j, h1, h2 => by
    rw [pbad] at h
    split at h
    · rename_i h0
      by_cases e : j = i
      · subst e; exact h0
      · exact pbad_all h j (by omega) (by omega)
    · cases h
end Go.Proofs.Ytdojhgapdocngaa
