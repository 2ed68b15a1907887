/-
  pdu: bytes appended to such bytes; a reader.
-/
import Derived.Test.YtigfoldobkigeaaURd1
import Derived.Test.YtigfoldobkigeaaURp0
import Derived.Test.YtigfoldobkigeaaUNil
namespace Go.Proofs.Ytigfoldobkigeaa
open Go.RowKit
set_option linter.unusedVariables false
set_option linter.unusedSimpArgs false

theorem Mid.down {b b' : Nat} {w : World} {v : Value} {zs : List Int} (h : Mid b w v zs) (hb : b' ≤ b) : Mid b' w v zs := by
  obtain ⟨ao, c, q1, q2, q3, q4, q6, q5⟩ := h.ex
  exact ⟨ao, c, q1, q2, q3, q4, fun y e => ⟨(q6 y e).1, Nat.le_trans hb (q6 y e).2.1, (q6 y e).2.2⟩, fun h0 => by obtain ⟨g, off, r1, r2, r3⟩ := q5 h0; exact ⟨g, off, r1, Nat.le_trans hb r2, r3⟩⟩
theorem run_append_mid {w : World} (ty : TypeId) (base : Nat) (v : Value) (zs ds : List Int) (hM : Mid base w v zs) (sv : Value) (hrd : RdAt w sv ds) (hlen : zs.length + ds.length ≤ 140737488355328) (hb : base ≤ w.heap.size) :
    ∃ v' w', (Builtin.append_ #[24, 24] ty #[v, sv]).run Try.prog w = .ok v' w' ∧ Mid base w' v' (zs ++ ds) ∧ w.grownBy w' v.ownBlock ∧ (v'.ownBlock = v.ownBlock ∨ ∀ g, v'.ownBlock = some g → w.heap.size ≤ g) := by
  obtain ⟨i0, hi0, hz0, hz1, hz2⟩ := info_parts Try.info5
  obtain ⟨ao, c, rfl, h1, h2, h3, hsp, h4⟩ := id hM.ex
  obtain ⟨sa, sc, rfl, hsn, hsl, hsr⟩ := hrd
  cases sa with
  | none =>
    obtain ⟨e1, rfl⟩ := hsn rfl
    obtain rfl : ds = [] := List.eq_nil_of_length_eq_zero e1
    refine ⟨_, w, ?_, by simpa using hM, ⟨rfl, rfl, rfl, Nat.le_refl _, fun _ _ _ => rfl⟩, .inl rfl⟩
    cases ao with
    | none => have := h3 rfl; subst this; obtain rfl : zs = [] := List.eq_nil_of_length_eq_zero (by omega); simp [Builtin.append_, run_underlying Try.underlying24, sizeOf, typeInfo, hi0, Builtin.lenOf, Builtin.firstCells]
    | some x => simp [Builtin.append_, run_underlying Try.underlying24, sizeOf, typeInfo, hi0, Builtin.lenOf, Builtin.firstCells, h1, storeCells]
  | some x =>
    have hnews : ∀ j u, (cels ds)[j]? = some u → w.cell? (x.add j) = some u := fun j u hu => by
      rcases hsr with h0 | ⟨b, soff, e, hc⟩
      · rw [List.getElem?_eq_none (by simp; omega)] at hu; cases hu
      · cases e; rw [Go.WideShapes.add_plain]; exact hc j u hu
    cases ao with
    | none =>
      have := h3 rfl
      subst this
      obtain rfl : zs = [] := List.eq_nil_of_length_eq_zero (by omega)
      obtain ⟨v', w', hrun, ho, hg, _⟩ := run_append_own (P := Try.prog) w w.heap.size 24 ty 5 i0 (.int .u8 0) 1 1 Try.underlying24 hi0 hz0 hz1 hz2 rfl (by decide) (.slice none 0 0) 0 [] (World.ownsRow_nil w _ 5 1) x ds.length sc (cels ds) (by simp) hnews (cels_one _) (by unfold maxLen; simp at hlen; omega) (by simpa using hlen) (Nat.le_refl _)
      refine ⟨v', w', hrun, Mid.down (Mid.of_own (n := 0 + ds.length) (by simpa using ho)) hb, hg, .inr fun g e => (World.ownsRow.lt ho g e).1⟩
    | some y =>
      by_cases hr : zs.length + ds.length ≤ c
      · obtain ⟨g, off, spot⟩ := y
        obtain rfl : spot = none := (hsp _ rfl).1
        have hf : ∀ j, j < c - zs.length → (w.cell? ⟨g, off + zs.length + j, none⟩).isSome = true ∧ w.frozen? ⟨g, off + zs.length + j, none⟩ = false := fun j hj => by
          obtain ⟨g', off', e, _, _, _, hf⟩ := h4 (by omega)
          cases e
          exact hf j hj
        have hrun := run_append_room_cells (P := Try.prog) w 24 ty 5 i0 Try.underlying24 hi0 g off zs.length c x ds.length sc (cels ds) (by rw [hz1]; simp) hnews (cels_one _) hr
          (fun j hj => by rw [hz1, Nat.mul_one]; exact (hf j (by simp at hj; omega)).1) (fun j hj => by rw [hz1, Nat.mul_one]; exact (hf j (by simp at hj; omega)).2)
        rw [hz1, Nat.mul_one] at hrun
        have hgr := grown_setCells g (cels ds) (off + zs.length) w
        refine ⟨_, _, hrun, ⟨some ⟨g, off, none⟩, c, by rw [List.length_append], by rw [List.length_append]; exact hr, h2, (fun e => by cases e), (fun y e => by cases e; exact ⟨rfl, (hsp _ rfl).2.1, Nat.lt_of_lt_of_le (hsp _ rfl).2.2 hgr.size⟩), fun h0 => ?_⟩, hgr, .inl rfl⟩
        obtain ⟨g', off', e, hg, hlt, hc, _⟩ := h4 h0
        cases e
        refine ⟨g, off, rfl, hg, Nat.lt_of_lt_of_le hlt hgr.size, fun j z hz => ?_, fun j hj => ?_⟩
        · by_cases hj : j < zs.length
          · rw [List.getElem?_append_left hj] at hz
            rw [World.cell?_setCells_out g _ _ _ _ (fun _ _ => Or.inl (by show off + j < off + zs.length; omega))]
            exact hc j z hz
          · rw [List.getElem?_append_right (by omega)] at hz
            have hjd : j - zs.length < (cels ds).length := by have := (List.getElem?_eq_some_iff.1 hz).1; simpa using this
            have := World.cell?_setCells_in g (cels ds) (off + zs.length) w (fun j hj => (hf j (by simp at hj; omega)).1) (j - zs.length) hjd
            rw [show off + zs.length + (j - zs.length) = off + j by omega] at this
            rw [this]
            simp [cels]
            have h9 := List.getElem?_eq_some_iff.1 hz
            obtain ⟨_, h9⟩ := h9
            rw [h9]
        · rw [List.length_append] at hj ⊢
          have hq := hf (ds.length + j) (by omega)
          rw [World.frozen?_setCells, World.cell?_setCells_out g _ _ _ _ (fun _ _ => Or.inr (by show off + zs.length + (cels ds).length ≤ off + (zs.length + ds.length) + j; rw [cels_length]; omega))]
          rw [show off + (zs.length + ds.length) + j = off + zs.length + (ds.length + j) by omega]
          exact hq
      · obtain ⟨v', w', hrun, ho, hg⟩ := run_append_arg_grows (P := Try.prog) w 24 ty 5 i0 (.int .u8 0) 1 1 Try.underlying24 hi0 hz0 hz1 hz2 rfl (by decide) y zs.length c (cels zs) (by simp) (fun j u hu => by
            have hj : j < zs.length := by have := (List.getElem?_eq_some_iff.1 hu).1; simpa using this
            obtain ⟨g, off, e, _, _, hc, _⟩ := h4 (by omega)
            cases e
            rw [Go.WideShapes.add_plain]
            rw [cels, List.getElem?_map, List.getElem?_eq_getElem hj] at hu
            simp only [Option.map_some, Option.some.injEq] at hu
            rw [← hu]
            exact hc j _ (List.getElem?_eq_getElem hj)) x ds.length sc (cels ds) (by simp) hnews (by omega) (by unfold maxLen; omega) (by omega)
        refine ⟨v', w', hrun, ?_, ⟨hg.os, hg.tape, hg.output, hg.size, fun j hj _ => hg.block j hj (by simp)⟩, .inr fun g e => (World.ownsRow.lt ho g e).1⟩
        exact Mid.down (Mid.of_own (n := zs.length + ds.length) (zs := zs ++ ds) (by rw [cels_append]; exact ho)) hb
theorem wpList_append_mid {w : World} {ops : Array Oper} {rest : List Oper} {o : Oper} {a : Act} {Q : Exit → Act → World → Prop} (hgd : o.guard = none) (d s : Operand)
    (ho : o.op = .call { callee := .builtin .append, args := #[d, s], argTypes := #[24, 24] })
    (base : Nat) (v : Value) (zs ds : List Int) (hd : a.eval d = v) (hM : Mid base w v zs) (sv : Value) (hs : a.eval s = sv) (hrd : RdAt w sv ds) (hlen : zs.length + ds.length ≤ 140737488355328) (hb : base ≤ w.heap.size)
    (h : ∀ v' w', Kpt (Mid base w' v' (zs ++ ds)) → Kpt (w.grownBy w' v.ownBlock) → Kpt (v'.ownBlock = v.ownBlock ∨ ∀ g, v'.ownBlock = some g → w.heap.size ≤ g) → wpList Try.prog ops Q rest (a.put o.dst v') w') : wpList Try.prog ops Q (o :: rest) a w := by
  obtain ⟨v', w', hrun, h1, h2, h3⟩ := run_append_mid o.type base v zs ds hM sv hrd hlen hb
  refine wpList_plain hgd fun K hK => ?_
  unfold Oper.wp
  simp [execOp, ho, resolve, invoke, builtin, hd, hs, hrun, Result.andThen]
  exact hK _ _ (h v' w' ⟨h1⟩ ⟨h2⟩ ⟨h3⟩)

/-- A reader: its block, what waits. -/
structure Re (base : Nat) (w : World) (R : Nat) (h d : Bool) (F : Int) (v : Value) (Wt : List Int) : Prop where
  bx : Bx w R #[.bool h, .bool d, v, .int .i64 F]
  mid : Mid base w v Wt
  ge : base ≤ R
  ne : v.ownBlock ≠ some R
theorem Re.lt {base : Nat} {w : World} {R : Nat} {h d : Bool} {F : Int} {v : Value} {Wt : List Int} (r : Re base w R h d F v Wt) : base ≤ w.heap.size := Nat.le_trans r.ge (Nat.le_of_lt r.bx.lt)
theorem Re.of_block {base : Nat} {w w' : World} {R : Nat} {h d : Bool} {F : Int} {v : Value} {Wt : List Int} (r : Re base w R h d F v Wt) (hs : w.heap.size ≤ w'.heap.size) (hR : w'.heap[R]? = w.heap[R]?) (hb : ∀ g, v.ownBlock = some g → base ≤ g → g < w.heap.size → w'.heap[g]? = w.heap[g]?) : Re base w' R h d F v Wt :=
  ⟨r.bx.of_block (Nat.lt_of_lt_of_le r.bx.lt hs) hR, r.mid.of_block hs hb, r.ge, r.ne⟩
theorem Re.below {base : Nat} {w w' : World} {R : Nat} {h d : Bool} {F : Int} {v : Value} {Wt : List Int} (r : Re base w R h d F v Wt) (hb : Below w.heap.size w w') : Re base w' R h d F v Wt :=
  r.of_block hb.size (hb.block R r.bx.lt) (fun g _ _ hlt => hb.block g hlt)
/-- Another block has turned. -/
theorem Re.other {base : Nat} {w w' : World} {R b : Nat} {h d : Bool} {F : Int} {v : Value} {Wt : List Int} (r : Re base w R h d F v Wt) (hg : w.grownBy w' (some b)) (hR : b ≠ R) (hv : v.ownBlock ≠ some b) : Re base w' R h d F v Wt :=
  r.of_block hg.size (hg.block R r.bx.lt (fun e => hR (by injection e with e; exact e.symm))) (fun g hgv _ hlt => hg.block g hlt (fun e => hv (by rw [hgv, ← e])))

def rdZ : Array Value := #[.bool false, .bool false, .slice none 0 0, .int .i64 0]
set_option maxRecDepth 100000 in
theorem newR_any (w : World) : Calls Try.prog 16 #[] w fun e w' => ∃ R, e = .returned (.pointer (some ⟨R, 0, none⟩)) ∧ Re w.heap.size w' R false false 0 (.slice none 0 0) [] ∧ Below w.heap.size w w' := by
  go_enter Try.func16, Try.ntmps16
  go_wp2
  go_ret
  exact ⟨_, rfl, ⟨bx_new w rdZ 67, Mid.nil _ _, Nat.le_refl _, by simp [Value.ownBlock]⟩, (Below.refl _ _).alloc (Nat.le_refl _) _⟩
set_option maxRecDepth 100000 in
theorem digR_any (base R : Nat) (h0 d0 h d : Bool) (F : Int) (v : Value) (Wt : List Int) (w : World) (hr : Re base w R h0 d0 F v Wt) :
    Calls Try.prog 17 #[.pointer (some ⟨R, 0, none⟩), .bool h, .bool d] w fun e w' => e = .returned (.tuple #[]) ∧ Re base w' R h d F v Wt ∧ Below base w w' := by
  have c0 := hr.bx.cells 0 (by simp)
  have c1 := hr.bx.cells 1 (by simp)
  have f0 := hr.bx.free 0
  have f1 := hr.bx.free 1
  simp only [List.getElem?_toArray, List.getElem?_cons_succ, List.getElem?_cons_zero] at c0 c1
  have hX := bx_setCell (.bool d) (bx_setCell (.bool h) hr.bx (j := 0) (by simp)) (j := 1) (by simp)
  simp only [List.setIfInBounds_toArray, List.set_cons_succ, List.set_cons_zero] at hX
  have hg : w.grownBy ((w.setCell ⟨R, 0, none⟩ (.bool h)).setCell ⟨R, 1, none⟩ (.bool d)) (some R) := by
    have k1 := grown_setCellK w ⟨R, 0, none⟩ (.bool h)
    have k2 := grown_setCellK (w.setCell ⟨R, 0, none⟩ (.bool h)) ⟨R, 1, none⟩ (.bool d)
    exact ⟨k2.os.trans k1.os, k2.tape.trans k1.tape, k2.output.trans k1.output, Nat.le_trans k1.size k2.size, fun j hj hn => (k2.block j (Nat.lt_of_lt_of_le hj k1.size) hn).trans (k1.block j hj hn)⟩
  have hfin : Kpt (Re base ((w.setCell ⟨R, 0, none⟩ (.bool h)).setCell ⟨R, 1, none⟩ (.bool d)) R h d F v Wt ∧ Below base w ((w.setCell ⟨R, 0, none⟩ (.bool h)).setCell ⟨R, 1, none⟩ (.bool d))) :=
    ⟨⟨hX, hr.mid.of_block hg.size (fun g hgv _ hlt => hg.block g hlt (fun e => hr.ne (by rw [hgv, ← e]))), hr.ge, hr.ne⟩, (Below.refl base w).grown hg hr.lt (fun q e => by injection e with e; rw [← e]; exact hr.ge)⟩
  clear hr hX hg
  go_enter Try.func17, Try.ntmps17
  go_wp2
  refine bodyPost_end (v := .tuple #[]) (by simp [results, Try.results17, asAddr, Act.put]) rfl ?_
  exact ⟨rfl, hfin.out⟩
end Go.Proofs.Ytigfoldobkigeaa
