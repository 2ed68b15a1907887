/-
  Bytes of one's own that begin anywhere in their block. Two devices beside each other, and memory of one's own beside both. SbcSplits: what both devices come to; Do of both, told of two devices. SbcSplits: two new devices; a block of the second; a piece of bytes. SbcSplits: no whole block.
-/
import Derived.Test.YtklboieemljmiaaMR
import Derived.ArgAppend
import Derived.Test.YtklboieemljmiaaMX
namespace Go.Proofs.Ytklboieemljmiaa
open Go.RowKit
set_option linter.unusedVariables false
set_option linter.unusedSimpArgs false

/-- Bytes of one's own, behind them room of one's own. -/
structure Mid (base : Nat) (w : World) (v : Value) (zs : List Int) : Prop where
  ex : ∃ ao c, v = .slice ao zs.length c ∧ zs.length ≤ c ∧ c ≤ maxLen ∧ (ao = none → c = 0) ∧ (∀ y, ao = some y → y.spot = none ∧ base ≤ y.block ∧ y.block < w.heap.size) ∧ (0 < c → ∃ g off, ao = some ⟨g, off, none⟩ ∧ base ≤ g ∧ g < w.heap.size ∧ (∀ j x, zs[j]? = some x → w.cell? ⟨g, off + j, none⟩ = some (.int .u8 x)) ∧ ∀ j, j < c - zs.length → (w.cell? ⟨g, off + zs.length + j, none⟩).isSome = true ∧ w.frozen? ⟨g, off + zs.length + j, none⟩ = false)
theorem Mid.nil (base : Nat) (w : World) : Mid base w (.slice none 0 0) [] := ⟨none, 0, rfl, Nat.le_refl _, Nat.zero_le _, fun _ => rfl, (fun y e => by cases e), fun h => by omega⟩
theorem Mid.rd {base : Nat} {w : World} {v : Value} {zs : List Int} (h : Mid base w v zs) : RdAt w v zs := by
  obtain ⟨ao, c, rfl, h1, h2, h3, hsp, h4⟩ := h.ex
  refine ⟨ao, c, rfl, fun e => ?_, h1, ?_⟩
  · have := h3 e; exact ⟨by omega, this⟩
  · by_cases h0 : zs.length = 0
    · exact .inl h0
    · obtain ⟨g, off, rfl, _, _, hc, _⟩ := h4 (by omega)
      refine .inr ⟨g, off, rfl, fun j u hu => ?_⟩
      rw [cels, List.getElem?_map] at hu
      cases hx : zs[j]? with
      | none => rw [hx] at hu; cases hu
      | some x => rw [hx] at hu; simp only [Option.map_some, Option.some.injEq] at hu; rw [← hu]; exact hc j x hx
theorem Mid.of_block {base : Nat} {w w' : World} {v : Value} {zs : List Int} (h : Mid base w v zs) (hs : w.heap.size ≤ w'.heap.size) (hb : ∀ g, v.ownBlock = some g → base ≤ g → g < w.heap.size → w'.heap[g]? = w.heap[g]?) : Mid base w' v zs := by
  obtain ⟨ao, c, rfl, h1, h2, h3, hsp, h4⟩ := h.ex
  refine ⟨ao, c, rfl, h1, h2, h3, fun y e => ⟨(hsp y e).1, (hsp y e).2.1, Nat.lt_of_lt_of_le (hsp y e).2.2 hs⟩, fun h0 => ?_⟩
  obtain ⟨g, off, rfl, hg, hlt, hc, hf⟩ := h4 h0
  have e := hb g rfl hg hlt
  refine ⟨g, off, rfl, hg, Nat.lt_of_lt_of_le hlt hs, fun j x hx => (World.cell?_of_block (w := w) (w' := w') (a := ⟨g, off + j, none⟩) e).trans (hc j x hx), fun j hj => ?_⟩
  rw [World.cell?_of_block (w := w) (w' := w') (a := ⟨g, off + zs.length + j, none⟩) e, World.frozen?_of_block (w := w) (w' := w') (a := ⟨g, off + zs.length + j, none⟩) e]
  exact hf j hj
theorem Mid.own {base : Nat} {w : World} {v : Value} {zs : List Int} (h : Mid base w v zs) {g : Nat} (hg : v.ownBlock = some g) : base ≤ g ∧ g < w.heap.size := by
  obtain ⟨ao, c, rfl, _, _, _, hsp, _⟩ := h.ex
  cases ao with
  | none => simp [Value.ownBlock] at hg
  | some y => simp only [Value.ownBlock, Option.some.injEq] at hg; subst hg; exact (hsp y rfl).2
theorem Mid.cap {base : Nat} {w : World} {ao : Option Addr} {n c : Nat} {zs : List Int} (h : Mid base w (.slice ao n c) zs) : zs.length = n ∧ n ≤ c ∧ c ≤ maxLen := by
  obtain ⟨ao', c', hv, h1, h2, _⟩ := h.ex
  simp only [Value.slice.injEq] at hv
  obtain ⟨rfl, rfl, rfl⟩ := hv
  exact ⟨rfl, h1, h2⟩
/-- What stands behind the first k of them. -/
theorem Mid.drop {base : Nat} {w : World} {g off n c : Nat} {zs : List Int} (h : Mid base w (.slice (some ⟨g, off, none⟩) n c) zs) (k : Nat) (hk : k ≤ n) : Mid base w (.slice (some ⟨g, if c = k then off else off + k, none⟩) (n - k) (c - k)) (zs.drop k) := by
  obtain ⟨ao', c', hv, h1, h2, h3, hsp, h4⟩ := h.ex
  simp only [Value.slice.injEq] at hv
  obtain ⟨rfl, rfl, rfl⟩ := hv
  refine ⟨some ⟨g, if c = k then off else off + k, none⟩, c - k, by rw [List.length_drop], by rw [List.length_drop]; omega, by omega, (fun e => by cases e), (fun y e => by cases e; exact ⟨rfl, (hsp _ rfl).2⟩), fun h0 => ?_⟩
  obtain ⟨g', off', e, hg, hlt, hc, hf⟩ := h4 (by omega)
  simp only [Option.some.injEq, Addr.mk.injEq, and_true] at e
  obtain ⟨rfl, rfl⟩ := e
  rw [if_neg (by omega)]
  refine ⟨g, off + k, rfl, hg, hlt, fun j x hx => ?_, fun j hj => ?_⟩
  · rw [List.getElem?_drop] at hx
    rw [Nat.add_assoc]
    exact hc (k + j) x hx
  · rw [List.length_drop] at hj ⊢
    have := hf j (by omega)
    rw [show off + k + (zs.length - k) + j = off + zs.length + j by omega]
    exact this
theorem Mid.of_own {base n : Nat} {w : World} {v : Value} {zs : List Int} (h : w.ownsRow base 5 1 v n (cels zs)) : Mid base w v zs := by
  have hl : zs.length = n := by have := h.1; simpa using this
  subst hl
  have ho := h
  rcases h.2 with ⟨rfl, h0⟩ | ⟨g, cap, cur, rfl, hb, hg, hnc, hcm, hcs, htk⟩
  · have : zs = [] := List.eq_nil_of_length_eq_zero h0
    subst this
    exact Mid.nil base w
  · refine ⟨some ⟨g, 0, none⟩, cap, rfl, hnc, hcm, (fun e => by cases e), (fun y e => by cases e; exact ⟨rfl, hb, (World.ownsRow.lt ho g rfl).2⟩), fun h0 => ⟨g, 0, rfl, hb, (World.ownsRow.lt ho g rfl).2, fun j x hx => ?_, fun j hj => ?_⟩⟩
    · have hj : j < zs.length := (List.getElem?_eq_some_iff.1 hx).1
      rw [Nat.zero_add, ho.cellAt j (by omega), cels, List.getElem?_map, hx]
      rfl
    · refine ⟨?_, World.ownsRow.frozenAt ho _⟩
      rw [show (0 : Nat) + zs.length + j = zs.length + j by omega]
      have hcz : cur.size = cap := by simpa using hcs
      have : w.cell? ⟨g, zs.length + j, none⟩ = cur[zs.length + j]? := by
        simp [World.cell?, hg]
      rw [this, Array.getElem?_eq_getElem (by omega)]
      rfl
theorem Mid.down {b b' : Nat} {w : World} {v : Value} {zs : List Int} (h : Mid b w v zs) (hb : b' ≤ b) : Mid b' w v zs := by
  obtain ⟨ao, c, q1, q2, q3, q4, q6, q5⟩ := h.ex
  exact ⟨ao, c, q1, q2, q3, q4, fun y e => ⟨(q6 y e).1, Nat.le_trans hb (q6 y e).2.1, (q6 y e).2.2⟩, fun h0 => by obtain ⟨g, off, r1, r2, r3⟩ := q5 h0; exact ⟨g, off, r1, Nat.le_trans hb r2, r3⟩⟩
theorem run_append_mid {w : World} (ty : TypeId) (base : Nat) (v : Value) (zs ds : List Int) (hM : Mid base w v zs) (sv : Value) (hrd : RdAt w sv ds) (hlen : zs.length + ds.length ≤ 140737488355328) (hb : base ≤ w.heap.size) :
    ∃ v' w', (Builtin.append_ #[22, 22] ty #[v, sv]).run Try.prog w = .ok v' w' ∧ Mid base w' v' (zs ++ ds) ∧ w.grownBy w' v.ownBlock ∧ (v'.ownBlock = v.ownBlock ∨ ∀ g, v'.ownBlock = some g → w.heap.size ≤ g) := by
  obtain ⟨i0, hi0, hz0, hz1, hz2⟩ := info_parts Try.info5
  obtain ⟨ao, c, rfl, h1, h2, h3, hsp, h4⟩ := id hM.ex
  obtain ⟨sa, sc, rfl, hsn, hsl, hsr⟩ := hrd
  cases sa with
  | none =>
    obtain ⟨e1, rfl⟩ := hsn rfl
    obtain rfl : ds = [] := List.eq_nil_of_length_eq_zero e1
    refine ⟨_, w, ?_, by simpa using hM, ⟨rfl, rfl, rfl, Nat.le_refl _, fun _ _ _ => rfl⟩, .inl rfl⟩
    cases ao with
    | none => have := h3 rfl; subst this; obtain rfl : zs = [] := List.eq_nil_of_length_eq_zero (by omega); simp [Builtin.append_, run_underlying Try.underlying22, sizeOf, typeInfo, hi0, Builtin.lenOf, Builtin.firstCells]
    | some x => simp [Builtin.append_, run_underlying Try.underlying22, sizeOf, typeInfo, hi0, Builtin.lenOf, Builtin.firstCells, h1, storeCells]
  | some x =>
    have hnews : ∀ j u, (cels ds)[j]? = some u → w.cell? (x.add j) = some u := fun j u hu => by
      rcases hsr with h0 | ⟨b, soff, e, hc⟩
      · rw [List.getElem?_eq_none (by simp; omega)] at hu; cases hu
      · cases e; rw [Go.WideShapes.add_plain]; exact hc j u hu
    cases ao with
    | none =>
      have := h3 rfl
      subst this
      obtain rfl : zs = [] := List.eq_nil_of_length_eq_zero (by omega)
      obtain ⟨v', w', hrun, ho, hg, _⟩ := run_append_own (P := Try.prog) w w.heap.size 22 ty 5 i0 (.int .u8 0) 1 1 Try.underlying22 hi0 hz0 hz1 hz2 rfl (by decide) (.slice none 0 0) 0 [] (World.ownsRow_nil w _ 5 1) x ds.length sc (cels ds) (by simp) hnews (cels_one _) (by unfold maxLen; simp at hlen; omega) (by simpa using hlen) (Nat.le_refl _)
      refine ⟨v', w', hrun, Mid.down (Mid.of_own (n := 0 + ds.length) (by simpa using ho)) hb, hg, .inr fun g e => (World.ownsRow.lt ho g e).1⟩
    | some y =>
      by_cases hr : zs.length + ds.length ≤ c
      · obtain ⟨g, off, spot⟩ := y
        obtain rfl : spot = none := (hsp _ rfl).1
        have hf : ∀ j, j < c - zs.length → (w.cell? ⟨g, off + zs.length + j, none⟩).isSome = true ∧ w.frozen? ⟨g, off + zs.length + j, none⟩ = false := fun j hj => by
          obtain ⟨g', off', e, _, _, _, hf⟩ := h4 (by omega)
          cases e
          exact hf j hj
        have hrun := run_append_room_cells (P := Try.prog) w 22 ty 5 i0 Try.underlying22 hi0 g off zs.length c x ds.length sc (cels ds) (by rw [hz1]; simp) hnews (cels_one _) hr
          (fun j hj => by rw [hz1, Nat.mul_one]; exact (hf j (by simp at hj; omega)).1) (fun j hj => by rw [hz1, Nat.mul_one]; exact (hf j (by simp at hj; omega)).2)
        rw [hz1, Nat.mul_one] at hrun
        have hgr := grown_setCells g (cels ds) (off + zs.length) w
        refine ⟨_, _, hrun, ⟨some ⟨g, off, none⟩, c, by rw [List.length_append], by rw [List.length_append]; exact hr, h2, (fun e => by cases e), (fun y e => by cases e; exact ⟨rfl, (hsp _ rfl).2.1, Nat.lt_of_lt_of_le (hsp _ rfl).2.2 hgr.size⟩), fun h0 => ?_⟩, hgr, .inl rfl⟩
        obtain ⟨g', off', e, hg, hlt, hc, _⟩ := h4 h0
        cases e
        refine ⟨g, off, rfl, hg, Nat.lt_of_lt_of_le hlt hgr.size, fun j z hz => ?_, fun j hj => ?_⟩
        · by_cases hj : j < zs.length
          · rw [List.getElem?_append_left hj] at hz
            rw [World.cell?_setCells_out g _ _ _ _ (fun _ _ => Or.inl (by show off + j < off + zs.length; omega))]
            exact hc j z hz
          · rw [List.getElem?_append_right (by omega)] at hz
            have hjd : j - zs.length < (cels ds).length := by have := (List.getElem?_eq_some_iff.1 hz).1; simpa using this
            have := World.cell?_setCells_in g (cels ds) (off + zs.length) w (fun j hj => (hf j (by simp at hj; omega)).1) (j - zs.length) hjd
            rw [show off + zs.length + (j - zs.length) = off + j by omega] at this
            rw [this]
            simp [cels]
            have h9 := List.getElem?_eq_some_iff.1 hz
            obtain ⟨_, h9⟩ := h9
            rw [h9]
        · rw [List.length_append] at hj ⊢
          have hq := hf (ds.length + j) (by omega)
          rw [World.frozen?_setCells, World.cell?_setCells_out g _ _ _ _ (fun _ _ => Or.inr (by show off + zs.length + (cels ds).length ≤ off + (zs.length + ds.length) + j; rw [cels_length]; omega))]
          rw [show off + (zs.length + ds.length) + j = off + zs.length + (ds.length + j) by omega]
          exact hq
      · obtain ⟨v', w', hrun, ho, hg⟩ := run_append_arg_grows (P := Try.prog) w 22 ty 5 i0 (.int .u8 0) 1 1 Try.underlying22 hi0 hz0 hz1 hz2 rfl (by decide) y zs.length c (cels zs) (by simp) (fun j u hu => by
            have hj : j < zs.length := by have := (List.getElem?_eq_some_iff.1 hu).1; simpa using this
            obtain ⟨g, off, e, _, _, hc, _⟩ := h4 (by omega)
            cases e
            rw [Go.WideShapes.add_plain]
            rw [cels, List.getElem?_map, List.getElem?_eq_getElem hj] at hu
            simp only [Option.map_some, Option.some.injEq] at hu
            rw [← hu]
            exact hc j _ (List.getElem?_eq_getElem hj)) x ds.length sc (cels ds) (by simp) hnews (by omega) (by unfold maxLen; omega) (by omega)
        refine ⟨v', w', hrun, ?_, ⟨hg.os, hg.tape, hg.output, hg.size, fun j hj _ => hg.block j hj (by simp)⟩, .inr fun g e => (World.ownsRow.lt ho g e).1⟩
        exact Mid.down (Mid.of_own (n := zs.length + ds.length) (zs := zs ++ ds) (by rw [cels_append]; exact ho)) hb
theorem wpList_append_mid {w : World} {ops : Array Oper} {rest : List Oper} {o : Oper} {a : Act} {Q : Exit → Act → World → Prop} (hgd : o.guard = none) (d s : Operand)
    (ho : o.op = .call { callee := .builtin .append, args := #[d, s], argTypes := #[22, 22] })
    (base : Nat) (v : Value) (zs ds : List Int) (hd : a.eval d = v) (hM : Mid base w v zs) (sv : Value) (hs : a.eval s = sv) (hrd : RdAt w sv ds) (hlen : zs.length + ds.length ≤ 140737488355328) (hb : base ≤ w.heap.size)
    (h : ∀ v' w', Kpt (Mid base w' v' (zs ++ ds)) → Kpt (w.grownBy w' v.ownBlock) → Kpt (v'.ownBlock = v.ownBlock ∨ ∀ g, v'.ownBlock = some g → w.heap.size ≤ g) → wpList Try.prog ops Q rest (a.put o.dst v') w') : wpList Try.prog ops Q (o :: rest) a w := by
  obtain ⟨v', w', hrun, h1, h2, h3⟩ := run_append_mid o.type base v zs ds hM sv hrd hlen hb
  refine wpList_plain hgd fun K hK => ?_
  unfold Oper.wp
  simp [execOp, ho, resolve, invoke, builtin, hd, hs, hrun, Result.andThen]
  exact hK _ _ (h v' w' ⟨h1⟩ ⟨h2⟩ ⟨h3⟩)

end Go.Proofs.Ytklboieemljmiaa

namespace Go.Proofs.Ytklboieemljmiaa
open Go.RowKit
set_option linter.unusedVariables false
set_option linter.unusedSimpArgs false

set_option maxRecDepth 100000 in
set_option maxHeartbeats 1000000 in
theorem device_lo (N : Nat) (k : Int) (ca : Bool) (w : World) (h1 : 1 ≤ N) (h2 : N ≤ 4096) : Calls Try.prog 10 #[.int .i64 N, .int .u8 k, .bool ca] w fun e w' => ∃ D B S tag, e = .returned (.tuple #[.pointer (some ⟨D, 0, none⟩), .pointer (some ⟨B, 0, none⟩)]) ∧ Dv w' B tag st0 nmF S D N k ca ∧ Below w.heap.size w w' ∧ (∀ i, i < w.heap.size → tag i = none) ∧ w.heap.size ≤ S ∧ w.heap.size ≤ D := by
  have HN := Kpt.mk (new_any w)
  go_enter Try.func10, Try.ntmps10
  go_wp2_with fail
  refine HN.out.mono ?_
  rintro e w1 ⟨B, tag, rfl, hW1, hg1, ht1⟩
  have hb1 : Kpt (Below w.heap.size w w1) := ⟨(Below.refl _ _).grown hg1 (Nat.le_refl _) (fun k hk => by cases hk)⟩
  have HO := Kpt.mk (kopen_any w1 B N nmF ca (by decide) (by decide) h1 h2)
  replace hW1 := Kpt.mk hW1
  replace ht1 := Kpt.mk ht1
  clear HN hg1
  go_wp2_with fail
  refine HO.out.mono ?_
  rintro e w2 ⟨rfl, hw2⟩
  have hS2 : Kpt (Sto w2 tag w1.heap.size B nmF N ca) := ⟨by rw [hw2]; exact sto_new w1 tag B N nmF ca (wd_none hW1.out (Nat.le_refl _))⟩
  have hbe2 : Below w1.heap.size w1 w2 := by rw [hw2]; exact (Below.refl _ _).alloc (Nat.le_refl _) _
  have hW2 := Kpt.mk (hW1.out.step (step_below hbe2 tag (fun _ => False)))
  have hb2 : Kpt (Below w.heap.size w w2) := ⟨hb1.out.trans (hbe2.mono hb1.out.size)⟩
  have hgw := hb1.out.size
  clear HO hw2 hb1 hbe2 hW1
  obtain ⟨S, hS⟩ : ∃ S, S = w1.heap.size := ⟨_, rfl⟩
  have hS0 : Kpt (w.heap.size ≤ S) := ⟨by rw [hS]; exact hgw⟩
  rw [← hS] at hS2 ⊢
  clear hS hgw
  go_wp2_with (first | (refine wpList_box rfl 60 _ rfl (devV S k) rfl ?_; intro D w3 hl3 hX3 h3 _; have hD : Kpt (Dv w3 B tag st0 nmF S D N k ca) := ⟨hW2.out.step (step_below h3 tag (fun _ => False)), hS2.out.below h3, hX3, wd_none hW2.out hl3⟩; have hb3 := Kpt.mk (hb2.out.trans (h3.mono hb2.out.size)); have hD0 : Kpt (w.heap.size ≤ D) := ⟨Nat.le_trans hb2.out.size hl3⟩; clear hl3 hX3 h3) | fail)
  go_ret2
  exact ⟨D, B, S, tag, rfl, hD.out, hb3.out, ht1.out, hS0.out, hD0.out⟩

/-- Where two devices' worlds and stores lie. -/
structure T2 where
  BA : Nat
  tagA : Tags
  SA : Nat
  BB : Nat
  tagB : Tags
  SB : Nat
structure Tw (w0 w : World) (k : Int) (DA DB : Nat) (sA sB : St) (t : T2) : Prop where
  a : Dv w t.BA t.tagA sA nmF t.SA DA 16 k true
  b : Dv w t.BB t.tagB sB nmF t.SB DB 16 k true
  la : ∀ i, i < w0.heap.size → t.tagA i = none
  lb : ∀ i, i < w0.heap.size → t.tagB i = none
  dj : ∀ i, t.tagA i ≠ none → t.tagB i = none
  xa : t.tagB t.SA = none ∧ t.tagB DA = none
  xb : t.tagA t.SB = none ∧ t.tagA DB = none
  be : Below w0.heap.size w0 w
/-- A block that is none of theirs. -/
structure Un (w : World) (DA DB : Nat) (t : T2) (g : Nat) : Prop where
  lt : g < w.heap.size
  ta : t.tagA g = none
  tb : t.tagB g = none
  ne : g ≠ t.SA ∧ g ≠ DA ∧ g ≠ t.SB ∧ g ≠ DB
/-- What has turned leaves such blocks alone. -/
structure Mv (w w' : World) (DA DB : Nat) (t t' : T2) : Prop where
  size : w.heap.size ≤ w'.heap.size
  un : ∀ g, Un w DA DB t g → Un w' DA DB t' g ∧ w'.heap[g]? = w.heap[g]?
def T2.swap (t : T2) : T2 := ⟨t.BB, t.tagB, t.SB, t.BA, t.tagA, t.SA⟩
theorem Tw.swap {w0 w : World} {k : Int} {DA DB : Nat} {sA sB : St} {t : T2} (h : Tw w0 w k DA DB sA sB t) : Tw w0 w k DB DA sB sA t.swap :=
  ⟨h.b, h.a, h.lb, h.la, fun i hi => by
    cases ht : t.tagA i with
    | none => exact ht
    | some x => exact absurd (h.dj i (by rw [ht]; simp)) hi, h.xb, h.xa, h.be⟩
theorem Un.swap {w : World} {DA DB : Nat} {t : T2} {g : Nat} (h : Un w DA DB t g) : Un w DB DA t.swap g := ⟨h.lt, h.tb, h.ta, h.ne.2.2.1, h.ne.2.2.2, h.ne.1, h.ne.2.1⟩
theorem Mv.swap {w w' : World} {DA DB : Nat} {t t' : T2} (h : Mv w w' DA DB t t') : Mv w w' DB DA t.swap t'.swap :=
  ⟨h.size, fun g hg => by
    obtain ⟨h1, h2⟩ := h.un g (t := t) hg.swap
    exact ⟨h1.swap, h2⟩⟩
theorem Tw.n0 {w0 w : World} {k : Int} {DA DB : Nat} {sA sB : St} {t : T2} (h : Tw w0 w k DA DB sA sB t) : w0.heap.size ≤ w.heap.size := h.be.size
/-- The first has done something. -/
theorem Tw.leftT {w0 w w' : World} {k : Int} {DA DB : Nat} {sA sB sA' : St} {t : T2} {tg : Tags} (h : Tw w0 w k DA DB sA sB t) (hW : Wd w' t.BA tg sA') (s : Step w w' t.tagA tg (fun _ => True)) :
    Tw w0 w' k DA DB sA' sB ⟨t.BA, tg, t.SA, t.BB, t.tagB, t.SB⟩ ∧ Mv w w' DA DB t ⟨t.BA, tg, t.SA, t.BB, t.tagB, t.SB⟩ := by
  have hkeep : ∀ i, i < w.heap.size → t.tagA i = none → w'.heap[i]? = w.heap[i]? := fun i hi ht => s.block i hi (fun x _ e => by rw [ht] at e; cases e)
  have hd' : ∀ i, t.tagB i ≠ none → t.tagA i = none := h.swap.dj
  refine ⟨⟨h.a.step s hW, ?_, fun i hi => s.bare i (Nat.lt_of_lt_of_le hi h.n0) (h.la i hi), h.lb, fun i hi => ?_, h.xa, ⟨s.bare _ h.b.sto.lt h.xb.1, s.bare _ h.b.bx.lt h.xb.2⟩, h.be.trans (s.belowT h.n0 h.la).1⟩, ⟨s.size, fun g hg => ⟨⟨Nat.lt_of_lt_of_le hg.lt s.size, s.bare g hg.lt hg.ta, hg.tb, hg.ne⟩, hkeep g hg.lt hg.ta⟩⟩⟩
  · exact ⟨h.b.wd.frame s.size (fun i hi => hkeep i (h.b.wd.lt i hi) (hd' i hi)), h.b.sto.of_block (Nat.lt_of_lt_of_le h.b.sto.lt s.size) h.b.sto.bare (hkeep _ h.b.sto.lt h.xb.1), h.b.bx.of_block (Nat.lt_of_lt_of_le h.b.bx.lt s.size) (hkeep _ h.b.bx.lt h.xb.2), h.b.bare⟩
  · by_cases hlt : i < w.heap.size
    · exact h.dj i (fun e => hi (s.bare i hlt e))
    · exact wd_none h.b.wd (by omega)
theorem Tw.rightT {w0 w w' : World} {k : Int} {DA DB : Nat} {sA sB sB' : St} {t : T2} {tg : Tags} (h : Tw w0 w k DA DB sA sB t) (hW : Wd w' t.BB tg sB') (s : Step w w' t.tagB tg (fun _ => True)) :
    Tw w0 w' k DA DB sA sB' ⟨t.BA, t.tagA, t.SA, t.BB, tg, t.SB⟩ ∧ Mv w w' DA DB t ⟨t.BA, t.tagA, t.SA, t.BB, tg, t.SB⟩ := by
  obtain ⟨h1, h2⟩ := h.swap.leftT hW s
  exact ⟨h1.swap, h2.swap⟩
/-- What lies behind the heap's end is none of theirs. -/
theorem Tw.new {w0 w w' : World} {k : Int} {DA DB : Nat} {sA sB : St} {t : T2} (h : Tw w0 w k DA DB sA sB t) {g : Nat} (hg : w.heap.size ≤ g) (hl : g < w'.heap.size) : Un w' DA DB t g :=
  ⟨hl, wd_none h.a.wd hg, wd_none h.b.wd hg, by have := h.a.sto.lt; omega, by have := h.a.bx.lt; omega, by have := h.b.sto.lt; omega, by have := h.b.bx.lt; omega⟩
theorem Tw.below {w0 w w' : World} {k : Int} {DA DB : Nat} {sA sB : St} {t : T2} (h : Tw w0 w k DA DB sA sB t) (hb : Below w.heap.size w w') : Tw w0 w' k DA DB sA sB t :=
  ⟨h.a.below hb, h.b.below hb, h.la, h.lb, h.dj, h.xa, h.xb, h.be.trans (hb.mono h.n0)⟩
theorem Un.below {w w' : World} {DA DB : Nat} {t : T2} {g : Nat} (h : Un w DA DB t g) (hb : w.heap.size ≤ w'.heap.size) : Un w' DA DB t g := ⟨Nat.lt_of_lt_of_le h.lt hb, h.ta, h.tb, h.ne⟩
theorem Mv.below {w w' : World} {DA DB : Nat} {t : T2} (hb : Below w.heap.size w w') : Mv w w' DA DB t t := ⟨hb.size, fun g hg => ⟨hg.below hb.size, hb.block g hg.lt⟩⟩
theorem Mv.trans {a b c : World} {DA DB : Nat} {t u v : T2} (h : Mv a b DA DB t u) (i : Mv b c DA DB u v) : Mv a c DA DB t v :=
  ⟨Nat.le_trans h.size i.size, fun g hg => by
    obtain ⟨h1, h2⟩ := h.un g hg
    obtain ⟨h3, h4⟩ := i.un g h1
    exact ⟨h3, h4.trans h2⟩⟩
/-- A block that is none of theirs has turned. -/
theorem Tw.own {w0 w w' : World} {k : Int} {DA DB : Nat} {sA sB : St} {t : T2} (h : Tw w0 w k DA DB sA sB t) {g : Nat} (hg : w.grownBy w' (some g)) (hu : Un w DA DB t g) (hl : w0.heap.size ≤ g) : Tw w0 w' k DA DB sA sB t :=
  ⟨h.a.own hg hu.ta hu.ne.1 hu.ne.2.1, h.b.own hg hu.tb hu.ne.2.2.1 hu.ne.2.2.2, h.la, h.lb, h.dj, h.xa, h.xb, h.be.grown hg h.n0 (fun q e => by cases e; exact hl)⟩
theorem Tw.grown {w0 w w' : World} {k : Int} {DA DB : Nat} {sA sB : St} {t : T2} (h : Tw w0 w k DA DB sA sB t) {r : Option Nat} (hg : w.grownBy w' r) (hu : ∀ g, r = some g → Un w DA DB t g ∧ w0.heap.size ≤ g) : Tw w0 w' k DA DB sA sB t := by
  cases r with
  | some g => exact h.own hg (hu g rfl).1 (hu g rfl).2
  | none => exact h.below ((Below.refl _ _).grown hg (Nat.le_refl _) (fun k e => by cases e))
/-- A box of one's own. -/
structure Oq (w0 w : World) (DA DB : Nat) (t : T2) (b : Nat) (cs : Array Value) : Prop where
  bx : Bx w b cs
  un : Un w DA DB t b
  lo : w0.heap.size ≤ b
theorem Oq.mv {w0 w w' : World} {DA DB : Nat} {t t' : T2} {b : Nat} {cs : Array Value} (o : Oq w0 w DA DB t b cs) (m : Mv w w' DA DB t t') : Oq w0 w' DA DB t' b cs := by
  obtain ⟨h1, h2⟩ := m.un b o.un
  exact ⟨o.bx.of_block h1.lt h2, h1, o.lo⟩
theorem Oq.other {w0 w w' : World} {DA DB : Nat} {t : T2} {b : Nat} {cs : Array Value} {r : Option Nat} (o : Oq w0 w DA DB t b cs) (hg : w.grownBy w' r) (hne : r ≠ some b) : Oq w0 w' DA DB t b cs :=
  ⟨o.bx.grown hg hne, o.un.below hg.size, o.lo⟩
theorem Oq.set {w0 w w' : World} {DA DB : Nat} {t : T2} {b : Nat} {cs cs2 : Array Value} (o : Oq w0 w DA DB t b cs) (hX : Bx w' b cs2) (hs : w.heap.size ≤ w'.heap.size) : Oq w0 w' DA DB t b cs2 := ⟨hX, o.un.below hs, o.lo⟩
theorem Tw.box {w0 w w' : World} {k : Int} {DA DB : Nat} {sA sB : St} {t : T2} (h : Tw w0 w k DA DB sA sB t) {b : Nat} {cs : Array Value} (hl : w.heap.size ≤ b) (hX : Bx w' b cs) : Oq w0 w' DA DB t b cs := ⟨hX, h.new hl hX.lt, Nat.le_trans h.n0 hl⟩
/-- Bytes of one's own. -/
structure Or2 (w0 w : World) (DA DB : Nat) (t : T2) (v : Value) (zs : List Int) : Prop where
  own : Mid w0.heap.size w v zs
  un : ∀ g, v.ownBlock = some g → Un w DA DB t g
theorem Or2.mv {w0 w w' : World} {DA DB : Nat} {t t' : T2} {v : Value} {zs : List Int} (o : Or2 w0 w DA DB t v zs) (m : Mv w w' DA DB t t') : Or2 w0 w' DA DB t' v zs :=
  ⟨o.own.of_block m.size (fun g hg _ _ => (m.un g (o.un g hg)).2), fun g hg => (m.un g (o.un g hg)).1⟩
theorem Or2.other {w0 w w' : World} {DA DB : Nat} {t : T2} {v : Value} {zs : List Int} {r : Option Nat} (o : Or2 w0 w DA DB t v zs) (hg : w.grownBy w' r) (hne : ∀ g, v.ownBlock = some g → r ≠ some g) : Or2 w0 w' DA DB t v zs :=
  ⟨o.own.of_block hg.size (fun g hg' _ hlt => hg.block g hlt (fun e => hne g hg' e.symm)), fun g hg' => (o.un g hg').below hg.size⟩
theorem Or2.nil (w0 w : World) (DA DB : Nat) (t : T2) : Or2 w0 w DA DB t (.slice none 0 0) [] := ⟨Mid.nil _ _, fun g e => by cases e⟩
theorem Or2.app {w0 w w' : World} {k : Int} {DA DB : Nat} {sA sB : St} {t : T2} {v v' : Value} {zs zs' : List Int} (o : Or2 w0 w DA DB t v zs) (T : Tw w0 w k DA DB sA sB t) (hM : Mid w0.heap.size w' v' zs') (hg : w.grownBy w' v.ownBlock) (hn : v'.ownBlock = v.ownBlock ∨ ∀ g, v'.ownBlock = some g → w.heap.size ≤ g) :
    Or2 w0 w' DA DB t v' zs' ∧ Tw w0 w' k DA DB sA sB t := by
  refine ⟨⟨hM, fun g e => ?_⟩, T.grown hg (fun g e => ⟨o.un g e, (o.own.own e).1⟩)⟩
  rcases hn with h | h
  · exact (o.un g (by rw [← h]; exact e)).below hg.size
  · exact T.new (h g e) (hM.own e).2
end Go.Proofs.Ytklboieemljmiaa

namespace Go.Proofs.Ytklboieemljmiaa
open Go.RowKit
set_option linter.unusedVariables false
set_option linter.unusedSimpArgs false

/-- What a file says of its blocks behind j of the blocks. -/
def View (k : Int) (l : Nat) (us : List Bk) (F : Option (List Int)) (j : Nat) : Prop := ∀ i, blkAt F i = if l ≤ i ∧ i < l + j then prB k i (us.getD (i - l) emptyB) else emptyB
theorem blk_st0 (i : Nat) : blkAt (st0.seen nmF) i = emptyB := by
  have : st0.seen nmF = none := rfl
  rw [this]
  rfl
theorem view0 (k : Int) (l : Nat) (us : List Bk) : View k l us (st0.seen nmF) 0 := fun i => by rw [blk_st0, if_neg (by omega)]
theorem prL_getD (k : Int) (l : Nat) (us : List Bk) (i : Nat) (hi : i < us.length) : (prL k l us).getD i emptyB = prB k (l + i) (us.getD i emptyB) := by
  have h := prL_at k l us i
  rw [List.getElem?_eq_getElem hi] at h
  rw [List.getD_eq_getElem?_getD, h, List.getD_eq_getElem?_getD, List.getElem?_eq_getElem hi]
  rfl
/-- All at once. -/
theorem view_all (k : Int) (l : Nat) (us : List Bk) (hok : ∀ b ∈ us, b.ok) : Good ((wrSt st0 nmF l (prL k l us) us.length).seen nmF) ∧ View k l us ((wrSt st0 nmF l (prL k l us) us.length).seen nmF) us.length := by
  obtain ⟨h1, h2⟩ := wr_view st0 nmF l (prL k l us) good_none (prL_ok k l us hok) us.length (by rw [prL_len]; omega)
  refine ⟨h1, fun i => ?_⟩
  rw [h2 i]
  by_cases h : l ≤ i ∧ i < l + us.length
  · rw [if_pos h, if_pos h, prL_getD k l us (i - l) (by omega), show l + (i - l) = i by omega]
  · rw [if_neg h, if_neg h, blk_st0]
/-- One more. -/
theorem view_one {k : Int} {l j : Nat} {us : List Bk} {st : St} (hG : Good (st.seen nmF)) (hV : View k l us (st.seen nmF) j) (hok : (us.getD j emptyB).ok) :
    Good ((wrSt st nmF (l + j) (prL k (l + j) [us.getD j emptyB]) 1).seen nmF) ∧ View k l us ((wrSt st nmF (l + j) (prL k (l + j) [us.getD j emptyB]) 1).seen nmF) (j + 1) := by
  have hok' : ∀ b ∈ [us.getD j emptyB], b.ok := fun b hb => by rw [List.mem_singleton.1 hb]; exact hok
  obtain ⟨h1, h2⟩ := wr_view st nmF (l + j) (prL k (l + j) [us.getD j emptyB]) hG (prL_ok _ _ _ hok') 1 (by rw [prL_len]; exact Nat.le_refl _)
  refine ⟨h1, fun i => ?_⟩
  rw [h2 i, hV i]
  by_cases h : i = l + j
  · subst h
    rw [if_pos (by omega), if_pos (by omega), prL_getD _ _ _ _ (by simp), show l + j - (l + j) = 0 by omega, show l + j + 0 = l + j by omega, show l + j - l = j by omega]
    rfl
  · by_cases h3 : l ≤ i ∧ i < l + j
    · rw [if_neg (by omega), if_pos h3, if_pos (by omega)]
    · rw [if_neg (by omega), if_neg h3, if_neg (by omega)]
/-- A state that all goes well in stays one. -/
theorem Fine.one {m : Nat} {st : St} (h : Fine m st nmF) (l : Nat) (bs : List Bk) (hok : ∀ b ∈ bs, b.ok) (hG : Good ((wrSt st nmF l bs bs.length).seen nmF)) : Fine (m + 2 * bs.length) (wrSt st nmF l bs bs.length) nmF := by
  obtain ⟨h1, h2, h3, h4⟩ := wr_ops st nmF l bs bs.length (Nat.le_refl _)
  have hc := h.cnt
  have hl := h.wl
  exact ⟨by omega, by omega, by rw [h3]; exact h.fails, wr_wrs st nmF l bs h.wrs bs.length, hG⟩
theorem Fine.up {m m' : Nat} {st : St} {f : ByteArray} (h : Fine m st f) (hm : m ≤ m') : Fine m' st f := ⟨Nat.le_trans h.cnt hm, Nat.le_trans h.wl hm, h.fails, h.wrs, h.good⟩
/-- All that is there looks right. -/
theorem look_view {k : Int} {l j : Nat} {us : List Bk} {F : Option (List Int)} (hV : View k l us F j) (p : Int) (a n : Nat) : lookS k p a (rdL F a n) = noS := by
  refine look_all k p a _ (fun i b hi hb => ?_)
  rw [rdL_len] at hi
  rw [rdL_at F a n i hi, Option.some.injEq] at hb
  rw [← hb, hV]
  split
  · exact check_pr k p _ _
  · exact check_empty k p _
theorem rdL_view {k : Int} {l j : Nat} {us : List Bk} {F G : Option (List Int)} (hF : View k l us F j) (hG : View k l us G j) (a n : Nat) : rdL F a n = rdL G a n := by
  unfold rdL
  exact List.map_congr_left (fun i _ => by rw [hF, hG])
theorem rdL_snoc (F : Option (List Int)) (n : Nat) : rdL F 0 (n + 1) = rdL F 0 n ++ rdL F n 1 := by simp [rdL, List.range_succ]
theorem packL_app (c : Bool) (xs ys : List Bk) : packL c (xs ++ ys) = packL c xs ++ packL c ys := by simp [packL]

/-- Do of one of two devices, behind its contract: what is written. -/
theorem twA_do {w0 w : World} {k : Int} {DA DB : Nat} {sA sB sA' : St} {t : T2} (h : Tw w0 w k DA DB sA sB t) {cv pv : Value} {R : Ending}
    (hc : Calls Try.prog 11 #[.pointer (some ⟨DA, 0, none⟩), cv, pv] w fun e w' => e = R ∧ Aft w w' t.BA t.tagA sA') :
    Calls Try.prog 11 #[.pointer (some ⟨DA, 0, none⟩), cv, pv] w fun e w' => e = R ∧ ∃ t', Tw w0 w' k DA DB sA' sB t' ∧ Mv w w' DA DB t t' := by
  refine hc.mono ?_
  rintro e w' ⟨he, tg, hW, s⟩
  exact ⟨he, _, h.leftT hW s⟩
theorem twB_do {w0 w : World} {k : Int} {DA DB : Nat} {sA sB sB' : St} {t : T2} (h : Tw w0 w k DA DB sA sB t) {cv pv : Value} {R : Ending}
    (hc : Calls Try.prog 11 #[.pointer (some ⟨DB, 0, none⟩), cv, pv] w fun e w' => e = R ∧ Aft w w' t.BB t.tagB sB') :
    Calls Try.prog 11 #[.pointer (some ⟨DB, 0, none⟩), cv, pv] w fun e w' => e = R ∧ ∃ t', Tw w0 w' k DA DB sA sB' t' ∧ Mv w w' DA DB t t' := by
  refine hc.mono ?_
  rintro e w' ⟨he, tg, hW, s⟩
  exact ⟨he, _, h.rightT hW s⟩
theorem own_q {W : World} {b b' n : Nat} {v : Value} {zs : List Value} (h : W.ownsRow b 5 1 v n zs) (hb : b' ≤ b) : W.ownsRow b' 5 1 v n zs := own_base h hb
/-- What is read. -/
theorem twA_read {w0 w : World} {k : Int} {DA DB : Nat} {sA sB : St} {t : T2} (h : Tw w0 w k DA DB sA sB t) {m : Nat} (hF : Fine m sA nmF) (hm : m ≤ 100000) (hk0 : 0 ≤ k) (hk3 : k ≤ 3) (c : Cm) (l n : Nat) (p : Value) (p0 : 0 ≤ c.pr) (p1 : c.pr ≤ 4) (hkn : knownB k c.pr = true) (hkd : c.kd = 7) (hl : c.lba = (l : Nat)) (hbl : c.bl = (n : Nat)) (hin : l + n ≤ 16) (hlk : lookS k c.pr l (rdL (sA.seen nmF) l n) = noS)
    (L : Nat) (hL : n * sz (c.pr != 0) = L) (Z : List Int) (hZ : packL (c.pr != 0) (rdL (sA.seen nmF) l n) = Z) :
    Calls Try.prog 11 #[.pointer (some ⟨DA, 0, none⟩), .agg c.vals, p] w fun e w' => ∃ g cap t', e = .returned (.agg (resV 0 noS (.slice (some ⟨g, 0, none⟩) L cap))) ∧ Tw w0 w' k DA DB (rdSt sA n) sB t' ∧ Mv w w' DA DB t t' ∧ Or2 w0 w' DA DB t' (.slice (some ⟨g, 0, none⟩) L cap) Z ∧ w.heap.size ≤ g := by
  have hc := hF.cnt
  refine (doRead w t.BA t.tagA sA nmF t.SA DA 16 k true l n c p h.a (by decide) (by decide) (by decide) (by omega) hF.fails hF.good hk0 hk3 p0 p1 hkn hkd hl hbl hin hlk).mono ?_
  rintro e w' ⟨g, cap, rfl, tg, hW, s, hrow, hg⟩
  rw [hZ, hL] at hrow
  rw [hL]
  obtain ⟨h1, h2⟩ := h.leftT hW s
  have hlo := own_lo hrow
  refine ⟨g, cap, _, rfl, h1, h2, ⟨Mid.of_own (own_base hrow h.n0), fun g' e => ?_⟩, hlo.1⟩
  obtain rfl : g = g' := Option.some.inj e
  have hn := h.new (w' := w') hlo.1 hlo.2
  exact ⟨hlo.2, hg, hn.tb, hn.ne⟩
theorem Or2.swap {w0 w : World} {DA DB : Nat} {t : T2} {v : Value} {zs : List Int} (h : Or2 w0 w DA DB t v zs) : Or2 w0 w DB DA t.swap v zs := ⟨h.own, fun g hg => (h.un g hg).swap⟩
theorem twB_read {w0 w : World} {k : Int} {DA DB : Nat} {sA sB : St} {t : T2} (h : Tw w0 w k DA DB sA sB t) {m : Nat} (hF : Fine m sB nmF) (hm : m ≤ 100000) (hk0 : 0 ≤ k) (hk3 : k ≤ 3) (c : Cm) (l n : Nat) (p : Value) (p0 : 0 ≤ c.pr) (p1 : c.pr ≤ 4) (hkn : knownB k c.pr = true) (hkd : c.kd = 7) (hl : c.lba = (l : Nat)) (hbl : c.bl = (n : Nat)) (hin : l + n ≤ 16) (hlk : lookS k c.pr l (rdL (sB.seen nmF) l n) = noS)
    (L : Nat) (hL : n * sz (c.pr != 0) = L) (Z : List Int) (hZ : packL (c.pr != 0) (rdL (sB.seen nmF) l n) = Z) :
    Calls Try.prog 11 #[.pointer (some ⟨DB, 0, none⟩), .agg c.vals, p] w fun e w' => ∃ g cap t', e = .returned (.agg (resV 0 noS (.slice (some ⟨g, 0, none⟩) L cap))) ∧ Tw w0 w' k DA DB sA (rdSt sB n) t' ∧ Mv w w' DA DB t t' ∧ Or2 w0 w' DA DB t' (.slice (some ⟨g, 0, none⟩) L cap) Z ∧ w.heap.size ≤ g := by
  refine (twA_read h.swap hF hm hk0 hk3 c l n p p0 p1 hkn hkd hl hbl hin hlk L hL Z hZ).mono ?_
  rintro e w' ⟨g, cap, t', rfl, h1, h2, h3, h4⟩
  exact ⟨g, cap, t'.swap, rfl, h1.swap, h2.swap, h3.swap, h4⟩
end Go.Proofs.Ytklboieemljmiaa

namespace Go.Proofs.Ytklboieemljmiaa
open Go.RowKit
set_option linter.unusedVariables false
set_option linter.unusedSimpArgs false

theorem tw_new {w w2 w3 : World} {k : Int} {BA SA DA BB SB DB : Nat} {tagA tagB : Tags} (hA : Dv w2 BA tagA st0 nmF SA DA 16 k true) (hb : Below w2.heap.size w2 w3) (hB : Dv w3 BB tagB st0 nmF SB DB 16 k true) (hbe : Below w.heap.size w w2)
    (htA : ∀ i, i < w.heap.size → tagA i = none) (htB : ∀ i, i < w2.heap.size → tagB i = none) (hS : w2.heap.size ≤ SB) (hD : w2.heap.size ≤ DB) : Tw w w3 k DA DB st0 st0 ⟨BA, tagA, SA, BB, tagB, SB⟩ :=
  ⟨hA.below hb, hB, htA, fun i hi => htB i (Nat.lt_of_lt_of_le hi hbe.size), fun i hi => htB i (hA.wd.lt i hi), ⟨htB _ hA.sto.lt, htB _ hA.bx.lt⟩, ⟨wd_none hA.wd hS, wd_none hA.wd hD⟩, hbe.trans (hb.mono hbe.size)⟩
theorem rd_sub {w : World} {g o len cap A m c' : Nat} {Z : List Int} (h : RdAt w (.slice (some ⟨g, o, none⟩) len cap) Z) (hl : Z.length = len) (hA : A + m ≤ len) (hc : m ≤ c') : RdAt w (.slice (some ⟨g, o + A, none⟩) m c') ((Z.drop A).take m) := by
  obtain ⟨a, c, e, _, _, h3⟩ := h
  have hL : ((Z.drop A).take m).length = m := by rw [List.length_take, List.length_drop]; omega
  simp only [Value.slice.injEq] at e
  obtain ⟨rfl, _, _⟩ := e
  refine ⟨_, c', by rw [hL], (fun e => by cases e), by rw [hL]; exact hc, ?_⟩
  by_cases h0 : m = 0
  · exact .inl (by rw [hL]; exact h0)
  rcases h3 with h3 | ⟨b, off, ha, hcell⟩
  · omega
  · simp only [Option.some.injEq, Addr.mk.injEq, and_true] at ha
    obtain ⟨rfl, rfl⟩ := ha
    refine .inr ⟨_, _, rfl, fun j u hu => ?_⟩
    have hj : j < m := by have := (List.getElem?_eq_some_iff.1 hu).1; rw [cels_length, hL] at this; exact this
    have := hcell (A + j) u (by rw [cels, List.getElem?_map] at hu ⊢; rw [List.getElem?_take_of_lt hj, List.getElem?_drop] at hu; exact hu)
    rw [← Nat.add_assoc] at this
    exact this
theorem un_one (Q : List Int) : unBs false Q 1 = [unB false Q 0] := rfl
theorem un_at (Z : List Int) (n i L : Nat) (hL : L = n * 16) (hi : i < n) (hz : L ≤ Z.length) : unBs false ((Z.drop (i * 16)).take 16) 1 = [(unBs false (Z.take L) n).getD i emptyB] := by
  rw [un_one, List.getD_eq_getElem?_getD, unBs_at _ _ _ _ hi]
  show [unB false _ 0] = [unB false _ i]
  have e : ((Z.drop (i * 16)).take 16).take 16 = ((Z.take L).drop (i * 16)).take 16 := by
    rw [List.drop_take, List.take_take, List.take_take]
    congr 1
    omega
  simp only [unB, Bool.false_eq_true, if_false, Nat.zero_mul, List.drop_zero]
  rw [e]
theorem rep_at (u : Bk) (n i : Nat) (hi : i < n) : (List.replicate n u).getD i emptyB = u := by
  rw [List.getD_eq_getElem?_getD, List.getElem?_replicate, if_pos hi]; rfl
theorem bytes_sub {Z : List Int} (h : Bytes Z) (A m : Nat) : Bytes ((Z.drop A).take m) := take_bytes (fun j => by rw [List.getD_eq_getElem?_getD, List.getElem?_drop, ← List.getD_eq_getElem?_getD]; exact h (A + j)) m
/-- The second device writes one block. -/
theorem twB_one {w0 w : World} {k : Int} {DA DB : Nat} {sA sB : St} {t : T2} (h : Tw w0 w k DA DB sA sB t) {m l i : Nat} {us : List Bk} (hF : Fine m sB nmF) (hm : m ≤ 100000) (hV : View k l us (sB.seen nmF) i) (hok : ∀ b ∈ us, b.ok) (hi : i < us.length) (hin : l + us.length ≤ 16) (hk0 : 0 ≤ k) (hk3 : k ≤ 3)
    (lj : Nat) (hlj : l + i = lj) (Q : List Int) (hQ : unBs false Q 1 = [us.getD i emptyB]) (hQl : Q.length = 16) (hQb : Bytes Q) (a : Option Addr) (cp : Nat) (hr : RdAt w (.slice a 16 cp) Q) :
    Calls Try.prog 11 #[.pointer (some ⟨DB, 0, none⟩), .agg (Cm.vals ⟨8, false, (lj : Nat), (1 : Nat), 0, false, 0, false, false, 0, 0, false, 0, 0, false⟩), .slice a 16 cp] w fun e w' => e = .returned (.agg (resV 0 noS (.slice none 0 0))) ∧
      ∃ sB' t', Tw w0 w' k DA DB sA sB' t' ∧ Mv w w' DA DB t t' ∧ Fine (m + 2) sB' nmF ∧ View k l us (sB'.seen nmF) (i + 1) := by
  subst hlj
  have hub : (us.getD i emptyB).ok := by rw [List.getD_eq_getElem?_getD, List.getElem?_eq_getElem hi]; exact hok _ (List.getElem_mem _)
  have hc := hF.cnt
  have hw := hF.wl
  have hc2 := doWr_part w t.BB t.tagB sB nmF t.SB DB 16 k (l + i) 1 cp a Q ⟨8, false, (l + i : Nat), (1 : Nat), 0, false, 0, false, false, 0, 0, false, 0, 0, false⟩ h.b (by decide) (by decide) (by decide) (by omega) (by omega) hF.wrs hk0 hk3 rfl rfl rfl (Nat.le_refl _) (by omega) hr hQl hQb rfl rfl rfl (fun j _ => hF.fails _)
  rw [hQ] at hc2
  obtain ⟨v1, v2⟩ := view_one hF.good hV hub
  refine (twB_do h hc2).mono ?_
  rintro e w' ⟨he, t', h1, h2⟩
  refine ⟨he, _, t', h1, h2, ?_, v2⟩
  have := hF.one (l + i) (prL k (l + i) [us.getD i emptyB]) (prL_ok _ _ _ (fun b hb => by rw [List.mem_singleton.1 hb]; exact hub)) (by rw [prL_len]; exact v1)
  rw [prL_len] at this
  exact this
end Go.Proofs.Ytklboieemljmiaa

namespace Go.Proofs.Ytklboieemljmiaa
open Go.RowKit
set_option linter.unusedVariables false
set_option linter.unusedSimpArgs false

set_option maxRecDepth 100000 in
set_option maxHeartbeats 1000000 in
theorem splits_0 (a : Option Addr) (len cap : Nat) (pt lb k : Int) (sm : Bool) (w : World) (hn : len < 16) (hk : pt % 4 = k) (hpt : 0 ≤ pt ∧ pt ≤ 255) (hlb : 0 ≤ lb ∧ lb ≤ 255) :
    Calls Try.prog 7 #[.slice a len cap, .int .u8 lb, .int .u8 pt, .bool sm] w fun e w' => e = .returned (.bool true) ∧ Below w.heap.size w w' := by
  have HA := Kpt.mk (awake_any w)
  have HD := Kpt.mk (fun W => device_any 16 k true W (by decide) (by decide))
  have e0 : ((len : Int) / 16) = 0 := by omega
  have hlb2 : 0 ≤ lb % 10 ∧ lb % 10 ≤ 9 := by omega
  go_enter Try.func7, Try.ntmps7
  go_wp2_with (first
    | (go_at_call 10; have hm := m2; go_must (refine (HD.out _).mono ?_; rintro e w3 ⟨DB, BB, SB, tagB, rfl, -, hB2, -⟩; replace hb1 : Kpt (Below w.heap.size w w3) := ⟨hb1.out.trans (hB2.mono hb1.out.size)⟩; clear hB2))
    | (go_at_call 10; have hm := m1; go_must (refine (HD.out _).mono ?_; rintro e w2 ⟨DA, BA, SA, tagA, rfl, -, hA2, -⟩; replace hb1 : Kpt (Below w.heap.size w w2) := ⟨hb1.out.trans (hA2.mono hb1.out.size)⟩; clear hA2 hm m1; have m2 : Kpt True := ⟨trivial⟩))
    | (go_at_call 9; go_must (refine HA.out.mono ?_; rintro e w1 ⟨rfl, hb1⟩; replace hb1 := Kpt.mk hb1; have m1 : Kpt True := ⟨trivial⟩))
    | fail)
  go_ret
  exact ⟨rfl, hb1.out⟩
end Go.Proofs.Ytklboieemljmiaa
