/-
  sess: the data of a command, in pieces.
-/
import Derived.Test.YtdplndlmdhpfaaaERsp
set_option linter.unusedVariables false
set_option linter.unusedSimpArgs false
namespace Go.Proofs.Ytdplndlmdhpfaaa
open Go.RowKit

/-- A piece of the data. -/
def cutAt (ds : List Int) (g k : Nat) : List Int := (ds.drop (k * g)).take g
theorem cutAt_len (ds : List Int) (g k : Nat) : (cutAt ds g k).length = min g (ds.length - k * g) := by simp [cutAt]
theorem cutAt_pos {ds : List Int} {g k : Nat} (hg : 0 < g) (h : k * g < ds.length) : 0 < (cutAt ds g k).length := by rw [cutAt_len]; omega
theorem cutAt_le (ds : List Int) (g k : Nat) : (cutAt ds g k).length ≤ g := by rw [cutAt_len]; omega
theorem cutAt_join (ds : List Int) (g k : Nat) : ds.take (k * g) ++ cutAt ds g k = ds.take ((k + 1) * g) := by
  rw [cutAt, Nat.succ_mul, List.take_add]
theorem cutAt_end {ds : List Int} {g k : Nat} (h : ds.length ≤ k * g) : ds.take (k * g) = ds := List.take_of_length_le h
/-- What is read of a row from a place on, so many. -/
theorem cutAt_upto (ds : List Int) (g k : Nat) (h : k * g ≤ ds.length) : (ds.take (min (k * g + g) ds.length)).drop (k * g) = cutAt ds g k := by
  unfold cutAt
  rw [List.drop_take]
  by_cases hc : k * g + g ≤ ds.length
  · rw [Nat.min_eq_left hc]; congr 1; omega
  · rw [Nat.min_eq_right (by omega), List.take_of_length_le (by simp), List.take_of_length_le (by simp; omega)]

/-- The k-th piece as it goes out. -/
structure PcOne (base : Nat) (W : World) (v : Value) (g : Nat) (ds : List Int) (tg : Int) (fl : Int) (k : Nat) (z : Array Value) : Prop where
  pd : ∃ p : Pd, z = p.v ∧ p.op = 37 ∧ p.fl = fl ∧ p.tg = tg ∧ p.w4 = k ∧ p.w5 = ((k * g : Nat) : Int) ∧ RdAt W p.da (cutAt ds g k) ∧ ∀ b, p.da.ownBlock = some b → base ≤ b ∧ b < W.heap.size ∧ v.ownBlock ≠ some b
/-- The pieces so far. -/
structure Pc (w W : World) (v : Value) (g : Nat) (ds : List Int) (tg : Int) (k : Nat) (zs : List (Array Value)) : Prop where
  own : OwnR 37 14 W v zs
  len : zs.length = k
  new : ∀ b, v.ownBlock = some b → w.heap.size ≤ b
  each : ∀ j z, zs[j]? = some z → PcOne w.heap.size W v g ds tg 0 j z
  bel : Below w.heap.size w W
theorem Pc.start (w : World) (g : Nat) (ds : List Int) (tg : Int) : Pc w w (.slice none 0 0) g ds tg 0 [] :=
  ⟨OwnR.nil _ _ _, rfl, fun b hb => by simp [Value.ownBlock] at hb, fun j z h => by simp at h, Below.refl _ _⟩
theorem PcOne.mono {base : Nat} {W W' : World} {v : Value} {g : Nat} {ds : List Int} {tg fl : Int} {k : Nat} {z : Array Value} (h : PcOne base W v g ds tg fl k z) (hs : W.heap.size ≤ W'.heap.size) (hb : ∀ b, b < W.heap.size → v.ownBlock ≠ some b → W'.heap[b]? = W.heap[b]?) (v' : Value) (hv : ∀ b, v'.ownBlock = some b → v.ownBlock = some b ∨ W.heap.size ≤ b) : PcOne base W' v' g ds tg fl k z := by
  obtain ⟨p, h1, h2, h3, h4, h5, h6, h7, h8⟩ := h.pd
  exact ⟨p, h1, h2, h3, h4, h5, h6, h7.of_block (fun b e => hb b (h8 b e).2.1 (h8 b e).2.2), fun b e => ⟨(h8 b e).1, Nat.lt_of_lt_of_le (h8 b e).2.1 hs, fun e' => by rcases hv b e' with e' | e'; exact (h8 b e).2.2 e'; have := (h8 b e).2.1; omega⟩⟩
theorem Pc.below {w W W' : World} {v : Value} {g : Nat} {ds : List Int} {tg : Int} {k : Nat} {zs : List (Array Value)} (h : Pc w W v g ds tg k zs) (hb : Below W.heap.size W W') : Pc w W' v g ds tg k zs :=
  ⟨h.own.of_block (fun b e => hb.block b (h.own.lt e)), h.len, h.new, fun j z e => (h.each j z e).mono hb.size (fun b h1 _ => hb.block b h1) v (fun b e => .inl e), h.bel.trans (hb.mono h.bel.size)⟩
/-- One more piece. -/
theorem Pc.step {w W W' : World} {v v' : Value} {g : Nat} {ds : List Int} {tg : Int} {k : Nat} {zs : List (Array Value)} (h : Pc w W v g ds tg k zs) (p : Pd) (h2 : p.op = 37) (h3 : p.fl = 0) (h4 : p.tg = tg) (h5 : p.w4 = k) (h6 : p.w5 = ((k * g : Nat) : Int)) (h7 : RdAt W p.da (cutAt ds g k)) (h8 : ∀ b, p.da.ownBlock = some b → w.heap.size ≤ b ∧ b < W.heap.size ∧ v.ownBlock ≠ some b)
    (ho : OwnR 37 14 W' v' (zs ++ [p.v])) (hg : W.grownBy W' v.ownBlock) (hv : v'.ownBlock = v.ownBlock ∨ v'.ownBlock = some W.heap.size) : Pc w W' v' g ds tg (k + 1) (zs ++ [p.v]) := by
  have hv2 : ∀ b, v'.ownBlock = some b → v.ownBlock = some b ∨ W.heap.size ≤ b := fun b e => by
    rcases hv with hv | hv
    · exact .inl (hv ▸ e)
    · rw [hv] at e; injection e with e; exact .inr (by omega)
  have hbl : ∀ b, b < W.heap.size → v.ownBlock ≠ some b → W'.heap[b]? = W.heap[b]? := fun b h1 h2 => hg.block b h1 (fun e => h2 e.symm)
  refine ⟨ho, by simp [h.len], fun b e => ?_, fun j z e => ?_, h.bel.grown hg h.bel.size (fun q e => h.new q e)⟩
  · rcases hv2 b e with e | e
    · exact h.new b e
    · exact Nat.le_trans h.bel.size e
  · by_cases hj : j < zs.length
    · rw [List.getElem?_append_left hj] at e
      exact (h.each j z e).mono hg.size hbl v' hv2
    · rw [List.getElem?_append_right (by omega)] at e
      have hj0 : j - zs.length = 0 := by
        by_cases hc : j - zs.length = 0
        · exact hc
        · rw [List.getElem?_eq_none (by simp; omega)] at e; cases e
      rw [hj0] at e
      simp only [List.getElem?_cons_zero, Option.some.injEq] at e
      have hjk : j = k := by have := h.len; omega
      subst hjk
      exact (PcOne.mk (fl := 0) ⟨p, e.symm, h2, h3, h4, h5, h6, h7, h8⟩).mono hg.size hbl v' hv2
/-- All the pieces. -/
structure PcF (w W : World) (v : Value) (g : Nat) (ds : List Int) (tg : Int) (k : Nat) (zs : List (Array Value)) : Prop where
  own : OwnR 37 14 W v zs
  len : zs.length = k
  new : ∀ b, v.ownBlock = some b → w.heap.size ≤ b
  each : ∀ j z, zs[j]? = some z → PcOne w.heap.size W v g ds tg (if j + 1 = k then 128 else 0) j z
  bel : Below w.heap.size w W
theorem ownR_setLast {ty kk : Nat} {w : World} {zs : List (Array Value)} {z : Array Value} {g n cap j : Nat} {x : Value} (h : OwnR ty kk w (.slice (some ⟨g, 0, none⟩) n cap) (zs ++ [z])) (hj : j < kk) (hx : x.oneCell' = true) : OwnR ty kk (w.setCell ⟨g, zs.length * kk + j, none⟩ x) (.slice (some ⟨g, 0, none⟩) n cap) (zs ++ [z.setIfInBounds j x]) := by
  have hw1 : Wide kk zs := fun y hy => h.wide y (by simp [hy])
  have hz := h.wide z (by simp)
  have hch : chs (zs ++ [z.setIfInBounds j x]) = (chs (zs ++ [z])).set (zs.length * kk + j) x := by
    rw [chs_append, chs_append, chs_one, chs_one, List.set_append_right _ _ (by rw [chs_length hw1]; omega), chs_length hw1, Nat.add_sub_cancel_left, Array.toList_setIfInBounds]
  refine ⟨⟨?_, ?_⟩, ?_⟩
  · rw [hch, List.length_set]
    have := h.own.1
    simpa using this
  · rcases h.own.2 with ⟨e, _⟩ | ⟨g', cap', cur, e, hb, hg, h1, h2, h3, h4⟩
    · cases e
    · injection e with e1 e2 e3
      injection e1 with e1
      injection e1 with e1
      subst e1 e3
      refine .inr ⟨g, cap, cur.setIfInBounds (zs.length * kk + j) x, by rw [e2]; simp, Nat.zero_le _, ?_, by simpa using h1, h2, by simpa using h3, ?_⟩
      · show (w.heap.modify g _)[g]? = _
        rw [Array.getElem?_modify]
        simp [hg]
      · rw [hch, Array.toList_setIfInBounds, List.take_set, ← h4]
        simp
  · refine Wide.append hw1 (Wide.cons ⟨by simpa using hz.1, ?_⟩ (Wide.nil kk))
    rw [Array.all_eq_true]
    intro i hi
    rw [Array.getElem_setIfInBounds]
    split
    · exact hx
    · exact Array.all_eq_true.1 hz.2 i (by simpa using hi)
/-- The last piece is told as the last. -/
theorem Pc.fin {w W : World} {b n cap : Nat} {g : Nat} {ds : List Int} {tg : Int} {k : Nat} {zs : List (Array Value)} (h : Pc w W (.slice (some ⟨b, 0, none⟩) n cap) g ds tg (k + 1) zs) : ∃ zs', PcF w (W.setCell ⟨b, k * 14 + 1, none⟩ (.int .u8 128)) (.slice (some ⟨b, 0, none⟩) n cap) g ds tg (k + 1) zs' := by
  have hne : zs ≠ [] := fun e => by have := h.len; rw [e] at this; simp at this
  obtain ⟨ys, z, rfl⟩ : ∃ ys z, zs = ys ++ [z] := ⟨zs.dropLast, zs.getLast hne, (List.dropLast_concat_getLast hne).symm⟩
  have hk : ys.length = k := by have := h.len; simp at this; exact this
  have hgr := grown_setCellK W ⟨b, k * 14 + 1, none⟩ (.int .u8 128)
  have ho := ownR_setLast h.own (kk := 14) (j := 1) (x := .int .u8 128) (by omega) rfl
  rw [hk] at ho
  have hbl : ∀ q, q < W.heap.size → (Value.slice (some ⟨b, 0, none⟩) n cap).ownBlock ≠ some q → (W.setCell ⟨b, k * 14 + 1, none⟩ (.int .u8 128)).heap[q]? = W.heap[q]? := fun q h1 h2 => hgr.block q h1 (fun e => h2 e.symm)
  refine ⟨ys ++ [z.setIfInBounds 1 (.int .u8 128)], ho, by simp [hk], h.new, fun j y e => ?_, h.bel.grown hgr h.bel.size (fun q e => h.new q e)⟩
  by_cases hj : j < ys.length
  · rw [List.getElem?_append_left hj] at e
    rw [if_neg (by omega)]
    exact (h.each j y (by rw [List.getElem?_append_left hj]; exact e)).mono hgr.size hbl _ (fun q e => .inl e)
  · have hjk : j = k := by have := (List.getElem?_eq_some_iff.1 e).1; simp at this; omega
    subst hjk
    rw [List.getElem?_append_right (by omega), hk, Nat.sub_self] at e
    simp only [List.getElem?_cons_zero, Option.some.injEq] at e
    rw [if_pos rfl]
    obtain ⟨p, h1, h2, h3, h4, h5, h6, h7, h8⟩ := ((h.each j z (by rw [List.getElem?_append_right (by omega), hk, Nat.sub_self]; rfl)).mono hgr.size hbl _ (fun q e => .inl e)).pd
    refine ⟨{ p with fl := 128 }, ?_, h2, rfl, h4, h5, h6, h7, h8⟩
    rw [← e, h1]
    rfl
theorem pc_none {w W : World} {v : Value} {g : Nat} {ds : List Int} {tg : Int} {zs : List (Array Value)} (h : Pc w W v g ds tg 0 zs) : PcF w W v g ds tg 0 zs :=
  ⟨h.own, h.len, h.new, fun j z e => by have h0 := h.len; have := (List.getElem?_eq_some_iff.1 e).1; omega, h.bel⟩
theorem PcF.from {w w1 W : World} {v : Value} {g : Nat} {ds : List Int} {tg : Int} {k : Nat} {zs : List (Array Value)} (h : PcF w1 W v g ds tg k zs) (hb : Below w.heap.size w w1) : PcF w W v g ds tg k zs :=
  ⟨h.own, h.len, fun b e => Nat.le_trans hb.size (h.new b e), fun j z e => by
    obtain ⟨p, h1, h2, h3, h4, h5, h6, h7, h8⟩ := (h.each j z e).pd
    exact ⟨p, h1, h2, h3, h4, h5, h6, h7, fun b e => ⟨Nat.le_trans hb.size (h8 b e).1, (h8 b e).2⟩⟩, hb.trans (h.bel.mono hb.size)⟩
end Go.Proofs.Ytdplndlmdhpfaaa
