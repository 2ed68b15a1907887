/-
  append of tasks; the contracts of Ready and Tasks.
-/
import Derived.Test.YtcnefmfmmgdidaaTMay
namespace Go.Proofs.Ytcnefmfmmgdidaa
open Go.RowKit
set_option linter.unusedVariables false
set_option linter.unusedSimpArgs false

theorem Try.info48 : (Try.prog.info? 48).map (fun i => (i.zero, i.size, i.bytes)) = some (some (.agg #[.int .i64 0, .int .u32 0, .int .u8 0, .bool false]), 4, 16) := by kernel_rfl

theorem wp_append_task {w : World} {o : Oper} {a : Act} {K : Act → World → Prop} {Q : Exit → Act → World → Prop} (d s : Operand)
    (ho : o.op = .call { callee := .builtin .append, args := #[d, s], argTypes := #[34, 34] })
    (base b : Nat) (v : Value) (ts : List Tk) (t : Tk) (hd : a.eval d = v) (hs : a.eval s = .slice (some ⟨b, 0, none⟩) 1 1) (hc : w.rangeAt b 0 t.vals.toList) (hown : Own base w v ts) (hl : ts.length ≤ 100) (hbase : base ≤ w.heap.size)
    (h : ∀ v' w', Own base w' v' (ts ++ [t]) → w.grownBy w' v.ownBlock → (v'.ownBlock = v.ownBlock ∨ v'.ownBlock = some w.heap.size) → K (a.put o.dst v') w') : o.wp Try.prog a w K Q := by
  obtain ⟨i0, hi0, hz0, hz1, hz2⟩ := info_parts Try.info48
  obtain ⟨v', w', hr, h2, h3, h4, h5⟩ := run_append_own_at (P := Try.prog) w base 34 o.type 48 i0 (.agg #[.int .i64 0, .int .u32 0, .int .u8 0, .bool false]) 4 16 Try.underlying34 hi0 hz0 hz1 hz2 rfl (by decide) v ts.length (cels ts) hown ⟨b, 0, none⟩ 1 1 t.vals.toList (by simp) (fun j u hu => by
    rw [Go.WideShapes.add_plain]
    exact hc j u hu) (fun u hu => cels_one [t] u (by simpa [cels] using hu)) (by unfold maxLen; omega) (by omega) hbase
  unfold Oper.wp execOp
  simp only [ho, resolve, invoke, builtin, Sem.run_bind, Sem.run_pure, Result.andThen_ok, List.map_toArray, List.map_cons, List.map_nil, hd, hs, hr]
  exact h v' w' (by unfold Own; rw [cels_append, List.length_append]; simpa [cels] using h2) h3 h5
theorem wpList_append_task {w : World} {ops : Array Oper} {rest : List Oper} {o : Oper} {a : Act} {Q : Exit → Act → World → Prop} (hgd : o.guard = none) (d s : Operand)
    (ho : o.op = .call { callee := .builtin .append, args := #[d, s], argTypes := #[34, 34] })
    (base b : Nat) (v : Value) (ts : List Tk) (t : Tk) (hd : a.eval d = v) (hs : a.eval s = .slice (some ⟨b, 0, none⟩) 1 1) (hc : w.rangeAt b 0 t.vals.toList) (hown : Own base w v ts) (hl : ts.length ≤ 100) (hbase : base ≤ w.heap.size)
    (h : ∀ v' w', Kpt (Own base w' v' (ts ++ [t])) → Kpt (w.grownBy w' v.ownBlock) → Kpt (v'.ownBlock = v.ownBlock ∨ v'.ownBlock = some w.heap.size) → wpList Try.prog ops Q rest (a.put o.dst v') w') : wpList Try.prog ops Q (o :: rest) a w :=
  wpList_plain hgd fun K hK => wp_append_task d s ho base b v ts t hd hs hc hown hl hbase (fun v' w' h1 h2 h3 => hK _ _ (h v' w' ⟨h1⟩ ⟨h2⟩ ⟨h3⟩))

theorem range_new (w : World) (t : Tk) (ty : TypeId) : (w.alloc (.cells t.vals ty)).rangeAt w.heap.size 0 t.vals.toList := fun j v hv => by
  have : (w.alloc (.cells t.vals ty)).cell? ⟨w.heap.size, 0 + j, none⟩ = t.vals[0 + j]? := by simp
  rw [this, ← hv, Array.getElem?_toList, Nat.zero_add]

/-- The tasks among the first k that may start. -/
def rdyL (ts : List Tk) (st : Int) : Nat → List Tk
  | 0 => []
  | k + 1 => rdyL ts st k ++ match ts[k]? with
    | some t => if mayT ts st k t = true then [t] else []
    | none => []
theorem rdy_len (ts : List Tk) (st : Int) : ∀ k, (rdyL ts st k).length ≤ k
  | 0 => Nat.le_refl _
  | k + 1 => by
    unfold rdyL
    rw [List.length_append]
    have := rdy_len ts st k
    cases ts[k]? with
    | none => simp; omega
    | some t =>
      simp only
      split <;> simp <;> omega

set_option maxRecDepth 100000 in
set_option maxHeartbeats 2000000 in
theorem ready_any (base B : Nat) (ts : List Tk) (st : Int) (v : Value) (w : World) (h : St base w B ts st v) :
    Calls Try.prog 15 #[.pointer (some ⟨B, 0, none⟩)] w fun e w' => ∃ v', e = .returned v' ∧ Own w.heap.size w' v' (rdyL ts st ts.length) ∧ Below w.heap.size w w' := by
  have hK := Kpt.mk h
  obtain ⟨a, c, hv, hs⟩ := h.own.shape
  have hc0 := h.c0
  have hlt := h.lt
  have hfew := h.few
  rw [hv] at hc0
  replace hs := Kpt.mk hs
  obtain ⟨m, hm⟩ : ∃ m, m = ts.length := ⟨_, rfl⟩
  rw [← hm] at hc0 hfew hs ⊢
  replace hm := Kpt.mk hm
  clear h hv
  go_enter Try.func15, Try.ntmps15
  go_wp2
  go_loopw [3, 13] (fun r t wr => ∃ (k : Nat) (x : Value), k ≤ m ∧ r = x ∧ t = .int .i64 k ∧ Kpt (Own w.heap.size wr x (rdyL ts st k)) ∧ Kpt (Below w.heap.size w wr)) (fun _ t _ => m - (intOf t).toNat)
  case atStart => exact ⟨0, _, Nat.zero_le _, rfl, rfl, ⟨own_nil _ _⟩, ⟨Below.refl _ _⟩⟩
  case round =>
    obtain ⟨k, x, hk, hx0, rfl, hO, hB⟩ := hrel
    replace hx0 := hx0.symm
    subst hx0
    by_cases hlt2 : k < m
    · have e1 : (k : Int) < m := by omega
      have hkz : k < ts.length := by rw [← hm.out]; exact hlt2
      obtain ⟨t, ht⟩ : ∃ t, ts[k]? = some t := ⟨_, List.getElem?_eq_getElem hkz⟩
      rcases hs.out with ⟨_, _, hz⟩ | ⟨g, rfl, hbg, hg, hc1, hc2, _, hr⟩
      · omega
      obtain ⟨r0, r1, r2, r3⟩ := range4 (rangeAt_of_block (hr k t ht) (hB.out.block g hg))
      have hrl := Kpt.mk (rdy_len ts st k)
      have hst : rdyL ts st (k + 1) = rdyL ts st k ++ if mayT ts st k t = true then [t] else [] := by
        show rdyL ts st k ++ _ = _
        rw [ht]
      obtain ⟨w1, hw1⟩ : ∃ w1, w1 = wr.alloc (.cells t.vals 48) := ⟨_, rfl⟩
      have hb1 : Kpt (Below wr.heap.size wr w1) := ⟨by rw [hw1]; exact (Below.refl _ _).alloc (Nat.le_refl _) _⟩
      have hB1 : Kpt (Below w.heap.size w w1) := ⟨hB.out.trans (hb1.out.mono hB.out.size)⟩
      have HM := Kpt.mk (may_any base B k ts st v t w1 ((hK.out.below hB.out).below hb1.out) ht)
      obtain ⟨b, hb⟩ : ∃ b, b = mayT ts st k t := ⟨_, rfl⟩
      rw [← hb] at HM hst
      replace hst := Kpt.mk hst
      rw [hw1] at HM
      replace hw1 := Kpt.mk hw1
      clear hr hs ht hb
      have hsz : w.heap.size ≤ wr.heap.size := hB.out.size
      have hl100 : Kpt ((rdyL ts st k).length ≤ 100) := ⟨by have := hrl.out; omega⟩
      cases b with
      | true =>
        go_wp2_with (first
          | (at_builtin; go_must (refine wpList_append_task rfl (.tmp 21) (.tmp 23) rfl w.heap.size w2.heap.size x (rdyL ts st k) t rfl rfl (range_new w2 t 48) (hO2.out.of_block (fun g hg => Below.heap_alloc _ _ _ (hO2.out.lt hg).2)) hl100.out (by simp; omega) ?_; intro v' w3 ho3 hg3 hor))
          | (go_at_call 31; go_must (refine HM.out.mono ?_; rintro e w2 ⟨rfl, hb2⟩; rw [← hw1.out] at hb2; obtain ⟨q0, q1, q2, q3⟩ := range4 (t := t) (rangeAt_of_block (w := w1) (w' := w2) (b := wr.heap.size) (o := 0) (by rw [hw1.out]; exact range_new wr t 48) (hb2.block wr.heap.size (by rw [hw1.out]; simp))); have hB2 : Kpt (Below w.heap.size w w2) := ⟨hB1.out.trans (hb2.mono hB1.out.size)⟩; have hs2 : wr.heap.size < w2.heap.size := Nat.lt_of_lt_of_le (by rw [hw1.out]; simp) hb2.size; have hO2 : Kpt (Own w.heap.size w2 x (rdyL ts st k)) := ⟨hO.out.of_block (fun g hg => (hb2.block g (Nat.lt_of_lt_of_le (hO.out.lt hg).2 hb1.out.size)).trans (hb1.out.block g (hO.out.lt hg).2))⟩; clear hb2)))
        have hB3 : Kpt (Below w.heap.size w w3) := ⟨(hB2.out.alloc hB2.out.size _).grown hg3.out (by simp; omega) (fun k hk => (hO2.out.lt hk).1)⟩
        go_wp2
        go_roundw
        case rel => exact ⟨k + 1, v', by omega, rfl, by go_num, ⟨by rw [hst.out]; first | exact ho3.out | simpa using ho3.out⟩, hB3⟩
        case measure => simp [intOf]; omega
      | false =>
        go_wp2_with (go_at_call 31; go_must (refine HM.out.mono ?_; rintro e w2 ⟨rfl, hb2⟩; rw [← hw1.out] at hb2; obtain ⟨q0, q1, q2, q3⟩ := range4 (t := t) (rangeAt_of_block (w := w1) (w' := w2) (b := wr.heap.size) (o := 0) (by rw [hw1.out]; exact range_new wr t 48) (hb2.block wr.heap.size (by rw [hw1.out]; simp))); have hB2 : Kpt (Below w.heap.size w w2) := ⟨hB1.out.trans (hb2.mono hB1.out.size)⟩; have hs2 : wr.heap.size < w2.heap.size := Nat.lt_of_lt_of_le (by rw [hw1.out]; simp) hb2.size; have hO2 : Kpt (Own w.heap.size w2 x (rdyL ts st k)) := ⟨hO.out.of_block (fun g hg => (hb2.block g (Nat.lt_of_lt_of_le (hO.out.lt hg).2 hb1.out.size)).trans (hb1.out.block g (hO.out.lt hg).2))⟩; clear hb2))
        go_roundw
        case rel => exact ⟨k + 1, x, by omega, rfl, by go_num, ⟨by rw [hst.out]; simpa using hO2.out⟩, hB2⟩
        case measure => simp [intOf]; omega
    · have e1 : ¬ (k : Int) < m := by omega
      have ek : k = m := by omega
      go_wp2
      go_ret
      exact ⟨x, rfl, by rw [← ek]; exact hO.out, hB.out⟩
end Go.Proofs.Ytcnefmfmmgdidaa
