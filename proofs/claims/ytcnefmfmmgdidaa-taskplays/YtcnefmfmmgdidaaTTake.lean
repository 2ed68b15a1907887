/-
  The contracts of take, AbortAll, Clear, Relieve.
-/
import Derived.Test.YtcnefmfmmgdidaaTFill
namespace Go.Proofs.Ytcnefmfmmgdidaa
open Go.RowKit
set_option linter.unusedVariables false
set_option linter.unusedSimpArgs false

def goneL (p : Tk → Bool) (ts : List Tk) (k : Nat) : List Tk := (ts.take k).filter p
theorem gone_step (p : Tk → Bool) (ts : List Tk) (k : Nat) (t : Tk) (h : ts[k]? = some t) : goneL p ts (k + 1) = goneL p ts k ++ if p t = true then [t] else [] := by
  unfold goneL
  rw [List.take_add_one, h, List.filter_append]
  congr 1
  simp [List.filter_cons]
theorem gone_len (p : Tk → Bool) (ts : List Tk) (k : Nat) : (goneL p ts k).length ≤ ts.length := by
  unfold goneL
  exact Nat.le_trans (List.length_filter_le _ _) (by rw [List.length_take]; omega)
theorem gone_all (p : Tk → Bool) (ts : List Tk) : goneL p ts ts.length = ts.filter p := by unfold goneL; rw [List.take_of_length_le (Nat.le_refl _)]

/-- The row is no block of the other's. -/
def Off (x l : Value) : Prop := ∀ g, x.ownBlock = some g → l.ownBlock ≠ some g

set_option maxRecDepth 100000 in
set_option maxHeartbeats 2000000 in
theorem take_any (f : FuncId) (cap : Array Value) (p : Tk → Bool) (base B : Nat) (ts : List Tk) (st : Int) (v : Value) (w : World) (h : St base w B ts st v)
    (hcf : ∀ (args : Array Value) (W : World), (callFunc f args).run Try.prog W = .ok (Next.enter f args) W)
    (HF : ∀ W, Below w.heap.size w W → ∀ t ∈ ts, Calls Try.prog f (#[.agg t.vals] ++ cap) W fun e w' => e = .returned (.bool (p t)) ∧ Below W.heap.size W w') :
    Calls Try.prog 37 #[.pointer (some ⟨B, 0, none⟩), .func (.func f) #[] cap] w fun e w' => ∃ y v', e = .returned y ∧ Own w.heap.size w' y (ts.filter p) ∧ St base w' B (ts.filter (fun t => !p t)) st v' ∧ Trn w w' B v v' ∧ Below base w w' ∧ Off y v' := by
  have hK := Kpt.mk h
  replace HF := Kpt.mk HF
  obtain ⟨a, c, hv, hs⟩ := h.own.shape
  have hc0 := h.c0
  have hlt := h.lt
  have hfew := h.few
  rw [hv] at hc0
  replace hs := Kpt.mk hs
  obtain ⟨m, hm⟩ : ∃ m, m = ts.length := ⟨_, rfl⟩
  rw [← hm] at hc0 hfew hs
  replace hm := Kpt.mk hm
  clear h hv
  go_enter Try.func37, Try.ntmps37
  go_wp2
  go_loopw [5, 6, 16] (fun r s t wr => ∃ (k : Nat) (x l : Value), k ≤ m ∧ r = x ∧ s = l ∧ t = .int .i64 k ∧ Kpt (Own w.heap.size wr x (goneL p ts k)) ∧ Kpt (Own w.heap.size wr l (goneL (fun t => !p t) ts k)) ∧ Kpt (Off x l) ∧ Kpt (Below w.heap.size w wr)) (fun _ _ t _ => m - (intOf t).toNat)
  case atStart => exact ⟨0, _, _, Nat.zero_le _, rfl, rfl, rfl, ⟨own_nil _ _⟩, ⟨own_nil _ _⟩, ⟨fun g hg => by simp [Value.ownBlock] at hg⟩, ⟨Below.refl _ _⟩⟩
  case round =>
    obtain ⟨k, x, l, hk, hx0, hl0, rfl, hO, hP, hD, hB⟩ := hrel
    replace hx0 := hx0.symm
    replace hl0 := hl0.symm
    subst hx0
    subst hl0
    by_cases hlt2 : k < m
    · have e1 : (k : Int) < m := by omega
      have hkz : k < ts.length := by rw [← hm.out]; exact hlt2
      obtain ⟨t, ht⟩ : ∃ t, ts[k]? = some t := ⟨_, List.getElem?_eq_getElem hkz⟩
      have htm : t ∈ ts := List.mem_of_getElem? ht
      rcases hs.out with ⟨_, _, hz⟩ | ⟨g, rfl, hbg, hg, hc1, hc2, _, hr⟩
      · omega
      obtain ⟨r0, r1, r2, r3⟩ := range4 (rangeAt_of_block (hr k t ht) (hB.out.block g hg))
      have hst1 := gone_step p ts k t ht
      have hst2 := gone_step (fun t => !p t) ts k t ht
      obtain ⟨w1, hw1⟩ : ∃ w1, w1 = wr.alloc (.cells t.vals 48) := ⟨_, rfl⟩
      have hb1 : Kpt (Below wr.heap.size wr w1) := ⟨by rw [hw1]; exact (Below.refl _ _).alloc (Nat.le_refl _) _⟩
      have hB1 : Kpt (Below w.heap.size w w1) := ⟨hB.out.trans (hb1.out.mono hB.out.size)⟩
      have HM := Kpt.mk (HF.out w1 hB1.out t htm)
      have hl1 : Kpt ((goneL p ts k).length ≤ 100) := ⟨by have := gone_len p ts k; have := hm.out; omega⟩
      have hl2 : Kpt ((goneL (fun t => !p t) ts k).length ≤ 100) := ⟨by have := gone_len (fun t => !p t) ts k; have := hm.out; omega⟩
      have hsz : w.heap.size ≤ wr.heap.size := hB.out.size
      obtain ⟨b, hb⟩ : ∃ b, b = p t := ⟨_, rfl⟩
      rw [← hb] at HM hst1 hst2
      replace hst1 := Kpt.mk hst1
      replace hst2 := Kpt.mk hst2
      rw [hw1] at HM
      replace hw1 := Kpt.mk hw1
      clear hr hs ht hb htm
      go_wp2_with fail
      refine HM.out.mono ?_
      rintro e w2 ⟨rfl, hb2⟩
      rw [← hw1.out] at hb2
      obtain ⟨q0, q1, q2, q3⟩ := range4 (t := t) (rangeAt_of_block (w := w1) (w' := w2) (b := wr.heap.size) (o := 0) (by rw [hw1.out]; exact range_new wr t 48) (hb2.block wr.heap.size (by rw [hw1.out]; simp)))
      have hB2 : Kpt (Below w.heap.size w w2) := ⟨hB1.out.trans (hb2.mono hB1.out.size)⟩
      have hs2 : wr.heap.size < w2.heap.size := Nat.lt_of_lt_of_le (by rw [hw1.out]; simp) hb2.size
      have hO2 : Kpt (Own w.heap.size w2 x (goneL p ts k)) := ⟨hO.out.of_block (fun g hg => (hb2.block g (Nat.lt_of_lt_of_le (hO.out.lt hg).2 hb1.out.size)).trans (hb1.out.block g (hO.out.lt hg).2))⟩
      have hP2 : Kpt (Own w.heap.size w2 l (goneL (fun t => !p t) ts k)) := ⟨hP.out.of_block (fun g hg => (hb2.block g (Nat.lt_of_lt_of_le (hP.out.lt hg).2 hb1.out.size)).trans (hb1.out.block g (hP.out.lt hg).2))⟩
      clear hb2 HM
      cases b with
      | true =>
        go_wp2_with (at_builtin; go_must (refine wpList_append_task rfl (.tmp 23) (.tmp 25) rfl w.heap.size w2.heap.size x (goneL p ts k) t rfl rfl (range_new w2 t 48) (hO2.out.of_block (fun g hg => Below.heap_alloc _ _ _ (hO2.out.lt hg).2)) hl1.out (by simp; omega) ?_; intro v' w3 ho3 hg3 hor))
        have hB3 : Kpt (Below w.heap.size w w3) := ⟨(hB2.out.alloc hB2.out.size _).grown hg3.out (by simp; omega) (fun k hk => (hO2.out.lt hk).1)⟩
        have hP3 : Kpt (Own w.heap.size w3 l (goneL (fun t => !p t) ts (k + 1))) := ⟨by
          rw [hst2.out]
          have := hP2.out.of_block (w' := w3) (fun g hg => (hg3.out.block g (by have := (hP2.out.lt hg).2; simp; omega) (fun e => hD.out g e.symm hg)).trans (Below.heap_alloc _ _ _ (hP2.out.lt hg).2))
          simpa using this⟩
        have hD3 : Kpt (Off v' l) := ⟨fun g hg e => by
          rcases hor.out with h | h
          · exact hD.out g (by rw [← h]; exact hg) e
          · rw [h] at hg; cases hg; have := (hP2.out.lt e).2; rw [World.size_alloc] at this; omega⟩
        go_wp2
        go_roundw
        case rel => exact ⟨k + 1, v', l, by omega, rfl, rfl, by go_num, ⟨by rw [hst1.out]; simpa using ho3.out⟩, hP3, hD3, hB3⟩
        case measure => simp [intOf]; omega
      | false =>
        go_wp2_with (at_builtin; go_must (refine wpList_append_task rfl (.tmp 27) (.tmp 29) rfl w.heap.size w2.heap.size l (goneL (fun t => !p t) ts k) t rfl rfl (range_new w2 t 48) (hP2.out.of_block (fun g hg => Below.heap_alloc _ _ _ (hP2.out.lt hg).2)) hl2.out (by simp; omega) ?_; intro v' w3 ho3 hg3 hor))
        have hB3 : Kpt (Below w.heap.size w w3) := ⟨(hB2.out.alloc hB2.out.size _).grown hg3.out (by simp; omega) (fun k hk => (hP2.out.lt hk).1)⟩
        have hO3 : Kpt (Own w.heap.size w3 x (goneL p ts (k + 1))) := ⟨by
          rw [hst1.out]
          have := hO2.out.of_block (w' := w3) (fun g hg => (hg3.out.block g (by have := (hO2.out.lt hg).2; simp; omega) (fun e => hD.out g hg e.symm)).trans (Below.heap_alloc _ _ _ (hO2.out.lt hg).2))
          simpa using this⟩
        have hD3 : Kpt (Off x v') := ⟨fun g hg e => by
          rcases hor.out with h | h
          · exact hD.out g hg (by rw [← h]; exact e)
          · rw [h] at e; cases e; have := (hO2.out.lt hg).2; rw [World.size_alloc] at this; omega⟩
        go_wp2
        go_roundw
        case rel => exact ⟨k + 1, x, v', by omega, rfl, rfl, by go_num, hO3, ⟨by rw [hst2.out]; simpa using ho3.out⟩, hD3, hB3⟩
        case measure => simp [intOf]; omega
    · have e1 : ¬ (k : Int) < m := by omega
      have ek : k = ts.length := by rw [← hm.out]; omega
      rw [ek, gone_all] at hO hP
      have hS := hK.out.below hB.out
      have kc := Kpt.mk hS.c0
      have kf := hS.free 0
      have klt := hS.lt
      obtain ⟨ao, co, hvo, _⟩ := hS.own.shape
      rw [hvo] at kc
      replace kc := kc.out
      obtain ⟨al, cl, hvl, _⟩ := hP.out.shape
      obtain ⟨ll, hll⟩ : ∃ ll, ll = (ts.filter (fun t => !p t)).length := ⟨_, rfl⟩
      rw [← hll] at hvl
      subst hvl
      have hgr : w.grownBy wr v.ownBlock := ⟨hB.out.os, hB.out.tape, hB.out.output, hB.out.size, fun k hk _ => hB.out.block k hk⟩
      have hor : (Value.slice al ll cl).ownBlock = v.ownBlock ∨ (Value.slice al ll cl).ownBlock = none ∨ ∃ q, (Value.slice al ll cl).ownBlock = some q ∧ w.heap.size ≤ q := by
        cases hq : (Value.slice al ll cl).ownBlock with
        | none => exact .inr (.inl rfl)
        | some q => exact .inr (.inr ⟨q, rfl, (hP.out.lt hq).1⟩)
      have hF := Kpt.mk (hK.out.turn hgr (hP.out.lower (Nat.le_trans hK.out.le (Nat.le_of_lt hK.out.lt))) hor (by rw [← hll]; have := List.length_filter_le (fun t => !p t) ts; have := hm.out; omega))
      have hO' : Kpt (Own w.heap.size (wr.setCell ⟨B, 0, none⟩ (.slice al ll cl)) x (ts.filter p)) := ⟨hO.out.of_block (fun g hg => Below.heap_setCell _ _ _ _ (fun e => by have := (hO.out.lt hg).1; simp at e; omega))⟩
      replace hll := Kpt.mk hll
      replace hvo := Kpt.mk hvo
      clear hS hgr hor ek hs
      go_wp2
      go_ret
      first | exact ⟨x, _, rfl, hO'.out, hF.out.1, hF.out.2.1, hF.out.2.2, hD.out⟩ | exact ⟨x, rfl, hO'.out, _, hF.out.1, hF.out.2.1, hF.out.2.2, hD.out⟩

theorem filt_all (ts : List Tk) : ts.filter (fun _ => true) = ts := List.filter_eq_self.2 (by simp)
theorem filt_none (ts : List Tk) : ts.filter (fun _ => !true) = [] := List.filter_eq_nil_iff.2 (by simp)
theorem hcf40 : ∀ (args : Array Value) (W : World), (callFunc 40 args).run Try.prog W = .ok (Next.enter 40 args) W := fun args W => Go.MuLone.run_callFunc_enter (P := Try.prog) Try.func40 (by kernel_rfl) rfl args W
theorem hcf39 : ∀ (args : Array Value) (W : World), (callFunc 39 args).run Try.prog W = .ok (Next.enter 39 args) W := fun args W => Go.MuLone.run_callFunc_enter (P := Try.prog) Try.func39 (by kernel_rfl) rfl args W
theorem hcf38 : ∀ (args : Array Value) (W : World), (callFunc 38 args).run Try.prog W = .ok (Next.enter 38 args) W := fun args W => Go.MuLone.run_callFunc_enter (P := Try.prog) Try.func38 (by kernel_rfl) rfl args W

abbrev TakePost (p : Tk → Bool) (base B : Nat) (ts : List Tk) (st : Int) (v : Value) (w : World) (e : Ending) (w' : World) : Prop :=
  ∃ y v', e = .returned y ∧ Own w.heap.size w' y (ts.filter p) ∧ St base w' B (ts.filter (fun t => !p t)) st v' ∧ Trn w w' B v v' ∧ Below base w w' ∧ Off y v'

set_option maxHeartbeats 1000000 in
theorem abortAll_any (base B : Nat) (ts : List Tk) (st : Int) (v : Value) (n : Int) (w : World) (h : St base w B ts st v) :
    Calls Try.prog 25 #[.pointer (some ⟨B, 0, none⟩), .int .i64 n] w (TakePost (fun t => decide (t.nx = n)) base B ts st v w) := by
  have hb0 : Below w.heap.size w (w.alloc (.cells #[.int .i64 n] 3)) := (Below.refl _ _).alloc (Nat.le_refl _) _
  have H := Kpt.mk (take_any 40 #[.pointer (some ⟨w.heap.size, 0, none⟩)] (fun t => decide (t.nx = n)) base B ts st v (w.alloc (.cells #[.int .i64 n] 3)) (h.below hb0) hcf40 (fun W hW t _ =>
    nexus_any t w.heap.size n W ((hW.cell (p := ⟨w.heap.size, 0, none⟩) (by simp)).trans (by simp)) (Nat.lt_of_lt_of_le (by simp) hW.size)))
  have hb0K := Kpt.mk hb0
  have hK := Kpt.mk h
  clear h hb0
  go_enter Try.func25, Try.ntmps25
  have hm := hmf
  go_wp2_with (go_at_call 37; go_must (refine H.out.mono ?_; rintro e w' ⟨y, v', rfl, h1, h2, h3, h4, h5⟩; have hP : Kpt (TakePost (fun t => decide (t.nx = n)) base B ts st v w (.returned y) w') := ⟨⟨y, v', rfl, h1.lower (by simp), h2, (Trn.of_below B v hb0K.out).trans h3, (hb0K.out.mono (Nat.le_trans hK.out.le (Nat.le_of_lt hK.out.lt))).trans h4, h5⟩⟩; clear h1 h2 h3 h4 h5))
  go_ret
  exact hP.out

theorem St.stand {base : Nat} {w : World} {B : Nat} {ts : List Tk} {st : Int} {v : Value} (n : Int) (h : St base w B ts st v) : St base (w.setCell ⟨B, 1, none⟩ (.int .i64 n)) B ts n v ∧ Trn w (w.setCell ⟨B, 1, none⟩ (.int .i64 n)) B v v ∧ Below base w (w.setCell ⟨B, 1, none⟩ (.int .i64 n)) := by
  refine ⟨⟨by simpa using h.lt, h.le, ?_, World.cell?_setCell_same' _ _ _ (by rw [h.c1]; rfl), fun j => by simpa using h.free j, h.own.of_block (fun g hg => Below.heap_setCell _ _ _ _ (fun e => h.other g hg (by simpa using e))), h.other, h.few⟩, ⟨by simp, fun k hk hB _ => Below.heap_setCell _ _ _ _ (fun e => hB (by simpa using e)), fun g hg => .inl hg⟩, (Below.refl _ _).setCell (p := ⟨B, 1, none⟩) h.le _⟩
  have hne : (⟨B, 1, none⟩ : Addr) ≠ ⟨B, 0, none⟩ := fun e => by injection e with _ e2; omega
  exact (by first | exact World.cell?_setCell_other _ _ _ _ hne | exact World.cell?_setCell_other _ _ _ hne : (w.setCell ⟨B, 1, none⟩ (.int .i64 n)).cell? ⟨B, 0, none⟩ = w.cell? ⟨B, 0, none⟩).trans h.c0

set_option maxHeartbeats 1000000 in
theorem clear_any (base B : Nat) (ts : List Tk) (st : Int) (v : Value) (w : World) (h : St base w B ts st v) :
    Calls Try.prog 23 #[.pointer (some ⟨B, 0, none⟩)] w fun e w' => ∃ y v', e = .returned y ∧ Own w.heap.size w' y ts ∧ St base w' B [] (-1) v' ∧ Trn w w' B v v' ∧ Below base w w' ∧ Off y v' := by
  obtain ⟨g1, g2, g3⟩ := h.stand (-1)
  have H := Kpt.mk (take_any 39 #[] (fun _ => true) base B ts (-1) v (w.setCell ⟨B, 1, none⟩ (.int .i64 (-1))) g1 hcf39 (fun W hW t _ => every_any t W))
  have k1 := h.c1
  have kf := h.free 1
  have klt := h.lt
  have g2K := Kpt.mk g2
  have g3K := Kpt.mk g3
  clear h g1 g2 g3
  go_enter Try.func23, Try.ntmps23
  go_wp2_with (go_at_call 37; go_must (refine H.out.mono ?_; rintro e w' ⟨y, v', rfl, h1, h2, h3, h4, h5⟩; have hP : Kpt (∃ y' v', Ending.returned y = .returned y' ∧ Own w.heap.size w' y' ts ∧ St base w' B [] (-1) v' ∧ Trn w w' B v v' ∧ Below base w w' ∧ Off y' v') := ⟨⟨y, v', rfl, by rw [filt_all] at h1; simpa using h1, by first | (rw [filt_none] at h2; exact h2) | simpa using h2, g2K.out.trans h3, g3K.out.trans h4, h5⟩⟩; clear h1 h2 h3 h4 h5))
  go_ret
  exact hP.out
end Go.Proofs.Ytcnefmfmmgdidaa
