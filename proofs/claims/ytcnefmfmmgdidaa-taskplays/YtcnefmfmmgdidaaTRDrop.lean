/-
  The contracts of the document's Drop and End.
-/
import Derived.Test.YtcnefmfmmgdidaaTRRdy
namespace Go.Proofs.Ytcnefmfmmgdidaa
open Go.RowKit
set_option linter.unusedVariables false
set_option linter.unusedSimpArgs false

/-- Which tasks Drop has gone. -/
def dropP (kind n g : Int) (t : Tk) : Bool := if kind = 2 then true else if kind = 1 then decide (t.nx = n) else if kind = 0 then decide (t.nx = n ∧ t.tg = g) else decide (t.ar = 3)

abbrev DropPost (p : Tk → Bool) (base B : Nat) (ts : List Tk) (st : Int) (v : Value) (w : World) (e : Ending) (w' : World) : Prop :=
  ∃ y v', e = .returned y ∧ OwnR w.heap.size w' y (ts.filter p) ∧ StR base w' B (ts.filter (fun t => !p t)) st v' ∧ Trn w w' B v v' ∧ Below base w w'

set_option maxRecDepth 100000 in
set_option maxHeartbeats 4000000 in
theorem rdrop_any (kind n g : Int) (base B : Nat) (ts : List Tk) (st : Int) (v : Value) (w : World) (h : StR base w B ts st v) (hkd : 0 ≤ kind ∧ kind ≤ 3) :
    Calls Try.prog 30 #[.pointer (some ⟨B, 0, none⟩), .int .i64 kind, .int .i64 n, .int .u32 g] w (DropPost (dropP kind n g) base B ts st v w) := by
  have hK := Kpt.mk h
  obtain ⟨a, c, hv, hs⟩ := h.own.shape
  have hc0 := h.c0
  have hlt := h.lt
  have hfew := h.few
  rw [hv] at hc0
  replace hs := Kpt.mk hs
  obtain ⟨m, hm⟩ : ∃ m, m = ts.length := ⟨_, rfl⟩
  rw [← hm] at hc0 hfew hs
  replace hm := Kpt.mk hm
  obtain ⟨p, hp⟩ : ∃ p, p = dropP kind n g := ⟨_, rfl⟩
  rw [← hp]
  have hpt : Kpt (∀ t, p t = dropP kind n g t) := ⟨fun t => by rw [hp]⟩
  clear h hv hp
  go_enter Try.func30, Try.ntmps30
  go_wp2
  go_loopw [9, 10, 11] (fun r s t wr => ∃ (k : Nat) (x l : Value), k ≤ m ∧ r = x ∧ s = l ∧ t = .int .i64 k ∧ Kpt (OwnR w.heap.size wr x (goneL p ts k)) ∧ Kpt (OwnR w.heap.size wr l (goneL (fun t => !p t) ts k)) ∧ Kpt (Off x l) ∧ Kpt (Below w.heap.size w wr)) (fun _ _ t _ => m - (intOf t).toNat)
  case atStart => exact ⟨0, _, _, Nat.zero_le _, rfl, rfl, rfl, ⟨ownR_nil _ _⟩, ⟨ownR_nil _ _⟩, ⟨fun g hg => by simp [Value.ownBlock] at hg⟩, ⟨Below.refl _ _⟩⟩
  case round =>
    obtain ⟨k, x, l, hk, hx0, hl0, rfl, hO, hP, hD, hB⟩ := hrel
    replace hx0 := hx0.symm
    replace hl0 := hl0.symm
    subst hx0
    subst hl0
    have kc0 : wr.cell? ⟨B, 0, none⟩ = some (.slice a m c) := (hB.out.cell (p := ⟨B, 0, none⟩) hlt).trans hc0
    have klt : B < wr.heap.size := Nat.lt_of_lt_of_le hlt hB.out.size
    by_cases hlt2 : k < m
    · have e1 : (k : Int) < m := by omega
      have hkz : k < ts.length := by rw [← hm.out]; exact hlt2
      obtain ⟨t, ht⟩ : ∃ t, ts[k]? = some t := ⟨_, List.getElem?_eq_getElem hkz⟩
      rcases hs.out with ⟨_, _, hz⟩ | ⟨gr, rfl, hbg, hg, hc1, hc2, _, hr⟩
      · omega
      obtain ⟨r0, r1, r2, r3⟩ := range4R (rangeAt_of_block (hr k t ht) (hB.out.block gr hg))
      have hg1 : gr < wr.heap.size := Nat.lt_of_lt_of_le hg hB.out.size
      have hst1 := gone_step p ts k t ht
      have hst2 := gone_step (fun t => !p t) ts k t ht
      have hl1 : Kpt ((goneL p ts k).length ≤ 100) := ⟨by have := gone_len p ts k; have := hm.out; omega⟩
      have hl2 : Kpt ((goneL (fun t => !p t) ts k).length ≤ 100) := ⟨by have := gone_len (fun t => !p t) ts k; have := hm.out; omega⟩
      have hsz : w.heap.size ≤ wr.heap.size := hB.out.size
      have hpv := hpt.out t
      unfold maxLen at hc2
      obtain ⟨w2, hw2⟩ : ∃ w2, w2 = wr.alloc (.cells #[.int .i64 t.nx, .int .u32 t.tg, .int .i64 t.ar, .bool t.st] 63) := ⟨_, rfl⟩
      have hB2 : Kpt (Below w.heap.size w w2) := ⟨by rw [hw2]; exact hB.out.alloc hsz _⟩
      have hs2 : w.heap.size ≤ w2.heap.size := hB2.out.size
      have hn2 : Kpt (w2.heap.size = wr.heap.size + 1) := ⟨by rw [hw2]; simp⟩
      have hO2 : Kpt (OwnR w.heap.size w2 x (goneL p ts k)) := ⟨hO.out.of_block (fun g hg => by rw [hw2]; exact Below.heap_alloc _ _ _ (hO.out.lt hg).2)⟩
      have hP2 : Kpt (OwnR w.heap.size w2 l (goneL (fun t => !p t) ts k)) := ⟨hP.out.of_block (fun g hg => by rw [hw2]; exact Below.heap_alloc _ _ _ (hP.out.lt hg).2)⟩
      have hT : (kind = 2 ∨ (kind = 1 ∧ (t.nx == n) = true) ∨ (kind = 0 ∧ (t.nx == n) = true ∧ (t.tg == g) = true) ∨ (kind = 3 ∧ (t.ar == 3) = true)) ∧ p t = true ∨ ((kind = 1 ∧ (t.nx == n) = false) ∨ (kind = 0 ∧ (t.nx == n) = true ∧ (t.tg == g) = false) ∨ (kind = 0 ∧ (t.nx == n) = false) ∨ (kind = 3 ∧ (t.ar == 3) = false)) ∧ p t = false := by
        have hk4 : kind = 0 ∨ kind = 1 ∨ kind = 2 ∨ kind = 3 := by omega
        rw [hpv]
        unfold dropP
        rcases hk4 with rfl | rfl | rfl | rfl
        · by_cases c1 : t.nx = n <;> by_cases c2 : t.tg = g <;> simp [c1, c2]
        · by_cases c1 : t.nx = n <;> simp [c1]
        · simp
        · by_cases c1 : t.ar = 3 <;> simp [c1]
      clear hr hs ht hpv hpt
      have hwr : Kpt (w2 = wr.alloc (.cells #[.int .i64 t.nx, .int .u32 t.tg, .int .i64 t.ar, .bool t.st] 63)) := ⟨hw2⟩
      rcases hT with ⟨hT, hpb⟩ | ⟨hT, hpb⟩
      · rw [hpb] at hst1 hst2
        replace hst1 := Kpt.mk hst1
        replace hst2 := Kpt.mk hst2
        clear hw2 hpb
        rcases hT with rfl | ⟨rfl, c1⟩ | ⟨rfl, c1, c2⟩ | ⟨rfl, c1⟩
        all_goals
          go_wp2_with (at_builtin; go_must (rw [← hwr.out]; refine wpList_append_taskR rfl (.tmp 68) (.tmp 70) rfl w.heap.size (wr.heap.size + 1) x (goneL p ts k) t rfl rfl (by rw [← hn2.out]; exact range_newR w2 t 63) (hO2.out.of_block (fun g hg => Below.heap_alloc _ _ _ (hO2.out.lt hg).2)) hl1.out (by simp; omega) ?_; intro v' w3 ho3 hg3 hor))
          have hB3 : Kpt (Below w.heap.size w w3) := ⟨(hB2.out.alloc hB2.out.size _).grown hg3.out (by simp; omega) (fun k hk => (hO2.out.lt hk).1)⟩
          have hP3 : Kpt (OwnR w.heap.size w3 l (goneL (fun t => !p t) ts (k + 1))) := ⟨by
            rw [hst2.out]
            have := hP2.out.of_block (w' := w3) (fun g hg => (hg3.out.block g (by have := (hP2.out.lt hg).2; simp; omega) (fun e => hD.out g e.symm hg)).trans (Below.heap_alloc _ _ _ (hP2.out.lt hg).2))
            simpa using this⟩
          have hD3 : Kpt (Off v' l) := ⟨fun g hg e => by
            rcases hor.out with h | h
            · exact hD.out g (by rw [← h]; exact hg) e
            · rw [h] at hg; cases hg; have := (hP2.out.lt e).2; rw [World.size_alloc] at this; omega⟩
          go_wp2
          go_roundw
          case rel => exact ⟨k + 1, v', l, by omega, rfl, rfl, by go_num, ⟨by rw [hst1.out]; simpa using ho3.out⟩, hP3, hD3, hB3⟩
          case measure => simp [intOf]; omega
      · rw [hpb] at hst1 hst2
        replace hst1 := Kpt.mk hst1
        replace hst2 := Kpt.mk hst2
        clear hw2 hpb
        rcases hT with ⟨rfl, c1⟩ | ⟨rfl, c1, c2⟩ | ⟨rfl, c1⟩ | ⟨rfl, c1⟩
        all_goals
          go_wp2_with (at_builtin; go_must (rw [← hwr.out]; refine wpList_append_taskR rfl (.tmp 72) (.tmp 74) rfl w.heap.size (wr.heap.size + 1) l (goneL (fun t => !p t) ts k) t rfl rfl (by rw [← hn2.out]; exact range_newR w2 t 63) (hP2.out.of_block (fun g hg => Below.heap_alloc _ _ _ (hP2.out.lt hg).2)) hl2.out (by simp; omega) ?_; intro v' w3 ho3 hg3 hor))
          have hB3 : Kpt (Below w.heap.size w w3) := ⟨(hB2.out.alloc hB2.out.size _).grown hg3.out (by simp; omega) (fun k hk => (hP2.out.lt hk).1)⟩
          have hO3 : Kpt (OwnR w.heap.size w3 x (goneL p ts (k + 1))) := ⟨by
            rw [hst1.out]
            have := hO2.out.of_block (w' := w3) (fun g hg => (hg3.out.block g (by have := (hO2.out.lt hg).2; simp; omega) (fun e => hD.out g hg e.symm)).trans (Below.heap_alloc _ _ _ (hO2.out.lt hg).2))
            simpa using this⟩
          have hD3 : Kpt (Off x v') := ⟨fun g hg e => by
            rcases hor.out with h | h
            · exact hD.out g hg (by rw [← h]; exact e)
            · rw [h] at e; cases e; have := (hO2.out.lt hg).2; rw [World.size_alloc] at this; omega⟩
          go_wp2
          go_roundw
          case rel => exact ⟨k + 1, x, v', by omega, rfl, rfl, by go_num, hO3, ⟨by rw [hst2.out]; simpa using ho3.out⟩, hD3, hB3⟩
          case measure => simp [intOf]; omega
    · have e1 : ¬ (k : Int) < m := by omega
      have ek : k = ts.length := by rw [← hm.out]; omega
      rw [ek, gone_all] at hO hP
      have hS := hK.out.below hB.out
      have kf := hS.free 0
      obtain ⟨al, cl, hvl, _⟩ := hP.out.shape
      obtain ⟨ll, hll⟩ : ∃ ll, ll = (ts.filter (fun t => !p t)).length := ⟨_, rfl⟩
      rw [← hll] at hvl
      subst hvl
      have hgr : w.grownBy wr v.ownBlock := ⟨hB.out.os, hB.out.tape, hB.out.output, hB.out.size, fun k hk _ => hB.out.block k hk⟩
      have hor : (Value.slice al ll cl).ownBlock = v.ownBlock ∨ (Value.slice al ll cl).ownBlock = none ∨ ∃ q, (Value.slice al ll cl).ownBlock = some q ∧ w.heap.size ≤ q := by
        cases hq : (Value.slice al ll cl).ownBlock with
        | none => exact .inr (.inl rfl)
        | some q => exact .inr (.inr ⟨q, rfl, (hP.out.lt hq).1⟩)
      have hF := Kpt.mk (hK.out.turn hgr (hP.out.lower (Nat.le_trans hK.out.le (Nat.le_of_lt hK.out.lt))) hor (by rw [← hll]; have := List.length_filter_le (fun t => !p t) ts; have := hm.out; omega))
      have hO' : Kpt (OwnR w.heap.size (wr.setCell ⟨B, 0, none⟩ (.slice al ll cl)) x (ts.filter p)) := ⟨hO.out.of_block (fun g hg => Below.heap_setCell _ _ _ _ (fun e => by have := (hO.out.lt hg).1; simp at e; omega))⟩
      replace hll := Kpt.mk hll
      clear hS hgr hor ek hs
      go_wp2
      go_ret
      first | exact ⟨x, _, rfl, hO'.out, hF.out.1, hF.out.2.1, hF.out.2.2⟩ | exact ⟨x, rfl, hO'.out, _, hF.out.1, hF.out.2.1, hF.out.2.2⟩
end Go.Proofs.Ytcnefmfmmgdidaa
