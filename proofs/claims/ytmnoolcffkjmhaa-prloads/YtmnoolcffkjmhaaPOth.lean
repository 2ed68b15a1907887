/-
  The contracts of others, end, Index, Contains, taken.
-/
import Derived.Test.YtmnoolcffkjmhaaPRegs
namespace Go.Proofs.Ytmnoolcffkjmhaa
open Go.RowKit
set_option linter.unusedVariables false
set_option linter.unusedSimpArgs false

/-- A code for each nexus but one. -/
def othersL (n c : Int) (l : List (Int × Int)) : List (Int × Int) := (l.filter (fun r => decide (r.1 ≠ n))).map (fun r => (r.1, c))
theorem othersL_len (n c : Int) (l : List (Int × Int)) : (othersL n c l).length ≤ l.length := by
  unfold othersL
  rw [List.length_map]
  exact List.length_filter_le _ _
theorem othersL_step (n c : Int) (l : List (Int × Int)) (k : Nat) (r : Int × Int) (h : l[k]? = some r) : othersL n c (l.take (k + 1)) = othersL n c (l.take k) ++ if r.1 = n then [] else [(r.1, c)] := by
  have hk : k < l.length := (List.getElem?_eq_some_iff.1 h).1
  rw [List.take_add_one, h]
  simp only [othersL, Option.toList_some, List.filter_append, List.map_append]
  by_cases e : r.1 = n <;> simp [e]

set_option maxRecDepth 100000 in
set_option maxHeartbeats 2000000 in
theorem others_any (B : Nat) (t : Tb) (n c : Int) (w : World) (h : Tab w B t) :
    Calls Try.prog 55 #[.pointer (some ⟨B, 0, none⟩), .int .i64 n, .int .u16 c] w fun e w' => ∃ v, e = .returned v ∧ Own .u16 55 w.heap.size w' v (othersL n c t.regs) ∧ Below w.heap.size w w' := by
  have HR := Kpt.mk (regs_any B t w h)
  have hl := regs_len t
  generalize t.regs = l at *
  clear h
  go_enter Try.func55, Try.ntmps55
  go_wp2_with (go_at_call 19; go_must (refine HR.out.mono ?_; rintro e w1 ⟨v, rfl, hO1, hB1⟩; obtain ⟨a, cp, hv, hs⟩ := hO1.shape; subst hv; replace hs := Kpt.mk hs; replace hB1 := Kpt.mk hB1; clear hO1))
  obtain ⟨m, hm⟩ : ∃ m, m = l.length := ⟨_, rfl⟩
  rw [← hm] at hl hs ⊢
  replace hm := Kpt.mk hm
  go_loopw [7, 13] (fun r t wr => ∃ (k : Nat) (x : Value), k ≤ m ∧ r = x ∧ t = .int .i64 k ∧ Kpt (Own .u16 55 w.heap.size wr x (othersL n c (l.take k))) ∧ Kpt (Below w1.heap.size w1 wr ∨ Below w1.heap.size w1 wr) ∧ Kpt (Below w.heap.size w wr) ∧ Kpt (∀ g, x.ownBlock = some g → w1.heap.size ≤ g)) (fun _ t _ => m - (intOf t).toNat)
  case atStart => exact ⟨0, _, Nat.zero_le _, rfl, rfl, ⟨own_nil _ _ _ _⟩, ⟨.inl (Below.refl _ _)⟩, hB1, ⟨fun g hg => by simp [Value.ownBlock] at hg⟩⟩
  case round =>
    obtain ⟨k, x, hk, hx0, rfl, hO, hB2, hB, hX⟩ := hrel
    replace hx0 := hx0.symm
    subst hx0
    by_cases hlt2 : k < m
    · have e1 : (k : Int) < m := by omega
      have hkz : k < l.length := by rw [← hm.out]; exact hlt2
      obtain ⟨r, hr⟩ : ∃ r, l[k]? = some r := ⟨_, List.getElem?_eq_getElem hkz⟩
      rcases hs.out with ⟨_, _, hz⟩ | ⟨g, rfl, hbg, hg, hc1, hc2, hrr⟩
      · omega
      have hB2' : Below w1.heap.size w1 wr := hB2.out.elim id id
      obtain ⟨r0, r1⟩ := range2 (rangeAt_of_block (hrr k r hr) (hB2'.block g hg))
      have hst := Kpt.mk (othersL_step n c l k r hr)
      have hll : Kpt ((othersL n c (l.take k)).length ≤ 8) := ⟨by have := othersL_len n c (l.take k); have : (l.take k).length ≤ k := by simp; omega
                                                                  omega⟩
      have hgl : g < wr.heap.size := Nat.lt_of_lt_of_le hg hB2'.size
      have hs1 : w1.heap.size ≤ wr.heap.size := hB2'.size
      obtain ⟨q1, q2⟩ := r
      simp only at r0 r1 hst
      replace hB2 := Kpt.mk hB2'
      have hs0 : w.heap.size ≤ w1.heap.size := hB1.out.size
      clear hrr hr hB2' hs
      by_cases hy : q1 = n
      · subst hy
        go_wp2
        go_roundw
        case rel => exact ⟨k + 1, x, by omega, rfl, by go_num, ⟨by rw [hst.out]; simpa using hO.out.of_block (fun g hg => Below.heap_alloc _ _ _ (hO.out.lt hg).2)⟩, ⟨.inl (hB2.out.alloc hs1 _)⟩, ⟨hB.out.alloc (by omega) _⟩, hX⟩
        case measure => simp [intOf]; omega
      · have hyb : ((q1 : Int) != n) = true := by simp [hy]
        go_wp2_with (at_builtin; go_must (refine wpList_append_row (κ := .u16) Try.underlying45 Try.infoEV rfl (by decide) rfl (.tmp 21) (.tmp 26) rfl w.heap.size x (.slice (some ⟨wr.heap.size + 1, 0, none⟩) 1 1) (othersL n c (l.take k)) [(q1, c)] rfl rfl (rowOf_at .u16 _ (q1, c) _ _ (by simp)) (hO.out.of_block (fun g hg => (Below.heap_alloc _ _ _ (by have := (hO.out.lt hg).2; simp; omega)).trans (Below.heap_alloc _ _ _ (hO.out.lt hg).2))) (by have := hll.out; simp; omega) (by simp; omega) ?_; intro v' w3 ho3 hg3 hor))
        have hB3 : Kpt (Below w.heap.size w w3) := ⟨((hB.out.alloc (by omega) _).alloc (by simp; omega) _).grown hg3.out (by simp; omega) (fun k hk => (hO.out.lt hk).1)⟩
        have hB4 : Kpt (Below w1.heap.size w1 w3) := ⟨((hB2.out.alloc (by omega) _).alloc (by simp; omega) _).grown hg3.out (by simp; omega) (fun k hk => hX.out k hk)⟩
        have hX3 : Kpt (∀ g, v'.ownBlock = some g → w1.heap.size ≤ g) := ⟨fun g hg => by
          rcases hor.out with e | e
          · exact hX.out g (by rw [← e]; exact hg)
          · rw [e] at hg; simp at hg; omega⟩
        go_wp2
        go_roundw
        case rel => exact ⟨k + 1, v', by omega, rfl, by go_num, ⟨by rw [hst.out]; simpa [hy] using ho3.out⟩, ⟨.inl hB4.out⟩, hB3, hX3⟩
        case measure => simp [intOf]; omega
    · have e1 : ¬ (k : Int) < m := by omega
      have ek : k = m := by omega
      have hfin : Kpt (l.take k = l) := ⟨by rw [ek, hm.out]; simp⟩
      go_wp2
      go_ret
      exact ⟨x, rfl, by have := hO.out; rw [hfin.out] at this; exact this, hB.out⟩

/-- The reservation ends. -/
def Tb.endE (t : Tb) (n : Int) : List (Int × Int) := if t.kd < 5 then [] else othersL n 10756 t.regs
theorem grown_setCell (w : World) (a : Addr) (u : Value) : w.grownBy (w.setCell a u) (some a.block) :=
  ⟨rfl, rfl, rfl, by simp, fun j _ hk => Below.heap_setCell w a u j (fun e => hk (by rw [e]))⟩
theorem grown_trans {w w1 w2 : World} {r : Option Nat} (h : w.grownBy w1 r) (h2 : w1.grownBy w2 r) : w.grownBy w2 r :=
  ⟨h2.os.trans h.os, h2.tape.trans h.tape, h2.output.trans h.output, Nat.le_trans h.size h2.size, fun j hj hk => (h2.block j (Nat.lt_of_lt_of_le hj h.size) hk).trans (h.block j hj hk)⟩
theorem grown_below {w w1 : World} {r : Option Nat} (h : Below w.heap.size w w1) : w.grownBy w1 r := ⟨h.os, h.tape, h.output, h.size, fun j hj _ => h.block j hj⟩
theorem grown_refl (w : World) (r : Option Nat) : w.grownBy w r := ⟨rfl, rfl, rfl, Nat.le_refl _, fun _ _ _ => rfl⟩
theorem grown_alloc (w : World) (o : Obj) (r : Option Nat) : w.grownBy (w.alloc o) r := grown_below ((Below.refl _ _).alloc (Nat.le_refl _) _)
theorem grown_drewN (w : World) (n : Nat) (r : Option Nat) : w.grownBy (w.drewN n) r := grown_below (below_drewN (Below.refl _ _) n)

set_option maxHeartbeats 1000000 in
theorem end_any (B : Nat) (t : Tb) (n : Int) (w : World) (h : Tab w B t) (hk : 0 ≤ t.kd) :
    Calls Try.prog 54 #[.pointer (some ⟨B, 0, none⟩), .int .i64 n] w fun e w' => ∃ v, e = .returned v ∧ Own .u16 55 w.heap.size w' v (t.endE n) ∧ Tab w' B { t with kd := 0 } ∧ w.grownBy w' (some B) := by
  have hT := h.setKd 0
  have HO := Kpt.mk (others_any B _ n 10756 _ hT)
  have hTK := Kpt.mk hT
  have hlt := h.lt
  have h8 := h.c8
  have hf := h.free 8
  have he : Kpt (t.endE n = if t.kd < 5 then [] else othersL n 10756 t.regs) := ⟨rfl⟩
  have hreg : Kpt (Tb.regs { t with kd := 0 } = t.regs) := ⟨rfl⟩
  generalize t.endE n = E at *
  generalize t.kd = kd at *
  clear h hT
  by_cases h5 : kd < 5
  · go_enter Try.func54, Try.ntmps54
    go_wp2
    go_ret
    exact ⟨_, rfl, by rw [he.out, if_pos h5]; exact own_nil _ _ _ _, hTK.out, grown_setCell _ _ _⟩
  · go_enter Try.func54, Try.ntmps54
    go_wp2_with (go_at_call 55; go_must (refine HO.out.mono ?_; rintro e w1 ⟨v, rfl, hO1, hB1⟩; replace hO1 := Kpt.mk hO1; replace hB1 := Kpt.mk hB1))
    go_ret
    exact ⟨v, rfl, by rw [he.out, if_neg (by omega)]; have := hO1.out; rw [hreg.out] at this; simpa using this, hTK.out.below' hB1.out, grown_trans (grown_setCell w ⟨B, 8, none⟩ _) (grown_below hB1.out)⟩
end Go.Proofs.Ytmnoolcffkjmhaa
