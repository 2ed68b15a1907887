/-
  The contracts of the document's Ready and Start.
-/
import Derived.Test.YtcnefmfmmgdidaaTRMay
namespace Go.Proofs.Ytcnefmfmmgdidaa
open Go.RowKit
set_option linter.unusedVariables false
set_option linter.unusedSimpArgs false

set_option maxRecDepth 100000 in
set_option maxHeartbeats 2000000 in
theorem rready_any (base B : Nat) (ts : List Tk) (st : Int) (v : Value) (w : World) (h : StR base w B ts st v) (hst0 : st = -1 ∨ 0 ≤ st) :
    Calls Try.prog 16 #[.pointer (some ⟨B, 0, none⟩)] w fun e w' => ∃ v', e = .returned v' ∧ OwnR w.heap.size w' v' (rdyL ts st ts.length) ∧ Below w.heap.size w w' := by
  have hK := Kpt.mk h
  obtain ⟨a, c, hv, hs⟩ := h.own.shape
  have hc0 := h.c0
  have hlt := h.lt
  have hfew := h.few
  rw [hv] at hc0
  replace hs := Kpt.mk hs
  replace hst0 := Kpt.mk hst0
  obtain ⟨m, hm⟩ : ∃ m, m = ts.length := ⟨_, rfl⟩
  rw [← hm] at hc0 hfew hs ⊢
  replace hm := Kpt.mk hm
  clear h hv
  go_enter Try.func16, Try.ntmps16
  go_wp2
  go_loopw [3, 4] (fun r t wr => ∃ (k : Nat) (x : Value), k ≤ m ∧ r = x ∧ t = .int .i64 k ∧ Kpt (OwnR w.heap.size wr x (rdyL ts st k)) ∧ Kpt (Below w.heap.size w wr)) (fun _ t _ => m - (intOf t).toNat)
  case atStart => exact ⟨0, _, Nat.zero_le _, rfl, rfl, ⟨ownR_nil _ _⟩, ⟨Below.refl _ _⟩⟩
  case round =>
    obtain ⟨k, x, hk, hx0, rfl, hO, hB⟩ := hrel
    replace hx0 := hx0.symm
    subst hx0
    have kc0 : wr.cell? ⟨B, 0, none⟩ = some (.slice a m c) := (hB.out.cell (p := ⟨B, 0, none⟩) hlt).trans hc0
    have klt : B < wr.heap.size := Nat.lt_of_lt_of_le hlt hB.out.size
    by_cases hlt2 : k < m
    · have e1 : (k : Int) < m := by omega
      have hkz : k < ts.length := by rw [← hm.out]; exact hlt2
      obtain ⟨t, ht⟩ : ∃ t, ts[k]? = some t := ⟨_, List.getElem?_eq_getElem hkz⟩
      rcases hs.out with ⟨_, _, hz⟩ | ⟨g, rfl, hbg, hg, hc1, hc2, _, hr⟩
      · omega
      have hrg := hr k t ht
      have hrl := Kpt.mk (rdy_len ts st k)
      have hst : rdyL ts st (k + 1) = rdyL ts st k ++ if mayT ts st k t = true then [t] else [] := by
        show rdyL ts st k ++ _ = _
        rw [ht]
      have HM := Kpt.mk (rmay_any base B k ts st v t wr (hK.out.below hB.out) hst0.out ht)
      obtain ⟨b, hb⟩ : ∃ b, b = mayT ts st k t := ⟨_, rfl⟩
      rw [← hb] at HM hst
      replace hst := Kpt.mk hst
      clear hr hs ht hb
      unfold maxLen at hc2
      have hsz : w.heap.size ≤ wr.heap.size := hB.out.size
      have hl100 : Kpt ((rdyL ts st k).length ≤ 100) := ⟨by have := hrl.out; omega⟩
      go_wp2_with fail
      refine HM.out.mono ?_
      rintro e w2 ⟨rfl, hb2⟩
      have hB2 : Kpt (Below w.heap.size w w2) := ⟨hB.out.trans (hb2.mono hB.out.size)⟩
      have hO2 : Kpt (OwnR w.heap.size w2 x (rdyL ts st k)) := ⟨hO.out.of_block (fun g hg => hb2.block g (hO.out.lt hg).2)⟩
      have jc0 : w2.cell? ⟨B, 0, none⟩ = some (.slice (some ⟨g, 0, none⟩) m c) := (hb2.cell (p := ⟨B, 0, none⟩) klt).trans kc0
      have jlt : B < w2.heap.size := Nat.lt_of_lt_of_le klt hb2.size
      have jsz : w.heap.size ≤ w2.heap.size := hB2.out.size
      obtain ⟨q0, q1, q2, q3⟩ := range4R (t := t) (rangeAt_of_block hrg (hB2.out.block g hg))
      have hg2 : g < w2.heap.size := Nat.lt_of_lt_of_le hg jsz
      replace hrg := Kpt.mk hrg
      clear hb2 HM hO hB kc0 klt
      cases b with
      | true =>
        go_wp2_with (at_builtin; go_must (refine wpList_append_taskR rfl (.tmp 17) (.tmp 25) rfl w.heap.size w2.heap.size x (rdyL ts st k) t rfl rfl (range_newR w2 t 63) (hO2.out.of_block (fun g hg => Below.heap_alloc _ _ _ (hO2.out.lt hg).2)) hl100.out (by simp; omega) ?_; intro v' w3 ho3 hg3 hor))
        have hB3 : Kpt (Below w.heap.size w w3) := ⟨(hB2.out.alloc hB2.out.size _).grown hg3.out (by simp; omega) (fun k hk => (hO2.out.lt hk).1)⟩
        go_wp2
        go_roundw
        case rel => exact ⟨k + 1, v', by omega, rfl, by go_num, ⟨by rw [hst.out]; first | exact ho3.out | simpa using ho3.out⟩, hB3⟩
        case measure => simp [intOf]; omega
      | false =>
        go_wp2
        go_roundw
        case rel => exact ⟨k + 1, x, by omega, rfl, by go_num, ⟨by rw [hst.out]; simpa using hO2.out⟩, hB2⟩
        case measure => simp [intOf]; omega
    · have e1 : ¬ (k : Int) < m := by omega
      have ek : k = m := by omega
      go_wp2
      go_ret
      exact ⟨x, rfl, by rw [← ek]; exact hO.out, hB.out⟩

set_option maxRecDepth 100000 in
set_option maxHeartbeats 2000000 in
theorem rstart_any (base B : Nat) (ts : List Tk) (st : Int) (v : Value) (n g : Int) (w : World) (h : StR base w B ts st v) (hst0 : st = -1 ∨ 0 ≤ st) :
    Calls Try.prog 27 #[.pointer (some ⟨B, 0, none⟩), .int .i64 n, .int .u32 g] w fun e w' => e = .returned (.int .i64 (startR ts st n g)) ∧ StR base w' B (startL ts st n g) st v ∧ Trn w w' B v v ∧ Below base w w' := by
  have HF := Kpt.mk (rfind_any base B ts st v n g w h)
  have hle : base ≤ w.heap.size := Nat.le_trans h.le (Nat.le_of_lt h.lt)
  by_cases h0 : fidx (isT n g) ts 0 < 0
  · have e1 : startR ts st n g = 8 := by unfold startR; rw [if_pos h0]
    have e2 : startL ts st n g = ts := by unfold startL; rw [e1, if_neg (by decide)]
    rw [e1, e2]
    have hK := Kpt.mk h
    clear h e1 e2
    generalize fidx (isT n g) ts 0 = x at *
    go_enter Try.func27, Try.ntmps27
    go_wp2_with (go_at_call 41; go_must (refine HF.out.mono ?_; rintro e w' ⟨rfl, rfl⟩))
    go_ret
    exact ⟨rfl, hK.out, Trn.refl _ _ _, Below.refl _ _⟩
  · obtain ⟨k, t, hk1, hk2, _⟩ := fidx_some (isT n g) ts 0 (by omega)
    rw [Nat.zero_add] at hk1
    have hR : startR ts st n g = if mayT ts st k t = true then 0 else 12 := by
      unfold startR; rw [if_neg h0, hk1, Int.toNat_natCast, hk2]
    have HM := Kpt.mk (rmay_any base B k ts st v t w h hst0 hk2)
    have hkl : k < ts.length := (List.getElem?_eq_some_iff.1 hk2).1
    rw [hk1] at HF
    obtain ⟨a, c, hv, hs⟩ := h.own.shape
    rcases hs with ⟨_, _, hz⟩ | ⟨q, rfl, hbq, hq, hc1, hc2, hfr, hr⟩
    · omega
    subst hv
    have hL : startL ts st n g = if mayT ts st k t = true then ts.set k { t with st := true } else ts := by
      unfold startL
      rw [hR, hk1, Int.toNat_natCast, hk2]
      by_cases hm : mayT ts st k t = true
      · simp [hm]
      · simp [hm]
    rw [hR, hL]
    obtain ⟨b, hb⟩ : ∃ b, b = mayT ts st k t := ⟨_, rfl⟩
    rw [← hb] at HM ⊢
    have hK := Kpt.mk h
    have hc0 := Kpt.mk h.c0
    have hlt := h.lt
    have hrg := Kpt.mk (hr k t hk2)
    replace hfr := Kpt.mk hfr
    replace hk2 := Kpt.mk hk2
    have hkK : (k : Int) < ts.length := by omega
    have hfew := h.few
    clear h hr hb h0 hk1 hR hL hst0
    obtain ⟨m, hm⟩ : ∃ m, m = ts.length := ⟨_, rfl⟩
    rw [← hm] at hkK hkl hc1 hfew hK hc0 ⊢
    replace hm := Kpt.mk hm
    unfold maxLen at hc2
    go_enter Try.func27, Try.ntmps27
    go_wp2_with (go_at_call 41; go_must (refine HF.out.mono ?_; rintro e w1 ⟨rfl, rfl⟩))
    refine HM.out.mono ?_
    rintro e w2 ⟨rfl, hb2⟩
    have hS2 := hK.out.below hb2
    have hT2 := Trn.of_below B (Value.slice (some ⟨q, 0, none⟩) m c) hb2
    have jc0 := hS2.c0
    have jlt := hS2.lt
    cases b with
    | false =>
      have hp := Kpt.mk (And.intro hS2 (And.intro hT2 (hb2.mono hle)))
      clear hS2 hT2 hb2
      go_wp2
      go_ret
      exact ⟨rfl, by simpa using hp.out⟩
    | true =>
      obtain ⟨q0, q1, q2, q3⟩ := range4R (t := t) (rangeAt_of_block hrg.out (hb2.block q hq))
      have hfz : w2.frozen? ⟨q, k * 4 + 3, none⟩ = false := (World.frozen?_of_block (w := w1) (w' := w2) (a := ⟨q, k * 4 + 3, none⟩) (hb2.block q hq)).trans (hfr.out _)
      have hq2 : q < w2.heap.size := Nat.lt_of_lt_of_le hq hb2.size
      have hS3 := Kpt.mk (StR.start (c := c) (k := k) (t := t) true (by rw [← hm.out]; exact hS2) hk2.out)
      rw [← hm.out] at hS3
      have hb2' := Kpt.mk (hb2.mono hle)
      replace hT2 := Kpt.mk hT2
      clear hS2 hb2
      go_wp2
      go_ret
      exact ⟨rfl, by simpa using hS3.out.1, hT2.out.trans hS3.out.2.1, hb2'.out.trans hS3.out.2.2⟩
end Go.Proofs.Ytcnefmfmmgdidaa
