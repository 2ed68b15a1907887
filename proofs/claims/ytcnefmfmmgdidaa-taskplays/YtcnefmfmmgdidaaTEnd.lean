/-
  The contract of End.
-/
import Derived.Test.YtcnefmfmmgdidaaTDelM
namespace Go.Proofs.Ytcnefmfmmgdidaa
open Go.RowKit
set_option linter.unusedVariables false
set_option linter.unusedSimpArgs false

def endR (ts : List Tk) (n g : Int) : Int := if fidx (isT n g) ts 0 < 0 then 8 else match ts[(fidx (isT n g) ts 0).toNat]? with
  | some t => if t.st = true then 0 else 12
  | none => 8
def endL (ts : List Tk) (n g : Int) : List Tk := if endR ts n g = 0 then ts.eraseIdx (fidx (isT n g) ts 0).toNat else ts

set_option maxRecDepth 100000 in
set_option maxHeartbeats 2000000 in
theorem end_any (base B : Nat) (ts : List Tk) (st : Int) (v : Value) (n g : Int) (w : World) (h : St base w B ts st v) :
    Calls Try.prog 20 #[.pointer (some ⟨B, 0, none⟩), .int .i64 n, .int .u32 g] w fun e w' => e = .returned (.int .i64 (endR ts n g)) ∧ ∃ v', St base w' B (endL ts n g) st v' ∧ Trn w w' B v v' ∧ Below base w w' := by
  have HF := Kpt.mk (find_any base B ts st v n g w h)
  have hle : base ≤ w.heap.size := Nat.le_trans h.le (Nat.le_of_lt h.lt)
  by_cases h0 : fidx (isT n g) ts 0 < 0
  · have e1 : endR ts n g = 8 := by unfold endR; rw [if_pos h0]
    have e2 : endL ts n g = ts := by unfold endL; rw [e1, if_neg (by decide)]
    rw [e1, e2]
    have hK := Kpt.mk h
    clear h e1 e2
    generalize fidx (isT n g) ts 0 = x at *
    go_enter Try.func20, Try.ntmps20
    go_wp2_with (go_at_call 34; go_must (refine HF.out.mono ?_; rintro e w' ⟨rfl, hb⟩; replace hb := Kpt.mk hb))
    go_ret
    exact ⟨rfl, v, hK.out.below hb.out, Trn.of_below _ _ hb.out, hb.out.mono hle⟩
  · obtain ⟨k, t, hk1, hk2, _⟩ := fidx_some (isT n g) ts 0 (by omega)
    rw [Nat.zero_add] at hk1
    have hR : endR ts n g = if t.st = true then 0 else 12 := by
      unfold endR; rw [if_neg h0, hk1, Int.toNat_natCast, hk2]
    have hL : endL ts n g = if endR ts n g = 0 then ts.eraseIdx k else ts := by
      unfold endL; rw [hk1, Int.toNat_natCast]
    rw [hk1] at HF
    have hkl : k < ts.length := (List.getElem?_eq_some_iff.1 hk2).1
    obtain ⟨a, c, hv, hs⟩ := h.own.shape
    rcases hs with ⟨_, _, hz⟩ | ⟨q, rfl, hbq, hq, hc1, hc2, hfz, hr⟩
    · omega
    have hK := Kpt.mk h
    have ek : ¬ (k : Int) < 0 := by omega
    have hrange := Kpt.mk (hr k t hk2)
    have hc0 := h.c0
    have hlt := h.lt
    have hfew := h.few
    rw [hv] at hc0
    obtain ⟨m, hm⟩ : ∃ m, m = ts.length := ⟨_, rfl⟩
    rw [← hm] at hc0 hkl hc1 hfew hv
    have e1 : (k : Int) < m := by omega
    have HD : Kpt (∀ W, Below w.heap.size w W → Calls Try.prog 36 #[.slice (some ⟨q, 0, none⟩) m c, .int .i64 k, .int .i64 ((k : Int) + 1)] W fun e w' => e = .returned (.slice (some ⟨q, 0, none⟩) (m - 1) c) ∧ w'.ownsRow base 48 4 (.slice (some ⟨q, 0, none⟩) (m - 1) c) (m - 1) (cels (ts.eraseIdx k)) ∧ W.grownBy w' (some q)) := ⟨fun W hW => by
      have hO := (h.below hW).own
      unfold Own at hO
      rw [hv, ← hm] at hO
      exact delete_any base q c k m ts W hO hkl hfew hc1 (by unfold maxLen at hc2; omega)⟩
    replace hm := Kpt.mk hm
    replace hv := Kpt.mk hv
    obtain ⟨ts1, hts1⟩ : ∃ b, b = t.st := ⟨_, rfl⟩
    rw [← hts1] at hR
    cases ts1 with
    | false =>
      have eR : endR ts n g = 12 := by rw [hR]; simp
      have eL : endL ts n g = ts := by rw [hL, eR, if_neg (by decide)]
      rw [eR, eL]
      have hts1K := Kpt.mk hts1
      clear h hR hL eR eL hr h0 hk1 hk2 HD hts1
      go_enter Try.func20, Try.ntmps20
      go_wp2_with (go_at_call 34; go_must (refine HF.out.mono ?_; rintro e w2 ⟨rfl, hb2⟩; have k0 : w2.cell? ⟨B, 0, none⟩ = some (.slice (some ⟨q, 0, none⟩) m c) := (hb2.cell (p := ⟨B, 0, none⟩) hlt).trans hc0; have k3 : w2.cell? ⟨q, k * 4 + 3, none⟩ = some (.bool false) := ((hb2.cell (p := ⟨q, k * 4 + 3, none⟩) hq).trans (range4 hrange.out).2.2.2).trans (by rw [← hts1K.out]); have hq2 : q < w2.heap.size := Nat.lt_of_lt_of_le hq hb2.size; replace hb2 := Kpt.mk hb2))
      go_ret
      exact ⟨rfl, v, hK.out.below hb2.out, Trn.of_below _ _ hb2.out, hb2.out.mono hle⟩
    | true =>
      have eR : endR ts n g = 0 := by rw [hR]; simp
      have eL : endL ts n g = ts.eraseIdx k := by rw [hL, eR, if_pos rfl]
      rw [eR, eL]
      have hk2K := Kpt.mk hk2
      have hts1K := Kpt.mk hts1
      clear h hR hL eR eL hr h0 hk1 hk2 hts1
      go_enter Try.func20, Try.ntmps20
      go_wp2_with (first
        | (go_at_call 36; go_must (refine (HD.out _ hb2.out).mono ?_; rintro e w3 ⟨rfl, ho3, hg3⟩; have hB3 : w3.heap[B]? = w2.heap[B]? := hg3.block B hlt2 (fun e => hqB (by cases e; rfl)); have k1 : w3.cell? ⟨B, 0, none⟩ = some (.slice (some ⟨q, 0, none⟩) m c) := (World.cell?_of_block (w := w2) (w' := w3) (a := ⟨B, 0, none⟩) hB3).trans k0; have f1 : w3.frozen? ⟨B, 0, none⟩ = false := (World.frozen?_of_block (w := w2) (w' := w3) (a := ⟨B, 0, none⟩) hB3).trans ((hK.out.below hb2.out).free 0); have hlt3 : B < w3.heap.size := Nat.lt_of_lt_of_le hlt2 hg3.size; obtain ⟨m1, hm1⟩ : ∃ m1, m1 = m - 1 := ⟨_, rfl⟩; rw [← hm1] at ho3 ⊢; replace hm1 := Kpt.mk hm1; replace ho3 := Kpt.mk ho3; replace hg3 := Kpt.mk hg3; clear hB3))
        | (go_at_call 34; go_must (refine HF.out.mono ?_; rintro e w2 ⟨rfl, hb2⟩; have k0 : w2.cell? ⟨B, 0, none⟩ = some (.slice (some ⟨q, 0, none⟩) m c) := (hb2.cell (p := ⟨B, 0, none⟩) hlt).trans hc0; have k3 : w2.cell? ⟨q, k * 4 + 3, none⟩ = some (.bool true) := ((hb2.cell (p := ⟨q, k * 4 + 3, none⟩) hq).trans (range4 hrange.out).2.2.2).trans (by rw [← hts1K.out]); have hq2 : q < w2.heap.size := Nat.lt_of_lt_of_le hq hb2.size; have hlt2 : B < w2.heap.size := Nat.lt_of_lt_of_le hlt hb2.size; have hqB : q ≠ B := hK.out.other q (by rw [hv.out]; rfl); replace hb2 := Kpt.mk hb2)))
      go_ret
      have hS2 := hK.out.below hb2.out
      have hO3 : Own base w3 (.slice (some ⟨q, 0, none⟩) m1 c) (ts.eraseIdx k) := by
        unfold Own
        rw [List.length_eraseIdx_of_lt (by rw [← hm.out]; exact hkl), ← hm.out, ← hm1.out]
        exact ho3.out
      obtain ⟨x1, x2, x3⟩ := hS2.turn (by rw [hv.out]; exact hg3.out) hO3 (.inl (by rw [hv.out]; rfl)) (by rw [List.length_eraseIdx_of_lt (by rw [← hm.out]; exact hkl), ← hm.out]; omega)
      exact ⟨rfl, _, x1, (Trn.of_below B _ hb2.out).trans x2, (hb2.out.mono hle).trans x3⟩
end Go.Proofs.Ytcnefmfmmgdidaa
