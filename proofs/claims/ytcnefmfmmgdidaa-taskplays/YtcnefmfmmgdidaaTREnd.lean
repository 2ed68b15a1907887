/-
  The contract of the document's End.
-/
import Derived.Test.YtcnefmfmmgdidaaTRDrop
namespace Go.Proofs.Ytcnefmfmmgdidaa
open Go.RowKit
set_option linter.unusedVariables false
set_option linter.unusedSimpArgs false

/-- No task twice. -/
def Once (ts : List Tk) : Prop := ts.Pairwise (fun a b => ¬ (a.nx = b.nx ∧ a.tg = b.tg))
theorem filter_once : ∀ (ts : List Tk) (n g : Int) (k : Nat) (t : Tk), Once ts → ts[k]? = some t → t.nx = n → t.tg = g → ts.filter (fun u => !decide (u.nx = n ∧ u.tg = g)) = ts.eraseIdx k
  | [], _, _, _, _, _, h, _, _ => by simp at h
  | u :: r, n, g, 0, t, ho, h, h1, h2 => by
    simp at h
    subst h
    have hr := (List.pairwise_cons.1 ho).1
    rw [List.filter_cons, if_neg (by simp [h1, h2]), List.eraseIdx_cons_zero]
    refine List.filter_eq_self.2 (fun x hx => ?_)
    have := hr x hx
    rw [h1, h2] at this
    rw [Bool.not_eq_true', decide_eq_false_iff_not]
    exact fun e => this ⟨e.1.symm, e.2.symm⟩
  | u :: r, n, g, k + 1, t, ho, h, h1, h2 => by
    have h' : r[k]? = some t := by simpa using h
    have hu := (List.pairwise_cons.1 ho).1 t (List.mem_of_getElem? h')
    rw [h1, h2] at hu
    rw [List.filter_cons, if_pos (by rw [Bool.not_eq_true', decide_eq_false_iff_not]; exact hu), List.eraseIdx_cons_succ, filter_once r n g k t (List.pairwise_cons.1 ho).2 h' h1 h2]

set_option maxRecDepth 100000 in
set_option maxHeartbeats 2000000 in
theorem rend_any (base B : Nat) (ts : List Tk) (st : Int) (v : Value) (n g : Int) (w : World) (h : StR base w B ts st v) (ho : Once ts) :
    Calls Try.prog 28 #[.pointer (some ⟨B, 0, none⟩), .int .i64 n, .int .u32 g] w fun e w' => e = .returned (.int .i64 (endR ts n g)) ∧ ∃ v', StR base w' B (endL ts n g) st v' ∧ Trn w w' B v v' ∧ Below base w w' := by
  have HF := Kpt.mk (rfind_any base B ts st v n g w h)
  have HD := Kpt.mk (rdrop_any 0 n g base B ts st v w h (by omega))
  by_cases h0 : fidx (isT n g) ts 0 < 0
  · have e1 : endR ts n g = 8 := by unfold endR; rw [if_pos h0]
    have e2 : endL ts n g = ts := by unfold endL; rw [e1, if_neg (by decide)]
    rw [e1, e2]
    have hK := Kpt.mk h
    clear h e1 e2 HD
    generalize fidx (isT n g) ts 0 = x at *
    go_enter Try.func28, Try.ntmps28
    go_wp2_with (go_at_call 41; go_must (refine HF.out.mono ?_; rintro e w' ⟨rfl, rfl⟩))
    go_ret
    exact ⟨rfl, _, hK.out, Trn.refl _ _ _, Below.refl _ _⟩
  · obtain ⟨k, t, hk1, hk2, hk3⟩ := fidx_some (isT n g) ts 0 (by omega)
    rw [Nat.zero_add] at hk1
    have hR : endR ts n g = if t.st = true then 0 else 12 := by
      unfold endR; rw [if_neg h0, hk1, Int.toNat_natCast, hk2]
      try (cases t.st <;> rfl)
    have hkl : k < ts.length := (List.getElem?_eq_some_iff.1 hk2).1
    rw [hk1] at HF
    obtain ⟨a, c, hv, hs⟩ := h.own.shape
    rcases hs with ⟨_, _, hz⟩ | ⟨q, rfl, hbq, hq, hc1, hc2, hfr, hr⟩
    · omega
    have hL : endL ts n g = if t.st = true then ts.eraseIdx k else ts := by
      unfold endL
      rw [hR, hk1, Int.toNat_natCast]
      cases t.st <;> simp
    rw [hR, hL]
    obtain ⟨q0, q1, q2, q3⟩ := range4R (t := t) (hr k t hk2)
    simp [isT] at hk3
    have hfl := Kpt.mk (filter_once ts n g k t ho hk2 hk3.1 hk3.2)
    have hK := Kpt.mk h
    have hc0 := h.c0
    rw [hv] at hc0
    have hlt := h.lt
    have hkK : (k : Int) < ts.length := by omega
    have hfew := h.few
    clear h hr h0 hk1 hR hL hk3 ho hk2 hfr
    replace hv := Kpt.mk hv
    obtain ⟨m, hm⟩ : ∃ m, m = ts.length := ⟨_, rfl⟩
    rw [← hm] at hkK hkl hc1 hfew hc0
    replace hm := Kpt.mk hm
    unfold maxLen at hc2
    obtain ⟨b, hb⟩ : ∃ b, b = t.st := ⟨_, rfl⟩
    rw [← hb] at q3 ⊢
    clear hb
    cases b with
    | false =>
      clear HD
      go_enter Try.func28, Try.ntmps28
      go_wp2_with (go_at_call 41; go_must (refine HF.out.mono ?_; rintro e w1 ⟨rfl, rfl⟩))
      go_ret
      exact ⟨rfl, v, by simpa using hK.out, Trn.refl _ _ _, Below.refl _ _⟩
    | true =>
      go_enter Try.func28, Try.ntmps28
      go_wp2_with (first
        | (go_at_call 41; go_must (refine HF.out.mono ?_; rintro e w1 ⟨rfl, rfl⟩))
        | (go_at_call 30; go_must (refine HD.out.mono ?_; rintro e w2 ⟨y, v', rfl, _, hS2, hT2, hB2⟩; have hp := Kpt.mk (And.intro hS2 (And.intro hT2 hB2)); clear hS2 hT2 hB2)))
      go_ret
      have hS := hp.out.1
      rw [show (fun t => !dropP 0 n g t) = (fun u => !decide (u.nx = n ∧ u.tg = g)) from rfl, hfl.out] at hS
      exact ⟨rfl, v', by simpa using hS, hp.out.2⟩
end Go.Proofs.Ytcnefmfmmgdidaa
