/-
  The contract of Start.
-/
import Derived.Test.YtcnefmfmmgdidaaTTake
namespace Go.Proofs.Ytcnefmfmmgdidaa
open Go.RowKit
set_option linter.unusedVariables false
set_option linter.unusedSimpArgs false

theorem fidx_some (p : Tk → Bool) : ∀ (ts : List Tk) (i : Nat), 0 ≤ fidx p ts i → ∃ k t, fidx p ts i = ((i + k : Nat) : Int) ∧ ts[k]? = some t ∧ p t = true
  | [], i, h => by simp [fidx] at h
  | t :: r, i, h => by
    unfold fidx at h ⊢
    by_cases hp : p t = true
    · rw [if_pos hp]; exact ⟨0, t, by simp, by simp, hp⟩
    · rw [if_neg hp] at h ⊢
      obtain ⟨k, u, h1, h2, h3⟩ := fidx_some p r (i + 1) h
      exact ⟨k + 1, u, by rw [h1]; congr 1; omega, by simpa using h2, h3⟩

theorem cels_set : ∀ (ts : List Tk) (k : Nat) (t : Tk) (b : Bool), ts[k]? = some t → (cels ts).set (k * 4 + 3) (.bool b) = cels (ts.set k { t with st := b })
  | [], k, t, b, h => by simp at h
  | u :: r, 0, t, b, h => by
    simp at h
    subst h
    rfl
  | u :: r, k + 1, t, b, h => by
    have h' : r[k]? = some t := by simpa using h
    rw [List.set_cons_succ, cels_cons, cels_cons, ← cels_set r k t b h', List.set_append_right _ _ (by simp; omega)]
    congr 2
    simp
    omega

theorem Own.start {base : Nat} {w : World} {g c k : Nat} {ts : List Tk} {t : Tk} (b : Bool) (h : Own base w (.slice (some ⟨g, 0, none⟩) ts.length c) ts) (hk : ts[k]? = some t) :
    Own base (w.setCell ⟨g, k * 4 + 3, none⟩ (.bool b)) (.slice (some ⟨g, 0, none⟩) ts.length c) (ts.set k { t with st := b }) := by
  have hkl : k < ts.length := (List.getElem?_eq_some_iff.1 hk).1
  refine ⟨by rw [cels_length], ?_⟩
  rcases h.2 with ⟨hx, _⟩ | ⟨g', cap', cur, hx, hb, hg, h1, h2, h3, h4⟩
  · cases hx
  · simp only [Value.slice.injEq, Option.some.injEq, Addr.mk.injEq, and_true, true_and] at hx
    obtain ⟨rfl, rfl⟩ := hx
    refine .inr ⟨g, c, cur.setIfInBounds (k * 4 + 3) (.bool b), by rw [List.length_set], hb, ?_, by rw [List.length_set]; exact h1, h2, by simpa using h3, ?_⟩
    · unfold World.setCell
      simp [Array.getElem?_modify, hg]
    · rw [List.length_set, ← cels_set ts k t b hk, ← h4, Array.toList_setIfInBounds, List.take_set]

theorem St.start {base : Nat} {w : World} {B g c k : Nat} {ts : List Tk} {t : Tk} {st : Int} (b : Bool) (h : St base w B ts st (.slice (some ⟨g, 0, none⟩) ts.length c)) (hk : ts[k]? = some t) :
    St base (w.setCell ⟨g, k * 4 + 3, none⟩ (.bool b)) B (ts.set k { t with st := b }) st (.slice (some ⟨g, 0, none⟩) ts.length c) ∧ Trn w (w.setCell ⟨g, k * 4 + 3, none⟩ (.bool b)) B (.slice (some ⟨g, 0, none⟩) ts.length c) (.slice (some ⟨g, 0, none⟩) ts.length c) ∧ Below base w (w.setCell ⟨g, k * 4 + 3, none⟩ (.bool b)) := by
  have hgB : g ≠ B := h.other g rfl
  have hB : (w.setCell ⟨g, k * 4 + 3, none⟩ (.bool b)).heap[B]? = w.heap[B]? := Below.heap_setCell _ _ _ _ (fun e => hgB (by simpa using e.symm))
  refine ⟨⟨by simpa using h.lt, h.le, (World.cell?_of_block (a := ⟨B, 0, none⟩) hB).trans h.c0, (World.cell?_of_block (a := ⟨B, 1, none⟩) hB).trans h.c1, fun j => (World.frozen?_of_block (a := ⟨B, j, none⟩) hB).trans (h.free j), h.own.start b hk, h.other, by rw [List.length_set]; exact h.few⟩, ⟨by simp, fun j hj hjB hjv => Below.heap_setCell _ _ _ _ (fun e => hjv (by rw [show j = g from by simpa using e]; rfl)), fun q hq => .inl hq⟩, (Below.refl _ _).setCell (p := ⟨g, k * 4 + 3, none⟩) (h.own.lt rfl).1 _⟩

/-- What Start tells, and the tasks behind it. -/
def startR (ts : List Tk) (st n g : Int) : Int := if fidx (isT n g) ts 0 < 0 then 8 else match ts[(fidx (isT n g) ts 0).toNat]? with
  | some t => if mayT ts st (fidx (isT n g) ts 0).toNat t = true then 0 else 12
  | none => 8
def startL (ts : List Tk) (st n g : Int) : List Tk := if startR ts st n g = 0 then match ts[(fidx (isT n g) ts 0).toNat]? with
  | some t => ts.set (fidx (isT n g) ts 0).toNat { t with st := true }
  | none => ts
  else ts

set_option maxRecDepth 100000 in
set_option maxHeartbeats 2000000 in
theorem start_any (base B : Nat) (ts : List Tk) (st : Int) (v : Value) (n g : Int) (w : World) (h : St base w B ts st v) :
    Calls Try.prog 19 #[.pointer (some ⟨B, 0, none⟩), .int .i64 n, .int .u32 g] w fun e w' => e = .returned (.int .i64 (startR ts st n g)) ∧ St base w' B (startL ts st n g) st v ∧ Trn w w' B v v ∧ Below base w w' := by
  have HF := Kpt.mk (find_any base B ts st v n g w h)
  have hle : base ≤ w.heap.size := Nat.le_trans h.le (Nat.le_of_lt h.lt)
  by_cases h0 : fidx (isT n g) ts 0 < 0
  · have e1 : startR ts st n g = 8 := by unfold startR; rw [if_pos h0]
    have e2 : startL ts st n g = ts := by unfold startL; rw [e1, if_neg (by decide)]
    rw [e1, e2]
    have hK := Kpt.mk h
    clear h e1 e2
    generalize fidx (isT n g) ts 0 = x at *
    go_enter Try.func19, Try.ntmps19
    go_wp2_with (go_at_call 34; go_must (refine HF.out.mono ?_; rintro e w' ⟨rfl, hb⟩; replace hb := Kpt.mk hb))
    go_ret
    exact ⟨rfl, hK.out.below hb.out, Trn.of_below _ _ hb.out, hb.out.mono hle⟩
  · obtain ⟨k, t, hk1, hk2, _⟩ := fidx_some (isT n g) ts 0 (by omega)
    rw [Nat.zero_add] at hk1
    have hR : startR ts st n g = if mayT ts st k t = true then 0 else 12 := by
      unfold startR; rw [if_neg h0, hk1, Int.toNat_natCast, hk2]
    have hL : startL ts st n g = if startR ts st n g = 0 then ts.set k { t with st := true } else ts := by
      unfold startL; rw [hk1, Int.toNat_natCast, hk2]
    rw [hk1] at HF
    have HM : Kpt (∀ W, Below w.heap.size w W → Calls Try.prog 31 #[.pointer (some ⟨B, 0, none⟩), .int .i64 k] W fun e w' => e = .returned (.bool (mayT ts st k t)) ∧ Below W.heap.size W w') := ⟨fun W hW => may_any base B k ts st v t W (h.below hW) hk2⟩
    have hkl : k < ts.length := (List.getElem?_eq_some_iff.1 hk2).1
    obtain ⟨a, c, hv, hs⟩ := h.own.shape
    rcases hs with ⟨_, _, hz⟩ | ⟨q, rfl, hbq, hq, hc1, hc2, hfz, hr⟩
    · omega
    have hK := Kpt.mk h
    obtain ⟨mb, hmb⟩ : ∃ mb, mb = mayT ts st k t := ⟨_, rfl⟩
    rw [← hmb] at HM hR
    have ek : ¬ (k : Int) < 0 := by omega
    have hrange := Kpt.mk (hr k t hk2)
    have hfz3 := hfz (k * 4 + 3)
    have hc0 := h.c0
    have hlt := h.lt
    have hfew := h.few
    rw [hv] at hc0
    obtain ⟨m, hm⟩ : ∃ m, m = ts.length := ⟨_, rfl⟩
    rw [← hm] at hc0 hkl hc1 hfew hv
    have e1 : (k : Int) < m := by omega
    replace hm := Kpt.mk hm
    replace hv := Kpt.mk hv
    cases mb with
    | false =>
      have eR : startR ts st n g = 12 := by rw [hR]; simp
      have eL : startL ts st n g = ts := by rw [hL, eR, if_neg (by decide)]
      rw [eR, eL]
      clear h hR hL eR eL hmb hr h0 hk1 hk2
      go_enter Try.func19, Try.ntmps19
      go_wp2_with (first
        | (go_at_call 31; go_must (refine (HM.out _ hb.out).mono ?_; rintro e w2 ⟨rfl, hb2⟩; have hB2 := Kpt.mk (hb.out.trans (hb2.mono hb.out.size)); clear hb2))
        | (go_at_call 34; go_must (refine HF.out.mono ?_; rintro e w' ⟨rfl, hb⟩; replace hb := Kpt.mk hb)))
      go_ret
      exact ⟨rfl, hK.out.below hB2.out, Trn.of_below _ _ hB2.out, hB2.out.mono hle⟩
    | true =>
      have eR : startR ts st n g = 0 := by rw [hR]; simp
      have eL : startL ts st n g = ts.set k { t with st := true } := by rw [hL, eR, if_pos rfl]
      rw [eR, eL]
      have hk2K := Kpt.mk hk2
      clear h hR hL eR eL hmb hr h0 hk1 hk2
      go_enter Try.func19, Try.ntmps19
      go_wp2_with (first
        | (go_at_call 31; go_must (refine (HM.out _ hb.out).mono ?_; rintro e w2 ⟨rfl, hb2⟩; have hB2 := Kpt.mk (hb.out.trans (hb2.mono hb.out.size)); have k0 : w2.cell? ⟨B, 0, none⟩ = some (.slice (some ⟨q, 0, none⟩) m c) := (hB2.out.cell (p := ⟨B, 0, none⟩) hlt).trans hc0; have k3 : w2.cell? ⟨q, k * 4 + 3, none⟩ = some (.bool t.st) := (hB2.out.cell (p := ⟨q, k * 4 + 3, none⟩) hq).trans (range4 hrange.out).2.2.2; have f3 : w2.frozen? ⟨q, k * 4 + 3, none⟩ = false := (hB2.out.frozen (p := ⟨q, k * 4 + 3, none⟩) hq).trans hfz3; have hq2 : q < w2.heap.size := Nat.lt_of_lt_of_le hq hB2.out.size; clear hb2))
        | (go_at_call 34; go_must (refine HF.out.mono ?_; rintro e w' ⟨rfl, hb⟩; replace hb := Kpt.mk hb)))
      go_ret
      have hS2 := hK.out.below hB2.out
      rw [hv.out, hm.out] at hS2 ⊢
      obtain ⟨x1, x2, x3⟩ := hS2.start true hk2K.out
      exact ⟨rfl, x1, (Trn.of_below B _ hB2.out).trans x2, (hB2.out.mono hle).trans x3⟩
end Go.Proofs.Ytcnefmfmmgdidaa
