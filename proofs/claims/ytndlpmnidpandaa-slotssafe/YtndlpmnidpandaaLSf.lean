/-
  Slots: saves till the power goes off: what the files say then.
-/
import Derived.Test.YtndlpmnidpandaaLDd
import Derived.Test.YtndlpmnidpandaaLCh
namespace Go.Proofs.Ytndlpmnidpandaa
open Go.RowKit
set_option linter.unusedVariables false
set_option linter.unusedSimpArgs false

abbrev KK : ByteArray := ⟨#[107]⟩
abbrev fnk (k : Nat) : ByteArray := if k % 2 = 0 then fn0 KK else fn1 KK

/-- A state behind k saves, the power still on. -/
structure Run (st : St) (k : Nat) (p : List Int) (sp : Int) (o : Int) : Prop where
  hold : Hold st KK k p
  byt : Byt st
  calm : st.waits = []
  fails : ∀ x, st.fails x = decide (x = sp)
  stop : st.stop = sp
  off : st.off = false
  ops : st.ops = o
  dur : st.dur = st.seen
  len : ∀ s zs, st.seen s = some zs → zs.length ≤ 1000
  cnt : st.cnt ≤ 100 * k + 4

/-- What files say behind a crash. -/
def FinF (F : FilesF) (P : Nat → List Int) (k n0 : Nat) : Prop :=
  (∀ s zs, F s = some zs → Bytes zs) ∧ ((k = 0 ∧ bestO (slotOf (F (fn0 KK))) (slotOf (F (fn1 KK))) = none) ∨
    ∃ G : Nat, k ≤ G ∧ G ≤ k + 1 ∧ 1 ≤ G ∧ G ≤ n0 ∧ bestO (slotOf (F (fn0 KK))) (slotOf (F (fn1 KK))) = some ((G : Int), P (G - 1)))

structure Dn (st : St) (P : Nat → List Int) (k n0 : Nat) : Prop where
  wrs : Wrs st.waits
  cnt : st.cnt + st.waits.length ≤ 3000
  fin : ∀ kp cut, FinF (crashed st.waits kp cut st.dur) P k n0

theorem finF_of_hold {st : St} {k : Nat} {p : List Int} (P : Nat → List Int) (n0 : Nat) (h : Hold st KK k p) (hb : Byt st) (hp : 1 ≤ k → p = P (k - 1)) (hk : k ≤ n0) : FinF st.seen P k n0 := by
  refine ⟨hb, ?_⟩
  by_cases h0 : k = 0
  · subst h0; exact .inl ⟨rfl, (hold_zero h).1⟩
  · exact .inr ⟨k, by omega, by omega, by omega, hk, by rw [(hold_best h (by omega)).1, hp (by omega)]⟩

theorem crashed_nil (kp cut : Nat) (F : FilesF) : crashed [] kp cut F = F := by simp [crashed, runs]
theorem crashed_zero (s : ByteArray) (R : List Int) (cut : Nat) (F : FilesF) : crashed [.wr s 0 R] 0 cut F = torn s 0 R cut F := by simp [crashed, runs]
theorem crashed_one (s : ByteArray) (R : List Int) (kp cut : Nat) (hk : 1 ≤ kp) (F : FilesF) : crashed [.wr s 0 R] kp cut F = (Chg.wr s 0 R).run F := by
  have e1 : ([.wr s 0 R] : List Chg)[kp]? = none := List.getElem?_eq_none (by simp; omega)
  have e2 : ([.wr s 0 R] : List Chg).take kp = [.wr s 0 R] := List.take_of_length_le (by simp; omega)
  simp [crashed, e1, e2, runs]

theorem dn_calm {st st' : St} {k n0 : Nat} {p : List Int} {sp o : Int} (P : Nat → List Int) (h : Run st k p sp o) (hw : st'.waits = st.waits) (hd : st'.dur = st.dur) (hc : st'.cnt ≤ 2000) (hp : 1 ≤ k → p = P (k - 1)) (hk : k ≤ n0) : Dn st' P k n0 := by
  refine ⟨(by rw [hw, h.calm]; intro c hc; cases hc), (by rw [hw, h.calm]; simp; omega), fun kp cut => ?_⟩
  rw [hw, h.calm, crashed_nil, hd, h.dur]
  exact finF_of_hold P n0 h.hold h.byt hp hk

theorem hold_mod {st : St} {k : Nat} {p : List Int} (h : Hold st KK k p) (x : Option (List Int)) (hx : slotOf x = none ∨ slotOf x = slotOf (st.seen (fnk k))) : Hold { st with seen := updF st.seen (fnk k) x } KK k p := by
  unfold Hold at h ⊢
  have n1 := fn_ne KK
  unfold fnk at hx ⊢
  by_cases h0 : k = 0
  · subst h0
    rw [if_pos rfl] at h ⊢
    simp only [Nat.zero_mod, if_true] at hx ⊢
    rw [updF_same, updF_other _ _ n1.symm]
    refine ⟨?_, h.2⟩
    rcases hx with hx | hx
    · exact hx
    · exact hx.trans h.1
  · rw [if_neg h0] at h ⊢
    by_cases h2 : k % 2 = 1
    · have h2' : ¬ k % 2 = 0 := by omega
      rw [if_pos h2] at h ⊢
      rw [if_neg h2'] at hx
      simp only [if_neg h2']
      rw [updF_same, updF_other _ _ n1]
      refine ⟨h.1, ?_⟩
      rcases hx with hx | hx
      · exact .inl hx
      · rw [hx]; exact h.2
    · have h2' : k % 2 = 0 := by omega
      rw [if_neg h2] at h ⊢
      rw [if_pos h2'] at hx
      simp only [if_pos h2']
      rw [updF_same, updF_other _ _ n1.symm]
      refine ⟨h.1, ?_⟩
      rcases hx with hx | hx
      · exact .inl hx
      · rw [hx]; exact h.2
theorem hold_more {st : St} {k : Nat} {p : List Int} (h : Hold st KK k p) (x : Option (List Int)) (zs : List Int) (hx : slotOf x = some ((k : Int) + 1, zs)) : Hold { st with seen := updF st.seen (fnk k) x } KK (k + 1) zs := by
  unfold Hold at h ⊢
  have n1 := fn_ne KK
  unfold fnk
  have e1 : ((k + 1 : Nat) : Int) = (k : Int) + 1 := by omega
  rw [if_neg (by omega : ¬ k + 1 = 0)]
  by_cases h2 : k % 2 = 0
  · rw [if_pos (by omega : (k + 1) % 2 = 1)]
    simp only [if_pos h2]
    rw [updF_same, updF_other _ _ n1.symm, e1]
    refine ⟨hx, ?_⟩
    by_cases h0 : k = 0
    · rw [if_pos h0] at h; exact .inl h.2
    · rw [if_neg h0, if_neg (by omega)] at h
      exact .inr ⟨_, _, h.1, by omega⟩
  · rw [if_neg (by omega : ¬ (k + 1) % 2 = 1)]
    simp only [if_neg h2]
    rw [updF_same, updF_other _ _ n1, e1]
    refine ⟨hx, ?_⟩
    rw [if_neg (by omega), if_pos (by omega)] at h
    exact .inr ⟨_, _, h.1, by omega⟩

theorem slot_short (X : List Int) (h : X.length ≤ 4116) : slotOf (some X) = decO X := by
  show decO (X.take 4116) = _
  rw [List.take_of_length_le h]
theorem decO_nil : decO [] = none := by unfold decO; rw [if_neg (fun h => by simp at h)]
theorem slot_getD (x : Option (List Int)) (h : ∀ zs, x = some zs → zs.length ≤ 4116) : decO (x.getD []) = slotOf x := by
  cases x with
  | none => exact decO_nil
  | some zs => exact (slot_short zs (h zs rfl)).symm

theorem getD_len {st : St} {k : Nat} {p : List Int} {sp o : Int} (h : Run st k p sp o) (s : ByteArray) : ((st.seen s).getD []).length ≤ 1000 := by
  cases hs : st.seen s with
  | none => simp
  | some zs => exact h.len s zs hs
theorem getD_byt {st : St} (h : Byt st) (s : ByteArray) : Bytes ((st.seen s).getD []) := by
  cases hs : st.seen s with
  | none => intro j; simp
  | some zs => exact h s zs hs

theorem byt_upd {st : St} (h : Byt st) (s : ByteArray) (x : List Int) (hx : Bytes x) : ∀ t zs, updF st.seen s (some x) t = some zs → Bytes zs := by
  intro t zs ht
  by_cases e : t = s
  · subst e; rw [updF_same, Option.some.injEq] at ht; rw [← ht]; exact hx
  · rw [updF_other _ _ e] at ht; exact h t zs ht

/-- The bytes of the next slot wait, or a part of them is there. -/
theorem dn_torn {st st' : St} {k n0 : Nat} {p : List Int} {sp o : Int} (P : Nat → List Int) (h : Run st k p sp o) (hb : Bytes (P k)) (hl : (P k).length ≤ 200) (hk12 : k < 12) (hw : st'.waits = [.wr (fnk k) 0 (recL ((k : Int) + 1) (P k))]) (hd : st'.dur = st.dur) (hc : st'.cnt ≤ 2000) (hp : 1 ≤ k → p = P (k - 1)) (hk : k < n0)
    (hfair : ∀ j, j < 20 + (P k).length → Fair ((st.seen (fnk k)).getD []) ((k : Int) + 1) (P k) j) : Dn st' P k n0 := by
  have hRb := recL_bytes ((k : Int) + 1) (P k) hb
  have hF := getD_len h (fnk k)
  have hFb := getD_byt h.byt (fnk k)
  have whole : FinF ((Chg.wr (fnk k) 0 (recL ((k : Int) + 1) (P k))).run st.seen) P k n0 := by
    have e : (Chg.wr (fnk k) 0 (recL ((k : Int) + 1) (P k))).run st.seen = updF st.seen (fnk k) (some (laidL ((st.seen (fnk k)).getD []) 0 (recL ((k : Int) + 1) (P k)))) := rfl
    rw [e]
    have hH := hold_more h.hold (some (laidL ((st.seen (fnk k)).getD []) 0 (recL ((k : Int) + 1) (P k)))) (P k) (slot_saved _ _ _ (by omega) (by omega) (by omega))
    refine ⟨byt_upd h.byt _ _ (laid_bytes hFb hRb), .inr ⟨k + 1, by omega, by omega, by omega, by omega, ?_⟩⟩
    exact (hold_best hH (by omega)).1
  refine ⟨?_, (by rw [hw]; simp; omega), fun kp cut => ?_⟩
  · rw [hw]; intro c hc; simp only [List.mem_singleton] at hc; subst hc; exact ⟨_, _, _, rfl⟩
  · rw [hw, hd, h.dur]
    by_cases h1 : 1 ≤ kp
    · rw [crashed_one _ _ _ _ h1]; exact whole
    · obtain rfl : kp = 0 := by omega
      rw [crashed_zero]
      unfold torn
      by_cases h0 : cut = 0
      · rw [if_pos h0]; exact finF_of_hold P n0 h.hold h.byt hp (by omega)
      · rw [if_neg h0]
        by_cases hcl : 20 + (P k).length ≤ cut
        · rw [List.take_of_length_le (by rw [recL_len]; omega)]; exact whole
        · have e : (Chg.wr (fnk k) 0 ((recL ((k : Int) + 1) (P k)).take cut)).run st.seen = updF st.seen (fnk k) (some (laidL ((st.seen (fnk k)).getD []) 0 ((recL ((k : Int) + 1) (P k)).take cut))) := rfl
          rw [e]
          obtain ⟨X, hX⟩ : ∃ X, X = laidL ((st.seen (fnk k)).getD []) 0 ((recL ((k : Int) + 1) (P k)).take cut) := ⟨_, rfl⟩
          have hXl : X.length ≤ 4116 := by rw [hX, laid_len, List.length_take, recL_len]; omega
          have hXb : Bytes X := by rw [hX]; exact laid_bytes hFb (Bytes.take hRb cut)
          have hsl := slot_short X hXl
          have hf := hfair cut (by omega)
          unfold Fair at hf
          rw [← hX] at hf ⊢
          have hold0 : slotOf (some X) = none ∨ slotOf (some X) = slotOf (st.seen (fnk k)) → FinF (updF st.seen (fnk k) (some X)) P k n0 := fun hh => by
            have hH := hold_mod h.hold (some X) hh
            have := finF_of_hold P n0 hH (byt_upd h.byt _ _ hXb) hp (by omega)
            exact this
          rcases hf with hf | hf | hf
          · exact hold0 (.inl (by rw [hsl]; exact hf))
          · exact hold0 (.inr (by rw [hsl, hf]; exact slot_getD _ (fun zs hz => by have := h.len _ zs hz; omega)))
          · have hH := hold_more h.hold (some X) (P k) (by rw [hsl]; exact hf)
            exact ⟨byt_upd h.byt _ _ hXb, .inr ⟨k + 1, by omega, by omega, by omega, by omega, (hold_best hH (by omega)).1⟩⟩

theorem run_sav {st : St} {k : Nat} {p : List Int} {sp o : Int} (h : Run st k p sp o) (zs : List Int) (hb : Bytes zs) (hl : zs.length ≤ 200) (hk : k < 12) : Run (savSt st (fnk k) (recL ((k : Int) + 1) zs)) (k + 1) zs sp (o + 2) where
  hold := hold_next h.hold zs (by omega) (by omega)
  byt := byt_sav h.byt _ _ _ hb
  calm := rfl
  fails := h.fails
  stop := h.stop
  off := h.off
  ops := by show st.ops + 2 = o + 2; rw [h.ops]
  dur := by
    show runs (st.waits ++ [.wr (fnk k) 0 (recL ((k : Int) + 1) zs)]) st.dur = (Chg.wr (fnk k) 0 (recL ((k : Int) + 1) zs)).run st.seen
    rw [h.calm, List.nil_append, runs_one, h.dur]
  len := by
    intro s ys hs
    have e : (savSt st (fnk k) (recL ((k : Int) + 1) zs)).seen = updF st.seen (fnk k) (some (laidL ((st.seen (fnk k)).getD []) 0 (recL ((k : Int) + 1) zs))) := rfl
    rw [e] at hs
    by_cases hsk : s = fnk k
    · rw [hsk, updF_same, Option.some.injEq] at hs
      have := getD_len h (fnk k)
      rw [← hs, laid_len, recL_len]
      omega
    · rw [updF_other _ _ hsk] at hs; exact h.len s ys hs
  cnt := by have := h.cnt; show st.cnt + 4 + st.waits.length ≤ _; rw [h.calm]; simp; omega
end Go.Proofs.Ytndlpmnidpandaa
