/-
  Slots: what files say behind a save.
-/
import Derived.Test.YtndlpmnidpandaaLSa
namespace Go.Proofs.Ytndlpmnidpandaa
open Go.RowKit
set_option linter.unusedVariables false
set_option linter.unusedSimpArgs false

theorem laid_front (z ds : List Int) : ∃ q, laidL z 0 ds = ds ++ q ∧ ∀ x ∈ q, x ∈ z := by
  refine ⟨z.drop ds.length, ?_, fun x hx => List.mem_of_mem_drop hx⟩
  unfold laidL over
  simp only [List.take_zero, List.nil_append, Nat.zero_add]
  congr 1
  by_cases h : z.length ≤ ds.length
  · rw [List.drop_of_length_le (by simp; omega), List.drop_of_length_le h]
  · have : ds.length - z.length = 0 := by omega
    rw [this]; simp

theorem decO_more (gen : Int) (zs q : List Int) (h0 : 0 ≤ gen) (h1 : gen < 18446744073709551616) (hz : zs.length ≤ 4096) : decO (recL gen zs ++ q) = some (gen, zs) := by
  unfold decO
  have hl : B.num (recL gen zs ++ q) 12 4 = zs.length := more_len gen zs q hz
  have ht : (B.num (recL gen zs ++ q) 12 4).toNat = zs.length := by rw [hl]; omega
  rw [ht, hl, if_pos ⟨by rw [List.length_append, recL_len]; omega, more_mark gen zs q, by omega, by rw [List.length_append, recL_len]; omega, more_sum gen zs q⟩, more_gen gen zs q h0 h1, more_pay gen zs q]

theorem take_more (gen : Int) (zs q : List Int) (hz : zs.length ≤ 4096) : (recL gen zs ++ q).take 4116 = recL gen zs ++ q.take (4116 - (20 + zs.length)) := by
  rw [List.take_append, recL_len, List.take_of_length_le (by rw [recL_len]; omega)]

/-- What was saved is read. -/
theorem slot_saved (z : List Int) (gen : Int) (zs : List Int) (h0 : 0 ≤ gen) (h1 : gen < 18446744073709551616) (hz : zs.length ≤ 4096) : slotOf (some (laidL z 0 (recL gen zs))) = some (gen, zs) := by
  obtain ⟨q, hq, _⟩ := laid_front z (recL gen zs)
  unfold slotOf
  rw [Option.bind_some, hq, take_more gen zs q hz]
  exact decO_more gen zs _ h0 h1 hz

theorem bytes_mem {zs : List Int} (h : ∀ x ∈ zs, 0 ≤ x ∧ x ≤ 255) : Bytes zs := by
  intro j
  rw [List.getD_eq_getElem?_getD]
  cases hj : zs[j]? with
  | none => simp
  | some z => have := h z (List.mem_of_getElem? hj); simp; omega
theorem recL_bytes (gen : Int) (zs : List Int) (hb : Bytes zs) : Bytes (recL gen zs) := by
  unfold recL
  exact Go.Proofs.Ytndlpmnidpandaa.B.bytes_asc _ (recA_bytes gen zs hb) _ 4 _ (by rw [recA_len]; omega) 4 (by omega)
theorem laid_bytes {z ds : List Int} (h1 : Bytes z) (h2 : Bytes ds) : Bytes (laidL z 0 ds) := by
  obtain ⟨q, hq, hm⟩ := laid_front z ds
  rw [hq]
  have m1 := h1.mem
  have m2 := h2.mem
  refine bytes_mem (fun x hx => ?_)
  rw [List.mem_append] at hx
  rcases hx with hx | hx
  · have := m2 x hx; omega
  · have := m1 x (hm x hx); omega

/-- Every file holds bytes. -/
def Byt (st : St) : Prop := ∀ s zs, st.seen s = some zs → Bytes zs
theorem byt_sav {st : St} (h : Byt st) (s : ByteArray) (gen : Int) (zs : List Int) (hb : Bytes zs) : Byt (savSt st s (recL gen zs)) := by
  intro t ys hy
  have e : (savSt st s (recL gen zs)).seen = updF st.seen s (some (laidL ((st.seen s).getD []) 0 (recL gen zs))) := rfl
  rw [e] at hy
  by_cases ht : t = s
  · subst ht
    rw [updF_same, Option.some.injEq] at hy
    rw [← hy]
    refine laid_bytes ?_ (recL_bytes gen zs hb)
    cases hs : st.seen t with
    | none => intro j; simp
    | some z => exact h t z hs
  · rw [updF_other _ _ ht] at hy
    exact h t ys hy
theorem sav_same (st : St) (s : ByteArray) (gen : Int) (zs : List Int) (h0 : 0 ≤ gen) (h1 : gen < 18446744073709551616) (hz : zs.length ≤ 4096) : slotOf ((savSt st s (recL gen zs)).seen s) = some (gen, zs) := by
  have e : (savSt st s (recL gen zs)).seen s = some (laidL ((st.seen s).getD []) 0 (recL gen zs)) := by
    show updF st.seen s _ s = _
    rw [updF_same]
  rw [e]
  exact slot_saved _ gen zs h0 h1 hz
theorem sav_other (st : St) {s t : ByteArray} (R : List Int) (h : t ≠ s) : (savSt st s R).seen t = st.seen t := by
  show updF st.seen s _ t = _
  rw [updF_other _ _ h]
/-- The names of the two files. -/
abbrev fn0 (f : ByteArray) : ByteArray := f ++ ⟨#[46, 48]⟩
abbrev fn1 (f : ByteArray) : ByteArray := f ++ ⟨#[46, 49]⟩
theorem fn_ne (f : ByteArray) : fn0 f ≠ fn1 f := by
  intro h
  have := congrArg (fun s : ByteArray => s.data.toList) h
  simp at this

/-- The files behind k saves (the last one of p). -/
def Hold (st : St) (f : ByteArray) (k : Nat) (p : List Int) : Prop :=
  if k = 0 then slotOf (st.seen (fn0 f)) = none ∧ slotOf (st.seen (fn1 f)) = none
  else if k % 2 = 1 then slotOf (st.seen (fn0 f)) = some ((k : Int), p) ∧ (slotOf (st.seen (fn1 f)) = none ∨ ∃ g' p', slotOf (st.seen (fn1 f)) = some (g', p') ∧ g' < k)
  else slotOf (st.seen (fn1 f)) = some ((k : Int), p) ∧ (slotOf (st.seen (fn0 f)) = none ∨ ∃ g' p', slotOf (st.seen (fn0 f)) = some (g', p') ∧ g' < k)
theorem hold_st0 (f : ByteArray) : Hold st0 f 0 [] := by simp [Hold, st0, slotOf]

/-- What Load makes of them. -/
theorem hold_best {st : St} {f : ByteArray} {k : Nat} {p : List Int} (h : Hold st f k p) (hk : 1 ≤ k) : bestO (slotOf (st.seen (fn0 f))) (slotOf (st.seen (fn1 f))) = some ((k : Int), p) ∧ bestN (slotOf (st.seen (fn0 f))) (slotOf (st.seen (fn1 f))) = ((k % 2 : Nat) : Int) := by
  unfold Hold at h
  rw [if_neg (by omega)] at h
  by_cases h2 : k % 2 = 1
  · rw [if_pos h2] at h
    obtain ⟨h0, h1⟩ := h
    rw [h0, h2]
    rcases h1 with h1 | ⟨g', p', h1, hg⟩
    · rw [h1]; simp [bestO, bestN, nwO]
    · rw [h1]
      have : ¬ (k : Int) < g' := by omega
      simp [bestO, bestN, nwO, gO, this]
  · rw [if_neg h2] at h
    obtain ⟨h0, h1⟩ := h
    have h2' : k % 2 = 0 := by omega
    rw [h0, h2']
    rcases h1 with h1 | ⟨g', p', h1, hg⟩
    · rw [h1]; simp [bestO, bestN, nwO]
    · rw [h1]; simp [bestO, bestN, nwO, gO, hg]
theorem hold_zero {st : St} {f : ByteArray} {p : List Int} (h : Hold st f 0 p) : bestO (slotOf (st.seen (fn0 f))) (slotOf (st.seen (fn1 f))) = none ∧ bestN (slotOf (st.seen (fn0 f))) (slotOf (st.seen (fn1 f))) = 0 := by
  unfold Hold at h
  rw [if_pos rfl] at h
  rw [h.1, h.2]
  simp [bestO, bestN, nwO]
theorem hold_next {st : St} {f : ByteArray} {k : Nat} {p : List Int} (h : Hold st f k p) (zs : List Int) (hz : zs.length ≤ 4096) (hk : k < 1000000) :
    Hold (savSt st (if k % 2 = 0 then fn0 f else fn1 f) (recL ((k : Int) + 1) zs)) f (k + 1) zs := by
  have hs := fun s => sav_same st s ((k : Int) + 1) zs (by omega) (by omega) hz
  unfold Hold
  rw [if_neg (by omega)]
  by_cases h2 : k % 2 = 0
  · rw [if_pos (by omega), if_pos h2, hs]
    refine ⟨by simp, ?_⟩
    rw [sav_other st _ (fn_ne f).symm]
    unfold Hold at h
    by_cases h0 : k = 0
    · rw [if_pos h0] at h; exact .inl h.2
    · rw [if_neg h0, if_neg (by omega)] at h
      exact .inr ⟨_, _, h.1, by omega⟩
  · rw [if_neg (by omega), if_neg h2, hs]
    refine ⟨by simp, ?_⟩
    rw [sav_other st _ (fn_ne f)]
    unfold Hold at h
    rw [if_neg (by omega), if_pos (by omega)] at h
    exact .inr ⟨_, _, h.1, by omega⟩
theorem hold_ops {st : St} {f : ByteArray} {k : Nat} {p : List Int} (h : Hold st f k p) (o : Int) (c : Nat) : Hold { st with ops := o, cnt := c } f k p := h
end Go.Proofs.Ytndlpmnidpandaa
