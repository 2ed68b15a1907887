/-
  What Load takes is what Save tells: the bytes are those of the table.
-/
import Derived.Test.YtmnoolcffkjmhaaPBack
import Derived.Lib.Bytes
namespace Go.Proofs.Ytmnoolcffkjmhaa
open Go.RowKit
set_option linter.unusedVariables false
set_option linter.unusedSimpArgs false

/-- The registrations that bytes tell, one behind the other. -/
def prs (Z : List Int) (k : Nat) : List (Int × Int) := (List.range k).map (fun i => (Z.getD (9 * i) 0, B.num Z (9 * i + 1) 8))
theorem prs_len (Z : List Int) (k : Nat) : (prs Z k).length = k := by simp [prs]
theorem prs_succ (Z : List Int) (k : Nat) : prs Z (k + 1) = prs Z k ++ [(Z.getD (9 * k) 0, B.num Z (9 * k + 1) 8)] := by simp [prs, List.range_succ]
theorem prs_at (Z : List Int) (n k : Nat) (h : k < n) : (prs Z n)[k]? = some (Z.getD (9 * k) 0, B.num Z (9 * k + 1) 8) := by simp [prs, h]

theorem regsTo_zero (f : Nat → Int) (a : Nat) : ∀ b, (∀ j, a ≤ j → j < a + b → f j = 0) → regsTo f (a + b) = regsTo f a
  | 0, _ => rfl
  | b + 1, h => by
    rw [← Nat.add_assoc, regsTo, regsTo_zero f a b (fun j h1 h2 => h j h1 (by omega)), h (a + b) (by omega) (by omega)]
    simp

theorem num8_nonneg (Z : List Int) (hb : B.Bytes Z) (i : Nat) : ∀ n, 0 ≤ B.num Z i n ∧ B.num Z i n < 2 ^ (8 * n)
  | 0 => by simp [B.num]
  | n + 1 => by
    have h1 := num8_nonneg Z hb i n
    have h2 := hb (i + n)
    rw [B.num]
    have e : (2 : Int) ^ (8 * (n + 1)) = 2 ^ (8 * n) * 256 := by rw [show 8 * (n + 1) = 8 * n + 8 by omega, Int.pow_add]; rfl
    omega
theorem num_div (Z : List Int) (hb : B.Bytes Z) (i k : Nat) : ∀ d, B.num Z i (k + d) / 2 ^ (8 * d) = B.num Z i k
  | 0 => by simp
  | d + 1 => by
    have h2 := hb (i + (k + d))
    have e : (2 : Int) ^ (8 * (d + 1)) = 256 * 2 ^ (8 * d) := by rw [show 8 * (d + 1) = 8 + 8 * d by omega, Int.pow_add]; rfl
    rw [e, ← Int.ediv_ediv_of_nonneg (by omega), ← Nat.add_assoc, B.num]
    have : (B.num Z i (k + d) * 256 + Z.getD (i + (k + d)) 0) / 256 = B.num Z i (k + d) := by omega
    rw [this, num_div Z hb i k d]
theorem be8_num' (Z : List Int) (hb : B.Bytes Z) (i j : Nat) (hj : j < 8) : (be8 (B.num Z i 8))[j]? = some (Z.getD (i + j) 0) := by
  unfold be8
  rw [B.asc_get _ 0 8 _ (by simp) 8 (Nat.le_refl _), if_pos (by omega)]
  have h := num_div Z hb i (j + 1) (7 - j)
  rw [show j + 1 + (7 - j) = 8 by omega] at h
  have h2 := hb (i + j)
  rw [show 8 - 1 - (j - 0) = 7 - j by omega, h, B.num]
  congr 1
  omega

/-- What the registrations that are taken make of the table. -/
theorem tk_regs (Z : List Int) (hb : B.Bytes Z) : ∀ k f l, tkS Z k = some (f, l) → (-1 ≤ l ∧ l < 8) ∧ (∀ j : Nat, l < (j : Int) → f j = 0) ∧ regsTo f (l + 1).toNat = prs Z k ∧ (∀ j, 0 ≤ f j ∧ f j < 18446744073709551616) ∧ f = keyF (prs Z k)
  | 0, f, l, h => by
    simp only [tkS, Option.some.injEq, Prod.mk.injEq] at h
    obtain ⟨rfl, rfl⟩ := h
    exact ⟨by omega, fun _ _ => rfl, rfl, fun _ => by simp, rfl⟩
  | k + 1, f, l, h => by
    unfold tkS at h
    cases hk : tkS Z k with
    | none => rw [hk] at h; cases h
    | some x =>
      obtain ⟨f0, l0⟩ := x
      rw [hk] at h
      simp only at h
      split at h
      · cases h
      · rename_i hc
        obtain ⟨⟨i1, i2⟩, i3, i5', i5, i6⟩ := tk_regs Z hb k f0 l0 hk
        simp only [Option.some.injEq, Prod.mk.injEq] at h
        obtain ⟨rfl, rfl⟩ := h
        have hzb := hb (9 * k)
        have hn := num8_nonneg Z hb (9 * k + 1) 8
        obtain ⟨n, hnn⟩ : ∃ n : Nat, Z.getD (9 * k) 0 = (n : Int) := ⟨(Z.getD (9 * k) 0).toNat, by omega⟩
        rw [hnn] at hc ⊢
        have hlt : l0 < (n : Int) := by omega
        have hn8 : (n : Int) < 8 := by omega
        refine ⟨by omega, fun j hj => ?_, ?_, fun j => ?_, ?_⟩
        · simp only [upd, Int.toNat_natCast]
          rw [if_neg (by omega)]
          exact i3 j (by omega)
        · have e1 : ((n : Int) + 1).toNat = n + 1 := by omega
          rw [e1, regsTo, prs_succ, hnn]
          have e2 : regsTo (upd f0 (n : Int).toNat (B.num Z (9 * k + 1) 8)) n = regsTo f0 n := regsTo_congr _ _ n (fun j hj => by simp only [upd, Int.toNat_natCast]; rw [if_neg (by omega)])
          have e3 : regsTo f0 n = regsTo f0 (l0 + 1).toNat := by
            have := regsTo_zero f0 (l0 + 1).toNat (n - (l0 + 1).toNat) (fun j h1 h2 => i3 j (by omega))
            rw [show (l0 + 1).toNat + (n - (l0 + 1).toNat) = n by omega] at this
            exact this
          rw [e2, e3, i5']
          have e4 : upd f0 (n : Int).toNat (B.num Z (9 * k + 1) 8) n = B.num Z (9 * k + 1) 8 := by simp [upd]
          rw [e4, if_pos (by omega)]
        · simp only [upd]
          split
          · omega
          · exact i5 j
        · rw [prs_succ, i6, hnn]
          unfold keyF
          rw [List.foldl_append]
          rfl
theorem regsTo_lt (f : Nat → Int) : ∀ k, ∀ r ∈ regsTo f k, r.1 < (k : Int)
  | 0, r, h => by simp [regsTo] at h
  | k + 1, r, h => by
    unfold regsTo at h
    rw [List.mem_append] at h
    rcases h with h | h
    · have := regsTo_lt f k r h; omega
    · split at h
      · simp at h; rw [h]; simp only; omega
      · simp at h
/-- The table that bytes tell. -/
def tbZ (Z : List Int) (m : Nat) : Tb := ⟨keyF (prs (Z.drop 5) m), Z.getD 2 0, Z.getD 3 0, 0, true⟩

theorem getD_drop (Z : List Int) (n j : Nat) : (Z.drop n).getD j 0 = Z.getD (n + j) 0 := by simp [List.getD_eq_getElem?_getD, List.getElem?_drop]
theorem bytes_drop {Z : List Int} (h : B.Bytes Z) (n : Nat) : B.Bytes (Z.drop n) := fun j => by rw [getD_drop]; exact h (n + j)

theorem body_prs (Z : List Int) (hb : B.Bytes Z) (m : Nat) (hl : Z.length = 9 * m) : bodyB (prs Z m) = Z := by
  refine List.ext_getElem? (fun j => ?_)
  by_cases hj : j < 9 * m
  · obtain ⟨k, i, hk, hi, rfl⟩ : ∃ k i, k < m ∧ i < 9 ∧ j = 9 * k + i := ⟨j / 9, j % 9, by omega, by omega, by omega⟩
    rw [body_at (prs Z m) k i _ (prs_at Z m k hk) hi]
    have hz : Z[9 * k + i]? = some (Z.getD (9 * k + i) 0) := by rw [List.getD_eq_getElem?_getD, List.getElem?_eq_getElem (by omega)]; rfl
    rw [hz]
    cases i with
    | zero => rfl
    | succ i =>
      show (be8 (B.num Z (9 * k + 1) 8))[i]? = _
      rw [be8_num' Z hb _ i (by omega), show 9 * k + 1 + i = 9 * k + (i + 1) by omega]
  · rw [List.getElem?_eq_none (by rw [bodyB_len, prs_len]; omega), List.getElem?_eq_none (by omega)]

theorem res_of (f : Nat → Int) (kd ho : Int) (i6 : ∀ j, 0 ≤ f j ∧ f j < 18446744073709551616) (hb : 0 ≤ ho ∧ ho ≤ 255) (hr : Tb.rsvOk ⟨f, 0, 0, 0, true⟩ kd ho = true) : Tb.res ⟨f, kd, ho, 0, true⟩ = (kd, if ho = 255 then -1 else ho) ∧ Tb.good ⟨f, kd, ho, 0, true⟩ := by
  unfold Tb.rsvOk at hr
  by_cases c0 : kd = 0
  · rw [if_pos c0] at hr
    have hr := of_decide_eq_true hr
    refine ⟨by simp [Tb.res, c0, hr], ⟨.inl c0, fun a => absurd c0 a, fun a => by simp [c0, isAll] at a, by simp, fun j _ => i6 j⟩⟩
  · rw [if_neg c0] at hr
    by_cases c1 : isAll kd = true
    · rw [if_pos c1] at hr
      obtain ⟨r1, r2⟩ := of_decide_eq_true hr
      refine ⟨by simp [Tb.res, c0, c1, r1], ⟨.inr (by simp [isAll] at c1; simp [isTy]; omega), fun _ a => (by have a' : isAll kd = false := a; rw [c1] at a'; cases a'), fun _ => ?_, by simp, fun j _ => i6 j⟩⟩
      have hr2 : regsTo f 8 ≠ [] := by intro e; unfold Tb.regs at r2; simp only at r2; rw [e] at r2; simp at r2
      apply Classical.byContradiction
      intro hno
      apply hr2
      have := regsTo_zero f 0 8 (fun j _ h2 => Classical.byContradiction (fun hj => hno ⟨j, by omega, hj⟩))
      rw [show (8 : Nat) = 0 + 8 from rfl, this]
      rfl
    · have c1' : isAll kd = false := by simpa using c1
      rw [if_neg c1] at hr
      simp only [Bool.and_eq_true] at hr
      have hrg := of_decide_eq_true (show decide (0 ≤ ho ∧ ho < 8 ∧ f ho.toNat ≠ 0) = true from hr.2)
      refine ⟨by simp only [Tb.res, if_neg c0, c1']; rw [if_neg (by simp), if_neg (by omega)], ⟨.inr hr.1, fun _ _ => hrg, fun a => (by have a' : isAll kd = true := a; rw [c1'] at a'; cases a'), by simp, fun j _ => i6 j⟩⟩
theorem hold_w (ho : Int) (h : 0 ≤ ho) : (if (if ho = 255 then (-1 : Int) else ho) = -1 then (255 : Int) else if ho = 255 then -1 else ho) = ho := by
  by_cases c : ho = 255
  · simp [c]
  · simp only [if_neg c]; rw [if_neg (by omega)]
theorem loadM_save (len : Nat) (Z : List Int) (hl : Z.length = len) (hb : B.Bytes Z) (t : Tb) (h0 : len ≠ 0) (h : loadM len Z = some t) :
    ∃ m, len = 5 + 9 * m ∧ t = tbZ Z m ∧ t.good ∧ t.save = Z ∧ ∀ k, k < m → Z.getD (5 + 9 * k) 0 ≤ 7 := by
  unfold loadM at h
  rw [if_neg h0] at h
  split at h
  · cases h
  · rename_i hf
    have hf' : framedB len Z = true := by simpa using hf
    unfold framedB at hf'
    obtain ⟨f1, f2, f3, f4⟩ := of_decide_eq_true hf'
    obtain ⟨m, hm⟩ : ∃ m : Nat, Z.getD 4 0 = (m : Int) := ⟨(Z.getD 4 0).toNat, by have := hb 4; omega⟩
    have hlm : len = 5 + 9 * m := by omega
    rw [hm, Int.toNat_natCast] at h
    cases ht : tkS (Z.drop 5) m with
    | none => rw [ht] at h; cases h
    | some x =>
      obtain ⟨f, l⟩ := x
      rw [ht] at h
      simp only at h
      split at h
      · rename_i hr
        simp only [Option.some.injEq] at h
        have hdb := bytes_drop hb 5
        obtain ⟨i1, i3, i5, i6, i7⟩ := tk_regs (Z.drop 5) hdb m f l ht
        have hregs : regsTo f 8 = prs (Z.drop 5) m := by
          have := regsTo_zero f (l + 1).toNat (8 - (l + 1).toNat) (fun j h1 h2 => i3 j (by omega))
          rw [show (l + 1).toNat + (8 - (l + 1).toNat) = 8 by omega] at this
          rw [this, i5]
        have h2b := hb 2
        have h3b := hb 3
        have hres : t.res = (Z.getD 2 0, if Z.getD 3 0 = 255 then -1 else Z.getD 3 0) ∧ t.good := by rw [← h]; exact res_of f _ _ i6 h3b hr
        have htk : t.ks = f := by rw [← h]
        have htr : t.regs = prs (Z.drop 5) m := by unfold Tb.regs; rw [htk]; exact hregs
        refine ⟨m, hlm, by rw [← h, i7]; rfl, hres.2, ?_, fun k hk => ?_⟩
        · have hbody := body_prs (Z.drop 5) hdb m (by rw [List.length_drop]; omega)
          unfold Tb.save headB
          rw [hres.1, htr, hbody, prs_len]
          have hw := hold_w (Z.getD 3 0) h3b.1
          simp only
          rw [hw, ← f2, ← f3, ← hm]
          refine List.ext_getElem? (fun j => ?_)
          by_cases hj : j < 5
          · rw [List.getElem?_append_left (by simpa using hj)]
            have hz : Z[j]? = some (Z.getD j 0) := by rw [List.getD_eq_getElem?_getD, List.getElem?_eq_getElem (by omega)]; rfl
            rw [hz]
            obtain rfl | rfl | rfl | rfl | rfl : j = 0 ∨ j = 1 ∨ j = 2 ∨ j = 3 ∨ j = 4 := by omega
            all_goals simp
          · rw [List.getElem?_append_right (by simp; omega), List.getElem?_drop]
            congr 1
            simp
            omega
        · have hmem : ∀ r ∈ regsTo f 8, r.1 < 8 := regsTo_lt f 8
          rw [hregs] at hmem
          have hat := prs_at (Z.drop 5) m k hk
          have := hmem _ (List.mem_of_getElem? hat)
          simp only [getD_drop] at this
          omega
      · cases h
theorem str_inj {A C : List Int} (hA : B.Bytes A) (hC : B.Bytes C) (h : strOfNums A = strOfNums C) : A = C := by
  have h1 := congrArg (fun s => s.data.toList) h
  simp only [strOfNums_data] at h1
  have hl : A.length = C.length := by have := congrArg List.length h1; simpa using this
  refine List.ext_getElem hl (fun i h2 h3 => ?_)
  have h4 := congrArg (fun l => l[i]?) h1
  simp [h2, h3] at h4
  have a := hA i
  have c := hC i
  rw [List.getD_eq_getElem?_getD, List.getElem?_eq_getElem h2] at a
  rw [List.getD_eq_getElem?_getD, List.getElem?_eq_getElem h3] at c
  simp at a c
  have h5 := congrArg UInt8.toNat h4
  simp at h5
  omega

theorem str_eq {A C : List Int} (hA : B.Bytes A) (hC : B.Bytes C) (h : (strOfNums A).toList = (strOfNums C).toList) : A = C := by
  rw [Go.Lib.strOfNums_toList, Go.Lib.strOfNums_toList] at h
  exact str_inj hA hC (by unfold strOfNums; exact congrArg (fun l => ByteArray.mk l.toArray) h)
end Go.Proofs.Ytmnoolcffkjmhaa
