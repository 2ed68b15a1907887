/-
  What was saved is read again as it was: plain facts.
-/
import Derived.Test.YtmnoolcffkjmhaaPLoadA
import Derived.Test.YtmnoolcffkjmhaaPSave
namespace Go.Proofs.Ytmnoolcffkjmhaa
set_option linter.unusedVariables false
set_option linter.unusedSimpArgs false

namespace B
theorem num_asc (Z : List Int) (i k : Nat) (x : Int) (hi : i + k ≤ Z.length) (h0 : 0 ≤ x) (h1 : x < 2 ^ (8 * k)) : ∀ j, j ≤ k → num (asc Z i k x k) i j = x / 2 ^ (8 * (k - j))
  | 0, _ => by rw [num, Nat.sub_zero, Int.ediv_eq_zero_of_lt h0 h1]
  | j + 1, hj => by
    have ih := num_asc Z i k x hi h0 h1 j (by omega)
    rw [num, ih, List.getD_eq_getElem?_getD, asc_get Z i k x hi k (Nat.le_refl _), if_pos (by omega), Option.getD_some, Nat.add_sub_cancel_left]
    have e1 := div_step x (k - 1 - j)
    rw [show k - 1 - j + 1 = k - j by omega] at e1
    rw [← e1, show k - (j + 1) = k - 1 - j by omega]
    omega
theorem num_back (Z : List Int) (i k : Nat) (x : Int) (hi : i + k ≤ Z.length) (h0 : 0 ≤ x) (h1 : x < 2 ^ (8 * k)) : num (asc Z i k x k) i k = x := by
  rw [num_asc Z i k x hi h0 h1 k (Nat.le_refl _)]; simp
theorem num_congr (Z Y : List Int) (i j : Nat) : ∀ n, (∀ k, k < n → Z.getD (i + k) 0 = Y.getD (j + k) 0) → num Z i n = num Y j n
  | 0, _ => rfl
  | n + 1, h => by
    unfold num
    rw [num_congr Z Y i j n (fun k hk => h k (by omega)), h n (by omega)]
end B
theorem be8_num (x : Int) (h : 0 ≤ x ∧ x < 18446744073709551616) : B.num (be8 x) 0 8 = x :=
  B.num_back [0, 0, 0, 0, 0, 0, 0, 0] 0 8 x (by simp) h.1 (by rw [show (2 : Int) ^ (8 * 8) = 18446744073709551616 from by decide]; exact h.2)
theorem body_at : ∀ (l : List (Int × Int)) (k i : Nat) (r : Int × Int), l[k]? = some r → i < 9 → (bodyB l)[9 * k + i]? = (regB r)[i]?
  | [], k, i, r, h, _ => by simp at h
  | u :: l, 0, i, r, h, hi => by
    simp at h
    subst h
    unfold bodyB
    rw [List.flatMap_cons, List.getElem?_append_left (by simp [regB, be8_len]; omega)]
    simp
  | u :: l, k + 1, i, r, h, hi => by
    have h' : l[k]? = some r := by simpa using h
    have := body_at l k i r h' hi
    unfold bodyB at this ⊢
    rw [List.flatMap_cons, List.getElem?_append_right (by simp [regB, be8_len]; omega), ← this]
    congr 1
    simp [regB, be8_len]
    omega
theorem body_nx (l : List (Int × Int)) (k : Nat) (r : Int × Int) (h : l[k]? = some r) : (bodyB l).getD (9 * k) 0 = r.1 := by
  have := body_at l k 0 r h (by omega)
  rw [List.getD_eq_getElem?_getD, show 9 * k = 9 * k + 0 by omega, this]
  rfl
theorem body_ky (l : List (Int × Int)) (k : Nat) (r : Int × Int) (h : l[k]? = some r) (hr : 0 ≤ r.2 ∧ r.2 < 18446744073709551616) : B.num (bodyB l) (9 * k + 1) 8 = r.2 := by
  rw [B.num_congr (bodyB l) (be8 r.2) (9 * k + 1) 0 8 (fun j hj => ?_)]
  · exact be8_num r.2 hr
  · have := body_at l k (1 + j) r h (by omega)
    rw [List.getD_eq_getElem?_getD, List.getD_eq_getElem?_getD, show 9 * k + 1 + j = 9 * k + (1 + j) by omega, this, show 1 + j = j + 1 by omega]
    simp [regB]

/-- The keys of a list of registrations. -/
def keyF (xs : List (Int × Int)) : Nat → Int := xs.foldl (fun f r => upd f r.1.toNat r.2) (fun _ => 0)
theorem tk_body (l : List (Int × Int)) (hs : l.Pairwise (fun a b => a.1 < b.1)) (hr : ∀ r ∈ l, (0 ≤ r.1 ∧ r.1 < 8) ∧ (0 < r.2 ∧ r.2 < 18446744073709551616)) :
    ∀ k, k ≤ l.length → ∃ z, tkS (bodyB l) k = some (keyF (l.take k), z) ∧ (z = -1 ∨ ∃ r ∈ l.take k, z = r.1)
  | 0, _ => ⟨-1, rfl, .inl rfl⟩
  | k + 1, hk => by
    obtain ⟨z, h1, h2⟩ := tk_body l hs hr k (by omega)
    have hkl : k < l.length := by omega
    have hg : l[k]? = some l[k] := List.getElem?_eq_getElem hkl
    obtain ⟨a1, a2⟩ := hr l[k] (List.getElem_mem hkl)
    have hz : z < l[k].1 := by
      rcases h2 with e | ⟨r, hr', e⟩
      · omega
      · rw [e]
        obtain ⟨i, hi, he⟩ := List.mem_iff_getElem.1 hr'
        have hi' : i < k := by simp at hi; omega
        rw [← he, List.getElem_take]
        exact (List.pairwise_iff_getElem.1 hs) i k (by omega) hkl hi'
    have hn := body_nx l k l[k] hg
    have hy := body_ky l k l[k] hg ⟨by omega, a2.2⟩
    have ht : l.take (k + 1) = l.take k ++ [l[k]] := by rw [List.take_add_one, hg]; rfl
    refine ⟨l[k].1, ?_, .inr ⟨l[k], ?_, rfl⟩⟩
    · unfold tkS
      rw [h1]
      simp only [hn, hy]
      rw [if_neg (by omega), ht]
      unfold keyF
      rw [List.foldl_append]
      rfl
    · rw [ht]
      exact List.mem_append_right _ (List.mem_singleton.2 rfl)
theorem regsTo_sorted (f : Nat → Int) : ∀ k, (regsTo f k).Pairwise (fun a b => a.1 < b.1)
  | 0 => List.Pairwise.nil
  | k + 1 => by
    unfold regsTo
    rw [List.pairwise_append]
    refine ⟨regsTo_sorted f k, ?_, fun a ha b hb => ?_⟩
    · split
      · exact List.pairwise_singleton _ _
      · exact List.Pairwise.nil
    · obtain ⟨m, hm, rfl, _⟩ := (regsTo_mem f k a).1 ha
      split at hb
      · simp at hb; subst hb; simp; omega
      · simp at hb
theorem keyF_regs (f : Nat → Int) : ∀ k j, keyF (regsTo f k) j = if j < k then f j else 0
  | 0, j => by simp [keyF, regsTo]
  | k + 1, j => by
    have ih := keyF_regs f k
    unfold regsTo
    by_cases hk : f k = 0
    · rw [if_neg (by simp [hk]), List.append_nil, ih]
      by_cases h1 : j < k
      · rw [if_pos h1, if_pos (by omega)]
      · by_cases h2 : j = k
        · subst h2; simp [hk]
        · rw [if_neg h1, if_neg (by omega)]
    · rw [if_pos hk]
      unfold keyF at ih ⊢
      rw [List.foldl_append]
      simp only [List.foldl_cons, List.foldl_nil, Int.toNat_natCast]
      have hup : ∀ (F : Nat → Int), upd F k (f k) j = if j = k then f k else F j := fun _ => rfl
      rw [hup]
      by_cases h2 : j = k
      · subst h2; simp
      · rw [if_neg h2, ih]
        by_cases h1 : j < k
        · rw [if_pos h1, if_pos (by omega)]
        · rw [if_neg h1, if_neg (by omega)]

/-- The table as it is read again. -/
def Tb.again (t : Tb) : Tb := ⟨keyF t.regs, t.res.1, if t.res.2 = -1 then 255 else t.res.2, 0, true⟩
theorem again_ks (t : Tb) (j : Nat) (hj : j < 8) : t.again.ks j = t.ks j := by
  show keyF (regsTo t.ks 8) j = _
  rw [keyF_regs, if_pos hj]
theorem regsTo_congr (f g : Nat → Int) : ∀ k, (∀ j, j < k → f j = g j) → regsTo f k = regsTo g k
  | 0, _ => rfl
  | k + 1, h => by unfold regsTo; rw [regsTo_congr f g k (fun j hj => h j (by omega)), h k (by omega)]
theorem again_regs (t : Tb) : t.again.regs = t.regs := regsTo_congr _ _ 8 (fun j hj => again_ks t j hj)
theorem again_reg (t : Tb) (n : Int) : t.again.reg n = t.reg n := by
  unfold Tb.reg
  by_cases h : 0 ≤ n ∧ n < 8
  · rw [again_ks t n.toNat (by omega)]
  · have : ∀ x : Int, decide (0 ≤ n ∧ n < 8 ∧ x ≠ 0) = false := fun x => by simp; omega
    rw [this, this]
theorem res_cases (t : Tb) (hg : t.good) : (t.kd = 0 ∧ t.res = (0, -1)) ∨ (t.kd ≠ 0 ∧ isAll t.kd = true ∧ t.res = (t.kd, -1)) ∨ (t.kd ≠ 0 ∧ isAll t.kd = false ∧ t.res = (t.kd, t.ho) ∧ 0 ≤ t.ho ∧ t.ho < 8 ∧ t.ks t.ho.toNat ≠ 0) := by
  unfold Tb.res
  by_cases h0 : t.kd = 0
  · exact .inl ⟨h0, by rw [if_pos h0]⟩
  · rw [if_neg h0]
    cases hal : isAll t.kd with
    | true => exact .inr (.inl ⟨h0, rfl, rfl⟩)
    | false => exact .inr (.inr ⟨h0, rfl, rfl, hg.one h0 hal⟩)
theorem again_res (t : Tb) (hg : t.good) : t.again.res = t.res := by
  rcases res_cases t hg with ⟨h0, e⟩ | ⟨h0, h1, e⟩ | ⟨h0, h1, e, a, b, c⟩
  · unfold Tb.again; rw [e]; rfl
  · unfold Tb.again; rw [e]; simp [Tb.res, h0, h1]
  · have : ¬ t.ho = -1 := by omega
    unfold Tb.again; rw [e]; simp [Tb.res, h0, h1, this]
theorem again_holds (t : Tb) (hg : t.good) (n : Int) : t.again.holds n = t.holds n := by
  have hr := again_reg t n
  rcases res_cases t hg with ⟨h0, e⟩ | ⟨h0, h1, e⟩ | ⟨h0, h1, e, a, b, c⟩
  · have hk : t.again.kd = 0 := by unfold Tb.again; rw [e]
    simp [Tb.holds, hk, h0]
  · have hk : t.again.kd = t.kd := by unfold Tb.again; rw [e]
    simp [Tb.holds, hk, h0, h1, hr]
  · have hk : t.again.kd = t.kd := by unfold Tb.again; rw [e]
    have hh : t.again.ho = t.ho := by have : ¬ t.ho = -1 := by omega
                                      unfold Tb.again; rw [e]; simp [this]
    simp [Tb.holds, hk, h0, h1, hh]
theorem again_conf (t : Tb) (hg : t.good) (n c : Int) : t.again.conf n c = t.conf n c := by
  have hk : t.again.kd = t.kd := by
    rcases res_cases t hg with ⟨h0, e⟩ | ⟨h0, h1, e⟩ | ⟨h0, h1, e, a, b, c⟩
    · unfold Tb.again; rw [e, h0]
    · unfold Tb.again; rw [e]
    · unfold Tb.again; rw [e]
  unfold Tb.conf
  rw [again_holds t hg, again_reg, hk]
theorem again_good (t : Tb) (hg : t.good) : t.again.good := by
  have hk : t.again.kd = t.kd := by
    rcases res_cases t hg with ⟨h0, e⟩ | ⟨h0, h1, e⟩ | ⟨h0, h1, e, a, b, c⟩
    · unfold Tb.again; rw [e, h0]
    · unfold Tb.again; rw [e]
    · unfold Tb.again; rw [e]
  refine ⟨by rw [hk]; exact hg.ty, fun h0 h1 => ?_, fun h1 => ?_, ⟨Int.le_refl 0, (by omega : (0 : Int) < 4294967296)⟩, fun j hj => by rw [again_ks t j hj]; exact hg.kr j hj⟩
  · rw [hk] at h0 h1
    rcases res_cases t hg with ⟨h0', e⟩ | ⟨h0', h1', e⟩ | ⟨h0', h1', e, a, b, c⟩
    · exact absurd h0' h0
    · rw [h1] at h1'; cases h1'
    · have hh : t.again.ho = t.ho := by have : ¬ t.ho = -1 := by omega
                                        unfold Tb.again; rw [e]; simp [this]
      rw [hh, again_ks t _ (by omega)]
      exact ⟨a, b, c⟩
  · rw [hk] at h1
    obtain ⟨j, hj, hkj⟩ := hg.all h1
    exact ⟨j, hj, by rw [again_ks t j hj]; exact hkj⟩
theorem again_save (t : Tb) (hg : t.good) : t.again.save = t.save := by
  unfold Tb.save headB
  rw [again_res t hg, again_regs]
theorem save_len (t : Tb) : t.save.length = 5 + 9 * t.regs.length := by
  unfold Tb.save
  rw [List.length_append, bodyB_len]
  simp [headB]
  omega
theorem res_u8 (t : Tb) (hg : t.good) : 0 ≤ t.res.1 ∧ t.res.1 ≤ 8 := by
  have hty := hg.ty
  rcases res_cases t hg with ⟨h0, e⟩ | ⟨h0, h1, e⟩ | ⟨h0, h1, e, a, b, c⟩
  · rw [e]; simp
  all_goals
    rw [e]
    rcases hty with e' | e'
    · exact absurd e' h0
    · simp [isTy] at e'
      simp only
      omega
theorem save_bytes (t : Tb) (hg : t.good) : B.Bytes t.save := by
  have hall : ∀ z ∈ t.save, 0 ≤ z ∧ z ≤ 255 := fun z hz => by
    unfold Tb.save at hz
    rw [List.mem_append] at hz
    rcases hz with hz | hz
    · have h1 := res_u8 t hg
      have h2 := regs_len t
      have h3 : t.res.2 = -1 ∨ 0 ≤ t.res.2 ∧ t.res.2 < 8 := by
        rcases res_cases t hg with ⟨h0, e⟩ | ⟨h0, h1, e⟩ | ⟨h0, h1, e, a, b, c⟩
        · rw [e]; exact .inl rfl
        · rw [e]; exact .inl rfl
        · rw [e]; exact .inr ⟨a, b⟩
      unfold headB at hz
      simp only [List.mem_cons, List.not_mem_nil, or_false] at hz
      rcases hz with rfl | rfl | rfl | rfl | rfl
      · omega
      · omega
      · omega
      · split <;> omega
      · omega
    · unfold bodyB at hz
      rw [List.mem_flatMap] at hz
      obtain ⟨r, hr, hz⟩ := hz
      obtain ⟨m, hm, rfl, _⟩ := (regs_mem t r).1 hr
      unfold regB at hz
      rw [List.mem_cons] at hz
      rcases hz with rfl | hz
      · simp; omega
      · obtain ⟨i, hi⟩ := List.mem_iff_getElem?.1 hz
        have hb := B.bytes_asc [0, 0, 0, 0, 0, 0, 0, 0] (fun j => by
          rcases (by omega : j = 0 ∨ j = 1 ∨ j = 2 ∨ j = 3 ∨ j = 4 ∨ j = 5 ∨ j = 6 ∨ j = 7 ∨ 8 ≤ j) with rfl | rfl | rfl | rfl | rfl | rfl | rfl | rfl | h
          all_goals first | (simp; done) | (rw [List.getD_eq_getElem?_getD, List.getElem?_eq_none (by simp; omega)]; simp)) 0 8 (t.ks m) (by simp) 8 (by omega) i
        unfold be8 at hi
        rw [List.getD_eq_getElem?_getD, hi] at hb
        simpa using hb
  intro j
  rw [List.getD_eq_getElem?_getD]
  cases h : t.save[j]? with
  | none => simp
  | some z => exact hall z (List.mem_of_getElem? h)
theorem load_save (t : Tb) (hg : t.good) : framedB t.save.length t.save = true ∧ t.save.getD 4 0 = (t.regs.length : Int) ∧ t.save.getD 2 0 = t.res.1 ∧ t.save.getD 3 0 = (if t.res.2 = -1 then 255 else t.res.2) ∧ t.save.drop 5 = bodyB t.regs ∧ (∃ z, tkS (bodyB t.regs) t.regs.length = some (keyF t.regs, z)) ∧ Tb.rsvOk ⟨keyF t.regs, 0, 0, 0, true⟩ t.res.1 (if t.res.2 = -1 then 255 else t.res.2) = true := by
  have hs : t.save = 80 :: 82 :: t.res.1 :: (if t.res.2 = -1 then 255 else t.res.2) :: (t.regs.length : Int) :: bodyB t.regs := rfl
  refine ⟨?_, by rw [hs]; rfl, by rw [hs]; rfl, by rw [hs]; rfl, by rw [hs]; rfl, ?_, ?_⟩
  · unfold framedB
    rw [save_len]
    simp only [decide_eq_true_eq]
    refine ⟨by omega, by rw [hs]; rfl, by rw [hs]; rfl, ?_⟩
    rw [show t.save.getD 4 0 = (t.regs.length : Int) from by rw [hs]; rfl]
    omega
  · obtain ⟨z, h, _⟩ := tk_body t.regs (regsTo_sorted t.ks 8) (fun r hr => by
      obtain ⟨m, hm, rfl, hk⟩ := (regs_mem t r).1 hr
      have := hg.kr m hm
      exact ⟨by simp; omega, by simp only; omega⟩) t.regs.length (Nat.le_refl _)
    rw [List.take_length] at h
    exact ⟨z, h⟩
  · have hreg : ∀ n, Tb.reg ⟨keyF t.regs, 0, 0, 0, true⟩ n = t.reg n := fun n => again_reg t n
    have hregs : Tb.regs ⟨keyF t.regs, 0, 0, 0, true⟩ = t.regs := again_regs t
    rcases res_cases t hg with ⟨h0, e⟩ | ⟨h0, h1, e⟩ | ⟨h0, h1, e, a, b, c⟩
    · rw [e]; simp [Tb.rsvOk]
    · rw [e]
      obtain ⟨j, hj, hkj⟩ := hg.all h1
      have : 0 < t.regs.length := List.length_pos_of_mem ((regs_mem t _).2 ⟨j, hj, rfl, hkj⟩)
      simp [Tb.rsvOk, h0, h1, hregs, this]
    · rw [e]
      have hne : ¬ t.ho = -1 := by omega
      have hty : isTy t.kd = true := by rcases hg.ty with e | e; exact absurd e h0; exact e
      have hr : t.reg t.ho = true := by unfold Tb.reg; simp [a, b, c]
      simp only [if_neg hne]
      unfold Tb.rsvOk
      rw [if_neg h0, h1, hreg, hty, hr]
      rfl
theorem load_of_save (t : Tb) (hg : t.good) : loadM t.save.length t.save = some t.again := by
  obtain ⟨h1, h2, h3, h4, h5, ⟨z, h6⟩, h7⟩ := load_save t hg
  unfold loadM
  rw [if_neg (by rw [save_len]; omega), if_neg (by simp [h1]), h2, Int.toNat_natCast, h5, h6, h3, h4]
  simp only [h7, if_true]
  rfl
end Go.Proofs.Ytmnoolcffkjmhaa
