/-
  pdu: what was laid is read again; plain facts.
-/
import Derived.Test.YtigfoldobkigeaaUEnc
namespace Go.Proofs.Ytigfoldobkigeaa
open Go.RowKit
set_option linter.unusedVariables false
set_option linter.unusedSimpArgs false

theorem getD_right (A Y : List Int) (j : Nat) : (A ++ Y).getD (A.length + j) 0 = Y.getD j 0 := by
  rw [List.getD_eq_getElem?_getD, List.getElem?_append_right (by omega), Nat.add_sub_cancel_left, ← List.getD_eq_getElem?_getD]
theorem getD_left (A Y : List Int) (j : Nat) (h : j < A.length) : (A ++ Y).getD j 0 = A.getD j 0 := by
  rw [List.getD_eq_getElem?_getD, List.getElem?_append_left h, ← List.getD_eq_getElem?_getD]
theorem num_shift (A Y : List Int) (i : Nat) : ∀ n, B.num (A ++ Y) (A.length + i) n = B.num Y i n
  | 0 => rfl
  | n + 1 => by rw [B.num, B.num, num_shift A Y i n, Nat.add_assoc, getD_right]
theorem num_front (Y q : List Int) (i n : Nat) (h : i + n ≤ Y.length) : B.num (Y ++ q) i n = B.num Y i n :=
  num_cong _ _ i n (fun k hk => getD_left Y q _ (by omega))
theorem num_big (x : Int) (k : Nat) (h0 : 0 ≤ x) (h1 : x < 2 ^ (8 * k)) : B.num (bigL x k) 0 k = x := by
  rw [← bigL_asc]; exact B.num_back _ 0 k x (by simp) h0 h1
theorem num_mid {L : List Int} (A q : List Int) (x : Int) (k : Nat) (hL : L = A ++ (bigL x k ++ q)) (i : Nat) (hi : i = A.length) (h0 : 0 ≤ x) (h1 : x < 2 ^ (8 * k)) : B.num L i k = x := by
  subst hL hi
  have := num_shift A (bigL x k ++ q) 0 k
  rw [Nat.add_zero] at this
  rw [this, num_front _ _ 0 k (by rw [bigL_len]; omega), num_big x k h0 h1]

theorem head_num (p : Pd) (hl : p.d.length ≤ 8192) : B.num (headL p) 5 3 = (p.d.length : Int) :=
  num_mid [p.op, p.fl, p.rs, p.st, 0] ([0, p.lun, 0, 0, 0, 0, 0, 0] ++ (bigL p.tag 4 ++ (p.ws.map (fun x => bigL x 4)).flatten)) _ 3 (by simp [headL]) 5 rfl (by omega) (by simp; omega)
theorem head_lenD (p : Pd) (hl : p.d.length ≤ 8192) : lenD (headL p) = p.d.length := by
  unfold lenD
  rw [head_num p hl]
  omega
theorem head_form (p : Pd) (hp : p.ok) (hl : p.d.length ≤ 8192) : formB (headL p) = true := by
  unfold formB
  rw [head_num p hl]
  have h4 : (headL p).getD 4 0 = 0 := by kernel_rfl
  have h8 : (headL p).getD 8 0 = 0 := by kernel_rfl
  have hz : zeroB (((headL p).drop 10).take 6) = true := by kernel_rfl
  rw [h4, h8, hz]
  simp
  omega
theorem head_K (p : Pd) (hp : p.ok) : headK (headL p) p.d 7 = p := by
  obtain ⟨x0, x1, x2, x3, x4, x5, x6, hw⟩ := seven hp.len
  have hb := hp.ws
  have ht := hp.tag
  obtain ⟨op, fl, rs, st, lun, tag, ws, d⟩ := p
  simp only at hw hb ht
  subst hw
  have hb' : ∀ x, x ∈ [x0, x1, x2, x3, x4, x5, x6] → 0 ≤ x ∧ x < 2 ^ (8 * 4) := fun x hx => ⟨(hb x hx).1, by have := (hb x hx).2; omega⟩
  obtain ⟨P, hP⟩ : ∃ P, P = ([op, fl, rs, st, 0] ++ (bigL (d.length : Int) 3 ++ [0, lun, 0, 0, 0, 0, 0, 0]) : List Int) := ⟨_, rfl⟩
  have hPl : P.length = 16 := by rw [hP]; simp [bigL_len]
  have e : headL ⟨op, fl, rs, st, lun, tag, [x0, x1, x2, x3, x4, x5, x6], d⟩ = P ++ (bigL tag 4 ++ (bigL x0 4 ++ (bigL x1 4 ++ (bigL x2 4 ++ (bigL x3 4 ++ (bigL x4 4 ++ (bigL x5 4 ++ bigL x6 4))))))) := by rw [hP]; simp [headL]
  have ht' : B.num (headL ⟨op, fl, rs, st, lun, tag, [x0, x1, x2, x3, x4, x5, x6], d⟩) 16 4 = tag := num_mid P _ tag 4 e 16 hPl.symm ht.1 (by have := ht.2; omega)
  have n0 : B.num (headL ⟨op, fl, rs, st, lun, tag, [x0, x1, x2, x3, x4, x5, x6], d⟩) 20 4 = x0 := num_mid (P ++ bigL tag 4) (bigL x1 4 ++ (bigL x2 4 ++ (bigL x3 4 ++ (bigL x4 4 ++ (bigL x5 4 ++ bigL x6 4))))) x0 4 (by rw [e]; simp) 20 (by simp [bigL_len, hPl]) (hb' x0 (by simp)).1 (hb' x0 (by simp)).2
  have n1 : B.num (headL ⟨op, fl, rs, st, lun, tag, [x0, x1, x2, x3, x4, x5, x6], d⟩) 24 4 = x1 := num_mid (P ++ bigL tag 4 ++ bigL x0 4) (bigL x2 4 ++ (bigL x3 4 ++ (bigL x4 4 ++ (bigL x5 4 ++ bigL x6 4)))) x1 4 (by rw [e]; simp) 24 (by simp [bigL_len, hPl]) (hb' x1 (by simp)).1 (hb' x1 (by simp)).2
  have n2 : B.num (headL ⟨op, fl, rs, st, lun, tag, [x0, x1, x2, x3, x4, x5, x6], d⟩) 28 4 = x2 := num_mid (P ++ bigL tag 4 ++ bigL x0 4 ++ bigL x1 4) (bigL x3 4 ++ (bigL x4 4 ++ (bigL x5 4 ++ bigL x6 4))) x2 4 (by rw [e]; simp) 28 (by simp [bigL_len, hPl]) (hb' x2 (by simp)).1 (hb' x2 (by simp)).2
  have n3 : B.num (headL ⟨op, fl, rs, st, lun, tag, [x0, x1, x2, x3, x4, x5, x6], d⟩) 32 4 = x3 := num_mid (P ++ bigL tag 4 ++ bigL x0 4 ++ bigL x1 4 ++ bigL x2 4) (bigL x4 4 ++ (bigL x5 4 ++ bigL x6 4)) x3 4 (by rw [e]; simp) 32 (by simp [bigL_len, hPl]) (hb' x3 (by simp)).1 (hb' x3 (by simp)).2
  have n4 : B.num (headL ⟨op, fl, rs, st, lun, tag, [x0, x1, x2, x3, x4, x5, x6], d⟩) 36 4 = x4 := num_mid (P ++ bigL tag 4 ++ bigL x0 4 ++ bigL x1 4 ++ bigL x2 4 ++ bigL x3 4) (bigL x5 4 ++ bigL x6 4) x4 4 (by rw [e]; simp) 36 (by simp [bigL_len, hPl]) (hb' x4 (by simp)).1 (hb' x4 (by simp)).2
  have n5 : B.num (headL ⟨op, fl, rs, st, lun, tag, [x0, x1, x2, x3, x4, x5, x6], d⟩) 40 4 = x5 := num_mid (P ++ bigL tag 4 ++ bigL x0 4 ++ bigL x1 4 ++ bigL x2 4 ++ bigL x3 4 ++ bigL x4 4) (bigL x6 4) x5 4 (by rw [e]; simp) 40 (by simp [bigL_len, hPl]) (hb' x5 (by simp)).1 (hb' x5 (by simp)).2
  have n6 : B.num (headL ⟨op, fl, rs, st, lun, tag, [x0, x1, x2, x3, x4, x5, x6], d⟩) 44 4 = x6 := num_mid (P ++ bigL tag 4 ++ bigL x0 4 ++ bigL x1 4 ++ bigL x2 4 ++ bigL x3 4 ++ bigL x4 4 ++ bigL x5 4) [] x6 4 (by rw [e]; simp) 44 (by simp [bigL_len, hPl]) (hb' x6 (by simp)).1 (hb' x6 (by simp)).2
  have g0 : (headL ⟨op, fl, rs, st, lun, tag, [x0, x1, x2, x3, x4, x5, x6], d⟩).getD 0 0 = op := by kernel_rfl
  have g1 : (headL ⟨op, fl, rs, st, lun, tag, [x0, x1, x2, x3, x4, x5, x6], d⟩).getD 1 0 = fl := by kernel_rfl
  have g2 : (headL ⟨op, fl, rs, st, lun, tag, [x0, x1, x2, x3, x4, x5, x6], d⟩).getD 2 0 = rs := by kernel_rfl
  have g3 : (headL ⟨op, fl, rs, st, lun, tag, [x0, x1, x2, x3, x4, x5, x6], d⟩).getD 3 0 = st := by kernel_rfl
  have g9 : (headL ⟨op, fl, rs, st, lun, tag, [x0, x1, x2, x3, x4, x5, x6], d⟩).getD 9 0 = lun := by kernel_rfl
  unfold headK
  rw [g0, g1, g2, g3, g9, ht']
  have hws : wsK (headL ⟨op, fl, rs, st, lun, tag, [x0, x1, x2, x3, x4, x5, x6], d⟩) 7 = [x0, x1, x2, x3, x4, x5, x6] := by
    show [B.num (headL ⟨op, fl, rs, st, lun, tag, [x0, x1, x2, x3, x4, x5, x6], d⟩) 20 4, B.num (headL ⟨op, fl, rs, st, lun, tag, [x0, x1, x2, x3, x4, x5, x6], d⟩) 24 4, B.num (headL ⟨op, fl, rs, st, lun, tag, [x0, x1, x2, x3, x4, x5, x6], d⟩) 28 4, B.num (headL ⟨op, fl, rs, st, lun, tag, [x0, x1, x2, x3, x4, x5, x6], d⟩) 32 4, B.num (headL ⟨op, fl, rs, st, lun, tag, [x0, x1, x2, x3, x4, x5, x6], d⟩) 36 4, B.num (headL ⟨op, fl, rs, st, lun, tag, [x0, x1, x2, x3, x4, x5, x6], d⟩) 40 4, B.num (headL ⟨op, fl, rs, st, lun, tag, [x0, x1, x2, x3, x4, x5, x6], d⟩) 44 4] = _
    rw [n0, n1, n2, n3, n4, n5, n6]
  rw [hws]

def sumS (zs : List Int) (s : Bool) : List Int := if s then bigL (sumL zs) 4 else []
theorem sumS_len (zs : List Int) (s : Bool) : (sumS zs s).length = sz s := by cases s <;> simp [sumS, sz, bigL_len]
theorem encL_eq (p : Pd) (h d : Bool) (q : List Int) : encL p h d ++ q = headL p ++ (sumS (headL p) h ++ (bodyL p.d ++ (sumS (bodyL p.d) (s2B d (bodyL p.d).length) ++ q))) := by
  unfold encL partL sumS
  simp
theorem encL_len (p : Pd) (hp : p.ok) (h d : Bool) : (encL p h d).length = 48 + sz h + (bodyL p.d).length + sz (s2B d (bodyL p.d).length) := by
  have := congrArg List.length (encL_eq p h d [])
  simp only [List.append_nil, List.length_append, sumS_len, headL_len p hp.len] at this
  omega
theorem encL_bytes (p : Pd) (hp : p.ok) (h d : Bool) : Bytes (encL p h d) := by
  have hs : ∀ zs s, Bytes (sumS zs s) := fun zs s => by cases s; exact Bytes.nil; exact bigL_bytes _ 4 (by decide)
  have := encL_eq p h d []
  rw [List.append_nil, List.append_nil] at this
  rw [this]
  exact (headL_bytes hp).append ((hs _ _).append ((bodyL_bytes hp.d).append (hs _ _)))

/-- A right head: how it goes on. -/
theorem dec_headed (p : Pd) (hp : p.ok) (hl : p.d.length ≤ 8192) (Y : List Int) (h d : Bool) (hY : 48 + sz h ≤ Y.length) (hH : Y.take 48 = headL p) (hS : h = true → B.num Y 48 4 = (sumL (headL p) : Int)) :
    decE Y h d = (if Y.length - (48 + sz h) < (bodyL p.d).length + sz (s2B d (bodyL p.d).length) then 8
      else if s2B d (bodyL p.d).length = true ∧ ¬ B.num (Y.drop (48 + sz h)) (bodyL p.d).length 4 = (sumL ((Y.drop (48 + sz h)).take (bodyL p.d).length) : Int) then 5
      else if zeroB (((Y.drop (48 + sz h)).take (bodyL p.d).length).drop p.d.length) = false then 3 else 0) := by
  have hM : bodyM Y = (bodyL p.d).length := by unfold bodyM; rw [hH, head_lenD p hl, bodyL_len]
  unfold decE
  rw [if_neg (by omega), hH, if_neg (fun hc => hc.2 (hS hc.1)), if_neg (by rw [head_form p hp hl]; simp), hM, head_lenD p hl]

theorem enc_take (p : Pd) (hp : p.ok) (h d : Bool) (q : List Int) : (encL p h d ++ q).take 48 = headL p := by
  rw [encL_eq, List.take_append_of_le_length (by rw [headL_len p hp.len]; omega), List.take_of_length_le (by rw [headL_len p hp.len]; omega)]
theorem enc_sum (p : Pd) (hp : p.ok) (d : Bool) (q : List Int) : B.num (encL p true d ++ q) 48 4 = (sumL (headL p) : Int) :=
  num_mid (headL p) (bodyL p.d ++ (sumS (bodyL p.d) (s2B d (bodyL p.d).length) ++ q)) _ 4 (by rw [encL_eq]; simp [sumS]) 48 (headL_len p hp.len).symm (by omega) (by have := sumL_lt (headL p); omega)
theorem enc_drop (p : Pd) (hp : p.ok) (h d : Bool) (q : List Int) : (encL p h d ++ q).drop (48 + sz h) = bodyL p.d ++ (sumS (bodyL p.d) (s2B d (bodyL p.d).length) ++ q) := by
  rw [encL_eq, ← List.append_assoc, List.drop_append_of_le_length (by rw [List.length_append, sumS_len, headL_len p hp.len]; omega), List.drop_of_length_le (by rw [List.length_append, sumS_len, headL_len p hp.len]; omega), List.nil_append]

theorem dec_enc (p : Pd) (hp : p.ok) (hl : p.d.length ≤ 8192) (h d : Bool) (q : List Int) : decE (encL p h d ++ q) h d = 0 ∧ decN (encL p h d ++ q) h d = (encL p h d).length ∧ decP (encL p h d ++ q) h = p := by
  have hel := encL_len p hp h d
  have hM : bodyM (encL p h d ++ q) = (bodyL p.d).length := by unfold bodyM; rw [enc_take p hp, head_lenD p hl, bodyL_len]
  refine ⟨?_, ?_, ?_⟩
  · rw [dec_headed p hp hl _ h d (by rw [List.length_append]; omega) (enc_take p hp h d q) (fun hh => by subst hh; exact enc_sum p hp d q)]
    rw [if_neg (by rw [List.length_append]; omega), enc_drop p hp]
    have ht : (bodyL p.d ++ (sumS (bodyL p.d) (s2B d (bodyL p.d).length) ++ q)).take (bodyL p.d).length = bodyL p.d := by
      rw [List.take_append_of_le_length (Nat.le_refl _), List.take_of_length_le (Nat.le_refl _)]
    have hn : s2B d (bodyL p.d).length = true → B.num (bodyL p.d ++ (sumS (bodyL p.d) (s2B d (bodyL p.d).length) ++ q)) (bodyL p.d).length 4 = (sumL (bodyL p.d) : Int) := fun h1 =>
      num_mid (bodyL p.d) q _ 4 (by rw [h1]; simp [sumS]) _ rfl (by omega) (by have := sumL_lt (bodyL p.d); omega)
    have hz : zeroB ((bodyL p.d).drop p.d.length) = true := by
      unfold bodyL
      rw [List.drop_append_of_le_length (Nat.le_refl _), List.drop_of_length_le (Nat.le_refl _), List.nil_append]
      unfold zeroB
      simp
    rw [ht, if_neg (fun hc => hc.2 (hn hc.1)), if_neg (by rw [hz]; simp)]
  · unfold decN
    rw [hM, hel]
  · unfold decP
    rw [enc_take p hp, head_lenD p hl, enc_drop p hp]
    have : (bodyL p.d ++ (sumS (bodyL p.d) (s2B d (bodyL p.d).length) ++ q)).take p.d.length = p.d := by
      unfold bodyL
      rw [List.append_assoc, List.take_append_of_le_length (Nat.le_refl _), List.take_of_length_le (Nat.le_refl _)]
    rw [this]
    exact head_K p hp

/-- A beginning of it isn't whole. -/
theorem dec_cutE (p : Pd) (hp : p.ok) (hl : p.d.length ≤ 8192) (h d : Bool) (i : Nat) (hi : i < (encL p h d).length) : decE ((encL p h d).take i) h d = 8 := by
  have hel := encL_len p hp h d
  have htl : ((encL p h d).take i).length = i := by rw [List.length_take]; omega
  by_cases h1 : i < 48 + sz h
  · unfold decE
    rw [if_pos (by omega)]
  have e0 := enc_take p hp h d []
  rw [List.append_nil] at e0
  rw [dec_headed p hp hl _ h d (by omega) (by rw [List.take_take, Nat.min_eq_left (by omega)]; exact e0) (fun hh => by
    subst hh
    have := enc_sum p hp d []
    rw [List.append_nil] at this
    rw [← this]
    refine num_cong _ _ 48 4 (fun k hk => ?_)
    have : 48 + k < i := by simp [sz] at h1; omega
    rw [List.getD_eq_getElem?_getD, List.getElem?_take_of_lt this, ← List.getD_eq_getElem?_getD])]
  rw [if_pos (by omega)]
end Go.Proofs.Ytigfoldobkigeaa
