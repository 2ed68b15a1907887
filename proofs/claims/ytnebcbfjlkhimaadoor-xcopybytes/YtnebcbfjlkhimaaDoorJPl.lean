/-
  What tells a list that is to be copied, plainly: bytes of a list, and what is read of them.
-/
import Derived.Test.YtnebcbfjlkhimaaDoorJUnit
namespace Go.Proofs.YtnebcbfjlkhimaaDoor
open Go.RowKit
set_option linter.unusedVariables false
set_option linter.unusedSimpArgs false

/-- A number's n bytes, the highest first. -/
def bigB (v : Int) (n : Nat) : List Int := (List.range n).map (fun k => v / 256 ^ (n - 1 - k) % 256)
theorem bigB_len (v : Int) (n : Nat) : (bigB v n).length = n := by simp [bigB]
theorem bigB_at (v : Int) (n k : Nat) (h : k < n) : (bigB v n).getD k 0 = v / 256 ^ (n - 1 - k) % 256 := by
  rw [List.getD_eq_getElem?_getD, List.getElem?_eq_getElem (by rw [bigB_len]; exact h)]; simp [bigB]
theorem num_congr {zs ys : List Int} {i i' : Nat} : ∀ n, (∀ j, j < n → zs.getD (i + j) 0 = ys.getD (i' + j) 0) → num zs i n = num ys i' n
  | 0, _ => rfl
  | n + 1, h => by
    show B.num zs i n * 256 + _ = B.num ys i' n * 256 + _
    rw [h n (by omega), show B.num zs i n = B.num ys i' n from num_congr n (fun j hj => h j (by omega))]
theorem div256 (v : Int) (k : Nat) : v / 256 ^ k / 256 = v / 256 ^ (k + 1) := by
  rw [Int.ediv_ediv_of_nonneg (Int.le_of_lt (Int.pow_pos (by decide))), Int.pow_succ]
theorem num_bigB (v : Int) (n : Nat) (h0 : 0 ≤ v) (h1 : v < 256 ^ n) : ∀ k, k ≤ n → num (bigB v n) 0 k = v / 256 ^ (n - k)
  | 0, _ => by rw [Nat.sub_zero, Int.ediv_eq_zero_of_lt h0 h1]; rfl
  | k + 1, hk => by
    show B.num (bigB v n) 0 k * 256 + (bigB v n).getD (0 + k) 0 = _
    rw [show B.num (bigB v n) 0 k = _ from num_bigB v n h0 h1 k (by omega), Nat.zero_add, bigB_at v n k (by omega), show n - 1 - k = n - (k + 1) by omega, show n - k = (n - (k + 1)) + 1 by omega, ← div256]
    omega
theorem num_back (v : Int) (n : Nat) (h0 : 0 ≤ v) (h1 : v < 256 ^ n) : num (bigB v n) 0 n = v := by
  rw [num_bigB v n h0 h1 n (Nat.le_refl _)]; simp
/-- A number's bytes are what it was made of. -/
theorem num_byte (zs : List Int) (hb : Bytes zs) (i : Nat) : ∀ n k, k < n → num zs i n / 256 ^ (n - 1 - k) % 256 = zs.getD (i + k) 0
  | 0, _, h => by omega
  | n + 1, k, h => by
    have hx := hb (i + n)
    by_cases e : k = n
    · subst e
      show (B.num zs i k * 256 + _) / 256 ^ (k + 1 - 1 - k) % 256 = _
      rw [show k + 1 - 1 - k = 0 by omega]
      omega
    · have ih := num_byte zs hb i n k (by omega)
      rw [← ih, show n + 1 - 1 - k = (n - 1 - k) + 1 by omega, Int.pow_succ, Int.mul_comm, ← Int.ediv_ediv_of_nonneg (by decide)]
      show (B.num zs i n * 256 + _) / 256 / _ % 256 = _
      rw [show (B.num zs i n * 256 + zs.getD (i + n) 0) / 256 = B.num zs i n by omega]
theorem bigB_num (zs : List Int) (hb : Bytes zs) (i n k : Nat) (h : k < n) : (bigB (num zs i n) n).getD k 0 = zs.getD (i + k) 0 := by
  rw [bigB_at _ _ _ h, num_byte zs hb i n k h]
theorem bigB_bytes (v : Int) (n : Nat) : Bytes (bigB v n) := by
  intro j
  by_cases h : j < n
  · rw [bigB_at v n j h]; omega
  · rw [List.getD_eq_getElem?_getD, List.getElem?_eq_none (by rw [bigB_len]; omega)]; decide

/-- The bytes of a list that is to be copied. -/
def headB (u s : Nat) : List Int := [0, 0] ++ bigB ((32 * u : Nat) : Int) 2 ++ [0, 0, 0, 0] ++ bigB ((28 * s : Nat) : Int) 4 ++ [0, 0, 0, 0]
def padB (s : List Int) : List Int := s ++ List.replicate (20 - s.length) 32
def unitB (s : List Int) : List Int := front ++ padB s ++ [0, 0, 0, 16]
def segB (g : Sg) : List Int := [2, 0, 0, 24] ++ bigB g.fr 2 ++ bigB g.to 2 ++ [0, 0] ++ bigB g.bl 2 ++ bigB g.src 8 ++ bigB g.dst 8
def bytesX (us : List (List Int)) (ss : List Sg) : List Int := headB us.length ss.length ++ us.flatMap unitB ++ ss.flatMap segB
/-- Serials and pieces that can be told. -/
def Ser (s : List Int) : Prop := s.length ≤ 20 ∧ trimL s = s
def Seg (n : Nat) (g : Sg) : Prop := (0 ≤ g.fr ∧ g.fr < n) ∧ (0 ≤ g.to ∧ g.to < n) ∧ (0 ≤ g.bl ∧ g.bl ≤ 256)
structure Form (us : List (List Int)) (ss : List Sg) : Prop where
  ul : us.length ≤ 8
  sl : ss.length ≤ 8
  uu : ∀ s ∈ us, Ser s
  gg : ∀ g ∈ ss, Seg us.length g
def SegW (g : Sg) : Prop := (0 ≤ g.src ∧ g.src < 18446744073709551616) ∧ (0 ≤ g.dst ∧ g.dst < 18446744073709551616)
theorem headB_len (u s : Nat) : (headB u s).length = 16 := by simp [headB, bigB_len]
theorem padB_len {s : List Int} (h : s.length ≤ 20) : (padB s).length = 20 := by simp [padB]; omega
theorem unitB_len {s : List Int} (h : s.length ≤ 20) : (unitB s).length = 32 := by simp [unitB, padB_len h, front]
theorem segB_len (g : Sg) : (segB g).length = 28 := by simp [segB, bigB_len]
theorem fm_len {α : Type} (f : α → List Int) (m : Nat) : ∀ us : List α, (∀ x ∈ us, (f x).length = m) → (us.flatMap f).length = m * us.length
  | [], _ => by simp
  | x :: us, h => by
    rw [List.flatMap_cons, List.length_append, h x (by simp), fm_len f m us (fun y hy => h y (by simp [hy])), List.length_cons, Nat.mul_add]; omega
theorem fm_at {α : Type} (f : α → List Int) (m : Nat) : ∀ (us : List α), (∀ x ∈ us, (f x).length = m) → ∀ k x, us[k]? = some x → ∀ r, r < m → (us.flatMap f).getD (m * k + r) 0 = (f x).getD r 0
  | [], _, k, x, hx, _, _ => by simp at hx
  | y :: us, h, 0, x, hx, r, hr => by
    simp at hx; subst hx
    rw [List.flatMap_cons, List.getD_eq_getElem?_getD, List.getElem?_append_left (by rw [h y (by simp)]; omega), Nat.mul_zero, Nat.zero_add, ← List.getD_eq_getElem?_getD]
  | y :: us, h, k + 1, x, hx, r, hr => by
    have hl := h y (by simp)
    rw [List.flatMap_cons, List.getD_eq_getElem?_getD, List.getElem?_append_right (by rw [hl, Nat.mul_add]; omega), ← List.getD_eq_getElem?_getD, hl, show m * (k + 1) + r - m = m * k + r by rw [Nat.mul_add]; omega]
    exact fm_at f m us (fun z hz => h z (by simp [hz])) k x (by simpa using hx) r hr
theorem bytesX_len {us : List (List Int)} {ss : List Sg} (h : ∀ s ∈ us, s.length ≤ 20) : (bytesX us ss).length = 16 + 32 * us.length + 28 * ss.length := by
  rw [bytesX, List.length_append, List.length_append, headB_len, fm_len unitB 32 us (fun s hs => unitB_len (h s hs)), fm_len segB 28 ss (fun g _ => segB_len g)]
theorem bytesX_head (us : List (List Int)) (ss : List Sg) (j : Nat) (hj : j < 16) : (bytesX us ss).getD j 0 = (headB us.length ss.length).getD j 0 := by
  rw [bytesX, List.append_assoc, List.getD_eq_getElem?_getD, List.getElem?_append_left (by rw [headB_len]; exact hj), ← List.getD_eq_getElem?_getD]
theorem bytesX_unit {us : List (List Int)} {ss : List Sg} (h : ∀ s ∈ us, s.length ≤ 20) (k : Nat) (s : List Int) (hk : us[k]? = some s) (r : Nat) (hr : r < 32) : (bytesX us ss).getD (16 + 32 * k + r) 0 = (unitB s).getD r 0 := by
  have hkl := (List.getElem?_eq_some_iff.1 hk).1
  have hl := fm_len unitB 32 us (fun s hs => unitB_len (h s hs))
  rw [bytesX, List.getD_eq_getElem?_getD, List.getElem?_append_left (by rw [List.length_append, headB_len, hl]; omega), List.getElem?_append_right (by rw [headB_len]; omega), ← List.getD_eq_getElem?_getD, headB_len, show 16 + 32 * k + r - 16 = 32 * k + r by omega]
  exact fm_at unitB 32 us (fun s hs => unitB_len (h s hs)) k s hk r hr
theorem bytesX_seg {us : List (List Int)} {ss : List Sg} (h : ∀ s ∈ us, s.length ≤ 20) (k : Nat) (g : Sg) (hk : ss[k]? = some g) (r : Nat) (hr : r < 28) : (bytesX us ss).getD (16 + 32 * us.length + 28 * k + r) 0 = (segB g).getD r 0 := by
  have hl := fm_len unitB 32 us (fun s hs => unitB_len (h s hs))
  rw [bytesX, List.getD_eq_getElem?_getD, List.getElem?_append_right (by rw [List.length_append, headB_len, hl]; omega), ← List.getD_eq_getElem?_getD, List.length_append, headB_len, hl, show 16 + 32 * us.length + 28 * k + r - (16 + 32 * us.length) = 28 * k + r by omega]
  exact fm_at segB 28 ss (fun g _ => segB_len g) k g hk r hr
theorem getD_app_l {a b : List Int} {j : Nat} (h : j < a.length) : (a ++ b).getD j 0 = a.getD j 0 := by
  rw [List.getD_eq_getElem?_getD, List.getElem?_append_left h, ← List.getD_eq_getElem?_getD]
theorem getD_app_r {a b : List Int} {j : Nat} (h : a.length ≤ j) : (a ++ b).getD j 0 = b.getD (j - a.length) 0 := by
  rw [List.getD_eq_getElem?_getD, List.getElem?_append_right h, ← List.getD_eq_getElem?_getD]
theorem unitB_front {s : List Int} (j : Nat) (h : j < 8) : (unitB s).getD j 0 = front.getD j 0 := by
  rw [unitB, List.append_assoc, getD_app_l (by simpa [front] using h)]
theorem unitB_ser {s : List Int} (hs : s.length ≤ 20) (j : Nat) (h : j < 20) : (unitB s).getD (8 + j) 0 = (padB s).getD j 0 := by
  rw [unitB, List.append_assoc, getD_app_r (by simp [front]), show 8 + j - front.length = j by simp [front], getD_app_l (by rw [padB_len hs]; exact h)]
theorem unitB_end {s : List Int} (hs : s.length ≤ 20) (j : Nat) : (unitB s).getD (28 + j) 0 = ([0, 0, 0, 16] : List Int).getD j 0 := by
  have hl : (front ++ padB s).length = 28 := by rw [List.length_append, padB_len hs]; rfl
  rw [unitB, getD_app_r (by rw [hl]; omega), hl, show 28 + j - 28 = j by omega]
/-- A serial with blanks behind it, trimmed, is the serial. -/
theorem trimN_pad (s : List Int) (m : Nat) : ∀ n, n ≤ m → trimN (s ++ List.replicate m 32) (s.length + n) = trimN s s.length
  | 0, _ => by
    rw [Nat.add_zero]
    have : ∀ k, k ≤ s.length → trimN (s ++ List.replicate m 32) k = trimN s k := by
      intro k
      induction k with
      | zero => intro _; rfl
      | succ k ih => intro hk; rw [trimN, trimN, getD_app_l (by omega), ih (by omega)]
    exact this _ (Nat.le_refl _)
  | n + 1, h => by
    rw [show s.length + (n + 1) = s.length + n + 1 by omega, trimN, getD_app_r (by omega), if_pos (by rw [show s.length + n - s.length = n by omega, List.getD_eq_getElem?_getD, List.getElem?_replicate, if_pos (by omega)]; rfl)]
    exact trimN_pad s m n (by omega)
theorem trim_pad {s : List Int} (h : Ser s) : trimL (padB s) = s := by
  obtain ⟨h1, h2⟩ := h
  have e : trimN s s.length = s.length := by
    have := congrArg List.length h2
    unfold trimL at this
    rw [List.length_take] at this
    have := trimN_le s s.length
    omega
  unfold trimL padB
  rw [List.length_append, List.length_replicate, trimN_pad s _ _ (Nat.le_refl _), e, List.take_left']
  rfl
theorem trimN_tail (l : List Int) : ∀ n j, trimN l n ≤ j → j < n → l.getD j 0 = 32
  | 0, _, _, h => by omega
  | n + 1, j, h1, h2 => by
    rw [trimN] at h1
    split at h1
    · rename_i e
      by_cases ej : j = n
      · rw [ej]; exact e
      · exact trimN_tail l n j h1 (by omega)
    · omega
theorem pad_trim {l : List Int} (h : l.length = 20) : padB (trimL l) = l := by
  have hle := trimN_le l l.length
  have hl : (trimL l).length = trimN l l.length := by unfold trimL; rw [List.length_take]; omega
  refine List.ext_getElem (by rw [padB_len (by omega), h]) (fun j h1 h2 => ?_)
  have hx : ∀ (zs : List Int) (k : Nat) (hk : k < zs.length), zs[k] = zs.getD k 0 := fun zs k hk => by rw [List.getD_eq_getElem?_getD, List.getElem?_eq_getElem hk]; rfl
  rw [hx, hx, padB]
  by_cases hj : j < trimN l l.length
  · rw [getD_app_l (by rw [hl]; exact hj), trimL, List.getD_eq_getElem?_getD, List.getElem?_take_of_lt hj, ← List.getD_eq_getElem?_getD]
  · rw [getD_app_r (by rw [hl]; omega), trimN_tail l l.length j (by omega) h2, List.getD_eq_getElem?_getD, List.getElem?_replicate, if_pos (by omega)]; rfl
theorem trimN_idem (l : List Int) : ∀ n, n ≤ l.length → trimN (l.take (trimN l n)) (trimN l n) = trimN l n
  | 0, _ => rfl
  | n + 1, h => by
    rw [trimN]
    split
    · exact trimN_idem l n (by omega)
    · rename_i e
      rw [trimN, if_neg]
      rw [List.getD_eq_getElem?_getD, List.getElem?_take_of_lt (by omega), ← List.getD_eq_getElem?_getD]
      exact e
theorem ser_trim (l : List Int) (h : l.length ≤ 20) : Ser (trimL l) := by
  have hle := trimN_le l l.length
  have hl : (trimL l).length = trimN l l.length := by unfold trimL; rw [List.length_take]; omega
  refine ⟨by omega, ?_⟩
  show (trimL l).take (trimN (trimL l) (trimL l).length) = trimL l
  rw [hl, show trimL l = l.take (trimN l l.length) from rfl, trimN_idem l _ (Nat.le_refl _), List.take_take, Nat.min_self]
theorem trimL_take (l : List Int) : (trimL l).length = trimN l l.length := by unfold trimL; rw [List.length_take]; have := trimN_le l l.length; omega
/-- What the bytes' head tells. -/
theorem headB_get (u s j : Nat) (h : j < 16) : (headB u s).getD j 0 = if j < 2 then 0 else if j < 4 then (bigB ((32 * u : Nat) : Int) 2).getD (j - 2) 0 else if j < 8 then 0 else if j < 12 then (bigB ((28 * s : Nat) : Int) 4).getD (j - 8) 0 else 0 := by
  obtain ⟨a, b, ha⟩ : ∃ a b, bigB ((32 * u : Nat) : Int) 2 = [a, b] := ⟨_, _, rfl⟩
  obtain ⟨c, d, e, f, hc⟩ : ∃ c d e f, bigB ((28 * s : Nat) : Int) 4 = [c, d, e, f] := ⟨_, _, _, _, rfl⟩
  rw [headB, ha, hc]
  rcases j with _ | _ | _ | _ | _ | _ | _ | _ | _ | _ | _ | _ | _ | _ | _ | _ | j
  all_goals first | rfl | omega
theorem segB_get (g : Sg) (j : Nat) (h : j < 28) : (segB g).getD j 0 = if j < 4 then ([2, 0, 0, 24] : List Int).getD j 0 else if j < 6 then (bigB g.fr 2).getD (j - 4) 0 else if j < 8 then (bigB g.to 2).getD (j - 6) 0 else if j < 10 then 0 else if j < 12 then (bigB g.bl 2).getD (j - 10) 0 else if j < 20 then (bigB g.src 8).getD (j - 12) 0 else (bigB g.dst 8).getD (j - 20) 0 := by
  obtain ⟨a, b, ha⟩ : ∃ a b, bigB g.fr 2 = [a, b] := ⟨_, _, rfl⟩
  obtain ⟨a2, b2, hb⟩ : ∃ a b, bigB g.to 2 = [a, b] := ⟨_, _, rfl⟩
  obtain ⟨a3, b3, hc⟩ : ∃ a b, bigB g.bl 2 = [a, b] := ⟨_, _, rfl⟩
  obtain ⟨s1, s2, s3, s4, s5, s6, s7, s8, hs⟩ : ∃ s1 s2 s3 s4 s5 s6 s7 s8, bigB g.src 8 = [s1, s2, s3, s4, s5, s6, s7, s8] := ⟨_, _, _, _, _, _, _, _, rfl⟩
  obtain ⟨d1, d2, d3, d4, d5, d6, d7, d8, hd⟩ : ∃ s1 s2 s3 s4 s5 s6 s7 s8, bigB g.dst 8 = [s1, s2, s3, s4, s5, s6, s7, s8] := ⟨_, _, _, _, _, _, _, _, rfl⟩
  rw [segB, ha, hb, hc, hs, hd]
  rcases j with _ | _ | _ | _ | _ | _ | _ | _ | _ | _ | _ | _ | _ | _ | _ | _ | _ | _ | _ | _ | _ | _ | _ | _ | _ | _ | _ | _ | j
  all_goals first | rfl | omega
theorem num_zero (zs : List Int) (i n : Nat) (h : ∀ j, j < n → zs.getD (i + j) 0 = 0) : num zs i n = 0 := by
  induction n with
  | zero => rfl
  | succ n ih =>
    have e : B.num zs i n = 0 := ih (fun j hj => h j (by omega))
    show B.num zs i n * 256 + _ = 0
    rw [e, h n (by omega)]
    rfl
theorem nums2 (us : List (List Int)) (ss : List Sg) (hu : us.length ≤ 8) : num (bytesX us ss) 2 2 = 32 * us.length := by
  rw [num_congr (ys := bigB ((32 * us.length : Nat) : Int) 2) (i' := 0) 2 (fun j hj => by rw [bytesX_head _ _ _ (by omega), headB_get _ _ _ (by omega), if_neg (by omega), if_pos (by omega), Nat.zero_add, show 2 + j - 2 = j by omega]), num_back _ 2 (by omega) (by omega)]
  omega
theorem nums8 (us : List (List Int)) (ss : List Sg) (hs : ss.length ≤ 8) : num (bytesX us ss) 8 4 = 28 * ss.length := by
  rw [num_congr (ys := bigB ((28 * ss.length : Nat) : Int) 4) (i' := 0) 4 (fun j hj => by rw [bytesX_head _ _ _ (by omega), headB_get _ _ _ (by omega), if_neg (by omega), if_neg (by omega), if_neg (by omega), if_pos (by omega), Nat.zero_add, show 8 + j - 8 = j by omega]), num_back _ 4 (by omega) (by omega)]
  omega
theorem head_bytes {us : List (List Int)} {ss : List Sg} (h : Form us ss) : headX (bytesX us ss) = none ∧ units (bytesX us ss) = us.length ∧ segs (bytesX us ss) = ss.length := by
  have h2 := nums2 us ss h.ul
  have h8 := nums8 us ss h.sl
  have hl := bytesX_len (us := us) (ss := ss) (fun s hs => (h.uu s hs).1)
  have h0 : num (bytesX us ss) 0 2 = 0 := num_zero _ _ _ (fun j hj => by rw [bytesX_head _ _ _ (by omega), headB_get _ _ _ (by omega), if_pos (by omega)])
  have h4 : num (bytesX us ss) 4 4 = 0 := num_zero _ _ _ (fun j hj => by rw [bytesX_head _ _ _ (by omega), headB_get _ _ _ (by omega), if_neg (by omega), if_neg (by omega), if_pos (by omega)])
  have h12 : num (bytesX us ss) 12 4 = 0 := num_zero _ _ _ (fun j hj => by rw [bytesX_head _ _ _ (by omega), headB_get _ _ _ (by omega), if_neg (by omega), if_neg (by omega), if_neg (by omega), if_neg (by omega)])
  have hu := h.ul
  have hs := h.sl
  refine ⟨?_, by unfold units; rw [h2]; omega, by unfold segs; rw [h8]; omega⟩
  unfold headX
  rw [if_neg (by omega), if_neg (by rw [h0]; simp), if_neg (by rw [h4]; simp), if_neg (by rw [h12]; simp), if_neg (by rw [h2]; omega), if_neg (by rw [h8]; omega), if_neg (by rw [h2, h8, hl]; omega), if_neg (by rw [h2, h8]; omega)]
theorem getD_drop' (zs : List Int) (a n j : Nat) (h : j < n) : ((zs.drop a).take n).getD j 0 = zs.getD (a + j) 0 := by
  rw [List.getD_eq_getElem?_getD, List.getElem?_take_of_lt h, List.getElem?_drop, ← List.getD_eq_getElem?_getD]
theorem list_getD {a b : List Int} (hl : a.length = b.length) (h : ∀ j, j < a.length → a.getD j 0 = b.getD j 0) : a = b :=
  List.ext_getElem hl (fun j h1 h2 => by
    have := h j h1
    rw [List.getD_eq_getElem?_getD, List.getElem?_eq_getElem h1, List.getD_eq_getElem?_getD, List.getElem?_eq_getElem h2] at this
    exact this)
theorem unit_bytes {us : List (List Int)} {ss : List Sg} (h : Form us ss) (k : Nat) (s : List Int) (hk : us[k]? = some s) : unitF (bytesX us ss) (16 + 32 * k) = none ∧ ser (bytesX us ss) (16 + 32 * k) = s := by
  have h20 : ∀ s ∈ us, s.length ≤ 20 := fun s hs => (h.uu s hs).1
  have hs := h.uu s (List.mem_of_getElem? hk)
  have hB := bytesX_unit (ss := ss) h20 k s hk
  have hkl := (List.getElem?_eq_some_iff.1 hk).1
  have hl := bytesX_len (us := us) (ss := ss) h20
  have hE : ∀ j, j < 4 → (bytesX us ss).getD (16 + 32 * k + 28 + j) 0 = ([0, 0, 0, 16] : List Int).getD j 0 := fun j hj => by
    rw [Nat.add_assoc, hB (28 + j) (by omega), unitB_end hs.1]
  constructor
  · unfold unitF
    rw [frF_all (fun j hj => by rw [hB j (by omega), unitB_front j hj]) 8 (Nat.le_refl _)]
    simp only
    rw [if_neg (by have := hE 0 (by omega); rw [Nat.add_zero] at this; rw [this]; simp), if_neg]
    rw [num_congr (ys := [0, 0, 16]) (i' := 0) 3 (fun j hj => by have := hE (1 + j) (by omega); rw [show 16 + 32 * k + 28 + (1 + j) = 16 + 32 * k + 29 + j by omega] at this; rw [this, Nat.zero_add]; rcases j with _ | _ | _ | j; rfl; rfl; rfl; omega)]
    simp [num, B.num]
  · have hp : serL (bytesX us ss) (16 + 32 * k) = padB s := by
      refine list_getD (by unfold serL; rw [padB_len hs.1, List.length_take, List.length_drop]; omega) (fun j hj => ?_)
      have hj' : j < 20 := by unfold serL at hj; rw [List.length_take] at hj; omega
      unfold serL
      rw [getD_drop' _ _ _ _ hj', Nat.add_assoc, hB (8 + j) (by omega), unitB_ser hs.1 j hj']
    unfold ser
    rw [hp, trim_pad hs]
theorem seg_bytes {us : List (List Int)} {ss : List Sg} (h : Form us ss) (hw : ∀ g ∈ ss, SegW g) (k : Nat) (g : Sg) (hk : ss[k]? = some g) : segF (bytesX us ss) us.length (16 + 32 * us.length + 28 * k) = none ∧ sg (bytesX us ss) (16 + 32 * us.length + 28 * k) = g := by
  have h20 : ∀ s ∈ us, s.length ≤ 20 := fun s hs => (h.uu s hs).1
  have hs := h.gg g (List.mem_of_getElem? hk)
  have hg := hw g (List.mem_of_getElem? hk)
  have hB := bytesX_seg (ss := ss) h20 k g hk
  have hul := h.ul
  generalize hA : 16 + 32 * us.length + 28 * k = A at hB ⊢
  obtain ⟨⟨f1, f2⟩, ⟨t1, t2⟩, ⟨b1, b2⟩⟩ := hs
  obtain ⟨⟨s1, s2⟩, ⟨d1, d2⟩⟩ := hg
  have n4 : num (bytesX us ss) (A + 4) 2 = g.fr := by
    rw [num_congr (ys := bigB g.fr 2) (i' := 0) 2 (fun j hj => by rw [Nat.add_assoc, hB (4 + j) (by omega), segB_get _ _ (by omega), if_neg (by omega), if_pos (by omega), Nat.zero_add, show 4 + j - 4 = j by omega]), num_back _ 2 f1 (by omega)]
  have n6 : num (bytesX us ss) (A + 6) 2 = g.to := by
    rw [num_congr (ys := bigB g.to 2) (i' := 0) 2 (fun j hj => by rw [Nat.add_assoc, hB (6 + j) (by omega), segB_get _ _ (by omega), if_neg (by omega), if_neg (by omega), if_pos (by omega), Nat.zero_add, show 6 + j - 6 = j by omega]), num_back _ 2 t1 (by omega)]
  have n8 : num (bytesX us ss) (A + 8) 2 = 0 := num_zero _ _ _ (fun j hj => by rw [Nat.add_assoc, hB (8 + j) (by omega), segB_get _ _ (by omega), if_neg (by omega), if_neg (by omega), if_neg (by omega), if_pos (by omega)])
  have n10 : num (bytesX us ss) (A + 10) 2 = g.bl := by
    rw [num_congr (ys := bigB g.bl 2) (i' := 0) 2 (fun j hj => by rw [Nat.add_assoc, hB (10 + j) (by omega), segB_get _ _ (by omega), if_neg (by omega), if_neg (by omega), if_neg (by omega), if_neg (by omega), if_pos (by omega), Nat.zero_add, show 10 + j - 10 = j by omega]), num_back _ 2 b1 (by omega)]
  have n12 : num (bytesX us ss) (A + 12) 8 = g.src := by
    rw [num_congr (ys := bigB g.src 8) (i' := 0) 8 (fun j hj => by rw [Nat.add_assoc, hB (12 + j) (by omega), segB_get _ _ (by omega), if_neg (by omega), if_neg (by omega), if_neg (by omega), if_neg (by omega), if_neg (by omega), if_pos (by omega), Nat.zero_add, show 12 + j - 12 = j by omega]), num_back _ 8 s1 (by simpa using s2)]
  have n20 : num (bytesX us ss) (A + 20) 8 = g.dst := by
    rw [num_congr (ys := bigB g.dst 8) (i' := 0) 8 (fun j hj => by rw [Nat.add_assoc, hB (20 + j) (by omega), segB_get _ _ (by omega), if_neg (by omega), if_neg (by omega), if_neg (by omega), if_neg (by omega), if_neg (by omega), if_neg (by omega), Nat.zero_add, show 20 + j - 20 = j by omega]), num_back _ 8 d1 (by simpa using d2)]
  have n0 : num (bytesX us ss) A 4 = 33554456 := by
    rw [num_congr (ys := [2, 0, 0, 24]) (i' := 0) 4 (fun j hj => by rw [hB j (by omega), segB_get _ _ (by omega), if_pos (by omega), Nat.zero_add])]
    simp [num, B.num]
  constructor
  · unfold segF
    rw [if_neg (by rw [n0]; simp), if_neg (by rw [n8]; simp), if_neg (by rw [n4]; omega), if_neg (by rw [n6]; omega), if_neg (by rw [n10]; omega)]
  · unfold sg
    rw [n4, n6, n10, n12, n20]
/-- What was told is read again. -/
theorem parse_back {us : List (List Int)} {ss : List Sg} (h : Form us ss) (hw : ∀ g ∈ ss, SegW g) : parseX (bytesX us ss) = ⟨us, ss, noS, true⟩ := by
  obtain ⟨h1, h2, h3⟩ := head_bytes h
  have hl := bytesX_len (us := us) (ss := ss) (fun s hs => (h.uu s hs).1)
  unfold parseX
  rw [if_neg (by omega), h1, h2, h3]
  simp only
  have hu : ∀ j, j < us.length → unitF (bytesX us ss) (16 + 32 * j) = none := fun j hj => (unit_bytes h j us[j] (List.getElem?_eq_getElem hj)).1
  have hs : ∀ j, j < ss.length → segF (bytesX us ss) us.length (16 + 32 * us.length + 28 * j) = none := fun j hj => (seg_bytes h hw j ss[j] (List.getElem?_eq_getElem hj)).1
  rw [firstF_none hu _ (Nat.le_refl _)]
  simp only
  rw [firstF_none hs _ (Nat.le_refl _)]
  simp only
  have e1 : unitsX (bytesX us ss) us.length = us := by
    unfold unitsX
    refine List.ext_getElem (by simp) (fun j a b => ?_)
    rw [List.getElem_map, List.getElem_range]
    exact (unit_bytes h j us[j] (List.getElem?_eq_getElem b)).2
  have e2 : segsX (bytesX us ss) (16 + 32 * us.length) ss.length = ss := by
    unfold segsX
    refine List.ext_getElem (by simp) (fun j a b => ?_)
    rw [List.getElem_map, List.getElem_range]
    exact (seg_bytes h hw j ss[j] (List.getElem?_eq_getElem b)).2
  rw [e1, e2]
/-- Of bytes that tell a list: how long they are. -/
theorem head_none {zs : List Int} (h : headX zs = none) : ¬ zs.length < 16 ∧ num zs 0 2 = 0 ∧ num zs 4 4 = 0 ∧ num zs 12 4 = 0 ∧ num zs 2 2 % 32 = 0 ∧ num zs 8 4 % 28 = 0 ∧ (zs.length : Int) = 16 + num zs 2 2 + num zs 8 4 ∧ ¬ (224 < num zs 8 4 ∨ 256 < num zs 2 2) := by
  unfold headX at h
  by_cases a1 : zs.length < 16
  · rw [if_pos a1] at h; cases h
  rw [if_neg a1] at h
  by_cases a2 : num zs 0 2 = 0
  case neg => rw [if_pos a2] at h; cases h
  rw [if_neg (Decidable.not_not.2 a2)] at h
  by_cases a3 : num zs 4 4 = 0
  case neg => rw [if_pos a3] at h; cases h
  rw [if_neg (Decidable.not_not.2 a3)] at h
  by_cases a4 : num zs 12 4 = 0
  case neg => rw [if_pos a4] at h; cases h
  rw [if_neg (Decidable.not_not.2 a4)] at h
  by_cases a5 : num zs 2 2 % 32 = 0
  case neg => rw [if_pos a5] at h; cases h
  rw [if_neg (Decidable.not_not.2 a5)] at h
  by_cases a6 : num zs 8 4 % 28 = 0
  case neg => rw [if_pos a6] at h; cases h
  rw [if_neg (Decidable.not_not.2 a6)] at h
  by_cases a7 : (zs.length : Int) = 16 + num zs 2 2 + num zs 8 4
  case neg => rw [if_pos a7] at h; cases h
  rw [if_neg (Decidable.not_not.2 a7)] at h
  by_cases a8 : 224 < num zs 8 4 ∨ 256 < num zs 2 2
  · rw [if_pos a8] at h; cases h
  exact ⟨a1, a2, a3, a4, a5, a6, a7, a8⟩
theorem parse_ok {zs : List Int} (h0 : zs.length ≠ 0) (h : (parseX zs).ok = true) : headX zs = none ∧ (∀ j, j < units zs → unitF zs (16 + 32 * j) = none) ∧ (∀ j, j < segs zs → segF zs (units zs) (16 + 32 * units zs + 28 * j) = none) ∧ (parseX zs).us = unitsX zs (units zs) ∧ (parseX zs).ss = segsX zs (16 + 32 * units zs) (segs zs) := by
  unfold parseX at h ⊢
  rw [if_neg h0] at h ⊢
  cases h1 : headX zs with
  | some s => rw [h1] at h; cases h
  | none =>
    rw [h1] at h
    simp only at h ⊢
    cases h2 : firstF (fun j => unitF zs (16 + 32 * j)) (units zs) (units zs) with
    | some s => rw [h2] at h; cases h
    | none =>
      rw [h2] at h
      simp only at h ⊢
      cases h3 : firstF (fun j => segF zs (units zs) (16 + 32 * units zs + 28 * j)) (segs zs) (segs zs) with
      | some s => rw [h3] at h; cases h
      | none =>
        exact ⟨trivial, fun j hj => firstF_of_none _ (Nat.le_refl _) h2 j (by omega) hj, fun j hj => firstF_of_none _ (Nat.le_refl _) h3 j (by omega) hj, rfl, rfl⟩
theorem parse_len {zs : List Int} (h : (parseX zs).ok = true) : zs.length % 4 = 0 := by
  by_cases h0 : zs.length = 0
  · omega
  · have a := head_none (parse_ok h0 h).1
    omega
theorem unitF_none {zs : List Int} {a : Nat} (h : unitF zs a = none) : (∀ j, j < 8 → zs.getD (a + j) 0 = front.getD j 0) ∧ zs.getD (a + 28) 0 = 0 ∧ num zs (a + 29) 3 = 16 := by
  unfold unitF at h
  cases h1 : frF zs a 8 with
  | some x => rw [h1] at h; cases h
  | none =>
    rw [h1] at h
    simp only at h
    by_cases a1 : zs.getD (a + 28) 0 = 0
    case neg => rw [if_pos a1] at h; cases h
    rw [if_neg (Decidable.not_not.2 a1)] at h
    by_cases a2 : num zs (a + 29) 3 = 16
    case neg => rw [if_pos a2] at h; cases h
    exact ⟨fun j hj => frF_none 8 (Nat.le_refl _) h1 j (by omega) hj, a1, a2⟩
theorem segF_none {zs : List Int} {n a : Nat} (h : segF zs n a = none) : num zs a 4 = 33554456 ∧ num zs (a + 8) 2 = 0 := by
  unfold segF at h
  by_cases a1 : num zs a 4 = 33554456
  case neg => rw [if_pos a1] at h; cases h
  rw [if_neg (Decidable.not_not.2 a1)] at h
  by_cases a2 : num zs (a + 8) 2 = 0
  case neg => rw [if_pos a2] at h; cases h
  exact ⟨a1, a2⟩
theorem byte_of {zs : List Int} (hb : Bytes zs) (i n k : Nat) (h : k < n) (v : Int) (e : num zs i n = v) : zs.getD (i + k) 0 = (bigB v n).getD k 0 := by
  rw [← e, bigB_num zs hb i n k h]
/-- Bytes that tell a list are its bytes. -/
theorem parse_inj {zs : List Int} (hb : Bytes zs) (h0 : zs.length ≠ 0) (h : (parseX zs).ok = true) : zs = bytesX (parseX zs).us (parseX zs).ss := by
  obtain ⟨h1, h2, h3, h4, h5⟩ := parse_ok h0 h
  obtain ⟨a1, a2, a3, a4, a5, a6, a7, a8⟩ := head_none h1
  have hu : ((units zs : Nat) : Int) * 32 = num zs 2 2 := by unfold units; have := B.num_bd zs 2 hb 2; simp only [num] at *; omega
  have hs : ((segs zs : Nat) : Int) * 28 = num zs 8 4 := by unfold segs; have := B.num_bd zs 8 hb 4; simp only [num] at *; omega
  rw [h4, h5]
  have lu : (unitsX zs (units zs)).length = units zs := by simp [unitsX]
  have ls : (segsX zs (16 + 32 * units zs) (segs zs)).length = segs zs := by simp [segsX]
  have gu : ∀ k, k < units zs → (unitsX zs (units zs))[k]? = some (ser zs (16 + 32 * k)) := fun k hk => by simp [unitsX, hk]
  have gs : ∀ k, k < segs zs → (segsX zs (16 + 32 * units zs) (segs zs))[k]? = some (sg zs (16 + 32 * units zs + 28 * k)) := fun k hk => by simp [segsX, hk]
  have hz : zs.length = 16 + 32 * units zs + 28 * segs zs := by omega
  have sl : ∀ k, k < units zs → (serL zs (16 + 32 * k)).length = 20 := fun k hk => by unfold serL; rw [List.length_take, List.length_drop]; omega
  have h20 : ∀ s ∈ unitsX zs (units zs), s.length ≤ 20 := fun s hs => by
    unfold unitsX at hs
    obtain ⟨k, hk, rfl⟩ := List.mem_map.1 hs
    have hk' : k < units zs := List.mem_range.1 hk
    unfold ser
    rw [trimL_take]
    have := trimN_le (serL zs (16 + 32 * k)) (serL zs (16 + 32 * k)).length
    rw [sl k hk'] at this ⊢
    exact this
  refine list_getD (by rw [bytesX_len h20, lu, ls]; exact hz) (fun j hj => ?_)
  by_cases j1 : j < 16
  · rw [bytesX_head _ _ _ j1, headB_get _ _ _ j1, lu, ls]
    split
    · have := byte_of hb 0 2 j (by omega) 0 a2
      rw [Nat.zero_add] at this
      rw [this, bigB_at _ _ _ (by omega)]; simp
    split
    · have := byte_of hb 2 2 (j - 2) (by omega) _ rfl
      rw [show 2 + (j - 2) = j by omega] at this
      rw [this, show num zs 2 2 = ((32 * units zs : Nat) : Int) by omega]
    split
    · have := byte_of hb 4 4 (j - 4) (by omega) 0 a3
      rw [show 4 + (j - 4) = j by omega] at this
      rw [this, bigB_at _ _ _ (by omega)]; simp
    split
    · have := byte_of hb 8 4 (j - 8) (by omega) _ rfl
      rw [show 8 + (j - 8) = j by omega] at this
      rw [this, show num zs 8 4 = ((28 * segs zs : Nat) : Int) by omega]
    · have := byte_of hb 12 4 (j - 12) (by omega) 0 a4
      rw [show 12 + (j - 12) = j by omega] at this
      rw [this, bigB_at _ _ _ (by omega)]; simp
  by_cases j2 : j < 16 + 32 * units zs
  · obtain ⟨k, r, hk, hr, rfl⟩ : ∃ k r, k < units zs ∧ r < 32 ∧ j = 16 + 32 * k + r := ⟨(j - 16) / 32, (j - 16) % 32, by omega, by omega, by omega⟩
    have hs20 : (ser zs (16 + 32 * k)).length ≤ 20 := h20 _ (List.mem_of_getElem? (gu k hk))
    rw [bytesX_unit h20 k _ (gu k hk) r hr]
    obtain ⟨c1, c2, c3⟩ := unitF_none (h2 k hk)
    by_cases r1 : r < 8
    · rw [unitB_front r r1, c1 r r1]
    by_cases r2 : r < 28
    · obtain ⟨q, hq, rfl⟩ : ∃ q, q < 20 ∧ r = 8 + q := ⟨r - 8, by omega, by omega⟩
      rw [unitB_ser hs20 q hq]
      unfold ser
      rw [pad_trim (sl k hk)]
      unfold serL
      rw [getD_drop' _ _ _ _ hq, show 16 + 32 * k + (8 + q) = 16 + 32 * k + 8 + q by omega]
    · obtain ⟨q, hq, rfl⟩ : ∃ q, q < 4 ∧ r = 28 + q := ⟨r - 28, by omega, by omega⟩
      rw [unitB_end hs20]
      by_cases q0 : q = 0
      · subst q0
        exact c2
      · have := byte_of hb (16 + 32 * k + 29) 3 (q - 1) (by omega) _ c3
        rw [show 16 + 32 * k + 29 + (q - 1) = 16 + 32 * k + (28 + q) by omega] at this
        rw [this]
        rcases q with _ | _ | _ | _ | q
        · omega
        · rfl
        · rfl
        · rfl
        · omega
  · obtain ⟨k, r, hk, hr, rfl⟩ : ∃ k r, k < segs zs ∧ r < 28 ∧ j = 16 + 32 * units zs + 28 * k + r := ⟨(j - 16 - 32 * units zs) / 28, (j - 16 - 32 * units zs) % 28, by omega, by omega, by omega⟩
    have hB := bytesX_seg (ss := segsX zs (16 + 32 * units zs) (segs zs)) h20 k _ (gs k hk) r hr
    rw [lu] at hB
    rw [hB, segB_get _ _ hr]
    obtain ⟨c1, c2⟩ := segF_none (h3 k hk)
    generalize 16 + 32 * units zs + 28 * k = A at c1 c2
    split
    · have := byte_of hb A 4 r (by omega) _ c1
      rw [this]
      rcases r with _ | _ | _ | _ | r
      · rfl
      · rfl
      · rfl
      · rfl
      · omega
    split
    · have := byte_of hb (A + 4) 2 (r - 4) (by omega) _ rfl
      rw [show A + 4 + (r - 4) = A + r by omega] at this
      exact this
    split
    · have := byte_of hb (A + 6) 2 (r - 6) (by omega) _ rfl
      rw [show A + 6 + (r - 6) = A + r by omega] at this
      exact this
    split
    · have := byte_of hb (A + 8) 2 (r - 8) (by omega) _ c2
      rw [show A + 8 + (r - 8) = A + r by omega] at this
      rw [this, bigB_at _ _ _ (by omega)]; simp
    split
    · have := byte_of hb (A + 10) 2 (r - 10) (by omega) _ rfl
      rw [show A + 10 + (r - 10) = A + r by omega] at this
      exact this
    split
    · have := byte_of hb (A + 12) 8 (r - 12) (by omega) _ rfl
      rw [show A + 12 + (r - 12) = A + r by omega] at this
      exact this
    · have := byte_of hb (A + 20) 8 (r - 20) (by omega) _ rfl
      rw [show A + 20 + (r - 20) = A + r by omega] at this
      exact this
/-- A beginning of what was told is no list. -/
theorem parse_cut {us : List (List Int)} {ss : List Sg} (h : Form us ss) (i : Nat) (hi0 : i ≠ 0) (hi : i < (bytesX us ss).length) : (parseX ((bytesX us ss).take i)).ok = false := by
  obtain ⟨h1, h2, h3⟩ := head_bytes h
  have hl : ((bytesX us ss).take i).length = i := by rw [List.length_take]; omega
  cases hx : (parseX ((bytesX us ss).take i)).ok with
  | false => rfl
  | true =>
    have a := head_none (parse_ok (by omega) hx).1
    have b := head_none h1
    have e2 : num ((bytesX us ss).take i) 2 2 = num (bytesX us ss) 2 2 := num_congr 2 (fun j hj => by rw [List.getD_eq_getElem?_getD, List.getElem?_take_of_lt (by omega), ← List.getD_eq_getElem?_getD])
    have e8 : num ((bytesX us ss).take i) 8 4 = num (bytesX us ss) 8 4 := num_congr 4 (fun j hj => by rw [List.getD_eq_getElem?_getD, List.getElem?_take_of_lt (by omega), ← List.getD_eq_getElem?_getD])
    rw [e2, e8, hl] at a
    omega
theorem set_getD {zs : List Int} {i : Nat} {x : Int} (h : i < zs.length) : (zs.set i x).getD i 0 = x := by
  rw [List.getD_eq_getElem?_getD, List.getElem?_set_self h]; rfl
/-- A byte turned tells another list, or none. -/
theorem parse_spoil {us : List (List Int)} {ss : List Sg} (h : Form us ss) (i : Nat) (x : Int) (hi : i < (bytesX us ss).length) (hx : x ≠ (bytesX us ss).getD i 0) (hb : Bytes ((bytesX us ss).set i x)) : ¬ ((parseX ((bytesX us ss).set i x)).ok = true ∧ (parseX ((bytesX us ss).set i x)).us = us ∧ (parseX ((bytesX us ss).set i x)).ss = ss) := by
  rintro ⟨h1, h2, h3⟩
  have h4 := parse_inj hb (by rw [List.length_set]; omega) h1
  rw [h2, h3] at h4
  have h5 := set_getD (x := x) hi
  rw [h4] at h5
  exact hx h5.symm
theorem parse_longer {us : List (List Int)} {ss : List Sg} (h : Form us ss) (i : Nat) (x : Int) : (parseX ((bytesX us ss).set i x ++ [0])).ok = false := by
  cases hx : (parseX ((bytesX us ss).set i x ++ [0])).ok with
  | false => rfl
  | true =>
    have h1 := parse_len hx
    have hl := bytesX_len (us := us) (ss := ss) (fun s hs => (h.uu s hs).1)
    rw [List.length_append, List.length_set, hl] at h1
    simp at h1
    omega
theorem bytes_app {a b : List Int} (h1 : Bytes a) (h2 : Bytes b) : Bytes (a ++ b) := fun j => by
  by_cases h : j < a.length
  · rw [getD_app_l h]; exact h1 j
  · rw [getD_app_r (by omega)]; exact h2 _
theorem bytes_mem {a : List Int} (h : ∀ x ∈ a, 0 ≤ x ∧ x ≤ 255) : Bytes a := fun j => by
  rw [List.getD_eq_getElem?_getD]
  by_cases hj : j < a.length
  · rw [List.getElem?_eq_getElem hj]; exact h _ (List.getElem_mem hj)
  · rw [List.getElem?_eq_none (by omega)]; decide
theorem bytes_to {a : List Int} (h : Bytes a) : ∀ x ∈ a, 0 ≤ x ∧ x ≤ 255 := fun x hx => by
  obtain ⟨j, hj, rfl⟩ := List.mem_iff_getElem.1 hx
  have := h j
  rw [List.getD_eq_getElem?_getD, List.getElem?_eq_getElem hj] at this
  exact this
theorem bytes_bytesX {us : List (List Int)} {ss : List Sg} (hu : ∀ s ∈ us, Bytes s) : Bytes (bytesX us ss) := by
  refine bytes_app (bytes_app ?_ (bytes_mem fun x hx => ?_)) (bytes_mem fun x hx => ?_)
  · exact bytes_app (bytes_app (bytes_app (bytes_app (bytes_mem (by decide)) (bigB_bytes _ _)) (bytes_mem (by decide))) (bigB_bytes _ _)) (bytes_mem (by decide))
  · obtain ⟨s, hs, hx⟩ := List.mem_flatMap.1 hx
    refine bytes_to (bytes_app (bytes_app (bytes_mem (by decide)) (bytes_app (hu s hs) (bytes_mem fun y hy => ?_))) (bytes_mem (by decide))) x hx
    have := (List.mem_replicate.1 hy).2
    omega
  · obtain ⟨g, hg, hx⟩ := List.mem_flatMap.1 hx
    exact bytes_to (bytes_app (bytes_app (bytes_app (bytes_app (bytes_app (bytes_app (bytes_mem (by decide)) (bigB_bytes _ _)) (bigB_bytes _ _)) (bytes_mem (by decide))) (bigB_bytes _ _)) (bigB_bytes _ _)) (bigB_bytes _ _)) x hx
end Go.Proofs.YtnebcbfjlkhimaaDoor
