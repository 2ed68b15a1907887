/-
  Plain facts on the two check sums, as registers that are natural numbers: no program is looked at here.
-/
import Derived.Laws.BitsAllLaws
namespace Go.Proofs.Ytigfoldobkigeaa

/-! ### CRC32C -/

/-- One bit. -/
def b32 (r : Nat) : Nat := if r % 2 = 1 then r / 2 ^^^ 2197175160 else r / 2

def it32 : Nat → Nat → Nat
  | 0, r => r
  | k + 1, r => b32 (it32 k r)

/-- One byte. -/
def s32 (r x : Nat) : Nat := it32 8 (r ^^^ x)

/-- A list of bytes. -/
def reg32 (r : Nat) (zs : List Int) : Nat := zs.foldl (fun r z => s32 r z.toNat) r

theorem b32_lt (r : Nat) (h : r < 4294967296) : b32 r < 4294967296 := by
  unfold b32
  split
  · have : r / 2 ^^^ 2197175160 < 2 ^ 32 := Nat.xor_lt_two_pow (by omega) (by omega)
    omega
  · omega

theorem it32_lt (k r : Nat) (h : r < 4294967296) : it32 k r < 4294967296 := by
  induction k with
  | zero => exact h
  | succ k ih => exact b32_lt _ ih

theorem xor_lt32 (a b : Nat) (ha : a < 4294967296) (hb : b < 4294967296) : a ^^^ b < 4294967296 := by
  have : a ^^^ b < 2 ^ 32 := Nat.xor_lt_two_pow (by omega) (by omega)
  omega

theorem s32_lt (r x : Nat) (h : r < 4294967296) (hx : x < 256) : s32 r x < 4294967296 :=
  it32_lt _ _ (xor_lt32 _ _ h (by omega))

theorem reg32_lt (zs : List Int) (hz : ∀ z ∈ zs, 0 ≤ z ∧ z ≤ 255) : ∀ r, r < 4294967296 → reg32 r zs < 4294967296 := by
  induction zs with
  | nil => intro r h; exact h
  | cons z zs ih =>
    intro r h
    have hz0 := hz z (by simp)
    exact ih (fun y hy => hz y (by simp [hy])) _ (s32_lt _ _ h (by omega))

theorem reg32_append (r : Nat) (xs ys : List Int) : reg32 r (xs ++ ys) = reg32 (reg32 r xs) ys := by
  unfold reg32; rw [List.foldl_append]

/-- The document's road, bit by bit: what it has behind j bits of a byte. -/
def d32 (r x : Nat) : Nat → Nat
  | 0 => r
  | j + 1 => if (d32 r x j ^^^ (x / 2 ^ j % 2)) % 2 = 1 then d32 r x j / 2 ^^^ 2197175160 else d32 r x j / 2

theorem xor_div2 (a b : Nat) : (a ^^^ b) / 2 = a / 2 ^^^ b / 2 := by
  have h := @Nat.shiftRight_xor_distrib 1 a b
  simpa [Nat.shiftRight_eq_div_pow] using h

theorem xor_mod1 (a b : Nat) : (a ^^^ b) % 2 = a % 2 ^^^ b % 2 := by
  have h := @Nat.xor_mod_two_pow a b 1
  simpa using h

theorem xor_swap (a b p : Nat) : a ^^^ b ^^^ p = a ^^^ p ^^^ b := by
  rw [Nat.xor_assoc, Nat.xor_comm b p, ← Nat.xor_assoc]

theorem d32_it (r x : Nat) : ∀ j, it32 j (r ^^^ x) = d32 r x j ^^^ x / 2 ^ j
  | 0 => by simp [it32, d32]
  | j + 1 => by
    have ih := d32_it r x j
    have hm : (d32 r x j ^^^ x / 2 ^ j) % 2 = (d32 r x j ^^^ (x / 2 ^ j % 2)) % 2 := by
      rw [xor_mod1, xor_mod1, Nat.mod_mod]
    have hd : x / 2 ^ j / 2 = x / 2 ^ (j + 1) := by rw [Nat.div_div_eq_div_mul, Nat.pow_succ]
    rw [it32, ih, b32, hm, xor_div2, hd, d32]
    by_cases h : (d32 r x j ^^^ (x / 2 ^ j % 2)) % 2 = 1
    · rw [if_pos h, if_pos h, xor_swap]
    · rw [if_neg h, if_neg h]

theorem d32_s (r x : Nat) (hx : x < 256) : d32 r x 8 = s32 r x := by
  have h := d32_it r x 8
  rw [show x / 2 ^ 8 = 0 by omega, Nat.xor_zero] at h
  exact h.symm

theorem d32_lt (r x : Nat) (h : r < 4294967296) : ∀ j, d32 r x j < 4294967296
  | 0 => h
  | j + 1 => by
    have ih := d32_lt r x h j
    unfold d32
    split
    · exact xor_lt32 _ _ (by omega) (by omega)
    · omega

/-! ### The guard -/

def b16 (r : Nat) : Nat := if r / 32768 = 1 then r * 2 % 65536 ^^^ 35767 else r * 2 % 65536

def it16 : Nat → Nat → Nat
  | 0, r => r
  | k + 1, r => b16 (it16 k r)

def s16 (r x : Nat) : Nat := it16 8 (r ^^^ x * 256)

def reg16 (r : Nat) (zs : List Int) : Nat := zs.foldl (fun r z => s16 r z.toNat) r

theorem xor_lt16 (a b : Nat) (ha : a < 65536) (hb : b < 65536) : a ^^^ b < 65536 := by
  have : a ^^^ b < 2 ^ 16 := Nat.xor_lt_two_pow (by omega) (by omega)
  omega

theorem b16_lt (r : Nat) : b16 r < 65536 := by
  unfold b16
  split
  · exact xor_lt16 _ _ (by omega) (by omega)
  · omega

theorem it16_lt (k r : Nat) (h : r < 65536) : it16 k r < 65536 := by
  cases k with
  | zero => exact h
  | succ k => exact b16_lt _

theorem s16_lt (r x : Nat) (h : r < 65536) (hx : x < 256) : s16 r x < 65536 :=
  it16_lt _ _ (xor_lt16 _ _ h (by omega))

theorem reg16_lt (zs : List Int) (hz : ∀ z ∈ zs, 0 ≤ z ∧ z ≤ 255) : ∀ r, r < 65536 → reg16 r zs < 65536 := by
  induction zs with
  | nil => intro r h; exact h
  | cons z zs ih =>
    intro r h
    have hz0 := hz z (by simp)
    exact ih (fun y hy => hz y (by simp [hy])) _ (s16_lt _ _ h (by omega))

theorem reg16_append (r : Nat) (xs ys : List Int) : reg16 r (xs ++ ys) = reg16 (reg16 r xs) ys := by
  unfold reg16; rw [List.foldl_append]

def d16 (r x : Nat) : Nat → Nat
  | 0 => r
  | j + 1 => if d16 r x j / 32768 ^^^ (x / 2 ^ (7 - j) % 2) = 1 then d16 r x j * 2 % 65536 ^^^ 35767 else d16 r x j * 2 % 65536

theorem d16_lt (r x : Nat) (h : r < 65536) : ∀ j, d16 r x j < 65536
  | 0 => h
  | j + 1 => by
    unfold d16
    split
    · exact xor_lt16 _ _ (by omega) (by omega)
    · omega

theorem xor_mod16 (a b : Nat) : (a ^^^ b) % 65536 = a % 65536 ^^^ b % 65536 := by
  have h := @Nat.xor_mod_two_pow a b 16
  simpa using h

theorem xor_mul2 (a b : Nat) : (a ^^^ b) * 2 = a * 2 ^^^ b * 2 := by
  have h := @Nat.shiftLeft_xor_distrib 1 a b
  simpa [Nat.shiftLeft_eq] using h

theorem xor_div15 (a b : Nat) : (a ^^^ b) / 32768 = a / 32768 ^^^ b / 32768 := by
  have h := @Nat.shiftRight_xor_distrib 15 a b
  simpa [Nat.shiftRight_eq_div_pow] using h

theorem top_bit (x j : Nat) (hx : x < 256) (hj : j < 8) : x * 2 ^ (8 + j) % 65536 / 32768 = x / 2 ^ (7 - j) % 2 := by
  have h : j = 0 ∨ j = 1 ∨ j = 2 ∨ j = 3 ∨ j = 4 ∨ j = 5 ∨ j = 6 ∨ j = 7 := by omega
  rcases h with rfl | rfl | rfl | rfl | rfl | rfl | rfl | rfl <;> omega

theorem d16_it (r x : Nat) (hx : x < 256) : ∀ j, j ≤ 8 → it16 j (r ^^^ x * 256) = d16 r x j ^^^ x * 2 ^ (8 + j) % 65536
  | 0, _ => by rw [it16, d16, show x * 2 ^ (8 + 0) % 65536 = x * 256 by omega]
  | j + 1, hj => by
    have ih := d16_it r x hx j (by omega)
    have ht := top_bit x j hx (by omega)
    have hs : x * 2 ^ (8 + j) % 65536 * 2 % 65536 = x * 2 ^ (8 + (j + 1)) % 65536 := by
      rw [show 8 + (j + 1) = (8 + j) + 1 by omega, Nat.pow_succ, ← Nat.mul_assoc]; omega
    rw [it16, ih, b16, xor_div15, ht, xor_mul2, xor_mod16, hs, d16]
    by_cases h : d16 r x j / 32768 ^^^ (x / 2 ^ (7 - j) % 2) = 1
    · rw [if_pos h, if_pos h, xor_swap]
    · rw [if_neg h, if_neg h]

theorem d16_s (r x : Nat) (hx : x < 256) : d16 r x 8 = s16 r x := by
  have h := d16_it r x hx 8 (Nat.le_refl _)
  rw [show x * 2 ^ (8 + 8) % 65536 = 0 by omega, Nat.xor_zero] at h
  exact h.symm

theorem take_step (Z : List Int) (k : Nat) (h : k < Z.length) : Z.take (k + 1) = Z.take k ++ [Z.getD k 0] := by
  rw [List.take_succ_eq_append_getElem h, List.getD_eq_getElem?_getD, List.getElem?_eq_getElem h]; rfl

/-! ### Unlike registers stay unlike -/

theorem xor_cancel (a b p : Nat) (h : a ^^^ p = b ^^^ p) : a = b := by
  have h2 : a ^^^ p ^^^ p = b ^^^ p ^^^ p := by rw [h]
  rwa [Nat.xor_assoc, Nat.xor_assoc, Nat.xor_self, Nat.xor_zero, Nat.xor_zero] at h2

theorem xor_move (a b p : Nat) (h : a ^^^ p = b) : p = a ^^^ b := by
  rw [← h, ← Nat.xor_assoc, Nat.xor_self, Nat.zero_xor]

theorem b32_inj (r s : Nat) (hr : r < 4294967296) (hs : s < 4294967296) (h : b32 r = b32 s) : r = s := by
  unfold b32 at h
  by_cases h1 : r % 2 = 1
  · by_cases h2 : s % 2 = 1
    · rw [if_pos h1, if_pos h2] at h
      have := xor_cancel _ _ _ h
      omega
    · rw [if_pos h1, if_neg h2] at h
      have h3 := xor_move _ _ _ h
      have h4 : r / 2 ^^^ s / 2 < 2 ^ 31 := Nat.xor_lt_two_pow (by omega) (by omega)
      omega
  · by_cases h2 : s % 2 = 1
    · rw [if_neg h1, if_pos h2] at h
      have h3 := xor_move _ _ _ h.symm
      have h4 : s / 2 ^^^ r / 2 < 2 ^ 31 := Nat.xor_lt_two_pow (by omega) (by omega)
      omega
    · rw [if_neg h1, if_neg h2] at h
      omega

theorem it32_inj (k r s : Nat) (hr : r < 4294967296) (hs : s < 4294967296) (h : it32 k r = it32 k s) : r = s := by
  induction k with
  | zero => exact h
  | succ k ih => exact ih (b32_inj _ _ (it32_lt k r hr) (it32_lt k s hs) h)

theorem s32_inj (r s x y : Nat) (hr : r < 4294967296) (hs : s < 4294967296) (hx : x < 256) (hy : y < 256) (h : s32 r x = s32 s y) : r ^^^ x = s ^^^ y :=
  it32_inj 8 _ _ (xor_lt32 _ _ hr (by omega)) (xor_lt32 _ _ hs (by omega)) h

theorem reg32_inj (zs : List Int) (hz : ∀ z ∈ zs, 0 ≤ z ∧ z ≤ 255) : ∀ r s, r < 4294967296 → s < 4294967296 → reg32 r zs = reg32 s zs → r = s := by
  induction zs with
  | nil => intro r s _ _ h; exact h
  | cons z zs ih =>
    intro r s hr hs h
    have hz0 := hz z (by simp)
    have h2 := ih (fun y hy => hz y (by simp [hy])) _ _ (s32_lt r z.toNat hr (by omega)) (s32_lt s z.toNat hs (by omega)) h
    exact xor_cancel _ _ _ (s32_inj r s _ _ hr hs (by omega) (by omega) h2)

theorem b16_inj (r s : Nat) (hr : r < 65536) (hs : s < 65536) (h : b16 r = b16 s) : r = s := by
  unfold b16 at h
  by_cases h1 : r / 32768 = 1
  · by_cases h2 : s / 32768 = 1
    · rw [if_pos h1, if_pos h2] at h
      have := xor_cancel _ _ _ h
      omega
    · rw [if_pos h1, if_neg h2] at h
      have h3 := congrArg (· % 2) h
      simp only [xor_mod1] at h3
      rw [show r * 2 % 65536 % 2 = 0 by omega, show s * 2 % 65536 % 2 = 0 by omega] at h3
      simp at h3
  · by_cases h2 : s / 32768 = 1
    · rw [if_neg h1, if_pos h2] at h
      have h3 := congrArg (· % 2) h
      simp only [xor_mod1] at h3
      rw [show r * 2 % 65536 % 2 = 0 by omega, show s * 2 % 65536 % 2 = 0 by omega] at h3
      simp at h3
    · rw [if_neg h1, if_neg h2] at h
      omega

theorem it16_inj (k r s : Nat) (hr : r < 65536) (hs : s < 65536) (h : it16 k r = it16 k s) : r = s := by
  induction k with
  | zero => exact h
  | succ k ih => exact ih (b16_inj _ _ (it16_lt k r hr) (it16_lt k s hs) h)

theorem s16_inj (r s x y : Nat) (hr : r < 65536) (hs : s < 65536) (hx : x < 256) (hy : y < 256) (h : s16 r x = s16 s y) : r ^^^ x * 256 = s ^^^ y * 256 :=
  it16_inj 8 _ _ (xor_lt16 _ _ hr (by omega)) (xor_lt16 _ _ hs (by omega)) h

theorem reg16_inj (zs : List Int) (hz : ∀ z ∈ zs, 0 ≤ z ∧ z ≤ 255) : ∀ r s, r < 65536 → s < 65536 → reg16 r zs = reg16 s zs → r = s := by
  induction zs with
  | nil => intro r s _ _ h; exact h
  | cons z zs ih =>
    intro r s hr hs h
    have hz0 := hz z (by simp)
    have h2 := ih (fun y hy => hz y (by simp [hy])) _ _ (s16_lt r z.toNat hr (by omega)) (s16_lt s z.toNat hs (by omega)) h
    exact xor_cancel _ _ _ (s16_inj r s _ _ hr hs (by omega) (by omega) h2)

theorem set_split (Z : List Int) (i : Nat) (y : Int) (hi : i < Z.length) : Z = Z.take i ++ Z.getD i 0 :: Z.drop (i + 1) ∧ Z.set i y = Z.take i ++ y :: Z.drop (i + 1) := by
  constructor
  · rw [List.getD_eq_getElem?_getD, List.getElem?_eq_getElem hi]
    simp
  · rw [List.set_eq_take_append_cons_drop, if_pos hi]

theorem tells32 (Z : List Int) (hz : ∀ z ∈ Z, 0 ≤ z ∧ z ≤ 255) (i : Nat) (hi : i < Z.length) (y : Nat) (hy : y < 256) (hne : (Z.getD i 0).toNat ≠ y) (r : Nat) (hr : r < 4294967296) : reg32 r Z ≠ reg32 r (Z.set i (y : Int)) := by
  obtain ⟨e1, e2⟩ := set_split Z i (y : Int) hi
  have hA : ∀ z ∈ Z.take i, 0 ≤ z ∧ z ≤ 255 := fun z h => hz z (List.mem_of_mem_take h)
  have hB : ∀ z ∈ Z.drop (i + 1), 0 ≤ z ∧ z ≤ 255 := fun z h => hz z (List.mem_of_mem_drop h)
  have hx : 0 ≤ Z.getD i 0 ∧ Z.getD i 0 ≤ 255 := by
    apply hz
    rw [List.getD_eq_getElem?_getD, List.getElem?_eq_getElem hi]
    exact List.getElem_mem hi
  intro h
  have hq := reg32_lt _ hA r hr
  rw [e2] at h
  have h1 : reg32 r (Z.take i ++ Z.getD i 0 :: Z.drop (i + 1)) = reg32 r (Z.take i ++ (y : Int) :: Z.drop (i + 1)) := by rw [← e1]; exact h
  rw [reg32_append, reg32_append] at h1
  have h2 := reg32_inj _ hB _ _ (s32_lt _ (Z.getD i 0).toNat hq (by omega)) (s32_lt _ (y : Int).toNat hq (by omega)) h1
  have h3 := s32_inj _ _ _ _ hq hq (by omega) (by omega) h2
  rw [Nat.xor_comm, Nat.xor_comm (reg32 r (Z.take i))] at h3
  have h4 := xor_cancel _ _ _ h3
  omega

theorem tells16 (Z : List Int) (hz : ∀ z ∈ Z, 0 ≤ z ∧ z ≤ 255) (i : Nat) (hi : i < Z.length) (y : Nat) (hy : y < 256) (hne : (Z.getD i 0).toNat ≠ y) (r : Nat) (hr : r < 65536) : reg16 r Z ≠ reg16 r (Z.set i (y : Int)) := by
  obtain ⟨e1, e2⟩ := set_split Z i (y : Int) hi
  have hA : ∀ z ∈ Z.take i, 0 ≤ z ∧ z ≤ 255 := fun z h => hz z (List.mem_of_mem_take h)
  have hB : ∀ z ∈ Z.drop (i + 1), 0 ≤ z ∧ z ≤ 255 := fun z h => hz z (List.mem_of_mem_drop h)
  have hx : 0 ≤ Z.getD i 0 ∧ Z.getD i 0 ≤ 255 := by
    apply hz
    rw [List.getD_eq_getElem?_getD, List.getElem?_eq_getElem hi]
    exact List.getElem_mem hi
  intro h
  have hq := reg16_lt _ hA r hr
  rw [e2] at h
  have h1 : reg16 r (Z.take i ++ Z.getD i 0 :: Z.drop (i + 1)) = reg16 r (Z.take i ++ (y : Int) :: Z.drop (i + 1)) := by rw [← e1]; exact h
  rw [reg16_append, reg16_append] at h1
  have h2 := reg16_inj _ hB _ _ (s16_lt _ (Z.getD i 0).toNat hq (by omega)) (s16_lt _ (y : Int).toNat hq (by omega)) h1
  have h3 := s16_inj _ _ _ _ hq hq (by omega) (by omega) h2
  rw [Nat.xor_comm, Nat.xor_comm (reg16 r (Z.take i))] at h3
  have h4 := xor_cancel _ _ _ h3
  omega

/-! ### The guard of bytes xored -/

theorem b16_xor (a b : Nat) (ha : a < 65536) (hb : b < 65536) : b16 (a ^^^ b) = b16 a ^^^ b16 b := by
  have hd := xor_div15 a b
  have hm : (a ^^^ b) * 2 % 65536 = a * 2 % 65536 ^^^ b * 2 % 65536 := by rw [xor_mul2, xor_mod16]
  unfold b16
  rw [hd, hm]
  by_cases h1 : a / 32768 = 1
  · by_cases h2 : b / 32768 = 1
    · rw [if_pos h1, if_pos h2, h1, h2, if_neg (by decide), Nat.xor_assoc, Nat.xor_comm 35767, Nat.xor_assoc, Nat.xor_self, Nat.xor_zero]
    · rw [if_pos h1, if_neg h2, h1, show b / 32768 = 0 by omega, if_pos (by decide), xor_swap]
  · by_cases h2 : b / 32768 = 1
    · rw [if_neg h1, if_pos h2, h2, show a / 32768 = 0 by omega, if_pos (by decide), Nat.xor_assoc]
    · rw [if_neg h1, if_neg h2, show a / 32768 = 0 by omega, show b / 32768 = 0 by omega, if_neg (by decide)]

theorem it16_xor (k a b : Nat) (ha : a < 65536) (hb : b < 65536) : it16 k (a ^^^ b) = it16 k a ^^^ it16 k b := by
  induction k with
  | zero => rfl
  | succ k ih => rw [it16, it16, it16, ih, b16_xor _ _ (it16_lt k a ha) (it16_lt k b hb)]

theorem xor_mul256 (a b : Nat) : (a ^^^ b) * 256 = a * 256 ^^^ b * 256 := by
  have h := @Nat.shiftLeft_xor_distrib 8 a b
  simpa [Nat.shiftLeft_eq] using h

theorem s16_xor (r s x y : Nat) (hr : r < 65536) (hs : s < 65536) (hx : x < 256) (hy : y < 256) : s16 (r ^^^ s) (x ^^^ y) = s16 r x ^^^ s16 s y := by
  unfold s16
  rw [← it16_xor 8 _ _ (xor_lt16 _ _ hr (by omega)) (xor_lt16 _ _ hs (by omega)), xor_mul256]
  congr 1
  rw [Nat.xor_assoc, Nat.xor_assoc]
  congr 1
  rw [← Nat.xor_assoc, ← Nat.xor_assoc, Nat.xor_comm s]

/-- The bytes of two lists, xored one by one, as many as k. -/
def xors (Z Y : List Int) : Nat → List Int
  | 0 => []
  | k + 1 => xors Z Y k ++ [((((Z.getD k 0).toNat ^^^ (Y.getD k 0).toNat : Nat)) : Int)]

theorem xors_len (Z Y : List Int) : ∀ k, (xors Z Y k).length = k
  | 0 => rfl
  | k + 1 => by simp [xors, xors_len Z Y k]

theorem xors_reg (Z Y : List Int) (hZ : ∀ z ∈ Z, 0 ≤ z ∧ z ≤ 255) (hY : ∀ z ∈ Y, 0 ≤ z ∧ z ≤ 255) : ∀ k, k ≤ Z.length → k ≤ Y.length → reg16 0 (xors Z Y k) = reg16 0 (Z.take k) ^^^ reg16 0 (Y.take k)
  | 0, _, _ => by simp [xors, reg16]
  | k + 1, h1, h2 => by
    have ih := xors_reg Z Y hZ hY k (by omega) (by omega)
    have hz : 0 ≤ Z.getD k 0 ∧ Z.getD k 0 ≤ 255 := by
      apply hZ; rw [List.getD_eq_getElem?_getD, List.getElem?_eq_getElem (by omega)]; exact List.getElem_mem _
    have hy : 0 ≤ Y.getD k 0 ∧ Y.getD k 0 ≤ 255 := by
      apply hY; rw [List.getD_eq_getElem?_getD, List.getElem?_eq_getElem (by omega)]; exact List.getElem_mem _
    rw [take_step Z k (by omega), take_step Y k (by omega), xors, reg16_append, reg16_append, reg16_append, ih]
    exact s16_xor _ _ _ _ (reg16_lt _ (fun z h => hZ z (List.mem_of_mem_take h)) 0 (by omega)) (reg16_lt _ (fun z h => hY z (List.mem_of_mem_take h)) 0 (by omega)) (by omega) (by omega)

/-! ### As the program spells it -/

theorem and1_32 (R : Nat) (hR : R < 4294967296) : bits BinOp.and IntKind.u32 (R : Int) 1 = ((R % 2 : Nat) : Int) := by
  have h := u32_and_nat R 1 hR (by omega)
  rw [Nat.and_one_is_mod] at h
  exact h

theorem xor32 (a b : Nat) (ha : a < 4294967296) (hb : b < 4294967296) : bits BinOp.xor IntKind.u32 (a : Int) (b : Int) = ((a ^^^ b : Nat) : Int) := u32_xor_nat a b ha hb

theorem half_cast (R : Nat) : (R : Int) / 2 = ((R / 2 : Nat) : Int) := by omega

theorem w32_yes (R : Nat) (hR : R < 4294967296) (h : (bits BinOp.and IntKind.u32 (R : Int) 1 == 1) = true) : bits BinOp.xor IntKind.u32 ((R : Int) / 2) 2197175160 = ((b32 R : Nat) : Int) := by
  rw [and1_32 R hR] at h
  have h1 : R % 2 = 1 := by have : ((R % 2 : Nat) : Int) = 1 := (by simpa using h); omega
  rw [half_cast, b32, if_pos h1]
  exact xor32 (R / 2) 2197175160 (by omega) (by omega)

theorem w32_no (R : Nat) (hR : R < 4294967296) (h : (bits BinOp.and IntKind.u32 (R : Int) 1 == 1) = false) : (R : Int) / 2 = ((b32 R : Nat) : Int) := by
  rw [and1_32 R hR] at h
  have h1 : ¬ R % 2 = 1 := by
    intro h0; rw [h0] at h; simp at h
  rw [half_cast, b32, if_neg h1]

theorem wrap16_dbl (R : Nat) : IntKind.u16.wrap ((R : Int) * 2) = ((R * 2 % 65536 : Nat) : Int) := by
  rw [IntKind.wrap_u16]; omega

theorem w16_yes (R : Nat) (h : ((R : Int) / 32768 == 1) = true) : bits BinOp.xor IntKind.u16 (IntKind.u16.wrap ((R : Int) * 2)) 35767 = ((b16 R : Nat) : Int) := by
  have h1 : R / 32768 = 1 := by have : (R : Int) / 32768 = 1 := (by simpa using h); omega
  rw [wrap16_dbl, b16, if_pos h1]
  exact u16_xor_nat (R * 2 % 65536) 35767 (by omega) (by omega)

theorem w16_no (R : Nat) (h : ((R : Int) / 32768 == 1) = false) : IntKind.u16.wrap ((R : Int) * 2) = ((b16 R : Nat) : Int) := by
  have h1 : ¬ R / 32768 = 1 := by have : ¬ (R : Int) / 32768 = 1 := (by simpa using h); omega
  rw [wrap16_dbl, b16, if_neg h1]

theorem xor_ones (s : Nat) (hs : s < 4294967296) : 4294967295 ^^^ s = 4294967295 - s := by
  apply Nat.eq_of_testBit_eq
  intro i
  rw [Nat.testBit_xor, show 4294967295 - s = 2 ^ 32 - (s + 1) by omega, Nat.testBit_two_pow_sub_succ (by omega), show (4294967295 : Nat) = 2 ^ 32 - 1 by omega, Nat.testBit_two_pow_sub_one]
  by_cases h : i < 32
  · simp [h]
  · have : s.testBit i = false := Nat.testBit_lt_two_pow (Nat.lt_of_lt_of_le (show s < 2 ^ 32 by omega) (Nat.pow_le_pow_right (by decide) (by omega)))
    simp [h, this]

theorem not32' (s : Nat) (hs : s < 4294967296) : bits BinOp.xor IntKind.u32 (s : Int) 4294967295 = ((4294967295 - s : Nat) : Int) := by
  have h := u32_xor_nat s 4294967295 hs (by omega)
  rw [Nat.xor_comm, xor_ones s hs] at h
  exact h

theorem cast_div (X j : Nat) : (X : Int) / 2 ^ j = ((X / 2 ^ j : Nat) : Int) := by
  rw [Int.natCast_ediv]; simp

theorem t32 (D X j : Nat) (hD : D < 4294967296) (hX : X < 256) :
    bits BinOp.and IntKind.u32 (bits BinOp.xor IntKind.u32 (D : Int) (bits BinOp.and IntKind.u32 ((X : Int) / 2 ^ j % 4294967296) 1)) 1 = (((D ^^^ (X / 2 ^ j % 2)) % 2 : Nat) : Int) := by
  have hq : X / 2 ^ j ≤ X := Nat.div_le_self _ _
  rw [cast_div]
  generalize X / 2 ^ j = q at *
  rw [show (q : Int) % 4294967296 = (q : Int) by omega, and1_32 _ (by omega), xor32 _ _ hD (by omega), and1_32 _ (xor_lt32 _ _ hD (by omega))]

theorem r32_yes (R X j D : Nat) (hD : D < 4294967296) (hX : X < 256) (e : D = d32 R X j)
    (h : (bits BinOp.and IntKind.u32 (bits BinOp.xor IntKind.u32 (D : Int) (bits BinOp.and IntKind.u32 ((X : Int) / 2 ^ j % 4294967296) 1)) 1 == 1) = true) :
    bits BinOp.xor IntKind.u32 ((D : Int) / 2) 2197175160 = ((d32 R X (j + 1) : Nat) : Int) := by
  rw [t32 D X j hD hX] at h
  have h1 : (D ^^^ (X / 2 ^ j % 2)) % 2 = 1 := by have : (((D ^^^ (X / 2 ^ j % 2)) % 2 : Nat) : Int) = 1 := (by simpa using h); omega
  rw [half_cast, d32, ← e, if_pos h1]
  exact xor32 (D / 2) 2197175160 (by omega) (by omega)

theorem r32_no (R X j D : Nat) (hD : D < 4294967296) (hX : X < 256) (e : D = d32 R X j)
    (h : (bits BinOp.and IntKind.u32 (bits BinOp.xor IntKind.u32 (D : Int) (bits BinOp.and IntKind.u32 ((X : Int) / 2 ^ j % 4294967296) 1)) 1 == 1) = false) :
    (D : Int) / 2 = ((d32 R X (j + 1) : Nat) : Int) := by
  rw [t32 D X j hD hX] at h
  have h1 : ¬ (D ^^^ (X / 2 ^ j % 2)) % 2 = 1 := by
    intro h0; rw [h0] at h; simp at h
  rw [half_cast, d32, ← e, if_neg h1]

theorem and1_16 (R : Nat) (hR : R < 65536) : bits BinOp.and IntKind.u16 (R : Int) 1 = ((R % 2 : Nat) : Int) := by
  have h := u16_and_nat R 1 hR (by omega)
  rw [Nat.and_one_is_mod] at h
  exact h

theorem t16 (D X j : Nat) (hD : D < 65536) (hX : X < 256) :
    bits BinOp.xor IntKind.u16 ((D : Int) / 32768) (bits BinOp.and IntKind.u16 (IntKind.u16.wrap ((X : Int) / 2 ^ (7 - j))) 1) = ((D / 32768 ^^^ (X / 2 ^ (7 - j) % 2) : Nat) : Int) := by
  have hq : X / 2 ^ (7 - j) ≤ X := Nat.div_le_self _ _
  rw [cast_div]
  generalize X / 2 ^ (7 - j) = q at *
  rw [IntKind.wrap_u16, show (q : Int) % 65536 = (q : Int) by omega, and1_16 _ (by omega), show (D : Int) / 32768 = ((D / 32768 : Nat) : Int) by omega]
  exact u16_xor_nat _ _ (by omega) (by omega)

theorem r16_yes (R X j D : Nat) (hD : D < 65536) (hX : X < 256) (e : D = d16 R X j)
    (h : (bits BinOp.xor IntKind.u16 ((D : Int) / 32768) (bits BinOp.and IntKind.u16 (IntKind.u16.wrap ((X : Int) / 2 ^ (7 - j))) 1) == 1) = true) :
    bits BinOp.xor IntKind.u16 (IntKind.u16.wrap ((D : Int) * 2)) 35767 = ((d16 R X (j + 1) : Nat) : Int) := by
  rw [t16 D X j hD hX] at h
  have h1 : D / 32768 ^^^ (X / 2 ^ (7 - j) % 2) = 1 := by have : ((D / 32768 ^^^ (X / 2 ^ (7 - j) % 2) : Nat) : Int) = 1 := (by simpa using h); omega
  rw [wrap16_dbl, d16, ← e, if_pos h1]
  exact u16_xor_nat (D * 2 % 65536) 35767 (by omega) (by omega)

theorem r16_no (R X j D : Nat) (hD : D < 65536) (hX : X < 256) (e : D = d16 R X j)
    (h : (bits BinOp.xor IntKind.u16 ((D : Int) / 32768) (bits BinOp.and IntKind.u16 (IntKind.u16.wrap ((X : Int) / 2 ^ (7 - j))) 1) == 1) = false) :
    IntKind.u16.wrap ((D : Int) * 2) = ((d16 R X (j + 1) : Nat) : Int) := by
  rw [t16 D X j hD hX] at h
  have h1 : ¬ D / 32768 ^^^ (X / 2 ^ (7 - j) % 2) = 1 := by
    intro h0; rw [h0] at h; simp at h
  rw [wrap16_dbl, d16, ← e, if_neg h1]

theorem not32 (s : Nat) (hs : s < 4294967296) : bits BinOp.xor IntKind.u32 IntKind.u32.max (s : Int) = ((4294967295 - s : Nat) : Int) := by
  have h := u32_xor_nat 4294967295 s (by omega) hs
  rw [xor_ones s hs] at h
  exact h

theorem xorbyte32 (R X : Nat) (hR : R < 4294967296) (hX : X < 256) : bits BinOp.xor IntKind.u32 (R : Int) (X : Int) = ((R ^^^ X : Nat) : Int) := by
  exact u32_xor_nat R X hR (by omega)

theorem xorbyte16 (R X : Nat) (hR : R < 65536) (hX : X < 256) : bits BinOp.xor IntKind.u16 (R : Int) ((X : Int) * 256) = ((R ^^^ X * 256 : Nat) : Int) := by
  rw [show (X : Int) * 256 = ((X * 256 : Nat) : Int) by omega]
  exact u16_xor_nat R (X * 256) hR (by omega)

theorem reg32_step (r : Nat) (Z : List Int) (k : Nat) (h : k < Z.length) : reg32 r (Z.take (k + 1)) = s32 (reg32 r (Z.take k)) (Z.getD k 0).toNat := by
  rw [take_step Z k h, reg32_append]; rfl

theorem reg16_step (r : Nat) (Z : List Int) (k : Nat) (h : k < Z.length) : reg16 r (Z.take (k + 1)) = s16 (reg16 r (Z.take k)) (Z.getD k 0).toNat := by
  rw [take_step Z k h, reg16_append]; rfl

/-! ### The examples -/

def digits : List Int := [49, 50, 51, 52, 53, 54, 55, 56, 57]
theorem digits32 : reg32 4294967295 digits = 4294967295 - 3808858755 := by decide +kernel
theorem digits16 : reg16 0 digits = 53467 := by decide +kernel

end Go.Proofs.Ytigfoldobkigeaa
