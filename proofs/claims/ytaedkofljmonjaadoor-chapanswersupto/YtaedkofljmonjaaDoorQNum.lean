/-
  Plain facts on the sum of bytes (four numbers of 32 bits, turned block by block): no program is looked at here.
-/
import Derived.Laws.BitsAllLaws
namespace Go.Proofs.YtaedkofljmonjaaDoor
set_option linter.unusedVariables false

/-- What a step makes of three numbers. -/
def fN (i b c d : Nat) : Nat :=
  if i / 16 = 0 then (b &&& c) ||| ((4294967295 ^^^ b) &&& d)
  else if i / 16 = 1 then (d &&& b) ||| ((4294967295 ^^^ d) &&& c)
  else if i / 16 = 2 then (b ^^^ c) ^^^ d
  else c ^^^ (b ||| (4294967295 ^^^ d))

/-- Which word of the block it takes. -/
def gN (i : Nat) : Nat :=
  if i / 16 = 0 then i else if i / 16 = 1 then (5 * i + 1) % 16 else if i / 16 = 2 then (3 * i + 5) % 16 else 7 * i % 16

/-- Turned to the left. -/
def rotN (x n : Nat) : Nat := (x * 2 ^ n % 4294967296) ||| (x / 2 ^ (32 - n))

def kL : List Nat := [3614090360, 3905402710, 606105819, 3250441966, 4118548399, 1200080426, 2821735955, 4249261313, 1770035416, 2336552879, 4294925233, 2304563134, 1804603682, 4254626195, 2792965006, 1236535329, 4129170786, 3225465664, 643717713, 3921069994, 3593408605, 38016083, 3634488961, 3889429448, 568446438, 3275163606, 4107603335, 1163531501, 2850285829, 4243563512, 1735328473, 2368359562, 4294588738, 2272392833, 1839030562, 4259657740, 2763975236, 1272893353, 4139469664, 3200236656, 681279174, 3936430074, 3572445317, 76029189, 3654602809, 3873151461, 530742520, 3299628645, 4096336452, 1126891415, 2878612391, 4237533241, 1700485571, 2399980690, 4293915773, 2240044497, 1873313359, 4264355552, 2734768916, 1309151649, 4149444226, 3174756917, 718787259, 3951481745]

def tL : List Nat := [7, 12, 17, 22, 5, 9, 14, 20, 4, 11, 16, 23, 6, 10, 15, 21]

/-- Four numbers. -/
structure Q4 where
  a : Nat
  b : Nat
  c : Nat
  d : Nat

/-- A step. -/
def stepN (m : Nat → Nat) (i : Nat) (s : Q4) : Q4 :=
  ⟨s.d, (s.b + rotN ((s.a + fN i s.b s.c s.d + kL.getD i 0 + m (gN i)) % 4294967296) (tL.getD (4 * (i / 16) + i % 4) 0)) % 4294967296, s.b, s.c⟩

def stepsN (m : Nat → Nat) (h : Q4) : Nat → Q4
  | 0 => h
  | k + 1 => stepN m k (stepsN m h k)

/-- Behind a block. -/
def mixN (m : Nat → Nat) (h : Q4) : Q4 :=
  ⟨(h.a + (stepsN m h 64).a) % 4294967296, (h.b + (stepsN m h 64).b) % 4294967296, (h.c + (stepsN m h 64).c) % 4294967296, (h.d + (stepsN m h 64).d) % 4294967296⟩

/-- A word of bytes, the lowest first. -/
def wordN (zs : List Int) (j : Nat) : Nat :=
  (zs.getD (4 * j) 0).toNat + 256 * (zs.getD (4 * j + 1) 0).toNat + 65536 * (zs.getD (4 * j + 2) 0).toNat + 16777216 * (zs.getD (4 * j + 3) 0).toNat

/-- Behind k blocks of bytes. -/
def foldB (zs : List Int) (h : Q4) : Nat → Q4
  | 0 => h
  | k + 1 => mixN (wordN (zs.drop (64 * k))) (foldB zs h k)

def h0N : Q4 := ⟨1732584193, 4023233417, 2562383102, 271733878⟩

/-- n bytes of a number, the lowest first. -/
def lowL (v : Nat) : Nat → List Int
  | 0 => []
  | n + 1 => lowL v n ++ [((v / 2 ^ (8 * n) % 256 : Nat) : Int)]

/-- What is laid behind bytes: size of them in all, rest of them in the last block. -/
def padL (rest size : Nat) : List Int := 128 :: (List.replicate ((119 - rest) % 64) 0 ++ lowL (size * 8 % 18446744073709551616) 8)

def outL (h : Q4) : List Int := lowL h.a 4 ++ lowL h.b 4 ++ lowL h.c 4 ++ lowL h.d 4

/-- The sum of bytes. -/
def sumL (zs : List Int) : List Int := outL (foldB (zs ++ padL (zs.length % 64) zs.length) h0N ((zs.length + 72) / 64))

theorem sum_nil : sumL [] = [0xd4, 0x1d, 0x8c, 0xd9, 0x8f, 0, 0xb2, 4, 0xe9, 0x80, 9, 0x98, 0xec, 0xf8, 0x42, 0x7e] := by decide +kernel
theorem sum_abc : sumL [97, 98, 99] = [0x90, 1, 0x50, 0x98, 0x3c, 0xd2, 0x4f, 0xb0, 0xd6, 0x96, 0x3f, 0x7d, 0x28, 0xe1, 0x7f, 0x72] := by decide +kernel

theorem lowL_length (v n : Nat) : (lowL v n).length = n := by
  induction n with
  | zero => rfl
  | succ n ih => simp [lowL, ih]
theorem padL_length (r s : Nat) : (padL r s).length = (119 - r) % 64 + 9 := by simp [padL, lowL_length]
theorem outL_length (h : Q4) : (outL h).length = 16 := by simp [outL, lowL_length]
theorem sumL_length (zs : List Int) : (sumL zs).length = 16 := outL_length _

theorem or_lt32 {a b : Nat} (ha : a < 4294967296) (hb : b < 4294967296) : a ||| b < 4294967296 := Nat.or_lt_two_pow (n := 32) ha hb
theorem xor_lt32 {a b : Nat} (ha : a < 4294967296) (hb : b < 4294967296) : a ^^^ b < 4294967296 := Nat.xor_lt_two_pow (n := 32) ha hb
theorem and_lt32 {a b : Nat} (hb : b < 4294967296) : a &&& b < 4294967296 := Nat.and_lt_two_pow a (n := 32) hb

theorem fN_lt (i : Nat) {b c d : Nat} (hb : b < 4294967296) (hc : c < 4294967296) (hd : d < 4294967296) : fN i b c d < 4294967296 := by
  unfold fN
  split
  · exact or_lt32 (and_lt32 hc) (and_lt32 hd)
  split
  · exact or_lt32 (and_lt32 hb) (and_lt32 hc)
  split
  · exact xor_lt32 (xor_lt32 hb hc) hd
  · exact xor_lt32 hc (or_lt32 hb (xor_lt32 (by omega) hd))
theorem gN_lt {i : Nat} (h : i < 64) : gN i < 16 := by unfold gN; split; omega; split; omega; split; omega; omega

theorem rotN_lt {x n : Nat} (hx : x < 4294967296) : rotN x n < 4294967296 := by
  unfold rotN
  refine or_lt32 (Nat.mod_lt _ (by omega)) (Nat.lt_of_le_of_lt (Nat.div_le_self _ _) hx)

/-- Four numbers of 32 bits. -/
def Q4.ok (h : Q4) : Prop := h.a < 4294967296 ∧ h.b < 4294967296 ∧ h.c < 4294967296 ∧ h.d < 4294967296
theorem stepN_ok {m : Nat → Nat} {i : Nat} {h : Q4} (hh : h.ok) : (stepN m i h).ok := ⟨hh.2.2.2, Nat.mod_lt _ (by omega), hh.2.1, hh.2.2.1⟩
theorem stepsN_ok {m : Nat → Nat} {h : Q4} (hh : h.ok) : ∀ k, (stepsN m h k).ok
  | 0 => hh
  | k + 1 => stepN_ok (stepsN_ok hh k)
theorem mixN_ok (m : Nat → Nat) (h : Q4) : (mixN m h).ok := ⟨Nat.mod_lt _ (by omega), Nat.mod_lt _ (by omega), Nat.mod_lt _ (by omega), Nat.mod_lt _ (by omega)⟩
theorem h0N_ok : h0N.ok := by unfold Q4.ok h0N; decide
theorem foldB_ok (zs : List Int) {h : Q4} (hh : h.ok) : ∀ k, (foldB zs h k).ok
  | 0 => hh
  | k + 1 => mixN_ok _ _

theorem stepsN_congr {m m' : Nat → Nat} (hm : ∀ j, j < 16 → m j = m' j) (h : Q4) : ∀ k, k ≤ 64 → stepsN m h k = stepsN m' h k
  | 0, _ => rfl
  | k + 1, hk => by rw [stepsN, stepsN, stepsN_congr hm h k (by omega)]; unfold stepN; rw [hm _ (gN_lt (by omega))]
theorem mixN_congr {m m' : Nat → Nat} (hm : ∀ j, j < 16 → m j = m' j) (h : Q4) : mixN m h = mixN m' h := by
  unfold mixN; rw [stepsN_congr hm h 64 (by omega)]
theorem wordN_congr {xs ys : List Int} (h : ∀ j, j < 64 → xs.getD j 0 = ys.getD j 0) (j : Nat) (hj : j < 16) : wordN xs j = wordN ys j := by
  unfold wordN; rw [h _ (by omega), h _ (by omega), h _ (by omega), h _ (by omega)]
theorem foldB_congr {xs ys : List Int} (h : Q4) : ∀ k, (∀ j, j < 64 * k → xs.getD j 0 = ys.getD j 0) → foldB xs h k = foldB ys h k
  | 0, _ => rfl
  | k + 1, hj => by
    rw [foldB, foldB, foldB_congr h k (fun j hl => hj j (by omega))]
    refine mixN_congr (wordN_congr fun j hl => ?_) _
    have := hj (64 * k + j) (by omega)
    simpa [List.getD_eq_getElem?_getD, List.getElem?_drop] using this
theorem foldB_add (zs : List Int) (h : Q4) (n : Nat) : ∀ k, foldB zs h (n + k) = foldB (zs.drop (64 * n)) (foldB zs h n) k
  | 0 => rfl
  | k + 1 => by
    show mixN (wordN (zs.drop (64 * (n + k)))) (foldB zs h (n + k)) = mixN (wordN ((zs.drop (64 * n)).drop (64 * k))) (foldB (zs.drop (64 * n)) (foldB zs h n) k)
    rw [foldB_add zs h n k, List.drop_drop, Nat.mul_add]

/-- What the program does: whole blocks, and then the end. -/
theorem sumL_split (zs : List Int) : sumL zs = outL (foldB (zs.drop (64 * (zs.length / 64)) ++ padL (zs.length % 64) zs.length) (foldB zs h0N (zs.length / 64)) ((zs.length % 64 + 72) / 64)) := by
  unfold sumL
  have e : (zs.length + 72) / 64 = zs.length / 64 + (zs.length % 64 + 72) / 64 := by omega
  rw [e, foldB_add, List.drop_append_of_le_length (by omega)]
  congr 2
  refine foldB_congr _ _ fun j hj => ?_
  rw [List.getD_eq_getElem?_getD, List.getElem?_append_left (by omega), List.getD_eq_getElem?_getD]

theorem lowL_bytes (v n : Nat) : ∀ z ∈ lowL v n, 0 ≤ z ∧ z ≤ 255 := by
  induction n with
  | zero => intro z hz; simp [lowL] at hz
  | succ n ih =>
    intro z hz
    simp only [lowL, List.mem_append, List.mem_singleton] at hz
    rcases hz with hz | rfl
    · exact ih z hz
    · have := Nat.mod_lt (v / 2 ^ (8 * n)) (show 0 < 256 by omega)
      omega
end Go.Proofs.YtaedkofljmonjaaDoor
