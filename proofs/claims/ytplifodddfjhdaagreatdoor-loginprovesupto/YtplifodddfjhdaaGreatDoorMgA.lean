/-
  Plain facts on the sum of bytes (four numbers of 32 bits, turned block by block): no program is looked at here. Contracts of the program's small functions: what a step takes, a turn to the left. The contract of a word of four bytes. A cell of an array that is stored; the contract of a number that is laid in bytes, the lowest first. The contract of the turn of four numbers by a block. The contract of the last blocks of a sum: the bytes behind the whole blocks, and what is laid behind them. Contracts of the document's constants and turn to the left. The contract of the library's iterator over pieces of a slice, at pieces of 64 bytes. The contract of the sum of bytes.
-/
import Derived.Laws.BitsAllLaws
import Derived.Test.YtplifodddfjhdaaGreatDoorXBox
import Derived.Laws.IdiomCopy
import Derived.Deep.DeepMust
import Derived.OwnWalk
import Derived.RangeFuncNested
import Derived.RangeFuncBound
import Derived.RangeFuncCalls
import Derived.RangeFuncLeaves
import Derived.Shelf.Abstract
import Derived.Shelf.RegionOpen
import Derived.WalkKit
import Derived.OwnWalkIn
import Derived.TacticsInMore
import Derived.LoopNIn
import Derived.LoopIn
import Derived.Test.YtplifodddfjhdaaGreatDoorRows
namespace Go.Proofs.YtplifodddfjhdaaGreatDoor
set_option linter.unusedVariables false

/-- What a step makes of three numbers. -/
def fN (i b c d : Nat) : Nat :=
  if i / 16 = 0 then (b &&& c) ||| ((4294967295 ^^^ b) &&& d)
  else if i / 16 = 1 then (d &&& b) ||| ((4294967295 ^^^ d) &&& c)
  else if i / 16 = 2 then (b ^^^ c) ^^^ d
  else c ^^^ (b ||| (4294967295 ^^^ d))

/-- Which word of the block it takes. -/
def gN (i : Nat) : Nat :=
  if i / 16 = 0 then i else if i / 16 = 1 then (5 * i + 1) % 16 else if i / 16 = 2 then (3 * i + 5) % 16 else 7 * i % 16

/-- Turned to the left. -/
def rotN (x n : Nat) : Nat := (x * 2 ^ n % 4294967296) ||| (x / 2 ^ (32 - n))

def kL : List Nat := [3614090360, 3905402710, 606105819, 3250441966, 4118548399, 1200080426, 2821735955, 4249261313, 1770035416, 2336552879, 4294925233, 2304563134, 1804603682, 4254626195, 2792965006, 1236535329, 4129170786, 3225465664, 643717713, 3921069994, 3593408605, 38016083, 3634488961, 3889429448, 568446438, 3275163606, 4107603335, 1163531501, 2850285829, 4243563512, 1735328473, 2368359562, 4294588738, 2272392833, 1839030562, 4259657740, 2763975236, 1272893353, 4139469664, 3200236656, 681279174, 3936430074, 3572445317, 76029189, 3654602809, 3873151461, 530742520, 3299628645, 4096336452, 1126891415, 2878612391, 4237533241, 1700485571, 2399980690, 4293915773, 2240044497, 1873313359, 4264355552, 2734768916, 1309151649, 4149444226, 3174756917, 718787259, 3951481745]

def tL : List Nat := [7, 12, 17, 22, 5, 9, 14, 20, 4, 11, 16, 23, 6, 10, 15, 21]

/-- Four numbers. -/
structure Q4 where
  a : Nat
  b : Nat
  c : Nat
  d : Nat

/-- A step. -/
def stepN (m : Nat → Nat) (i : Nat) (s : Q4) : Q4 :=
  ⟨s.d, (s.b + rotN ((s.a + fN i s.b s.c s.d + kL.getD i 0 + m (gN i)) % 4294967296) (tL.getD (4 * (i / 16) + i % 4) 0)) % 4294967296, s.b, s.c⟩

def stepsN (m : Nat → Nat) (h : Q4) : Nat → Q4
  | 0 => h
  | k + 1 => stepN m k (stepsN m h k)

/-- Behind a block. -/
def mixN (m : Nat → Nat) (h : Q4) : Q4 :=
  ⟨(h.a + (stepsN m h 64).a) % 4294967296, (h.b + (stepsN m h 64).b) % 4294967296, (h.c + (stepsN m h 64).c) % 4294967296, (h.d + (stepsN m h 64).d) % 4294967296⟩

/-- A word of bytes, the lowest first. -/
def wordN (zs : List Int) (j : Nat) : Nat :=
  (zs.getD (4 * j) 0).toNat + 256 * (zs.getD (4 * j + 1) 0).toNat + 65536 * (zs.getD (4 * j + 2) 0).toNat + 16777216 * (zs.getD (4 * j + 3) 0).toNat

/-- Behind k blocks of bytes. -/
def foldB (zs : List Int) (h : Q4) : Nat → Q4
  | 0 => h
  | k + 1 => mixN (wordN (zs.drop (64 * k))) (foldB zs h k)

def h0N : Q4 := ⟨1732584193, 4023233417, 2562383102, 271733878⟩

/-- n bytes of a number, the lowest first. -/
def lowL (v : Nat) : Nat → List Int
  | 0 => []
  | n + 1 => lowL v n ++ [((v / 2 ^ (8 * n) % 256 : Nat) : Int)]

/-- What is laid behind bytes: size of them in all, rest of them in the last block. -/
def padL (rest size : Nat) : List Int := 128 :: (List.replicate ((119 - rest) % 64) 0 ++ lowL (size * 8 % 18446744073709551616) 8)

def outL (h : Q4) : List Int := lowL h.a 4 ++ lowL h.b 4 ++ lowL h.c 4 ++ lowL h.d 4

/-- The sum of bytes. -/
def sumL (zs : List Int) : List Int := outL (foldB (zs ++ padL (zs.length % 64) zs.length) h0N ((zs.length + 72) / 64))

theorem sum_nil : sumL [] = [0xd4, 0x1d, 0x8c, 0xd9, 0x8f, 0, 0xb2, 4, 0xe9, 0x80, 9, 0x98, 0xec, 0xf8, 0x42, 0x7e] := by decide +kernel
theorem sum_abc : sumL [97, 98, 99] = [0x90, 1, 0x50, 0x98, 0x3c, 0xd2, 0x4f, 0xb0, 0xd6, 0x96, 0x3f, 0x7d, 0x28, 0xe1, 0x7f, 0x72] := by decide +kernel

theorem lowL_length (v n : Nat) : (lowL v n).length = n := by
  induction n with
  | zero => rfl
  | succ n ih => simp [lowL, ih]
theorem padL_length (r s : Nat) : (padL r s).length = (119 - r) % 64 + 9 := by simp [padL, lowL_length]
theorem outL_length (h : Q4) : (outL h).length = 16 := by simp [outL, lowL_length]
theorem sumL_length (zs : List Int) : (sumL zs).length = 16 := outL_length _

theorem or_lt32 {a b : Nat} (ha : a < 4294967296) (hb : b < 4294967296) : a ||| b < 4294967296 := Nat.or_lt_two_pow (n := 32) ha hb
theorem xor_lt32 {a b : Nat} (ha : a < 4294967296) (hb : b < 4294967296) : a ^^^ b < 4294967296 := Nat.xor_lt_two_pow (n := 32) ha hb
theorem and_lt32 {a b : Nat} (hb : b < 4294967296) : a &&& b < 4294967296 := Nat.and_lt_two_pow a (n := 32) hb

theorem fN_lt (i : Nat) {b c d : Nat} (hb : b < 4294967296) (hc : c < 4294967296) (hd : d < 4294967296) : fN i b c d < 4294967296 := by
  unfold fN
  split
  · exact or_lt32 (and_lt32 hc) (and_lt32 hd)
  split
  · exact or_lt32 (and_lt32 hb) (and_lt32 hc)
  split
  · exact xor_lt32 (xor_lt32 hb hc) hd
  · exact xor_lt32 hc (or_lt32 hb (xor_lt32 (by omega) hd))
theorem gN_lt {i : Nat} (h : i < 64) : gN i < 16 := by unfold gN; split; omega; split; omega; split; omega; omega

theorem rotN_lt {x n : Nat} (hx : x < 4294967296) : rotN x n < 4294967296 := by
  unfold rotN
  refine or_lt32 (Nat.mod_lt _ (by omega)) (Nat.lt_of_le_of_lt (Nat.div_le_self _ _) hx)

/-- Four numbers of 32 bits. -/
def Q4.ok (h : Q4) : Prop := h.a < 4294967296 ∧ h.b < 4294967296 ∧ h.c < 4294967296 ∧ h.d < 4294967296
theorem stepN_ok {m : Nat → Nat} {i : Nat} {h : Q4} (hh : h.ok) : (stepN m i h).ok := ⟨hh.2.2.2, Nat.mod_lt _ (by omega), hh.2.1, hh.2.2.1⟩
theorem stepsN_ok {m : Nat → Nat} {h : Q4} (hh : h.ok) : ∀ k, (stepsN m h k).ok
  | 0 => hh
  | k + 1 => stepN_ok (stepsN_ok hh k)
theorem mixN_ok (m : Nat → Nat) (h : Q4) : (mixN m h).ok := ⟨Nat.mod_lt _ (by omega), Nat.mod_lt _ (by omega), Nat.mod_lt _ (by omega), Nat.mod_lt _ (by omega)⟩
theorem h0N_ok : h0N.ok := by unfold Q4.ok h0N; decide
theorem foldB_ok (zs : List Int) {h : Q4} (hh : h.ok) : ∀ k, (foldB zs h k).ok
  | 0 => hh
  | k + 1 => mixN_ok _ _

theorem stepsN_congr {m m' : Nat → Nat} (hm : ∀ j, j < 16 → m j = m' j) (h : Q4) : ∀ k, k ≤ 64 → stepsN m h k = stepsN m' h k
  | 0, _ => rfl
  | k + 1, hk => by rw [stepsN, stepsN, stepsN_congr hm h k (by omega)]; unfold stepN; rw [hm _ (gN_lt (by omega))]
theorem mixN_congr {m m' : Nat → Nat} (hm : ∀ j, j < 16 → m j = m' j) (h : Q4) : mixN m h = mixN m' h := by
  unfold mixN; rw [stepsN_congr hm h 64 (by omega)]
theorem wordN_congr {xs ys : List Int} (h : ∀ j, j < 64 → xs.getD j 0 = ys.getD j 0) (j : Nat) (hj : j < 16) : wordN xs j = wordN ys j := by
  unfold wordN; rw [h _ (by omega), h _ (by omega), h _ (by omega), h _ (by omega)]
theorem foldB_congr {xs ys : List Int} (h : Q4) : ∀ k, (∀ j, j < 64 * k → xs.getD j 0 = ys.getD j 0) → foldB xs h k = foldB ys h k
  | 0, _ => rfl
  | k + 1, hj => by
    rw [foldB, foldB, foldB_congr h k (fun j hl => hj j (by omega))]
    refine mixN_congr (wordN_congr fun j hl => ?_) _
    have := hj (64 * k + j) (by omega)
    simpa [List.getD_eq_getElem?_getD, List.getElem?_drop] using this
theorem foldB_add (zs : List Int) (h : Q4) (n : Nat) : ∀ k, foldB zs h (n + k) = foldB (zs.drop (64 * n)) (foldB zs h n) k
  | 0 => rfl
  | k + 1 => by
    show mixN (wordN (zs.drop (64 * (n + k)))) (foldB zs h (n + k)) = mixN (wordN ((zs.drop (64 * n)).drop (64 * k))) (foldB (zs.drop (64 * n)) (foldB zs h n) k)
    rw [foldB_add zs h n k, List.drop_drop, Nat.mul_add]

/-- What the program does: whole blocks, and then the end. -/
theorem sumL_split (zs : List Int) : sumL zs = outL (foldB (zs.drop (64 * (zs.length / 64)) ++ padL (zs.length % 64) zs.length) (foldB zs h0N (zs.length / 64)) ((zs.length % 64 + 72) / 64)) := by
  unfold sumL
  have e : (zs.length + 72) / 64 = zs.length / 64 + (zs.length % 64 + 72) / 64 := by omega
  rw [e, foldB_add, List.drop_append_of_le_length (by omega)]
  congr 2
  refine foldB_congr _ _ fun j hj => ?_
  rw [List.getD_eq_getElem?_getD, List.getElem?_append_left (by omega), List.getD_eq_getElem?_getD]

theorem lowL_bytes (v n : Nat) : ∀ z ∈ lowL v n, 0 ≤ z ∧ z ≤ 255 := by
  induction n with
  | zero => intro z hz; simp [lowL] at hz
  | succ n ih =>
    intro z hz
    simp only [lowL, List.mem_append, List.mem_singleton] at hz
    rcases hz with hz | rfl
    · exact ih z hz
    · have := Nat.mod_lt (v / 2 ^ (8 * n)) (show 0 < 256 by omega)
      omega
end Go.Proofs.YtplifodddfjhdaaGreatDoor

namespace Go.Proofs.YtplifodddfjhdaaGreatDoor
open Go.RowKit
set_option linter.unusedVariables false
set_option linter.unusedSimpArgs false

theorem ret_int {k : IntKind} {a b : Int} (h : a = b) : Ending.returned (.int k a) = .returned (.int k b) := by rw [h]
theorem u32max : IntKind.u32.max = ((4294967295 : Nat) : Int) := rfl
theorem not32 (x : Nat) (hx : x < 4294967296) : bits BinOp.xor IntKind.u32 IntKind.u32.max (x : Int) = ((4294967295 ^^^ x : Nat) : Int) := by rw [u32max]; exact u32_xor_nat _ _ (by omega) hx
theorem not32_lt (x : Nat) (hx : x < 4294967296) : 4294967295 ^^^ x < 4294967296 := xor_lt32 (by omega) hx

theorem fcase0 (b c d : Nat) (hb : b < 4294967296) (hc : c < 4294967296) (hd : d < 4294967296) :
    bits BinOp.or IntKind.u32 (bits BinOp.and IntKind.u32 (b : Int) (c : Int)) (bits BinOp.and IntKind.u32 (bits BinOp.xor IntKind.u32 IntKind.u32.max (b : Int)) (d : Int)) = (((b &&& c) ||| ((4294967295 ^^^ b) &&& d) : Nat) : Int) := by
  rw [not32 b hb, u32_and_nat _ _ hb hc, u32_and_nat _ _ (not32_lt b hb) hd]
  exact u32_or_nat _ _ (and_lt32 hc) (and_lt32 hd)
theorem fcase2 (b c d : Nat) (hb : b < 4294967296) (hc : c < 4294967296) (hd : d < 4294967296) :
    bits BinOp.xor IntKind.u32 (bits BinOp.xor IntKind.u32 (b : Int) (c : Int)) (d : Int) = (((b ^^^ c) ^^^ d : Nat) : Int) := by
  rw [u32_xor_nat _ _ hb hc]
  exact u32_xor_nat _ _ (xor_lt32 hb hc) hd
theorem fcase3 (b c d : Nat) (hb : b < 4294967296) (hc : c < 4294967296) (hd : d < 4294967296) :
    bits BinOp.xor IntKind.u32 (c : Int) (bits BinOp.or IntKind.u32 (b : Int) (bits BinOp.xor IntKind.u32 IntKind.u32.max (d : Int))) = ((c ^^^ (b ||| (4294967295 ^^^ d)) : Nat) : Int) := by
  rw [not32 d hd, u32_or_nat _ _ hb (not32_lt d hd)]
  exact u32_xor_nat _ _ hc (or_lt32 hb (not32_lt d hd))

theorem fN_0 {i b c d : Nat} (h : i / 16 = 0) : fN i b c d = ((b &&& c) ||| ((4294967295 ^^^ b) &&& d)) := by unfold fN; rw [if_pos h]
theorem fN_1 {i b c d : Nat} (h : i / 16 = 1) : fN i b c d = ((d &&& b) ||| ((4294967295 ^^^ d) &&& c)) := by unfold fN; rw [if_neg (by omega), if_pos h]
theorem fN_2 {i b c d : Nat} (h : i / 16 = 2) : fN i b c d = ((b ^^^ c) ^^^ d) := by unfold fN; rw [if_neg (by omega), if_neg (by omega), if_pos h]
theorem fN_3 {i b c d : Nat} (h0 : ¬ i / 16 = 0) (h1 : ¬ i / 16 = 1) (h2 : ¬ i / 16 = 2) : fN i b c d = (c ^^^ (b ||| (4294967295 ^^^ d))) := by unfold fN; rw [if_neg h0, if_neg h1, if_neg h2]
theorem ret_two {x y : Int} {x' y' : Int} (h : x = x') (k : y = y') : Ending.returned (.tuple #[.int .u32 x, .int .i64 y]) = .returned (.tuple #[.int .u32 x', .int .i64 y']) := by rw [h, k]

theorem pick_any (i : Nat) (b c d : Nat) (hi : i < 64) (w : World) (hb : b < 4294967296) (hc : c < 4294967296) (hd : d < 4294967296) :
    Calls Tryz.prog 107 #[.int .i64 (i : Int), .int .u32 (b : Int), .int .u32 (c : Int), .int .u32 (d : Int)] w fun e w' => e = .returned (.tuple #[.int .u32 (fN i b c d : Int), .int .i64 (gN i : Int)]) ∧ w' = w := by
  generalize hF : fN i b c d = F
  generalize hG : gN i = G
  replace hF := Kpt.mk hF
  replace hG := Kpt.mk hG
  go_enter Tryz.func107, Tryz.ntmps107
  go_wp2
  · have t0 : ((i : Int) / 16 == 0) = true := by assumption
    have e0 : i / 16 = 0 := by have := eq_of_beq t0; omega
    go_ret2
    exact ⟨ret_two (by rw [fcase0 b c d hb hc hd, ← hF.out, fN_0 e0]) (by rw [← hG.out, gN, if_pos e0]), rfl⟩
  · have t1 : ((i : Int) / 16 == 1) = true := by assumption
    have e1 : i / 16 = 1 := by have := eq_of_beq t1; omega
    go_ret2
    exact ⟨ret_two (by rw [fcase0 d b c hd hb hc, ← hF.out, fN_1 e1]) (by rw [← hG.out, gN, if_neg (by omega), if_pos e1]; omega), rfl⟩
  · have t0 : ((i : Int) / 16 == 2) = true := by assumption
    have e1 : i / 16 = 2 := by have := eq_of_beq t0; omega
    go_ret2
    exact ⟨ret_two (by rw [fcase2 b c d hb hc hd, ← hF.out, fN_2 e1]) (by rw [← hG.out, gN, if_neg (by omega), if_neg (by omega), if_pos e1]; omega), rfl⟩
  · have t0 : ((i : Int) / 16 == 0) = false := by assumption
    have t1 : ((i : Int) / 16 == 1) = false := by assumption
    have t2 : ((i : Int) / 16 == 2) = false := by assumption
    have e0 : ¬ i / 16 = 0 := fun h => by have := ne_of_beq_false t0; omega
    have e1 : ¬ i / 16 = 1 := fun h => by have := ne_of_beq_false t1; omega
    have e2 : ¬ i / 16 = 2 := fun h => by have := ne_of_beq_false t2; omega
    go_ret2
    exact ⟨ret_two (by rw [fcase3 b c d hb hc hd, ← hF.out, fN_3 e0 e1 e2]) (by rw [← hG.out, gN, if_neg e0, if_neg e1, if_neg e2]; omega), rfl⟩

theorem rot_eq (x n : Nat) (hx : x < 4294967296) : bits BinOp.or IntKind.u32 ((x : Int) * 2 ^ n % 4294967296) ((x : Int) / 2 ^ (32 - n)) = ((rotN x n : Nat) : Int) := by
  have e1 : ((x : Int) * 2 ^ n % 4294967296) = ((x * 2 ^ n % 4294967296 : Nat) : Int) := by rw [Int.natCast_emod, Int.natCast_mul, Int.natCast_pow]; rfl
  have e2 : ((x : Int) / 2 ^ (32 - n)) = ((x / 2 ^ (32 - n) : Nat) : Int) := by rw [Int.natCast_ediv, Int.natCast_pow]; rfl
  rw [e1, e2]
  exact u32_or_nat _ _ (Nat.mod_lt _ (by omega)) (Nat.lt_of_le_of_lt (Nat.div_le_self _ _) hx)

theorem rot_any (x n : Nat) (w : World) (hx : x < 4294967296) (hn : n < 32) :
    Calls Tryz.prog 108 #[.int .u32 (x : Int), .int .i64 (n : Int)] w fun e w' => e = .returned (.int .u32 (rotN x n : Int)) ∧ w' = w := by
  have hm : bits BinOp.and IntKind.u64 (n : Int) 31 = (n : Int) := by
    rw [show (31 : Int) = ((31 : Nat) : Int) from rfl, u64_and_nat _ _ (by omega) (by omega), nat_mask5, Nat.mod_eq_of_lt hn]
  generalize hF : rotN x n = F
  replace hF := Kpt.mk hF
  go_enter Tryz.func108, Tryz.ntmps108
  go_wp2
  go_ret
  exact ⟨ret_int (by rw [rot_eq x n hx, hF.out]), rfl⟩

theorem or_word (a b c d : Nat) (ha : a < 256) (hb : b < 256) (hc : c < 256) (hd : d < 256) : ((a ||| b * 256) ||| c * 65536) ||| d * 16777216 = a + 256 * b + 65536 * c + 16777216 * d := by
  have h1 : a ||| b * 256 = a + b * 256 := by rw [Nat.or_comm, nat_join 8 (b * 256) a (by omega) (by omega)]; omega
  have h2 : (a + b * 256) ||| c * 65536 = a + b * 256 + c * 65536 := by rw [Nat.or_comm, nat_join 16 (c * 65536) (a + b * 256) (by omega) (by omega)]; omega
  have h3 : (a + b * 256 + c * 65536) ||| d * 16777216 = a + b * 256 + c * 65536 + d * 16777216 := by rw [Nat.or_comm, nat_join 24 (d * 16777216) (a + b * 256 + c * 65536) (by omega) (by omega)]; omega
  rw [h1, h2, h3]; omega

end Go.Proofs.YtplifodddfjhdaaGreatDoor

namespace Go.Proofs.YtplifodddfjhdaaGreatDoor
open Go.RowKit
set_option linter.unusedVariables false
set_option linter.unusedSimpArgs false

theorem or_word_int (x0 x1 x2 x3 : Int) (b0 : 0 ≤ x0 ∧ x0 ≤ 255) (b1 : 0 ≤ x1 ∧ x1 ≤ 255) (b2 : 0 ≤ x2 ∧ x2 ≤ 255) (b3 : 0 ≤ x3 ∧ x3 ≤ 255) :
    bits BinOp.or IntKind.u32 (bits BinOp.or IntKind.u32 (bits BinOp.or IntKind.u32 x0 (x1 * 256)) (x2 * 65536)) (x3 * 16777216) = ((x0.toNat + 256 * x1.toNat + 65536 * x2.toNat + 16777216 * x3.toNat : Nat) : Int) := by
  obtain ⟨a, rfl⟩ := Int.eq_ofNat_of_zero_le b0.1
  obtain ⟨b, rfl⟩ := Int.eq_ofNat_of_zero_le b1.1
  obtain ⟨c, rfl⟩ := Int.eq_ofNat_of_zero_le b2.1
  obtain ⟨d, rfl⟩ := Int.eq_ofNat_of_zero_le b3.1
  have e1 : (b : Int) * 256 = ((b * 256 : Nat) : Int) := by omega
  have e2 : (c : Int) * 65536 = ((c * 65536 : Nat) : Int) := by omega
  have e3 : (d : Int) * 16777216 = ((d * 16777216 : Nat) : Int) := by omega
  rw [e1, e2, e3, u32_or_nat _ _ (by omega) (by omega), u32_or_nat _ _ (or_lt32 (by omega) (by omega)) (by omega), u32_or_nat _ _ (or_lt32 (or_lt32 (by omega) (by omega)) (by omega)) (by omega), or_word a b c d (by omega) (by omega) (by omega) (by omega)]
  simp only [Int.toNat_natCast]

set_option maxRecDepth 100000 in
set_option maxHeartbeats 400000 in
theorem word_any (b off n c : Nat) (zs : List Int) (w : World) (hr : RdAt w (.slice (some ⟨b, off, none⟩) n c) zs) (h4 : 4 ≤ zs.length) (hb : Bytes zs) :
    Calls Tryz.prog 106 #[.slice (some ⟨b, off, none⟩) n c] w fun e w' => e = .returned (.int .u32 (wordN zs 0 : Int)) ∧ ∃ k, w' = w.drewN k := by
  obtain ⟨hl, hc⟩ := rd_cells hr
  have c0 : ∀ m, (w.drewN m).cell? ⟨b, off, none⟩ = some (.int .u8 (zs.getD 0 0)) := fun m => hc 0 (by omega)
  have c1 : ∀ m, (w.drewN m).cell? ⟨b, off + 1, none⟩ = some (.int .u8 (zs.getD 1 0)) := fun m => hc 1 (by omega)
  have c2 : ∀ m, (w.drewN m).cell? ⟨b, off + 2, none⟩ = some (.int .u8 (zs.getD 2 0)) := fun m => hc 2 (by omega)
  have c3 : ∀ m, (w.drewN m).cell? ⟨b, off + 3, none⟩ = some (.int .u8 (zs.getD 3 0)) := fun m => hc 3 (by omega)
  obtain ⟨b0, b1, b2, b3⟩ := And.intro (hb 0) (And.intro (hb 1) (And.intro (hb 2) (hb 3)))
  have hw : wordN zs 0 = ((zs.getD 0 0).toNat + 256 * (zs.getD 1 0).toNat + 65536 * (zs.getD 2 0).toNat + 16777216 * (zs.getD 3 0).toNat) := rfl
  rw [hw]
  have hn : 4 ≤ n := by omega
  clear hc hr hl hw
  generalize zs.getD 0 0 = x0 at *
  generalize zs.getD 1 0 = x1 at *
  generalize zs.getD 2 0 = x2 at *
  generalize zs.getD 3 0 = x3 at *
  go_enter Tryz.func106, Tryz.ntmps106
  go_wp2
  go_quiet (fail)
  have e : bits BinOp.or IntKind.u32 (bits BinOp.or IntKind.u32 (bits BinOp.or IntKind.u32 x0 (x1 * 256)) (x2 * 65536)) (x3 * 16777216) = ((x0.toNat + 256 * x1.toNat + 65536 * x2.toNat + 16777216 * x3.toNat : Nat) : Int) := or_word_int x0 x1 x2 x3 b0 b1 b2 b3
  go_wp2
  go_ret
  exact ⟨ret_int e, _, rfl⟩

end Go.Proofs.YtplifodddfjhdaaGreatDoor

namespace Go.Proofs.YtplifodddfjhdaaGreatDoor
open Go.RowKit
set_option linter.unusedVariables false
set_option linter.unusedSimpArgs false

theorem run_storeVar_one {P : Program} (w : World) (b o : Nat) (ty : TypeId) (v : Value) (hc : (w.cell? ⟨b, o, none⟩).isSome = true) (hf : w.frozen? ⟨b, o, none⟩ = false) (hi : (P.info? ty).map (·.size) = some 1) (h1 : v.oneCell' = true) :
    (storeVar ty ⟨b, o, none⟩ v).run P w = .ok () (w.setCell ⟨b, o, none⟩ v) := by
  have hv : v.cells = #[v] := by cases v <;> first | rfl | (simp [Value.oneCell'] at h1)
  have := run_storeCells_cells (P := P) b o [v] 0 w (fun j hj => by simp at hj; subst hj; simpa using hc) (fun j hj => by simp at hj; subst hj; simpa using hf) (fun u hu => by simp at hu; subst hu; exact h1)
  cases hq : P.info? ty with
  | none => simp [hq] at hi
  | some i =>
    have hs : 1 = i.size := by simp [hq] at hi; omega
    simp only [Nat.add_zero] at this
    simp [storeVar, sizeOf, typeInfo, hq, hv, ← hs, this]
    rfl

theorem bx_setCell {w : World} {b j : Nat} {cs : Array Value} (v : Value) (h : Bx w b cs) (hj : j < cs.size) : Bx (w.setCell ⟨b, j, none⟩ v) b (cs.setIfInBounds j v) := by
  have hg := grown_setCellK w ⟨b, j, none⟩ v
  refine ⟨Nat.lt_of_lt_of_le h.lt hg.size, fun i hi => ?_, fun i => ?_⟩
  · simp only [Array.size_setIfInBounds] at hi
    by_cases e : i = j
    · subst e
      have hs : (w.cell? ⟨b, i, none⟩).isSome = true := by rw [h.cells i hj, Array.getElem?_eq_getElem hj]; rfl
      rw [Array.getElem?_setIfInBounds_self_of_lt hj]
      exact World.cell?_setCell_same' w _ v hs
    · rw [Array.getElem?_setIfInBounds_ne (fun h => e h.symm), ← h.cells i hi]
      exact World.cell?_setCell_other _ _ _ _ (fun h => e (by cases h; rfl))
  · rw [← h.free i]; exact World.frozen?_setCells b [v] j w _

/-- A cell of a struct is stored. -/
theorem wp_store_cell {w : World} {o : Oper} {a : Act} {K : Act → World → Prop} {Q : Exit → Act → World → Prop} {ty : TypeId} {x y : Operand}
    (ho : o.op = .store ty x y) {b j : Nat} {cs : Array Value} {v : Value} (hx : a.eval x = .pointer (some ⟨b, j, none⟩)) (hy : a.eval y = v) (h1 : v.oneCell' = true) (hB : Bx w b cs) (hj : j < cs.size)
    (hi : (Tryz.prog.info? ty).map (·.size) = some 1)
    (h : ∀ w', Bx w' b (cs.setIfInBounds j v) → w.grownBy w' (some b) → K (a.put o.dst undef) w') : o.wp Tryz.prog a w K Q := by
  have hs : (w.cell? ⟨b, j, none⟩).isSome = true := by rw [hB.cells j hj, Array.getElem?_eq_getElem hj]; rfl
  unfold Oper.wp execOp
  simp only [ho, hx, hy, Instr.storeAt, Instr.sureAddr, Sem.run_bind, Sem.run_pure, Result.andThen_ok, run_storeVar_one w b j ty v hs (hB.free j) hi h1]
  exact h _ (bx_setCell v hB hj) (grown_setCellK w _ v)
theorem wpList_store_cell {w : World} {ops : Array Oper} {rest : List Oper} {o : Oper} {a : Act} {Q : Exit → Act → World → Prop} (hgd : o.guard = none) {ty : TypeId} {x y : Operand}
    (ho : o.op = .store ty x y) (b j : Nat) (cs : Array Value) (v : Value) (hx : a.eval x = .pointer (some ⟨b, j, none⟩)) (hy : a.eval y = v) (h1 : v.oneCell' = true) (hB : Bx w b cs) (hj : j < cs.size)
    (hi : (Tryz.prog.info? ty).map (·.size) = some 1) (hdst : o.dst = none)
    (h : ∀ w', Bx w' b (cs.setIfInBounds j v) → w.grownBy w' (some b) → wpList Tryz.prog ops Q rest a w') : wpList Tryz.prog ops Q (o :: rest) a w :=
  wpList_plain hgd fun K hK => wp_store_cell ho hx hy h1 hB hj hi (fun w' h1 h2 => hK _ _ (by rw [hdst]; exact h w' h1 h2))


theorem over_step (Z : List Int) (off : Nat) (ds : List Int) (x : Int) (h : off + ds.length < Z.length) : (over Z off ds).set (off + ds.length) x = over Z off (ds ++ [x]) := by
  unfold over
  rw [List.set_append_right _ _ (by simp; omega), List.set_append_right _ _ (by simp; omega)]
  have e : off + ds.length - (Z.take off).length - ds.length = 0 := by simp; omega
  rw [e, List.drop_eq_getElem_cons h]
  simp [Nat.add_assoc]
theorem over_nil (Z : List Int) (off : Nat) : over Z off [] = Z := by simp [over]
theorem cels_set (zs : List Int) (j : Nat) (x : Int) : (cels zs).toArray.setIfInBounds j (.int .u8 x) = (cels (zs.set j x)).toArray := by
  simp [cels, List.map_set]

theorem grown_two {w w1 w2 : World} {b : Nat} (h : w.grownBy w1 (some b)) (k : w1.grownBy w2 (some b)) : w.grownBy w2 (some b) :=
  ⟨k.os.trans h.os, k.tape.trans h.tape, k.output.trans h.output, Nat.le_trans h.size k.size, fun j hj hn => (k.block j (Nat.lt_of_lt_of_le hj h.size) hn).trans (h.block j hj hn)⟩
theorem grown_refl (w : World) (row : Option Nat) : w.grownBy w row := ⟨rfl, rfl, rfl, Nat.le_refl _, fun _ _ _ => rfl⟩

theorem low_num (v k : Nat) : ((v : Int) / 2 ^ (8 * k)) % 256 = ((v / 2 ^ (8 * k) % 256 : Nat) : Int) := by
  rw [Int.natCast_emod, Int.natCast_ediv, Int.natCast_pow]; rfl

theorem put_any (b off n c v : Nat) (Z : List Int) (w : World) (hB : Bx w b (cels Z).toArray) (hn : n ≤ 8) (hl : off + n ≤ Z.length) (hc : n ≤ c) (hv : v < 18446744073709551616) :
    Calls Tryz.prog 92 #[.slice (some ⟨b, off, none⟩) n c, .int .u64 (v : Int)] w fun e w' => (∃ r, e = .returned r) ∧ Bx w' b (cels (over Z off (lowL v n))).toArray ∧ w.grownBy w' (some b) := by
  replace hB := Kpt.mk hB
  go_enter Tryz.func92, Tryz.ntmps92
  go_wp2
  go_loopw [7] (fun t wr => ∃ k : Nat, k ≤ n ∧ t = .int .i64 k ∧ Kpt (Bx wr b (cels (over Z off (lowL v k))).toArray) ∧ Kpt (w.grownBy wr (some b))) (fun t _ => n - (intOf t).toNat)
  case atStart => exact ⟨0, by omega, rfl, ⟨by rw [lowL, over_nil]; exact hB.out⟩, ⟨grown_refl _ _⟩⟩
  case round =>
    obtain ⟨k, hk, rfl, hX, hg⟩ := hrel
    by_cases hlt : k < n
    · have h8 : 8 * k ≤ 64 := by omega
      have hz : (over Z off (lowL v k)).length = Z.length := over_length _ _ _ (by rw [lowL_length]; omega)
      have hcell : wr.cell? ⟨b, off + k, none⟩ = some (.int .u8 ((over Z off (lowL v k)).getD (off + k) 0)) := by
        rw [hX.out.cells (off + k) (by simp [hz]; omega)]
        simp [cels, List.getD_eq_getElem?_getD, hz, show off + k < Z.length by omega]
      have hfree : wr.frozen? ⟨b, off + k, none⟩ = false := hX.out.free _
      replace hcell := hcell
      generalize hq : (over Z off (lowL v k)).getD (off + k) 0 = q at hcell
      clear hq hz
      go_wp2
      refine ⟨⟨k + 1, by omega, by simp, ⟨?_⟩, ⟨grown_two hg.out (grown_setCellK _ _ _)⟩⟩, by simp [intOf]; omega⟩
      have hs := bx_setCell (.int .u8 (((v : Int) / 2 ^ (8 * k)) % 256)) hX.out (j := off + k) (by simp [over_length Z (lowL v k) off (by rw [lowL_length]; omega)]; omega)
      rw [cels_set] at hs
      have ho := over_step Z off (lowL v k) (((v : Int) / 2 ^ (8 * k)) % 256) (by rw [lowL_length]; omega)
      rw [lowL_length] at ho
      rw [ho, low_num] at hs
      rw [low_num]
      exact hs
    · obtain rfl : k = n := by omega
      go_wp2
      go_end0
      exact ⟨⟨_, rfl⟩, hX.out, hg.out⟩

end Go.Proofs.YtplifodddfjhdaaGreatDoor

namespace Go.Proofs.YtplifodddfjhdaaGreatDoor
open Go.RowKit
set_option linter.unusedVariables false
set_option linter.unusedSimpArgs false

/-- Four numbers as a value. -/
def q4v (h : Q4) : Array Value := #[.int .u32 (h.a : Int), .int .u32 (h.b : Int), .int .u32 (h.c : Int), .int .u32 (h.d : Int)]

/-- The program's tables lie as they were laid. -/
structure Gq (w : World) : Prop where
  add : ∀ i, i < 64 → w.cell? ⟨2, i, none⟩ = some (.int .u32 (kL.getD i 0 : Nat))
  turn : ∀ i, i < 16 → w.cell? ⟨3, i, none⟩ = some (.int .i64 (tL.getD i 0 : Nat))
theorem Gq.lt {w : World} (h : Gq w) : 4 ≤ w.heap.size := World.block_lt_of_cell? w ⟨3, 0, none⟩ (h.turn 0 (by omega))
theorem Gq.below {w w' : World} {n : Nat} (h : Gq w) (hb : Below n w w') (hn : 4 ≤ n) : Gq w' :=
  ⟨fun i hi => (hb.cell (p := ⟨2, i, none⟩) (by simp; omega)).trans (h.add i hi), fun i hi => (hb.cell (p := ⟨3, i, none⟩) (by simp; omega)).trans (h.turn i hi)⟩
theorem Gq.bel {w w' : World} (h : Gq w) (hb : Below w.heap.size w w') : Gq w' := h.below hb h.lt

theorem Bx.drewN {w : World} {b : Nat} {cs : Array Value} (h : Bx w b cs) (k : Nat) : Bx (w.drewN k) b cs := ⟨h.lt, h.cells, h.free⟩

/-- The words of a block, the first k of them laid. -/
def mArr (zs : List Int) (k : Nat) : Array Value := ((List.range 16).map fun j => Value.int .u32 (if j < k then (wordN zs j : Int) else 0)).toArray
theorem mArr_size (zs : List Int) (k : Nat) : (mArr zs k).size = 16 := by simp [mArr]
theorem mArr_at (zs : List Int) (k j : Nat) (hj : j < 16) : (mArr zs k)[j]? = some (.int .u32 (if j < k then (wordN zs j : Int) else 0)) := by simp [mArr, hj]
theorem mArr_zero (zs : List Int) : mArr zs 0 = (List.replicate 16 (Value.int .u32 0)).toArray := by
  apply Array.ext'
  simp [mArr, List.map_const']
theorem mArr_succ (zs : List Int) (k : Nat) (hk : k < 16) : (mArr zs k).setIfInBounds k (.int .u32 (wordN zs k : Int)) = mArr zs (k + 1) := by
  apply Array.ext (by simp [mArr])
  intro j h1 h2
  have hj : j < 16 := by simpa [mArr] using h2
  simp only [mArr, List.setIfInBounds_toArray, List.getElem_toArray, List.getElem_set, List.getElem_map, List.getElem_range]
  by_cases e : k = j
  · subst e; simp
  · simp only [e, if_false]
    by_cases h : j < k
    · simp [h, show j < k + 1 by omega]
    · simp [h, show ¬ j < k + 1 by omega]

theorem wordN_drop (zs : List Int) (k : Nat) : wordN (zs.drop (4 * k)) 0 = wordN zs k := by
  unfold wordN; simp only [drop_getD]; rfl
theorem wordN_lt {zs : List Int} (hb : Bytes zs) (j : Nat) : wordN zs j < 4294967296 := by
  have h0 := hb (4 * j); have h1 := hb (4 * j + 1); have h2 := hb (4 * j + 2); have h3 := hb (4 * j + 3)
  unfold wordN; omega

theorem kL_lt (i : Nat) : kL.getD i 0 < 4294967296 := by
  have : ∀ x ∈ kL, x < 4294967296 := by decide
  rw [List.getD_eq_getElem?_getD]
  cases h : kL[i]? with
  | none => simp
  | some x => exact this x (List.mem_of_getElem? h)
theorem tL_lt (i : Nat) : tL.getD i 0 < 32 := by
  have : ∀ x ∈ tL, x < 32 := by decide
  rw [List.getD_eq_getElem?_getD]
  cases h : tL[i]? with
  | none => simp
  | some x => exact this x (List.mem_of_getElem? h)

theorem infoT38 : (Tryz.prog.info? 145).map (·.size) = some 4 := by kernel_rfl

/-- The call's own three blocks. -/
structure Mx (w W : World) (B : Nat) (h : Q4) (zs : List Int) (k : Nat) : Prop where
  hd : Bx W B (q4v h)
  out : Bx W (B + 1) #[.int .u32 0, .int .u32 0, .int .u32 0, .int .u32 0]
  ws : Bx W (B + 1 + 1) (mArr zs k)
  bel : Below B w W
theorem Mx.drewN {w W : World} {B : Nat} {h : Q4} {zs : List Int} {k : Nat} (x : Mx w W B h zs k) (q : Nat) : Mx w (W.drewN q) B h zs k :=
  ⟨x.hd.drewN q, x.out.drewN q, x.ws.drewN q, below_drewN x.bel q⟩
theorem Mx.start (w : World) (h : Q4) (zs : List Int) (A : Array Value) (hA : A = mArr zs 0) : Mx w (((w.alloc (.cells (q4v h) 145)).alloc (.cells #[.int .u32 0, .int .u32 0, .int .u32 0, .int .u32 0] 145)).alloc (.cells A 159)) w.heap.size h zs 0 := by
  subst hA
  refine ⟨((bx_new w _ 145).alloc _).alloc _, ?_, ?_, ((((Below.refl _ w).alloc (Nat.le_refl _) _).alloc (by simp) _).alloc (by simp; omega) _)⟩
  · have := (bx_new (w.alloc (.cells (q4v h) 145)) #[.int .u32 0, .int .u32 0, .int .u32 0, .int .u32 0] 145).alloc (.cells (mArr zs 0) 159)
    rwa [World.size_alloc] at this
  · have := bx_new ((w.alloc (.cells (q4v h) 145)).alloc (.cells #[.int .u32 0, .int .u32 0, .int .u32 0, .int .u32 0] 145)) (mArr zs 0) 159
    rwa [World.size_alloc, World.size_alloc] at this
theorem Mx.step {w W : World} {B : Nat} {h : Q4} {zs : List Int} {k : Nat} (x : Mx w W B h zs k) (hk : k < 16) : Mx w (W.setCell ⟨B + 1 + 1, k, none⟩ (.int .u32 (wordN zs k : Int))) B h zs (k + 1) := by
  have hg := grown_setCellK W ⟨B + 1 + 1, k, none⟩ (.int .u32 (wordN zs k : Int))
  refine ⟨x.hd.grown hg (by simp; omega), x.out.grown hg (by simp), ?_, x.bel.setCell (p := ⟨B + 1 + 1, k, none⟩) (by simp; omega) _⟩
  have := bx_setCell (.int .u32 (wordN zs k : Int)) x.ws (j := k) (by rw [mArr_size]; exact hk)
  rwa [mArr_succ zs k hk] at this

set_option maxRecDepth 100000 in
set_option maxHeartbeats 1000000 in
theorem mixed_any (h : Q4) (hh : h.ok) (b off n c : Nat) (zs : List Int) (w : World) (hr : RdAt w (.slice (some ⟨b, off, none⟩) n c) zs) (hl : 64 ≤ zs.length) (hlt : b < w.heap.size) (hb : Bytes zs) (hG : Gq w) :
    Calls Tryz.prog 90 #[.agg (q4v h), .slice (some ⟨b, off, none⟩) n c] w fun e w' => e = .returned (.agg (q4v (mixN (wordN zs) h))) ∧ Below w.heap.size w w' := by
  replace hG := Kpt.mk hG
  have hrk := Kpt.mk hr
  obtain ⟨hlen, hcap⟩ : n = zs.length ∧ zs.length ≤ c := by
    obtain ⟨a, c', e, _, h2, _⟩ := hr
    cases e; exact ⟨rfl, h2⟩
  clear hr
  have hn64 : 64 ≤ n := by omega
  have hc64 : n ≤ c := by omega
  replace hlen := Kpt.mk hlen
  clear hcap
  obtain ⟨ha, hbb, hc, hd⟩ := hh
  generalize hR : mixN (wordN zs) h = R
  replace hR := Kpt.mk hR
  unfold q4v
  go_enter Tryz.func90, Tryz.ntmps90
  go_wp2
  have m0 := Kpt.mk (Mx.start w h zs _ (mArr_zero zs).symm)
  simp only [List.replicate_succ, List.replicate_zero, q4v] at m0
  have hBw : Kpt (b < w.heap.size) := ⟨hlt⟩
  have hbk := Kpt.mk hb
  clear hlt hb
  go_loopw [15] (fun t wr => ∃ k : Nat, k ≤ 16 ∧ t = .int .i64 k ∧ Kpt (Mx w wr w.heap.size h zs k)) (fun t _ => 16 - (intOf t).toNat)
  case atStart => exact ⟨0, by omega, rfl, m0⟩
  case round =>
    obtain ⟨k, hk, rfl, hM⟩ := hrel
    clear m0
    by_cases hlt : k < 16
    · have hrd := Kpt.mk (rd_drop (hrk.out.of_block (w' := wr) (fun g hg => by simp [Value.ownBlock] at hg; subst hg; exact hM.out.bel.block _ hBw.out)) (k * 4) (by omega))
      have hwd : Calls Tryz.prog 106 #[.slice (some ⟨b, off + k * 4, none⟩) (n - k * 4) (c - k * 4)] wr fun e w' => e = .returned (.int .u32 (wordN zs k : Int)) ∧ ∃ q, w' = wr.drewN q := by
        have := word_any b (off + k * 4) (n - k * 4) (c - k * 4) (zs.drop (k * 4)) wr (by have := hrd.out; rw [show offK c off (k * 4) = off + k * 4 by unfold offK; rw [if_neg (by omega)]] at this; exact this) (by simp; have := hlen.out; omega) (hbk.out.drop _)
        rw [Nat.mul_comm, wordN_drop] at this
        rw [Nat.mul_comm]
        exact this
      replace hwd := Kpt.mk hwd
      have hcl : ∀ q, (wr.drewN q).cell? ⟨w.heap.size + 1 + 1, k, none⟩ = some (.int .u32 0) := fun q => by
        have := (hM.out.drewN q).ws.cells k (by rw [mArr_size]; exact hlt)
        rw [this, mArr_at _ _ _ hlt, if_neg (by omega)]
      have hfr : ∀ q, (wr.drewN q).frozen? ⟨w.heap.size + 1 + 1, k, none⟩ = false := fun q => (hM.out.drewN q).ws.free k
      clear hrd
      go_wp2_with ((go_at_call 106; go_must (refine hwd.out.mono ?_; rintro e w' ⟨rfl, q, rfl⟩; have hclq := hcl q; have hfrq := hfr q; clear hcl hfr hwd)))
      exact ⟨⟨k + 1, by omega, by simp, ⟨(hM.out.drewN q).step hlt⟩⟩, by simp [intOf]; omega⟩
    · obtain rfl : k = 16 := by omega
      have c0 : ∀ m, (wr.drewN m).cell? ⟨w.heap.size, 0, none⟩ = some (.int .u32 (h.a : Int)) := fun m => (hM.out.drewN m).hd.cells 0 (by simp [q4v])
      have c1 : ∀ m, (wr.drewN m).cell? ⟨w.heap.size, 1, none⟩ = some (.int .u32 (h.b : Int)) := fun m => (hM.out.drewN m).hd.cells 1 (by simp [q4v])
      have c2 : ∀ m, (wr.drewN m).cell? ⟨w.heap.size, 2, none⟩ = some (.int .u32 (h.c : Int)) := fun m => (hM.out.drewN m).hd.cells 2 (by simp [q4v])
      have c3 : ∀ m, (wr.drewN m).cell? ⟨w.heap.size, 3, none⟩ = some (.int .u32 (h.d : Int)) := fun m => (hM.out.drewN m).hd.cells 3 (by simp [q4v])
      go_wp2
      go_quiet (fail)
      go_wp2
      have hMq := Kpt.mk (hM.out.drewN nq)
      clear c0 c1 c2 c3 hM
      rw [show ((16 : Nat) : Int) = 16 from rfl]
      go_loopw [7, 8, 9, 10, 34] (fun x7 x8 x9 x10 t wq => ∃ (k : Nat) (s : Q4), k ≤ 64 ∧ x7 = .int .u32 (s.a : Int) ∧ x8 = .int .u32 (s.b : Int) ∧ x9 = .int .u32 (s.c : Int) ∧ x10 = .int .u32 (s.d : Int) ∧ t = .int .i64 k ∧ Kpt (s = stepsN (wordN zs) h k) ∧ Kpt (Mx w wq w.heap.size h zs 16)) (fun _ _ _ _ t _ => 64 - (intOf t).toNat)
      case atStart => exact ⟨0, h, by omega, rfl, rfl, rfl, rfl, rfl, ⟨rfl⟩, hMq⟩
      case round =>
        obtain ⟨k, s, hk, rfl, rfl, rfl, rfl, rfl, hs, hM⟩ := hrel
        clear hMq
        by_cases hlt : k < 64
        · have hok : s.ok := by rw [hs.out]; exact stepsN_ok ⟨ha, hbb, hc, hd⟩ k
          have hpk := Kpt.mk (pick_any k s.b s.c s.d hlt)
          have hGq := Kpt.mk (hG.out.below hM.out.bel hG.out.lt)
          have hF := fN_lt k hok.2.1 hok.2.2.1 hok.2.2.2
          have hgl := gN_lt hlt
          have a0 : ∀ q, (wr.drewN q).cell? ⟨2, k, none⟩ = some (.int .u32 (kL.getD k 0 : Nat)) := fun q => hGq.out.add k hlt
          have a1 : ∀ q, (wr.drewN q).cell? ⟨3, k / 16 * 4 + k % 4, none⟩ = some (.int .i64 (tL.getD (4 * (k / 16) + k % 4) 0 : Nat)) := fun q => by rw [Nat.mul_comm]; exact hGq.out.turn _ (by omega)
          have a2 : ∀ q, (wr.drewN q).cell? ⟨w.heap.size + 1 + 1, gN k, none⟩ = some (.int .u32 (wordN zs (gN k) : Int)) := fun q => by
            have := (hM.out.drewN q).ws.cells (gN k) (by rw [mArr_size]; exact hgl)
            rw [this, mArr_at _ _ _ hgl, if_pos hgl]
          have hK := kL_lt k
          have hT := tL_lt (4 * (k / 16) + k % 4)
          have hW := wordN_lt hbk.out (gN k)
          have hst : Kpt (stepN (wordN zs) k s = ⟨s.d, (s.b + rotN ((s.a + fN k s.b s.c s.d + kL.getD k 0 + wordN zs (gN k)) % 4294967296) (tL.getD (4 * (k / 16) + k % 4) 0)) % 4294967296, s.b, s.c⟩) := ⟨rfl⟩
          generalize kL.getD k 0 = KK at *
          generalize tL.getD (4 * (k / 16) + k % 4) 0 = TT at *
          generalize wordN zs (gN k) = MM at *
          generalize fN k s.b s.c s.d = FF at *
          generalize gN k = GG at *
          obtain ⟨o1, o2, o3, o4⟩ := hok
          have hrot : ∀ W, Calls Tryz.prog 108 #[.int .u32 (((s.a : Int) + FF + KK + MM) % 4294967296), .int .i64 (TT : Int)] W fun e w' => e = .returned (.int .u32 (rotN ((s.a + FF + KK + MM) % 4294967296) TT : Int)) ∧ w' = W := fun W => by
            have := rot_any ((s.a + FF + KK + MM) % 4294967296) TT W (Nat.mod_lt _ (by omega)) hT
            rwa [show (((s.a + FF + KK + MM) % 4294967296 : Nat) : Int) = ((s.a : Int) + FF + KK + MM) % 4294967296 by omega] at this
          replace hrot := Kpt.mk hrot
          go_wp2_with ((go_at_call 107; go_must (refine (hpk.out _ o2 o3 o4).mono ?_; rintro e w' ⟨rfl, rfl⟩; clear hpk)))
          go_quiet ((go_at_call 108; exact Calls.quiet_of_same (hrot.out _)))
          go_wp2
          go_roundw
          case rel => exact ⟨k + 1, stepN (wordN zs) k s, by omega, by rw [hst.out], by rw [hst.out]; simp, by rw [hst.out], by rw [hst.out], by simp, ⟨by rw [stepsN, hs.out]⟩, ⟨hM.out.drewN _⟩⟩
          case measure => simp [intOf]; omega
        · obtain rfl : k = 64 := by omega
          have c0 : wr.cell? ⟨w.heap.size, 0, none⟩ = some (.int .u32 (h.a : Int)) := hM.out.hd.cells 0 (by simp [q4v])
          have c1 : wr.cell? ⟨w.heap.size, 1, none⟩ = some (.int .u32 (h.b : Int)) := hM.out.hd.cells 1 (by simp [q4v])
          have c2 : wr.cell? ⟨w.heap.size, 2, none⟩ = some (.int .u32 (h.c : Int)) := hM.out.hd.cells 2 (by simp [q4v])
          have c3 : wr.cell? ⟨w.heap.size, 3, none⟩ = some (.int .u32 (h.d : Int)) := hM.out.hd.cells 3 (by simp [q4v])
          have hok : s.ok := by rw [hs.out]; exact stepsN_ok ⟨ha, hbb, hc, hd⟩ 64
          obtain ⟨o1, o2, o3, o4⟩ := hok
          go_wp2_with ((refine (?_ : wpList _ _ _ (Oper.mk none (Op.store 145 _ _) _ _ _ _ :: _) _ _); go_must (refine wpList_store_bx rfl 145 (.tmp 4) (.tmp 87) rfl (w.heap.size + 1) #[.int .u32 0, .int .u32 0, .int .u32 0, .int .u32 0] _ rfl rfl hM.out.out rfl (by kernel_rfl) (by simp [Value.oneCell']) rfl ?_; intro w2 hX2 hg2)))
          have hX3 : Bx w2 (w.heap.size + 1) (q4v R) := by
            have e : q4v R = #[.int .u32 (((h.a : Int) + s.a) % 4294967296), .int .u32 (((h.b : Int) + s.b) % 4294967296), .int .u32 (((h.c : Int) + s.c) % 4294967296), .int .u32 (((h.d : Int) + s.d) % 4294967296)] := by
              rw [← hR.out, hs.out]; simp [q4v, mixN]
            rw [e]; exact hX2
          refine bodyPost_ret (v := .agg (q4v R)) (by simp [results, Tryz.results90, asAddr, run_res hX3 145 _ Tryz.underlying145 rfl infoT38]) rfl ⟨rfl, hM.out.bel.grown hg2 hM.out.bel.size (fun k e => by cases e; simp)⟩

end Go.Proofs.YtplifodddfjhdaaGreatDoor

namespace Go.Proofs.YtplifodddfjhdaaGreatDoor
open Go.RowKit
set_option linter.unusedVariables false
set_option linter.unusedSimpArgs false

theorem row_bx {w : World} {g n c : Nat} {Z : List Int} (h : Row w (.slice (some ⟨g, 0, none⟩) n c) Z) (hn : n = Z.length) : Bx w g (cels Z).toArray := by
  subst hn
  refine ⟨Row.lt h rfl, fun j hj => ?_, fun j => ?_⟩
  · have hj' : j < (cels Z).length := by simpa using hj
    have := World.ownsRow.cells h (g := g) rfl j (cels Z)[j] (by rw [List.getElem?_eq_getElem hj'])
    rw [Go.WideShapes.add_plain, Nat.zero_add] at this
    rw [this]; simp
  · rcases h.2 with ⟨hx, _⟩ | ⟨g', cap', cur, hx, hbg, hg, _⟩
    · cases hx
    · simp only [Value.slice.injEq, Option.some.injEq, Addr.mk.injEq, and_true, true_and] at hx
      obtain ⟨rfl, rfl⟩ := hx
      simp [World.frozen?, hg]

theorem endL_eq (L : Nat) (zs : List Int) (size : Nat) (hl : zs.length < 64) (hL : L = 64 * ((zs.length + 72) / 64)) :
    over ((over (List.replicate L 0) 0 zs).set zs.length 128) (L - 8) (lowL (size * 8 % 18446744073709551616) 8) = zs ++ padL zs.length size := by
  have e1 : over (List.replicate L 0) 0 zs = zs ++ List.replicate (L - zs.length) 0 := by simp [over]
  have e2 : (zs ++ List.replicate (L - zs.length) (0 : Int)).set zs.length 128 = zs ++ 128 :: List.replicate (L - zs.length - 1) 0 := by
    rw [List.set_append_right _ _ (Nat.le_refl _), Nat.sub_self]
    have : L - zs.length = (L - zs.length - 1) + 1 := by omega
    rw [this, List.replicate_succ]
    simp
  rw [e1, e2]
  unfold over padL
  have e3 : (zs ++ (128 : Int) :: List.replicate (L - zs.length - 1) 0).take (L - 8) = zs ++ 128 :: List.replicate ((119 - zs.length) % 64) 0 := by
    rw [List.take_append, List.take_of_length_le (by omega)]
    have : L - 8 - zs.length = (119 - zs.length) % 64 + 1 := by omega
    rw [this, List.take_succ_cons, List.take_replicate]
    congr 3
    omega
  rw [e3, List.drop_eq_nil_of_le (by simp [lowL_length]; omega)]
  simp

set_option maxRecDepth 100000 in
set_option maxHeartbeats 1000000 in
theorem ending_64 (v : Value) (a : Option Addr) (n c : Nat) (hva : v = .slice a n c) (size : Nat) (zs : List Int) (w : World) (hr : RdAt w v zs) (hn : n = zs.length) (hl : zs.length ≤ 55)  (hs : size < 9223372036854775808) :
    Calls Tryz.prog 91 #[v, .int .i64 (size : Int)] w fun e w' => e = .returned (.slice (some ⟨w.heap.size, 0, none⟩) 64 64) ∧ Bx w' w.heap.size (cels (zs ++ padL zs.length size)).toArray ∧ Below w.heap.size w w' := by
  subst hva
  obtain ⟨i0', hi0, hz0, hz1, hz2⟩ := info_parts Tryz.info5
  have hnm : 64 ≤ maxLen := by unfold maxLen; omega
  replace hr := Kpt.mk hr
  have hn' := Kpt.mk hn
  have hlen : n ≤ 55 := by omega
  
  clear hn hl 
  go_enter Tryz.func91, Tryz.ntmps91
  go_wp2_with (first
    | (go_at_call 92; have hm := m3; go_must (refine (put_any w.heap.size 56 8 _ (size * 8 % 18446744073709551616) _ _ hX3.out (by omega) (by rw [List.length_set, hzo.out]; omega) (by omega) (Nat.mod_lt _ (by omega))).mono ?_; rintro e w4 ⟨⟨r, rfl⟩, hX4, hg4⟩; replace hX4 := Kpt.mk hX4; replace hg4 := Kpt.mk hg4; clear hm m3))
    | (refine (?_ : wpList _ _ _ (Oper.mk none (Op.store 5 _ _) _ _ _ _ :: _) _ _); have hm := m2; go_must (refine wpList_store_cell rfl rfl w.heap.size n (cels (over (List.replicate 64 0) 0 zs)).toArray (.int .u8 128) rfl rfl rfl hX2.out (by rw [hsz.out]; omega) (by kernel_rfl) rfl ?_; intro w3 hX3 hg3; rw [cels_set] at hX3; replace hX3 := Kpt.mk hX3; replace hg3 := Kpt.mk hg3; clear hm m2; have m3 : Kpt True := ⟨trivial⟩))
    | (refine (?_ : wpList _ _ _ (Oper.mk (some 18) (Op.call _) _ _ _ _ :: _) _ _); have hm := m1; go_must (refine wpList_copy_row rfl (.tmp 16) (.tmp 17) rfl (.slice (some ⟨w.heap.size, 0, none⟩) 64 64) (List.replicate 64 0) hown1.out 0 _ _ _ rfl (by simp) (.inr ⟨w.heap.size, 64, by simp, .inr rfl⟩) (fun h => by cases h) _ zs rfl (hr.out.bel hb1.out) (by simp; have := hn'.out; omega) ?_; intro w2 hrow2 hg2; have hzo : Kpt ((over (List.replicate 64 0) 0 zs).length = 64) := ⟨by rw [over_length _ _ _ (by simp; have := hn'.out; omega)]; simp⟩; have hX2 := Kpt.mk (row_bx hrow2 (by rw [hzo.out])); have hsz : Kpt ((cels (over (List.replicate 64 0) 0 zs)).toArray.size = 64) := ⟨by rw [List.size_toArray, cels_length, hzo.out]⟩; replace hg2 := Kpt.mk hg2; clear hrow2 hm m1; have m2 : Kpt True := ⟨trivial⟩))
    | (at_make; go_must (refine wpList_make_full _ rfl _ _ 26 rfl w.heap.size 5 i0' (.int .u8 0) 1 Tryz.underlying26 hi0 hz0 hz1 .i64 .i64 _ _ 64 rfl rfl rfl rfl (by rw [hz2]; omega) hnm (Nat.le_refl _) ?_; intro w1 hown1 hg1; have hb1 : Kpt (Below w.heap.size w w1) := ⟨(Below.refl _ _).grown hg1 (Nat.le_refl _) (fun k h => by cases h)⟩; rw [made_u8] at hown1; replace hown1 : Kpt (Row w1 (.slice (some ⟨w.heap.size, 0, none⟩) 64 64) (List.replicate 64 0)) := ⟨by have := own_base hown1 (Nat.zero_le _); unfold Row; rw [List.length_replicate]; exact this⟩; clear hg1; have m1 : Kpt True := ⟨trivial⟩)))
  go_ret
  refine ⟨rfl, ?_, ?_⟩
  · have e := endL_eq 64 zs size (by have := hn'.out; omega) (by have := hn'.out; omega)
    have h4 := hX4.out
    rw [hn'.out] at h4
    rw [e] at h4
    exact h4
  · have h2 := hb1.out.grown hg2.out hb1.out.size (fun q hq => by cases hq; exact Nat.le_refl _)
    have h3 := h2.grown hg3.out h2.size (fun q hq => by cases hq; exact Nat.le_refl _)
    exact h3.grown hg4.out h3.size (fun q hq => by cases hq; exact Nat.le_refl _)

set_option maxRecDepth 100000 in
set_option maxHeartbeats 1000000 in
theorem ending_128 (v : Value) (a : Option Addr) (n c : Nat) (hva : v = .slice a n c) (size : Nat) (zs : List Int) (w : World) (hr : RdAt w v zs) (hn : n = zs.length) (hl : zs.length < 64) (hl2 : 55 < zs.length) (hs : size < 9223372036854775808) :
    Calls Tryz.prog 91 #[v, .int .i64 (size : Int)] w fun e w' => e = .returned (.slice (some ⟨w.heap.size, 0, none⟩) 128 128) ∧ Bx w' w.heap.size (cels (zs ++ padL zs.length size)).toArray ∧ Below w.heap.size w w' := by
  subst hva
  obtain ⟨i0', hi0, hz0, hz1, hz2⟩ := info_parts Tryz.info5
  have hnm : 128 ≤ maxLen := by unfold maxLen; omega
  replace hr := Kpt.mk hr
  have hn' := Kpt.mk hn
  have hlen : n < 64 := by omega
  have hlen2 : 55 < n := by omega
  clear hn hl hl2
  go_enter Tryz.func91, Tryz.ntmps91
  go_wp2_with (first
    | (go_at_call 92; have hm := m3; go_must (refine (put_any w.heap.size 120 8 _ (size * 8 % 18446744073709551616) _ _ hX3.out (by omega) (by rw [List.length_set, hzo.out]; omega) (by omega) (Nat.mod_lt _ (by omega))).mono ?_; rintro e w4 ⟨⟨r, rfl⟩, hX4, hg4⟩; replace hX4 := Kpt.mk hX4; replace hg4 := Kpt.mk hg4; clear hm m3))
    | (refine (?_ : wpList _ _ _ (Oper.mk none (Op.store 5 _ _) _ _ _ _ :: _) _ _); have hm := m2; go_must (refine wpList_store_cell rfl rfl w.heap.size n (cels (over (List.replicate 128 0) 0 zs)).toArray (.int .u8 128) rfl rfl rfl hX2.out (by rw [hsz.out]; omega) (by kernel_rfl) rfl ?_; intro w3 hX3 hg3; rw [cels_set] at hX3; replace hX3 := Kpt.mk hX3; replace hg3 := Kpt.mk hg3; clear hm m2; have m3 : Kpt True := ⟨trivial⟩))
    | (refine (?_ : wpList _ _ _ (Oper.mk (some 18) (Op.call _) _ _ _ _ :: _) _ _); have hm := m1; go_must (refine wpList_copy_row rfl (.tmp 16) (.tmp 17) rfl (.slice (some ⟨w.heap.size, 0, none⟩) 128 128) (List.replicate 128 0) hown1.out 0 _ _ _ rfl (by simp) (.inr ⟨w.heap.size, 128, by simp, .inr rfl⟩) (fun h => by cases h) _ zs rfl (hr.out.bel hb1.out) (by simp; have := hn'.out; omega) ?_; intro w2 hrow2 hg2; have hzo : Kpt ((over (List.replicate 128 0) 0 zs).length = 128) := ⟨by rw [over_length _ _ _ (by simp; have := hn'.out; omega)]; simp⟩; have hX2 := Kpt.mk (row_bx hrow2 (by rw [hzo.out])); have hsz : Kpt ((cels (over (List.replicate 128 0) 0 zs)).toArray.size = 128) := ⟨by rw [List.size_toArray, cels_length, hzo.out]⟩; replace hg2 := Kpt.mk hg2; clear hrow2 hm m1; have m2 : Kpt True := ⟨trivial⟩))
    | (at_make; go_must (refine wpList_make_full _ rfl _ _ 26 rfl w.heap.size 5 i0' (.int .u8 0) 1 Tryz.underlying26 hi0 hz0 hz1 .i64 .i64 _ _ 128 rfl rfl rfl rfl (by rw [hz2]; omega) hnm (Nat.le_refl _) ?_; intro w1 hown1 hg1; have hb1 : Kpt (Below w.heap.size w w1) := ⟨(Below.refl _ _).grown hg1 (Nat.le_refl _) (fun k h => by cases h)⟩; rw [made_u8] at hown1; replace hown1 : Kpt (Row w1 (.slice (some ⟨w.heap.size, 0, none⟩) 128 128) (List.replicate 128 0)) := ⟨by have := own_base hown1 (Nat.zero_le _); unfold Row; rw [List.length_replicate]; exact this⟩; clear hg1; have m1 : Kpt True := ⟨trivial⟩)))
  go_ret
  refine ⟨rfl, ?_, ?_⟩
  · have e := endL_eq 128 zs size (by have := hn'.out; omega) (by have := hn'.out; omega)
    have h4 := hX4.out
    rw [hn'.out] at h4
    rw [e] at h4
    exact h4
  · have h2 := hb1.out.grown hg2.out hb1.out.size (fun q hq => by cases hq; exact Nat.le_refl _)
    have h3 := h2.grown hg3.out h2.size (fun q hq => by cases hq; exact Nat.le_refl _)
    exact h3.grown hg4.out h3.size (fun q hq => by cases hq; exact Nat.le_refl _)

/-- What the ending is, however many bytes there are. -/
theorem ending_any (v : Value) (size : Nat) (zs : List Int) (w : World) (hr : RdAt w v zs) (hl : zs.length < 64) (hs : size < 9223372036854775808) :
    Calls Tryz.prog 91 #[v, .int .i64 (size : Int)] w fun e w' => e = .returned (.slice (some ⟨w.heap.size, 0, none⟩) (64 * ((zs.length + 72) / 64)) (64 * ((zs.length + 72) / 64))) ∧ Bx w' w.heap.size (cels (zs ++ padL zs.length size)).toArray ∧ Below w.heap.size w w' := by
  obtain ⟨a, c, hv⟩ := rd_len hr
  by_cases h : zs.length ≤ 55
  · rw [show 64 * ((zs.length + 72) / 64) = 64 by omega]
    exact ending_64 v a zs.length c hv size zs w hr rfl h hs
  · rw [show 64 * ((zs.length + 72) / 64) = 128 by omega]
    exact ending_128 v a zs.length c hv size zs w hr rfl hl (by omega) hs
end Go.Proofs.YtplifodddfjhdaaGreatDoor

namespace Go.Proofs.YtplifodddfjhdaaGreatDoor
open Go.RowKit
set_option linter.unusedVariables false
set_option linter.unusedSimpArgs false

theorem infoT37 : (Tryz.prog.info? 92).map (fun i => (i.zero, i.size, i.bytes)) = some (some (.int .u32 0), 1, 4) := by kernel_rfl

theorem own_bx {w : World} {base g n c : Nat} {e : TypeId} {xs : List Value} (h : w.ownsRow base e 1 (.slice (some ⟨g, 0, none⟩) n c) n xs) : Bx w g xs.toArray := by
  refine ⟨(World.ownsRow.lt h g rfl).2, fun j hj => ?_, fun j => ?_⟩
  · have hj' : j < xs.length := by simpa using hj
    have := World.ownsRow.cells h (g := g) rfl j xs[j] (by rw [List.getElem?_eq_getElem hj'])
    rw [Go.WideShapes.add_plain, Nat.zero_add] at this
    rw [this]; simp
  · rcases h.2 with ⟨hx, _⟩ | ⟨g', cap', cur, hx, hbg, hg, _⟩
    · cases hx
    · simp only [Value.slice.injEq, Option.some.injEq, Addr.mk.injEq, and_true, true_and] at hx
      obtain ⟨rfl, rfl⟩ := hx
      simp [World.frozen?, hg]

/-- The constants as cells; the first k of them laid. -/
def kV (k : Nat) : Array Value := ((List.range 64).map fun j => Value.int .u32 (if j < k then (kL.getD j 0 : Int) else 0)).toArray
def bV : Array Value := ((List.range 64).map fun j => Value.int .u32 (kL.getD (63 - j) 0 : Int)).toArray
theorem kV_size (k : Nat) : (kV k).size = 64 := by simp [kV]
theorem kV_at (k j : Nat) (hj : j < 64) : (kV k)[j]? = some (.int .u32 (if j < k then (kL.getD j 0 : Int) else 0)) := by simp [kV, hj]
theorem bV_at (j : Nat) (hj : j < 64) : bV[j]? = some (.int .u32 (kL.getD (63 - j) 0 : Int)) := by simp [bV, hj]
theorem kV_succ (k : Nat) (hk : k < 64) : (kV k).setIfInBounds k (.int .u32 (kL.getD k 0 : Int)) = kV (k + 1) := by
  apply Array.ext (by simp [kV])
  intro j h1 h2
  have hj : j < 64 := by simpa [kV] using h2
  simp only [kV, List.setIfInBounds_toArray, List.getElem_toArray, List.getElem_set, List.getElem_map, List.getElem_range]
  by_cases e : k = j
  · subst e; simp
  · simp only [e, if_false]
    by_cases h : j < k
    · simp [h, show j < k + 1 by omega]
    · simp [h, show ¬ j < k + 1 by omega]
theorem kV_zero : (madeCells (Value.int .u32 0).cells (64 * 1)) = kV 0 := by kernel_rfl

set_option maxRecDepth 100000 in
set_option maxHeartbeats 1000000 in
theorem rconst_any (w : World) : Calls Tryz.prog 35 #[] w fun e w' => ∃ g, e = .returned (.slice (some ⟨g, 0, none⟩) 64 64) ∧ Bx w' g (kV 64) ∧ w.heap.size ≤ g ∧ Below w.heap.size w w' := by
  obtain ⟨i0', hi0, hz0, hz1, hz2⟩ := info_parts infoT37
  have hnm : 64 ≤ maxLen := by unfold maxLen; omega
  go_enter Tryz.func35, Tryz.ntmps35
  go_wp2_with (first
    | (at_make; have hm := m1; go_must (refine wpList_make_full _ rfl _ _ 93 rfl w1.heap.size 92 i0' (.int .u32 0) 1 Tryz.underlying93 hi0 hz0 hz1 .i64 .i64 _ _ 64 rfl rfl rfl rfl (by rw [hz2]; omega) hnm (Nat.le_refl _) ?_; intro w2 hown2 hg2; have hb2 : Kpt (Below w.heap.size w w2) := ⟨hb1.out.grown hg2 hb1.out.size (fun k h => by cases h)⟩; have hX2 : Kpt (Bx w2 w1.heap.size (kV 0)) := ⟨by have := own_bx hown2; rw [Array.toArray_toList, kV_zero] at this; exact this⟩; have hX1' : Kpt (Bx w2 w.heap.size bV) := ⟨hX1.out.grown hg2 (by simp)⟩; clear hown2 hg2 hX1 hb1 hm m1))
    | (refine (?_ : wpList _ _ _ (Oper.mk (some 4) _ _ _ _ _ :: _) _ _); go_must (refine wpList_of_exec (v := .slice (some ⟨w.heap.size, 0, none⟩) 64 64) (w1 := w.alloc (.cells bV 92)) rfl (by kernel_rfl) ?_; obtain ⟨w1, hw1⟩ : ∃ w1, w.alloc (.cells bV 92) = w1 := ⟨_, rfl⟩; have hX1 : Kpt (Bx w1 w.heap.size bV) := ⟨by rw [← hw1]; exact bx_new w bV 92⟩; have hb1 : Kpt (Below w.heap.size w w1) := ⟨by rw [← hw1]; exact (Below.refl _ w).alloc (Nat.le_refl _) _⟩; have hs1 : Kpt (w.heap.size < w1.heap.size) := ⟨hX1.out.lt⟩; rw [hw1]; clear hw1; have m1 : Kpt True := ⟨trivial⟩)))
  go_loopw [3] (fun t wr => ∃ k : Nat, k ≤ 64 ∧ t = .int .i64 k ∧ Kpt (Bx wr w1.heap.size (kV k)) ∧ Kpt (Bx wr w.heap.size bV) ∧ Kpt (Below w.heap.size w wr)) (fun t _ => 64 - (intOf t).toNat)
  case atStart => exact ⟨0, by omega, rfl, hX2, hX1', hb2⟩
  case round =>
    obtain ⟨k, hk, rfl, hX, hY, hb⟩ := hrel
    clear hX2 hX1' hb2
    by_cases hlt : k < 64
    · have hc : wr.cell? ⟨w.heap.size, 63 - k, none⟩ = some (.int .u32 (kL.getD k 0 : Int)) := by
        rw [hY.out.cells (63 - k) (by simp [bV]; omega), bV_at _ (by omega), show 63 - (63 - k) = k by omega]
      have hd : wr.cell? ⟨w1.heap.size, k, none⟩ = some (.int .u32 0) := by
        rw [hX.out.cells k (by rw [kV_size]; exact hlt), kV_at _ _ hlt, if_neg (by omega)]
      have hf : wr.frozen? ⟨w1.heap.size, k, none⟩ = false := hX.out.free k
      have hs := Kpt.mk (kV_succ k hlt)
      generalize kL.getD k 0 = q at hc hs
      go_wp2
      refine ⟨⟨k + 1, by omega, by simp, ⟨?_⟩, ⟨hY.out.grown (grown_setCellK _ _ _) (by have := hs1.out; simp; omega)⟩, ⟨hb.out.setCell (p := ⟨w1.heap.size, k, none⟩) (by have := hs1.out; simp; omega) _⟩⟩, by simp [intOf]; omega⟩
      have := bx_setCell (.int .u32 (q : Int)) hX.out (j := k) (by rw [kV_size]; exact hlt)
      rwa [hs.out] at this
    · obtain rfl : k = 64 := by omega
      go_wp2
      go_ret
      exact ⟨_, rfl, hX.out, Nat.le_of_lt hs1.out, hb.out⟩

set_option maxRecDepth 100000 in
theorem rleft_any (x n : Nat) (w : World) (hx : x < 4294967296) (hn : n < 32) :
    Calls Tryz.prog 36 #[.int .u32 (x : Int), .int .i64 (n : Int)] w fun e w' => e = .returned (.int .u32 (rotN x n : Int)) ∧ ∃ k, w' = w.drewN k := by
  generalize hF : rotN x n = F
  replace hF := Kpt.mk hF
  go_enter Tryz.func36, Tryz.ntmps36
  go_wp2
  go_quiet (fail)
  go_wp2
  go_ret
  exact ⟨ret_int (by rw [rot_eq x n hx, hF.out]), _, rfl⟩
end Go.Proofs.YtplifodddfjhdaaGreatDoor

namespace Go.Proofs.YtplifodddfjhdaaGreatDoor
open Go.RowKit Go.Shelf
set_option linter.unusedVariables false
set_option linter.unusedSimpArgs false
attribute [local go_sem] Oper.semAt_some

/-- What a round keeps: every block that lay there, but one. -/
def Kq (n₁ hB : Nat) (W W' : World) : Prop := ∀ j, j < n₁ → j ≠ hB → W'.heap[j]? = W.heap[j]?
theorem Kq.refl (n₁ hB : Nat) (W : World) : Kq n₁ hB W W := fun _ _ _ => rfl
theorem Kq.trans {n₁ hB : Nat} {A B C : World} (h : Kq n₁ hB A B) (k : Kq n₁ hB B C) : Kq n₁ hB A C := fun j h1 h2 => (k j h1 h2).trans (h j h1 h2)
theorem Kq.cell {n₁ hB : Nat} {A B : World} (h : Kq n₁ hB A B) {p : Addr} (h1 : p.block < n₁) (h2 : p.block ≠ hB) : B.cell? p = A.cell? p := World.cell?_of_block (h _ h1 h2)

/-- The first k places. -/
def upX (N : Nat) : (k : Nat) → k ≤ N → List { i : Nat // i < N }
  | 0, _ => []
  | k + 1, h => upX N k (Nat.le_of_succ_le h) ++ [⟨k, h⟩]
theorem upX_length (N : Nat) : ∀ k h, (upX N k h).length = k
  | 0, _ => rfl
  | k + 1, h => by simp [upX, upX_length N k]

set_option maxRecDepth 100000 in
set_option maxHeartbeats 2000000 in
theorem chunk1_in (n : Nat) (hn : 1 ≤ n) (l Bs Bn n₁ hB b off N c : Nat) (J Jx : List { i : Nat // i < N } → World → Prop)
    (hY : ∀ pre x W, J pre W → pre.length < N → YieldAt Fence.wide (n - 1) Tryz.prog l #[.slice (some ⟨b, off + 64 * x.1, none⟩) 64 64] W fun e W' =>
      (e = .returned (.bool true) ∧ J (pre ++ [x]) W' ∧ Kq n₁ hB W W') ∨ (e = .returned (.bool false) ∧ Jx (pre ++ [x]) W'))
    (W : World) (hs1 : Bs < n₁) (hs2 : Bs ≠ hB) (hn1 : Bn < n₁) (hn2 : Bn ≠ hB) (hBs : W.cell? ⟨Bs, 0, none⟩ = some (.slice (some ⟨b, off, none⟩) (64 * N) c)) (hBn : W.cell? ⟨Bn, 0, none⟩ = some (.int .i64 64)) (hc : 64 * N ≤ c) (hm : 64 * N ≤ 140737488355328) (hJ : AbidesFrom W.heap.size J) (h0 : J [] W) :
    CallsIn Fence.wide n Tryz.prog 105 #[.func (.yield l) #[] #[], .pointer (some ⟨Bs, 0, none⟩), .pointer (some ⟨Bn, 0, none⟩)] W fun e W' => (∃ v, e = .returned v) ∧
      ((∃ ys, ys = upX N N (Nat.le_refl _) ∧ J ys W') ∨ (∃ pre, Jx pre W')) := by
  refine callsIn_of_wp Tryz.func105 rfl trivial ?_ rfl
  simp only [Tryz.ntmps105, List.size_toArray, List.length_cons, List.length_nil, Nat.reduceAdd, Nat.reduceSub, Array.replicate_succ, Array.replicate_zero, List.push_toArray, List.append_toArray, List.nil_append, List.cons_append]
  gi_wp2
  gi_loopw [4] (fun i wr => ∃ (k : Nat) (hk : k ≤ N), i = .int .i64 (64 * k : Nat) ∧ J (upX N k hk) wr ∧ Kq n₁ hB W wr)
    (fun i _ => 64 * N - (intOf i).toNat)
  case atStart => exact ⟨0, Nat.zero_le _, rfl, h0, Kq.refl _ _ _⟩
  case round =>
    obtain ⟨k, hk, rfl, hJs, hnx⟩ := hrel
    have hcs : wr.cell? ⟨Bs, 0, none⟩ = some (.slice (some ⟨b, off, none⟩) (64 * N) c) := (hnx.cell (p := ⟨Bs, 0, none⟩) hs1 hs2).trans hBs
    have hcn : wr.cell? ⟨Bn, 0, none⟩ = some (.int .i64 64) := (hnx.cell (p := ⟨Bn, 0, none⟩) hn1 hn2).trans hBn
    by_cases hlt : k < N
    · have hJd : J (upX N k hk) wr.drew := hJ _ wr wr.drew none hJs ⟨rfl, rfl, rfl, Nat.le_refl _, fun _ _ _ => rfl⟩ (fun r e => by cases e)
      obtain ⟨fn, tmps, assign, body, hy, hR⟩ := hY _ ⟨k, hlt⟩ wr.drew hJd (by rw [upX_length]; exact hlt)
      dsimp only at hy
      have hcsd : wr.drew.cell? ⟨Bs, 0, none⟩ = some (.slice (some ⟨b, off, none⟩) (64 * N) c) := hcs
      gi_wp2
      gi_region
      gi_wp2
      refine hR.mono ?_
      rintro e W3 (⟨rfl, hJ3, hk3⟩ | ⟨rfl, hJx3⟩)
      · have hcn3 : W3.cell? ⟨Bn, 0, none⟩ = some (.int .i64 64) := (hk3.cell (p := ⟨Bn, 0, none⟩) hn1 hn2).trans hcn
        gi_wp2
        go_roundw
        case rel => exact ⟨k + 1, hlt, by simp; omega, hJ3, hnx.trans (Kq.trans (fun _ _ _ => rfl) hk3)⟩
        case measure => simp [intOf]; omega
      · gi_wp2
        refine bodyPost_ret (results_none rfl _ _ _) rfl ?_
        exact ⟨⟨_, rfl⟩, .inr ⟨_, hJx3⟩⟩
    · obtain rfl : k = N := by omega
      gi_wp2
      go_end0
      exact ⟨⟨_, rfl⟩, .inl ⟨_, rfl, hJs⟩⟩

set_option maxRecDepth 100000 in
set_option maxHeartbeats 1000000 in
/-- .. with nothing in it: no round. -/
theorem chunk1_nil_in (n : Nat) (l Bs Bn : Nat) (a : Option Addr) (c : Nat) (α : Type) (J : List α → World → Prop) (W : World) (hBs : W.cell? ⟨Bs, 0, none⟩ = some (.slice a 0 c)) (h0 : J [] W) :
    CallsIn Fence.wide n Tryz.prog 105 #[.func (.yield l) #[] #[], .pointer (some ⟨Bs, 0, none⟩), .pointer (some ⟨Bn, 0, none⟩)] W fun e W' => (∃ v, e = .returned v) ∧ J [] W' := by
  refine callsIn_of_wp Tryz.func105 rfl trivial ?_ rfl
  simp only [Tryz.ntmps105, List.size_toArray, List.length_cons, List.length_nil, Nat.reduceAdd, Nat.reduceSub, Array.replicate_succ, Array.replicate_zero, List.push_toArray, List.append_toArray, List.nil_append, List.cons_append]
  gi_wp2
  gi_loopw [4] (fun i wr => i = .int .i64 0 ∧ J [] wr ∧ wr = W) (fun _ _ => 0)
  case atStart => exact ⟨rfl, h0, rfl⟩
  case round =>
    obtain ⟨rfl, hJs, rfl⟩ := hrel
    gi_wp2
    go_end0
    exact ⟨⟨_, rfl⟩, hJs⟩

/-- A slice of N pieces of 64 bytes, whose memory a round keeps. -/
def Pcs (n₁ hB N : Nat) (b off c : Nat) (sv : Value) : Prop := (N = 0 ∧ ∃ a c', sv = .slice a 0 c') ∨ (sv = .slice (some ⟨b, off, none⟩) (64 * N) c ∧ 64 * N ≤ c ∧ 64 * N ≤ 140737488355328 ∧ 0 < N)

theorem chunk_stops (n : Nat) (hn : 1 ≤ n) (Bs Bn n₁ hB b off N c : Nat) (sv : Value) (hp : Pcs n₁ hB N b off c sv) (w : World) (hs1 : Bs < n₁) (hs2 : Bs ≠ hB) (hn1 : Bn < n₁) (hn2 : Bn ≠ hB) (hsz : n₁ ≤ w.heap.size)
    (hBs : w.cell? ⟨Bs, 0, none⟩ = some sv) (hBn : w.cell? ⟨Bn, 0, none⟩ = some (.int .i64 64)) :
    SeqStopsK Fence.wide n Tryz.prog 105 #[.pointer (some ⟨Bs, 0, none⟩), .pointer (some ⟨Bn, 0, none⟩)] (fun x : { i : Nat // i < N } => #[.slice (some ⟨b, off + 64 * x.1, none⟩) 64 64]) (Kq n₁ hB)
      (fun ys => ys = upX N N (Nat.le_refl _)) (fun _ => True) N w := fun l J Jx W hW hJ _ hY h0 => by
  have hc1 : W.cell? ⟨Bs, 0, none⟩ = some sv := (hW.cell (p := ⟨Bs, 0, none⟩) (by simp; omega)).trans hBs
  have hc2 : W.cell? ⟨Bn, 0, none⟩ = some (.int .i64 64) := (hW.cell (p := ⟨Bn, 0, none⟩) (by simp; omega)).trans hBn
  rcases hp with ⟨rfl, a, c', rfl⟩ | ⟨rfl, h1, h2, h3⟩
  · exact (chunk1_nil_in n l Bs Bn a c' _ J W hc1 h0).mono fun e W' ⟨he, hj⟩ => ⟨he, .inl ⟨_, rfl, hj⟩⟩
  · refine (chunk1_in n hn l Bs Bn n₁ hB b off N c J Jx hY W hs1 hs2 hn1 hn2 hc1 hc2 h1 h2 hJ h0).mono ?_
    rintro e W' ⟨he, ⟨ys, rfl, hj⟩ | ⟨pre, hj⟩⟩
    · exact ⟨he, .inl ⟨_, rfl, hj⟩⟩
    · exact ⟨he, .inr ⟨pre, trivial, hj⟩⟩

set_option maxHeartbeats 1000000 in
/-- The library's function hands back its closure, with two boxes. -/
theorem chunk_in (n : Nat) (a : Option Addr) (len cap : Nat) (w : World) :
    CallsIn Fence.wide n Tryz.prog 89 #[.slice a len cap, .int .i64 64] w fun e w' => e = .returned (.func (.func 105) #[] #[.pointer (some ⟨w.heap.size, 0, none⟩), .pointer (some ⟨w.heap.size + 1, 0, none⟩)]) ∧ w' = (w.alloc (.cells #[.slice a len cap] 26)).alloc (.cells #[.int .i64 64] 3) := by
  refine callsIn_of_wp Tryz.func89 rfl trivial ?_ rfl
  simp only [Tryz.ntmps89, List.size_toArray, List.length_cons, List.length_nil, Nat.reduceAdd, Nat.reduceSub, Array.replicate_succ, Array.replicate_zero, List.push_toArray, List.append_toArray, List.nil_append, List.cons_append]
  gi_wp2
  go_ret
  exact ⟨rfl, rfl⟩

end Go.Proofs.YtplifodddfjhdaaGreatDoor

namespace Go.Proofs.YtplifodddfjhdaaGreatDoor
open Go.RowKit Go.Shelf
set_option linter.unusedVariables false
set_option linter.unusedSimpArgs false
attribute [local go_sem] Oper.semAt_some

/-- Behind the blocks that have come. -/
def foldX {N : Nat} (zs : List Int) (h : Q4) (pre : List { i : Nat // i < N }) : Q4 := pre.foldl (fun h x => mixN (wordN (zs.drop (64 * x.1))) h) h
theorem foldX_up (N : Nat) (zs : List Int) (h : Q4) : ∀ k hk, foldX zs h (upX N k hk) = foldB zs h k
  | 0, _ => rfl
  | k + 1, hk => by
    have ih := foldX_up N zs h k (Nat.le_of_succ_le hk)
    unfold foldX at ih ⊢
    rw [upX, List.foldl_append, ih]; rfl
theorem foldX_snoc {N : Nat} (zs : List Int) (h : Q4) (pre : List { i : Nat // i < N }) (x : { i : Nat // i < N }) : foldX zs h (pre ++ [x]) = mixN (wordN (zs.drop (64 * x.1))) (foldX zs h pre) := by
  unfold foldX; rw [List.foldl_append]; rfl
theorem foldX_ok {N : Nat} (zs : List Int) (pre : List { i : Nat // i < N }) : ∀ {h : Q4}, h.ok → (foldX zs h pre).ok := by
  induction pre with
  | nil => intro h hh; exact hh
  | cons x l ih => intro h hh; exact ih (h := mixN (wordN (zs.drop (64 * x.1))) h) (mixN_ok _ _)

def z16 : Array Value := (cels (List.replicate 16 0)).toArray

/-- What lies between two rounds. -/
structure Sx (w W : World) (H : Nat) (h : Q4) (N b off c : Nat) (zs : List Int) : Prop where
  num : Bx W H (q4v h)
  res : Bx W w.heap.size z16
  bel : Below w.heap.size w W
  src : 0 < N → RdAt W (.slice (some ⟨b, off, none⟩) (64 * N) c) zs ∧ b < W.heap.size ∧ b ≠ H

theorem Sx.kept {w W W' : World} {H : Nat} {h : Q4} {N b off c B : Nat} {zs : List Int} (x : Sx w W H h N b off c zs) (hg : W.grownBy W' none) : Sx w W' H h N b off c zs :=
  ⟨x.num.grown hg (by simp), x.res.grown hg (by simp), x.bel.grown hg x.bel.size (fun k e => by cases e), fun h0 => ⟨(x.src h0).1.of_block (fun g hg' => by simp [Value.ownBlock] at hg'; subst hg'; exact hg.block _ (x.src h0).2.1 (by simp)), Nat.lt_of_lt_of_le (x.src h0).2.1 hg.size, (x.src h0).2.2⟩⟩
theorem Sx.own {w W W' : World} {H : Nat} {h : Q4} {N b off c B : Nat} {zs : List Int} (x : Sx w W H h N b off c zs) (row : Option Nat) (hg : W.grownBy W' row) (hH : H < B) (hw : w.heap.size < B) (hb : 0 < N → b < B) (hr : ∀ r, row = some r → B ≤ r) : Sx w W' H h N b off c zs :=
  ⟨x.num.grown hg (fun e => by have := hr _ e; omega), x.res.grown hg (fun e => by have := hr _ e; omega), x.bel.grown hg x.bel.size (fun k e => by have := hr _ e; omega), fun h0 => ⟨(x.src h0).1.of_block (fun g hg' => by simp [Value.ownBlock] at hg'; subst hg'; exact hg.block _ (x.src h0).2.1 (fun e => by have := hr _ e.symm; have := hb h0; omega)), Nat.lt_of_lt_of_le (x.src h0).2.1 hg.size, (x.src h0).2.2⟩⟩

theorem rd_mid {w : World} {b off n c : Nat} {zs : List Int} (h : RdAt w (.slice (some ⟨b, off, none⟩) n c) zs) (k m : Nat) (hk : k + m ≤ n) : RdAt w (.slice (some ⟨b, off + k, none⟩) m m) ((zs.drop k).take m) := by
  obtain ⟨hl, hc⟩ := rd_cells h
  have hlen : ((zs.drop k).take m).length = m := by simp; omega
  refine ⟨some ⟨b, off + k, none⟩, m, by rw [hlen], (fun h => by cases h), by rw [hlen]; exact Nat.le_refl _, .inr ⟨b, off + k, rfl, fun j u hu => ?_⟩⟩
  have hj : j < m := by have := (List.getElem?_eq_some_iff.1 hu).1; simpa [hlen] using this
  have e : u = .int .u8 (zs.getD (k + j) 0) := by
    have hkj : k + j < zs.length := by omega
    simp [cels, List.getElem?_map, List.getElem?_take, hj, List.getElem?_drop, List.getElem?_eq_getElem hkj] at hu
    rw [← hu, List.getD_eq_getElem?_getD, List.getElem?_eq_getElem hkj]; rfl
  rw [e, Nat.add_assoc]
  exact hc (k + j) (by omega)

/-- A round: the numbers are turned and stored. -/
theorem Sx.turn {w W W1 : World} {H : Nat} {h h' : Q4} {N b off c : Nat} {zs : List Int} (x : Sx w W H h N b off c zs) (hw : w.heap.size < H) (hb : Below W.heap.size W W1) (hl : w.heap.size ≤ W.heap.size) :
    Sx w ((((W1.setCell ⟨H, 0, none⟩ (.int .u32 (h'.a : Int))).setCell ⟨H, 1, none⟩ (.int .u32 (h'.b : Int))).setCell ⟨H, 2, none⟩ (.int .u32 (h'.c : Int))).setCell ⟨H, 3, none⟩ (.int .u32 (h'.d : Int))) H h' N b off c zs := by
  have n1 := x.num.below hb x.num.lt
  have g1 := grown_setCellK W1 ⟨H, 0, none⟩ (.int .u32 (h'.a : Int))
  have g2 := grown_two g1 (grown_setCellK _ ⟨H, 1, none⟩ (.int .u32 (h'.b : Int)))
  have g3 := grown_two g2 (grown_setCellK _ ⟨H, 2, none⟩ (.int .u32 (h'.c : Int)))
  have g4 := grown_two g3 (grown_setCellK _ ⟨H, 3, none⟩ (.int .u32 (h'.d : Int)))
  have s1 := bx_setCell (.int .u32 (h'.a : Int)) n1 (j := 0) (by simp [q4v])
  have s2 := bx_setCell (.int .u32 (h'.b : Int)) s1 (j := 1) (by simp [q4v])
  have s3 := bx_setCell (.int .u32 (h'.c : Int)) s2 (j := 2) (by simp [q4v])
  have s4 := bx_setCell (.int .u32 (h'.d : Int)) s3 (j := 3) (by simp [q4v])
  have hbel := x.bel.trans (hb.mono hl)
  refine ⟨by simpa [q4v] using s4, (x.res.below hb x.res.lt).grown g4 (by simp; omega), hbel.grown g4 hbel.size (fun k e => by cases e; show w.heap.size ≤ H; omega), fun h0 => ?_⟩
  obtain ⟨r1, r2, r3⟩ := x.src h0
  refine ⟨(r1.bel hb).of_block (fun g hg' => by simp [Value.ownBlock] at hg'; subst hg'; exact g4.block _ (Nat.lt_of_lt_of_le r2 hb.size) (by simpa using r3)), Nat.lt_of_lt_of_le r2 (Nat.le_trans hb.size g4.size), r3⟩
theorem keeps_turn {W W1 : World} {H B : Nat} {v0 v1 v2 v3 : Value} (hb : Below W.heap.size W W1) : KeepsFrom B W ((((W1.setCell ⟨H, 0, none⟩ v0).setCell ⟨H, 1, none⟩ v1).setCell ⟨H, 2, none⟩ v2).setCell ⟨H, 3, none⟩ v3) := by
  have h0 : KeepsFrom B W W1 := ⟨hb.size, fun k o _ hk _ => (hb.block k (Array.getElem?_eq_some_iff.1 hk).1).trans hk⟩
  exact (((h0.trans ((KeepsOthers.setCell _ _ _).from _)).trans ((KeepsOthers.setCell _ _ _).from _)).trans ((KeepsOthers.setCell _ _ _).from _)).trans ((KeepsOthers.setCell _ _ _).from _)
theorem kc_turn {W W1 : World} {H n₁ : Nat} {v0 v1 v2 v3 : Value} (hb : Below W.heap.size W W1) (hn : n₁ ≤ W.heap.size) : Kq n₁ H W ((((W1.setCell ⟨H, 0, none⟩ v0).setCell ⟨H, 1, none⟩ v1).setCell ⟨H, 2, none⟩ v2).setCell ⟨H, 3, none⟩ v3) := by
  have g := grown_two (grown_two (grown_two (grown_setCellK W1 ⟨H, 0, none⟩ v0) (grown_setCellK _ ⟨H, 1, none⟩ v1)) (grown_setCellK _ ⟨H, 2, none⟩ v2)) (grown_setCellK _ ⟨H, 3, none⟩ v3)
  intro j h1 h2
  exact (g.block j (by have := hb.size; omega) (fun e => h2 (by injection e))).trans (hb.block j (by omega))


theorem bytes_of_mem {zs : List Int} (h : ∀ z ∈ zs, 0 ≤ z ∧ z ≤ 255) : Bytes zs := fun j => by
  rw [List.getD_eq_getElem?_getD]
  cases e : zs[j]? with
  | none => simp
  | some z => exact h z (List.mem_of_getElem? e)
theorem bx_rd {w : World} {g n : Nat} {E : List Int} (h : Bx w g (cels E).toArray) (hn : E.length = n) : RdAt w (.slice (some ⟨g, 0, none⟩) n n) E := by
  subst hn
  refine ⟨some ⟨g, 0, none⟩, E.length, rfl, (fun h => by cases h), Nat.le_refl _, .inr ⟨g, 0, rfl, fun j u hu => ?_⟩⟩
  have hj : j < (cels E).length := (List.getElem?_eq_some_iff.1 hu).1
  rw [Nat.zero_add, h.cells j (by simpa using hj), ← hu]; simp
theorem padL_bytes (r s : Nat) : Bytes (padL r s) := by
  refine bytes_of_mem fun z hz => ?_
  unfold padL at hz
  simp only [List.mem_cons, List.mem_append, List.mem_replicate] at hz
  rcases hz with rfl | ⟨_, rfl⟩ | hz
  · omega
  · omega
  · exact lowL_bytes _ _ z hz
theorem wpIn_of_exec {m : Nat} {w w1 : World} {ops : Array Oper} {rest : List Oper} {o : Oper} {a : Act} {Q : Exit → Act → World → Prop} (v : Value) (hgd : o.guard = none) (he : (execOp a.eval o).run Tryz.prog w = .ok (.value v) w1)
    (h : wpListIn Fence.wide m Tryz.prog ops Q rest (a.put o.dst v) w1) : wpListIn Fence.wide m Tryz.prog ops Q (o :: rest) a w :=
  wpListIn_plain hgd fun K hK => ⟨fun _ _ => trivial, by
    have e : Oper.semAt Fence.wide.round a.eval o = execOp a.eval o := by unfold Oper.semAt; simp [Fence.wide]
    rw [e, he]
    exact hK _ _ h⟩
theorem wpIn_load_bx {m : Nat} {w : World} {ops : Array Oper} {rest : List Oper} {o : Oper} {a : Act} {Q : Exit → Act → World → Prop} (hgd : o.guard = none) (ty : TypeId) (x : Operand)
    (ho : o.op = .load ty x) (b : Nat) (cs : Array Value) (hx : a.eval x = .pointer (some ⟨b, 0, none⟩)) (hB : Bx w b cs) (d : TypeDesc)
    (hu : Tryz.prog.underlying ty = some d) (hd : d.isRow = true) (hi : (Tryz.prog.info? ty).map (·.size) = some cs.size)
    (h : wpListIn Fence.wide m Tryz.prog ops Q rest (a.put o.dst (.agg cs)) w) : wpListIn Fence.wide m Tryz.prog ops Q (o :: rest) a w :=
  wpListIn_plain hgd fun K hK => ⟨fun _ _ => trivial, by
    have e : Oper.semAt Fence.wide.round a.eval o = execOp a.eval o := by unfold Oper.semAt; simp [Fence.wide]
    rw [e, exec_load_bx ty x ho b cs hx hB d hu hd hi]
    exact hK _ _ h⟩
theorem wpIn_store_bx {m : Nat} {w : World} {ops : Array Oper} {rest : List Oper} {o : Oper} {a : Act} {Q : Exit → Act → World → Prop} (hgd : o.guard = none) (ty : TypeId) (x y : Operand)
    (ho : o.op = .store ty x y) (b : Nat) (cs ds : Array Value) (hx : a.eval x = .pointer (some ⟨b, 0, none⟩)) (hy : a.eval y = .agg ds) (hB : Bx w b cs) (hl : ds.size = cs.size)
    (hi : (Tryz.prog.info? ty).map (·.size) = some ds.size) (h1 : ds.all (·.oneCell') = true) (hdst : o.dst = none)
    (h : ∀ w', Bx w' b ds → w.grownBy w' (some b) → wpListIn Fence.wide m Tryz.prog ops Q rest a w') : wpListIn Fence.wide m Tryz.prog ops Q (o :: rest) a w :=
  wpListIn_plain hgd fun K hK => ⟨fun _ _ => trivial, by
    have e : Oper.semAt Fence.wide.round a.eval o = execOp a.eval o := by unfold Oper.semAt; simp [Fence.wide]
    have hs := run_storeVar_mid (P := Tryz.prog) w b 0 ty ds (by rw [hl]; exact hB.there) hi h1
    rw [e]
    unfold execOp
    simp only [ho, hx, hy, Instr.storeAt, Instr.sureAddr, Sem.run_bind, Sem.run_pure, Result.andThen_ok, hs]
    refine hK _ _ ?_
    rw [hdst]
    exact h _ (bx_set hB hl) (grown_setCells b ds.toList 0 w)⟩

/-- The numbers' bytes, the first k of them laid. -/
def qn (h : Q4) : Nat → Nat
  | 0 => h.a
  | 1 => h.b
  | 2 => h.c
  | _ => h.d
def outP (h : Q4) : Nat → List Int
  | 0 => []
  | k + 1 => outP h k ++ lowL (qn h k) 4
theorem outP_length (h : Q4) : ∀ k, (outP h k).length = 4 * k
  | 0 => rfl
  | k + 1 => by rw [outP, List.length_append, outP_length h k, lowL_length]; omega
theorem outP_four (h : Q4) : outP h 4 = outL h := by simp [outP, outL, qn]
def outZ (h : Q4) (k : Nat) : List Int := outP h k ++ List.replicate (16 - 4 * k) 0
theorem outZ_length (h : Q4) (k : Nat) (hk : k ≤ 4) : (outZ h k).length = 16 := by simp [outZ, outP_length]; omega
theorem outZ_step (h : Q4) (k off : Nat) (hk : k < 4) (ho : off = 4 * k) : over (outZ h k) off (lowL (qn h k) 4) = outZ h (k + 1) := by
  subst ho
  unfold over outZ
  rw [List.take_append_of_le_length (by rw [outP_length]; omega), List.take_of_length_le (by rw [outP_length]; omega), lowL_length, outP]
  rw [List.drop_append, List.drop_eq_nil_of_le (by rw [outP_length]; omega), outP_length, List.nil_append, List.drop_replicate, List.append_assoc]
  congr 3
  omega
theorem outZ_four (h : Q4) : outZ h 4 = outL h := by rw [outZ, outP_four]; simp

theorem infoT24 : (Tryz.prog.info? 127).map (·.size) = some 16 := by kernel_rfl
theorem kq_b {n₁ H : Nat} {w : World} (hn : n₁ ≤ w.heap.size) (W : World) (l : Nat) (o o' : Obj) (hl : w.heap.size ≤ l) (h : W.heap[l]? = some o) (_ : o.isCells = false) (_ : o.isWalk = false) : Kq n₁ H W (W.putObj l o') :=
  fun j h1 h2 => World.putObj_heap_other (fun e => by omega)
theorem Sx.ownFrom {w : World} {H N b off c B : Nat} {zs : List Int} {β : Type} (f : β → Q4) (hH : H < B) (hw : w.heap.size < B) (hb : 0 < N → b < B) : OwnFrom B (fun (pre : β) W => Sx w W H (f pre) N b off c zs ∧ B ≤ W.heap.size) :=
  fun s W W' row hs hg hr => ⟨hs.1.own row hg hH hw hb (fun r e => (hr r e).1), Nat.le_trans hs.2 hg.size⟩
theorem Sx.cells {w W : World} {H : Nat} {h : Q4} {N b off c : Nat} {zs : List Int} (x : Sx w W H h N b off c zs) : W.cell? ⟨H, 0, none⟩ = some (.int .u32 (h.a : Int)) ∧ W.cell? ⟨H, 1, none⟩ = some (.int .u32 (h.b : Int)) ∧ W.cell? ⟨H, 2, none⟩ = some (.int .u32 (h.c : Int)) ∧ W.cell? ⟨H, 3, none⟩ = some (.int .u32 (h.d : Int)) :=
  ⟨x.num.cells 0 (by simp [q4v]), x.num.cells 1 (by simp [q4v]), x.num.cells 2 (by simp [q4v]), x.num.cells 3 (by simp [q4v])⟩

/-- The call in a round. -/
theorem Sx.mixed {w W : World} {H : Nat} {h : Q4} {N b off c : Nat} {zs : List Int} (x : Sx w W H h N b off c zs) (hh : h.ok) (hb : Bytes zs) (hG : Gq w) (i : Nat) (hi : i < N) :
    Calls Tryz.prog 90 #[.agg (q4v h), .slice (some ⟨b, off + 64 * i, none⟩) 64 64] W fun e w' => e = .returned (.agg (q4v (mixN (wordN (zs.drop (64 * i))) h))) ∧ Below W.heap.size W w' := by
  obtain ⟨r1, r2, r3⟩ := x.src (by omega)
  have hl := (rd_cells r1).1
  have := mixed_any h hh b (off + 64 * i) 64 64 ((zs.drop (64 * i)).take 64) W (rd_mid r1 (64 * i) 64 (by omega)) (by simp; omega) r2 ((hb.drop _).take _) (hG.below x.bel hG.lt)
  rwa [mixN_congr (fun j hj => wordN_congr (ys := zs.drop (64 * i)) (fun q hq => take_getD _ _ _ hq) j hj) h] at this

set_option maxRecDepth 100000 in
set_option maxHeartbeats 1500000 in
theorem sum_some (b off n c : Nat) (zs : List Int) (w : World) (hr : RdAt w (.slice (some ⟨b, off, none⟩) n c) zs) (hbw : 0 < n → b < w.heap.size) (hb : Bytes zs) (hm : n ≤ 140737488355328) (hG : Gq w) :
    Calls Tryz.prog 78 #[.slice (some ⟨b, off, none⟩) n c] w fun e w' => e = .returned (.agg (cels (sumL zs)).toArray) ∧ Below w.heap.size w w' := by
  have hlen := (rd_cells hr).1
  have hnc : n ≤ c := by obtain ⟨a, c', e, _, h2, _⟩ := hr; cases e; omega
  refine (callsIn_wide (n := 9)).1 ?_
  refine callsIn_of_wp_marks Tryz.func78 rfl trivial ?_ rfl
  simp only [Tryz.ntmps78, List.size_toArray, List.length_cons, List.length_nil, Nat.reduceAdd, Nat.reduceSub, Array.replicate_succ, Array.replicate_zero, List.push_toArray, List.append_toArray, List.nil_append, List.cons_append]
  replace hr := Kpt.mk hr
  replace hb := Kpt.mk hb
  replace hG := Kpt.mk hG
  replace hlen := Kpt.mk hlen
  gi_wp2_with ((refine ⟨trivial, ?_⟩; gi_at_call 89; go_must (refine (chunk_in _ _ _ _ _).mono ?_; rintro e w' ⟨rfl, rfl⟩)))
  obtain ⟨N, hN1, hN2⟩ : ∃ N, n - n % 64 = 64 * N ∧ N = n / 64 := ⟨n / 64, by omega, rfl⟩
  rw [hN1]
  replace hN2 := Kpt.mk hN2
  have hNn : 64 * N ≤ n := by omega
  have hS0 : Sx w ((((w.alloc (.cells #[.int .u8 0, .int .u8 0, .int .u8 0, .int .u8 0, .int .u8 0, .int .u8 0, .int .u8 0, .int .u8 0, .int .u8 0, .int .u8 0, .int .u8 0, .int .u8 0, .int .u8 0, .int .u8 0, .int .u8 0, .int .u8 0] 127)).alloc (.cells (q4v h0N) 145)).alloc (.cells #[.slice (some ⟨b, off, none⟩) (64 * N) c] 26)).alloc (.cells #[.int .i64 64] 3)) (w.heap.size + 1) h0N N b off c (zs.take (64 * N)) := by
    have hbel := ((((Below.refl _ w).alloc (Nat.le_refl _) (.cells #[.int .u8 0, .int .u8 0, .int .u8 0, .int .u8 0, .int .u8 0, .int .u8 0, .int .u8 0, .int .u8 0, .int .u8 0, .int .u8 0, .int .u8 0, .int .u8 0, .int .u8 0, .int .u8 0, .int .u8 0, .int .u8 0] 127)).alloc (by simp) (.cells (q4v h0N) 145)).alloc (by simp; omega) (.cells #[.slice (some ⟨b, off, none⟩) (64 * N) c] 26)).alloc (by simp; omega) (.cells #[.int .i64 64] 3)
    refine ⟨?_, (((bx_new w z16 127).alloc _).alloc _).alloc _, hbel, fun h0 => ⟨(rd_take hr.out (64 * N) (by rw [hlen.out]; omega)).bel hbel, Nat.lt_of_lt_of_le (hbw (by omega)) hbel.size, by have := hbw (by omega); omega⟩⟩
    have := ((bx_new (w.alloc (.cells z16 127)) (q4v h0N) 145).alloc (.cells #[.slice (some ⟨b, off, none⟩) (64 * N) c] 26)).alloc (.cells #[.int .i64 64] 3)
    rw [World.size_alloc] at this
    exact this
  have hZ0 : ((((w.alloc (.cells #[.int .u8 0, .int .u8 0, .int .u8 0, .int .u8 0, .int .u8 0, .int .u8 0, .int .u8 0, .int .u8 0, .int .u8 0, .int .u8 0, .int .u8 0, .int .u8 0, .int .u8 0, .int .u8 0, .int .u8 0, .int .u8 0] 127)).alloc (.cells (q4v h0N) 145)).alloc (.cells #[.slice (some ⟨b, off, none⟩) (64 * N) c] 26)).alloc (.cells #[.int .i64 64] 3)).heap.size = w.heap.size + 1 + 1 + 1 + 1 := by simp
  have hC0 : ((((w.alloc (.cells #[.int .u8 0, .int .u8 0, .int .u8 0, .int .u8 0, .int .u8 0, .int .u8 0, .int .u8 0, .int .u8 0, .int .u8 0, .int .u8 0, .int .u8 0, .int .u8 0, .int .u8 0, .int .u8 0, .int .u8 0, .int .u8 0] 127)).alloc (.cells (q4v h0N) 145)).alloc (.cells #[.slice (some ⟨b, off, none⟩) (64 * N) c] 26)).alloc (.cells #[.int .i64 64] 3)).cell? ⟨w.heap.size + 1 + 1, 0, none⟩ = some (.slice (some ⟨b, off, none⟩) (64 * N) c) := by
    have := ((bx_new ((w.alloc (.cells z16 127)).alloc (.cells (q4v h0N) 145)) #[.slice (some ⟨b, off, none⟩) (64 * N) c] 26).alloc (.cells #[.int .i64 64] 3)).cells 0 (by simp)
    rw [World.size_alloc, World.size_alloc] at this
    exact this
  have hC1 : ((((w.alloc (.cells #[.int .u8 0, .int .u8 0, .int .u8 0, .int .u8 0, .int .u8 0, .int .u8 0, .int .u8 0, .int .u8 0, .int .u8 0, .int .u8 0, .int .u8 0, .int .u8 0, .int .u8 0, .int .u8 0, .int .u8 0, .int .u8 0] 127)).alloc (.cells (q4v h0N) 145)).alloc (.cells #[.slice (some ⟨b, off, none⟩) (64 * N) c] 26)).alloc (.cells #[.int .i64 64] 3)).cell? ⟨w.heap.size + 1 + 1 + 1, 0, none⟩ = some (.int .i64 64) := by
    have := (bx_new (((w.alloc (.cells z16 127)).alloc (.cells (q4v h0N) 145)).alloc (.cells #[.slice (some ⟨b, off, none⟩) (64 * N) c] 26)) #[.int .i64 64] 3).cells 0 (by simp)
    rw [World.size_alloc, World.size_alloc, World.size_alloc] at this
    exact this
  simp only [q4v, h0N] at hZ0 hC0 hC1
  change Sx w ((((w.alloc (.cells #[.int .u8 0, .int .u8 0, .int .u8 0, .int .u8 0, .int .u8 0, .int .u8 0, .int .u8 0, .int .u8 0, .int .u8 0, .int .u8 0, .int .u8 0, .int .u8 0, .int .u8 0, .int .u8 0, .int .u8 0, .int .u8 0] 127)).alloc (.cells #[.int .u32 1732584193, .int .u32 4023233417, .int .u32 2562383102, .int .u32 271733878] 145)).alloc (.cells #[.slice (some ⟨b, off, none⟩) (64 * N) c] 26)).alloc (.cells #[.int .i64 64] 3)) (w.heap.size + 1) h0N N b off c (zs.take (64 * N)) at hS0
  generalize hW0 : ((((w.alloc (.cells #[.int .u8 0, .int .u8 0, .int .u8 0, .int .u8 0, .int .u8 0, .int .u8 0, .int .u8 0, .int .u8 0, .int .u8 0, .int .u8 0, .int .u8 0, .int .u8 0, .int .u8 0, .int .u8 0, .int .u8 0, .int .u8 0] 127)).alloc (.cells #[.int .u32 1732584193, .int .u32 4023233417, .int .u32 2562383102, .int .u32 271733878] 145)).alloc (.cells #[.slice (some ⟨b, off, none⟩) (64 * N) c] 26)).alloc (.cells #[.int .i64 64] 3)) = W0 at hS0 hZ0 hC0 hC1 ⊢
  clear hW0
  refine wpIn_rangeFunc_ownG rfl (by omega) (gf := 105) (lb := #[.pointer (some ⟨w.heap.size + 1 + 1, 0, none⟩), .pointer (some ⟨w.heap.size + 1 + 1 + 1, 0, none⟩)]) rfl trivial (enters_of Tryz.func105 (by kernel_rfl) rfl)
    (chunk_stops 8 (by omega) (w.heap.size + 1 + 1) (w.heap.size + 1 + 1 + 1) (w.heap.size + 1 + 1 + 1 + 1) (w.heap.size + 1) b off N c (.slice (some ⟨b, off, none⟩) (64 * N) c) (by unfold Pcs; by_cases h : N = 0; exact .inl ⟨h, _, _, by rw [h]⟩; exact .inr ⟨rfl, by omega, by omega, by omega⟩) _ (by omega) (by omega) (by omega) (by omega) (by omega) hC0 hC1)
    Kq.trans (kq_b (by omega)) (Below.refl _ _) (fun _ => rfl)
    (fun pre W => Sx w W (w.heap.size + 1) (foldX (zs.take (64 * N)) h0N pre) N b off c (zs.take (64 * N)) ∧ w.heap.size + 1 + 1 + 1 + 1 ≤ W.heap.size)
    (fun _ _ _ => False)
    (by have := Sx.ownFrom (w := w) (H := w.heap.size + 1) (N := N) (b := b) (off := off) (c := c) (B := w.heap.size + 1 + 1 + 1 + 1) (zs := zs.take (64 * N)) (foldX (N := N) (zs.take (64 * N)) h0N) (by omega) (by omega) (fun h => by have := hbw (by omega); omega); rw [hZ0]; exact this)
    (fun _ _ _ _ _ hs _ _ => hs)
    ⟨hS0, by omega⟩
    (fun x => { tmps := #[.slice (some ⟨b, off, none⟩) n c, undef, .pointer (some ⟨w.heap.size, 0, none⟩), .pointer (some ⟨w.heap.size + 1, 0, none⟩), .int .i64 ((n : Int) % 64), .slice (some ⟨b, off, none⟩) (64 * N) c, .slice (some ⟨b, off + 64 * x.1, none⟩) 64 64, undef, undef, undef, undef,
      .agg #[.int .u32 1732584193, .int .u32 4023233417, .int .u32 2562383102, .int .u32 271733878], .slice (some ⟨b, off, none⟩) n c, .int .i64 n, .int .i64 ((n : Int) % 64), .slice (some ⟨b, off, none⟩) n c, .slice (some ⟨b, off, none⟩) n c, .int .i64 n, .int .i64 ((n : Int) % 64), .int .i64 ((n : Int) - (n : Int) % 64), .slice (some ⟨b, off, none⟩) (64 * N) c, .slice (some ⟨b, off, none⟩) (64 * N) c,
      .func (.func 105) #[] #[.pointer (some ⟨w.heap.size + 1 + 1, 0, none⟩), .pointer (some ⟨w.heap.size + 1 + 1 + 1, 0, none⟩)], .slice (some ⟨b, off + 64 * x.1, none⟩) 64 64, undef, undef, undef, undef, undef, undef, undef, undef, undef, undef, undef, undef, undef, undef, undef, undef, undef, undef, undef, undef, undef, undef, undef, undef, undef, undef, undef, undef, undef, undef, undef], defers := [] }) ?assign ?body ?done ?stop
  case assign =>
    intro l x W K hK
    gi_wp2
    exact hK
  case body =>
    rintro l pre x W ⟨hS, hsz⟩ _
    have hok := foldX_ok (zs.take (64 * N)) pre h0N_ok
    have hmx := Kpt.mk (hS.mixed hok (hb.out.take _) hG.out x.1 x.2)
    obtain ⟨h, hh⟩ : ∃ h, foldX (zs.take (64 * N)) h0N pre = h := ⟨_, rfl⟩
    rw [hh] at hS hok hmx
    replace hh := Kpt.mk hh
    obtain ⟨h', hh'⟩ : ∃ h', mixN (wordN ((zs.take (64 * N)).drop (64 * x.1))) h = h' := ⟨_, rfl⟩
    rw [hh'] at hmx
    replace hh' := Kpt.mk hh'
    unfold q4v at hmx
    obtain ⟨c0, c1, c2, c3⟩ := hS.cells
    replace hS := Kpt.mk hS
    gi_wp2_with ((refine ⟨trivial, ?_⟩; gi_at_call 90; go_must (refine (CallsIn.inRound l (callsIn_wide.2 hmx.out)).mono ?_; rintro e W1 ⟨rfl, hb1⟩; have nn := hS.out.num.below hb1 hS.out.num.lt; have d0 := nn.cells 0 (by simp [q4v]); have d1 := nn.cells 1 (by simp [q4v]); have d2 := nn.cells 2 (by simp [q4v]); have d3 := nn.cells 3 (by simp [q4v]); simp [q4v] at d0 d1 d2 d3; have f0 := nn.free 0; have f1 := nn.free 1; have f2 := nn.free 2; have f3 := nn.free 3; clear nn c0 c1 c2 c3 hmx; replace hb1 := Kpt.mk hb1)))
    refine ⟨keeps_turn hb1.out, kc_turn hb1.out hsz, ?_, ?_⟩
    · rw [foldX_snoc, hh.out, hh'.out]
      exact hS.out.turn (by omega) hb1.out (by omega)
    · have := hb1.out.size; simp; omega
  case done =>
    rintro D ys W hD rfl ⟨hS, hsz⟩ hK
    rw [foldX_up] at hS
    clear hS0 hC0 hC1 hN1
    replace hbw := Kpt.mk hbw
    have hZW := Kpt.mk hZ0
    clear hZ0
    replace hD := Kpt.mk hD
    replace hsz := Kpt.mk hsz
    replace hK := Kpt.mk hK
    replace hS := Kpt.mk hS
    have hoff : (if c = 64 * N then some (⟨b, off, none⟩ : Addr) else some ⟨b, off + 64 * N, none⟩) = some ⟨b, offK c off (64 * N), none⟩ := by unfold offK; split <;> rfl
    have hend := Kpt.mk (ending_any (.slice (some ⟨b, offK c off (64 * N), none⟩) (n - 64 * N) (c - 64 * N)) n (zs.drop (64 * N)) W ((rd_drop hr.out (64 * N) hNn).bel hS.out.bel) (by simp; have := hlen.out; have := hN2.out; omega) (by omega))
    gi_wp2_with (first
      | (refine ⟨trivial, ?_⟩; gi_at_call 91; go_must (refine (callsIn_wide.2 hend.out).mono ?_; rintro e W2 ⟨rfl, hX2, hb2⟩; replace hX2 := Kpt.mk hX2; replace hb2 := Kpt.mk hb2; clear hend))
      | (refine ⟨trivial, ?_⟩; gi_at_call 89; go_must (refine (chunk_in _ _ _ _ _).mono ?_; rintro e w' ⟨rfl, rfl⟩)))
    have hE : (zs.drop (64 * N) ++ padL (zs.drop (64 * N)).length n).length = 64 * ((zs.length - 64 * N + 72) / 64) := by rw [List.length_append, padL_length, List.length_drop]; have := hlen.out; have := hN2.out; omega
    have hNp : 0 < (zs.length - 64 * N + 72) / 64 := by omega
    have hNle : 64 * ((zs.length - 64 * N + 72) / 64) ≤ 128 := by have := hlen.out; have := hN2.out; omega
    have hbE : Bytes (zs.drop (64 * N) ++ padL (zs.drop (64 * N)).length n) := (hb.out.drop _).append (padL_bytes _ _)
    obtain ⟨E, hEd⟩ : ∃ E, zs.drop (64 * N) ++ padL (zs.drop (64 * N)).length n = E := ⟨_, rfl⟩
    obtain ⟨N2, hN3⟩ : ∃ N2, (zs.length - 64 * N + 72) / 64 = N2 := ⟨_, rfl⟩
    rw [hEd] at hE hX2 hbE
    rw [hN3] at hE hNp hNle ⊢
    replace hEd := Kpt.mk hEd
    replace hN3 := Kpt.mk hN3
    obtain ⟨hh, hhd⟩ : ∃ hh, foldB (zs.take (64 * N)) h0N N = hh := ⟨_, rfl⟩
    have hhok : hh.ok := by rw [← hhd]; exact foldB_ok _ h0N_ok _
    rw [hhd] at hS
    replace hhd := Kpt.mk hhd
    have hlt := hS.out.num.lt
    have hlw := hS.out.res.lt
    have hsz2 := hb2.out.size
    have hGl2 := hX2.out.lt
    have hS0 : Sx w ((W2.alloc (.cells #[.slice (some ⟨W.heap.size, 0, none⟩) (64 * N2) (64 * N2)] 26)).alloc (.cells #[.int .i64 64] 3)) (w.heap.size + 1) hh N2 W.heap.size 0 (64 * N2) E :=
      ⟨((hS.out.num.below hb2.out hlt).alloc _).alloc _, ((hS.out.res.below hb2.out hlw).alloc _).alloc _, ((hS.out.bel.trans (hb2.out.mono (by omega))).alloc (by omega) _).alloc (by simp; omega) _,
        fun _ => ⟨bx_rd ((hX2.out.alloc _).alloc _) hE, by simp; omega, by omega⟩⟩
    have hZ0 : ((W2.alloc (.cells #[.slice (some ⟨W.heap.size, 0, none⟩) (64 * N2) (64 * N2)] 26)).alloc (.cells #[.int .i64 64] 3)).heap.size = W2.heap.size + 1 + 1 := by simp
    have hC0 : ((W2.alloc (.cells #[.slice (some ⟨W.heap.size, 0, none⟩) (64 * N2) (64 * N2)] 26)).alloc (.cells #[.int .i64 64] 3)).cell? ⟨W2.heap.size, 0, none⟩ = some (.slice (some ⟨W.heap.size, 0, none⟩) (64 * N2) (64 * N2)) := ((bx_new W2 #[.slice (some ⟨W.heap.size, 0, none⟩) (64 * N2) (64 * N2)] 26).alloc (.cells #[.int .i64 64] 3)).cells 0 (by simp)
    have hC1 : ((W2.alloc (.cells #[.slice (some ⟨W.heap.size, 0, none⟩) (64 * N2) (64 * N2)] 26)).alloc (.cells #[.int .i64 64] 3)).cell? ⟨W2.heap.size + 1, 0, none⟩ = some (.int .i64 64) := by
      have := (bx_new (W2.alloc (.cells #[.slice (some ⟨W.heap.size, 0, none⟩) (64 * N2) (64 * N2)] 26)) #[.int .i64 64] 3).cells 0 (by simp)
      rw [World.size_alloc] at this
      exact this
    have hK2 : ((W2.alloc (.cells #[.slice (some ⟨W.heap.size, 0, none⟩) (64 * N2) (64 * N2)] 26)).alloc (.cells #[.int .i64 64] 3)).heap[D]? = some (.deferred (some [])) := by
      have hd := (Array.getElem?_eq_some_iff.1 hK.out).1
      rw [Below.heap_alloc _ _ _ (by simp; omega), Below.heap_alloc _ _ _ (by omega), hb2.out.block D hd]
      exact hK.out
    have hDlt : D < W2.heap.size := Nat.lt_of_lt_of_le (Array.getElem?_eq_some_iff.1 hK.out).1 hsz2
    have hD' := hD.out
    have hZ' := hZ0.symm
    generalize (World.alloc _ (Obj.cells #[.int .i64 64] 3)) = W3 at hS0 hZ0 hC0 hC1 hK2 hZ' ⊢
    clear hZ'
    refine wpIn_rangeFunc_ownG rfl (by omega) (gf := 105) (lb := #[.pointer (some ⟨W2.heap.size, 0, none⟩), .pointer (some ⟨W2.heap.size + 1, 0, none⟩)]) rfl trivial (enters_of Tryz.func105 (by kernel_rfl) rfl)
      (chunk_stops 8 (by omega) W2.heap.size (W2.heap.size + 1) (W2.heap.size + 1 + 1) (w.heap.size + 1) W.heap.size 0 N2 (64 * N2) (.slice (some ⟨W.heap.size, 0, none⟩) (64 * N2) (64 * N2)) (.inr ⟨rfl, Nat.le_refl _, by omega, hNp⟩) _ (by omega) (by omega) (by omega) (by omega) (by omega) hC0 hC1)
      Kq.trans (kq_b (by omega)) (Below.refl _ _) (fun _ => rfl)
      (fun pre W' => (Sx w W' (w.heap.size + 1) (foldX E hh pre) N2 W.heap.size 0 (64 * N2) E ∧ W2.heap.size + 1 + 1 ≤ W'.heap.size) ∧ W'.heap[D]? = some (.deferred (some [])))
      (fun _ _ _ => False)
      (by have := Sx.ownFrom (w := w) (H := w.heap.size + 1) (N := N2) (b := W.heap.size) (off := 0) (c := 64 * N2) (B := W2.heap.size + 1 + 1) (zs := E) (foldX (N := N2) E hh) (by omega) (by omega) (fun h => by omega); rw [hZ0]; exact OwnFrom.and this (fun s A B' row hs hg hr => (hg.block D (Array.getElem?_eq_some_iff.1 hs).1 (fun e => by have := (hr _ e.symm).1; omega)).trans hs))
      (fun _ _ _ _ _ hs _ _ => hs)
      ⟨⟨hS0, by omega⟩, hK2⟩
      ?a1 ?assign2 ?body2 ?done2 ?stop2
    case assign2 =>
      intro l x W K hK
      gi_wp2
      exact hK
    case body2 =>
      rintro l pre x W' ⟨⟨hS, hsz⟩, hKD⟩ _
      have hok := foldX_ok E pre hhok
      have hmx := Kpt.mk (hS.mixed hok hbE hG.out x.1 x.2)
      rw [Nat.zero_add] at hmx
      obtain ⟨h, hh1⟩ : ∃ h, foldX E hh pre = h := ⟨_, rfl⟩
      rw [hh1] at hS hok hmx
      replace hh1 := Kpt.mk hh1
      obtain ⟨h', hh'⟩ : ∃ h', mixN (wordN (E.drop (64 * x.1))) h = h' := ⟨_, rfl⟩
      rw [hh'] at hmx
      replace hh' := Kpt.mk hh'
      unfold q4v at hmx
      obtain ⟨c0, c1, c2, c3⟩ := hS.cells
      replace hS := Kpt.mk hS
      replace hKD := Kpt.mk hKD
      gi_wp2_with ((refine ⟨trivial, ?_⟩; gi_at_call 90; go_must (refine (CallsIn.inRound l (callsIn_wide.2 hmx.out)).mono ?_; rintro e W1 ⟨rfl, hb1⟩; have nn := hS.out.num.below hb1 hS.out.num.lt; have d0 := nn.cells 0 (by simp [q4v]); have d1 := nn.cells 1 (by simp [q4v]); have d2 := nn.cells 2 (by simp [q4v]); have d3 := nn.cells 3 (by simp [q4v]); simp [q4v] at d0 d1 d2 d3; have f0 := nn.free 0; have f1 := nn.free 1; have f2 := nn.free 2; have f3 := nn.free 3; clear nn c0 c1 c2 c3 hmx; replace hb1 := Kpt.mk hb1)))
      refine ⟨keeps_turn hb1.out, kc_turn hb1.out hsz, ⟨?_, ?_⟩, ?_⟩
      · rw [foldX_snoc, hh1.out, hh'.out]
        exact hS.out.turn (by omega) hb1.out (by omega)
      · have := hb1.out.size; simp; omega
      · exact (keeps_turn (B := 0) hb1.out).same D _ (Nat.zero_le _) hKD.out rfl
    case done2 =>
      rintro D2 ys W4 hD2 rfl ⟨⟨hS, hsz⟩, hKD⟩ hK4
      rw [foldX_up] at hS
      obtain ⟨h9, h9d⟩ : ∃ h9, foldB E hh N2 = h9 := ⟨_, rfl⟩
      have h9ok : h9.ok := by rw [← h9d]; exact foldB_ok _ hhok _
      rw [h9d] at hS
      replace h9d := Kpt.mk h9d
      obtain ⟨o1, o2, o3, o4⟩ := h9ok
      have lw4 := hS.res.lt
      have hdl := (Array.getElem?_eq_some_iff.1 hKD).1
      have hdl2 := (Array.getElem?_eq_some_iff.1 hK4).1
      clear hS0 hC0 hC1 hK2 hX2 hE hbE
      replace hD2 : Kpt (W2.heap.size + 1 + 1 ≤ D2) := ⟨by omega⟩
      replace hDlt := Kpt.mk hDlt
      replace hD' := Kpt.mk (show w.heap.size + 1 + 1 + 1 + 1 ≤ D by have := hZW.out; have := hD.out; omega)
      have hDD : Kpt (D ≠ D2) := ⟨by have := hD2.out; have := hDlt.out; omega⟩
      replace hS := Kpt.mk hS
      replace hKD := Kpt.mk hKD
      replace hK4 := Kpt.mk hK4
      replace lw4 := Kpt.mk lw4
      replace hdl := Kpt.mk hdl
      replace hdl2 := Kpt.mk hdl2
      replace hsz := Kpt.mk hsz
      clear hZ0 hlt hlw hsz2 hGl2 hNp hNle
      replace hhok := Kpt.mk hhok
      clear hoff
      gi_wp2_with ((refine (?_ : wpListIn _ _ _ _ _ (Oper.mk _ (Op.load 145 _) _ _ _ _ :: _) _ _); go_must (refine wpIn_load_bx rfl 145 (.tmp 3) rfl (w.heap.size + 1) #[.int .u32 (h9.a : Int), .int .u32 (h9.b : Int), .int .u32 (h9.c : Int), .int .u32 (h9.d : Int)] rfl (hS.out.num.alloc _) _ Tryz.underlying145 rfl infoT38 ?_)))
      gi_loopw [40] (fun t wr => ∃ k : Nat, k ≤ 4 ∧ t = .int .i64 k ∧ Kpt (Bx wr W4.heap.size (cels (outZ h9 k)).toArray) ∧ Kpt (Below W4.heap.size W4 wr)) (fun t _ => 4 - (intOf t).toNat)
      case atStart => exact ⟨0, by omega, rfl, ⟨bx_new W4 _ 127⟩, ⟨(Below.refl _ W4).alloc (Nat.le_refl _) _⟩⟩
      case round =>
        obtain ⟨k, hk, rfl, hX, hbl⟩ := hrel
        by_cases hlt : k < 4
        · obtain rfl | rfl | rfl | rfl : k = 0 ∨ k = 1 ∨ k = 2 ∨ k = 3 := by omega
          · gi_wp2_with (first | (refine (?_ : wpListIn _ _ _ _ _ (Oper.mk _ (Op.index 145 _ _) _ _ _ _ :: _) _ _); go_must (refine wpIn_of_exec (w1 := wr) (.int .u32 (h9.a : Int)) rfl (by kernel_rfl) ?_)) | (refine ⟨trivial, ?_⟩; gi_at_call 92; go_must (refine (callsIn_wide.2 (put_any W4.heap.size 0 4 _ (qn h9 0) (outZ h9 0) wr hX.out (by omega) (by rw [outZ_length _ _ (by omega)]; omega) (by omega) (by show h9.a < _; omega))).mono ?_; rintro e W5 ⟨⟨r, rfl⟩, hX5, hg5⟩; replace hX5 := Kpt.mk hX5; replace hg5 := Kpt.mk hg5)))
            go_roundw
            case rel => exact ⟨1, by omega, by simp, ⟨by have := hX5.out; rw [outZ_step h9 0 0 (by omega) rfl] at this; exact this⟩, ⟨hbl.out.grown hg5.out hbl.out.size (fun q e => by cases e; exact Nat.le_refl _)⟩⟩
            case measure => simp [intOf]
          · gi_wp2_with (first | (refine (?_ : wpListIn _ _ _ _ _ (Oper.mk _ (Op.index 145 _ _) _ _ _ _ :: _) _ _); go_must (refine wpIn_of_exec (w1 := wr) (.int .u32 (h9.b : Int)) rfl (by kernel_rfl) ?_)) | (refine ⟨trivial, ?_⟩; gi_at_call 92; go_must (refine (callsIn_wide.2 (put_any W4.heap.size 4 4 _ (qn h9 1) (outZ h9 1) wr hX.out (by omega) (by rw [outZ_length _ _ (by omega)]; omega) (by omega) (by show h9.b < _; omega))).mono ?_; rintro e W5 ⟨⟨r, rfl⟩, hX5, hg5⟩; replace hX5 := Kpt.mk hX5; replace hg5 := Kpt.mk hg5)))
            go_roundw
            case rel => exact ⟨2, by omega, by simp, ⟨by have := hX5.out; rw [outZ_step h9 1 4 (by omega) rfl] at this; exact this⟩, ⟨hbl.out.grown hg5.out hbl.out.size (fun q e => by cases e; exact Nat.le_refl _)⟩⟩
            case measure => simp [intOf]
          · gi_wp2_with (first | (refine (?_ : wpListIn _ _ _ _ _ (Oper.mk _ (Op.index 145 _ _) _ _ _ _ :: _) _ _); go_must (refine wpIn_of_exec (w1 := wr) (.int .u32 (h9.c : Int)) rfl (by kernel_rfl) ?_)) | (refine ⟨trivial, ?_⟩; gi_at_call 92; go_must (refine (callsIn_wide.2 (put_any W4.heap.size 8 4 _ (qn h9 2) (outZ h9 2) wr hX.out (by omega) (by rw [outZ_length _ _ (by omega)]; omega) (by omega) (by show h9.c < _; omega))).mono ?_; rintro e W5 ⟨⟨r, rfl⟩, hX5, hg5⟩; replace hX5 := Kpt.mk hX5; replace hg5 := Kpt.mk hg5)))
            go_roundw
            case rel => exact ⟨3, by omega, by simp, ⟨by have := hX5.out; rw [outZ_step h9 2 8 (by omega) rfl] at this; exact this⟩, ⟨hbl.out.grown hg5.out hbl.out.size (fun q e => by cases e; exact Nat.le_refl _)⟩⟩
            case measure => simp [intOf]
          · gi_wp2_with (first | (refine (?_ : wpListIn _ _ _ _ _ (Oper.mk _ (Op.index 145 _ _) _ _ _ _ :: _) _ _); go_must (refine wpIn_of_exec (w1 := wr) (.int .u32 (h9.d : Int)) rfl (by kernel_rfl) ?_)) | (refine ⟨trivial, ?_⟩; gi_at_call 92; go_must (refine (callsIn_wide.2 (put_any W4.heap.size 12 4 _ (qn h9 3) (outZ h9 3) wr hX.out (by omega) (by rw [outZ_length _ _ (by omega)]; omega) (by omega) (by show h9.d < _; omega))).mono ?_; rintro e W5 ⟨⟨r, rfl⟩, hX5, hg5⟩; replace hX5 := Kpt.mk hX5; replace hg5 := Kpt.mk hg5)))
            go_roundw
            case rel => exact ⟨4, by omega, by simp, ⟨by have := hX5.out; rw [outZ_step h9 3 12 (by omega) rfl] at this; exact this⟩, ⟨hbl.out.grown hg5.out hbl.out.size (fun q e => by cases e; exact Nat.le_refl _)⟩⟩
            case measure => simp [intOf]
        · obtain rfl : k = 4 := by omega
          have hX4 : Kpt (Bx wr W4.heap.size (cels (outL h9)).toArray) := ⟨by have := hX.out; rw [outZ_four] at this; exact this⟩
          have hszo : (cels (outL h9)).toArray.size = 16 := by simp [outL_length]
          have hR4 := Kpt.mk (hS.out.res.below hbl.out lw4.out)
          gi_wp2_with (first
            | (refine (?_ : wpListIn _ _ _ _ _ (Oper.mk _ (Op.load 127 _) _ _ _ _ :: _) _ _); go_must (refine wpIn_load_bx rfl 127 (.tmp 8) rfl W4.heap.size (cels (outL h9)).toArray rfl hX4.out _ Tryz.underlying127 rfl (by rw [hszo]; exact infoT24) ?_))
            | (refine (?_ : wpListIn _ _ _ _ _ (Oper.mk none (Op.store 127 _ _) _ _ _ _ :: _) _ _); go_must (refine wpIn_store_bx rfl 127 (.tmp 2) (.tmp 54) rfl w.heap.size z16 (cels (outL h9)).toArray rfl rfl hR4.out (by rw [hszo]; rfl) (by rw [hszo]; exact infoT24) (all_oneCell_toArray (cels_one _)) rfl ?_; intro W6 hX6 hg6; replace hX6 := Kpt.mk hX6; replace hg6 := Kpt.mk hg6)))
          have hbl6 := hbl.out
          have hWD2 : W6.heap[D2]? = some (.deferred (some [])) := by
            rw [hg6.out.block D2 (Nat.lt_of_lt_of_le hdl2.out hbl.out.size) (fun e => by injection e with e; have := hD2.out; have := hDlt.out; have := hD'.out; omega), hbl.out.block D2 hdl2.out]; exact hK4.out
          have hWD : W6.heap[D]? = some (.deferred (some [])) := by
            rw [hg6.out.block D (Nat.lt_of_lt_of_le hdl.out hbl.out.size) (fun e => by injection e with e; have := hD'.out; omega), hbl.out.block D hdl.out]; exact hKD.out
          have hWD' : (W6.putObj D2 (.deferred none)).heap[D]? = some (.deferred (some [])) := (World.putObj_heap_other hDD.out).trans hWD
          have hb6 : Below w.heap.size w ((W6.putObj D2 (.deferred none)).putObj D (.deferred none)) := by
            have h1 := hS.out.bel.trans (hbl.out.mono (by have := lw4.out; omega))
            have h2 := h1.grown hg6.out h1.size (fun q e => by cases e; exact Nat.le_refl _)
            have h3 := h2.grown (grownBy_putObj' W6 D2 (.deferred none)) h2.size (fun q e => by cases e; have := hD2.out; have := hDlt.out; have := hD'.out; omega)
            exact h3.grown (grownBy_putObj' _ D (.deferred none)) h3.size (fun q e => by cases e; have := hD'.out; omega)
          have hX7 : Bx ((W6.putObj D2 (.deferred none)).putObj D (.deferred none)) w.heap.size (cels (outL h9)).toArray := (hX6.out.grown (grownBy_putObj' W6 D2 _) (by simp; have := hD2.out; have := hDlt.out; have := hD'.out; omega)).grown (grownBy_putObj' _ D _) (by simp; have := hD'.out; omega)
          have hfin : outL h9 = sumL zs := by
            rw [sumL_split, ← h9d.out, ← hhd.out, hlen.out, ← hN2.out, ← hEd.out, List.length_drop, hlen.out]
            have e1 : n - 64 * N = n % 64 := by have := hN2.out; omega
            rw [e1]
            have e2 : N2 = (n % 64 + 72) / 64 := by rw [← hN3.out, hlen.out, e1]
            rw [e2]
            congr 2
            refine foldB_congr _ _ fun j hj => take_getD _ _ _ (by omega)
          rw [hfin] at hX7
          refine ⟨by simp [Act.put], .inl ⟨_, _, rfl, run_takeDeferred hWD2, ?_⟩⟩
          refine ⟨by simp [Act.put], .inl ⟨_, _, rfl, run_takeDeferred hWD', ?_⟩⟩
          exact ⟨.agg (cels (sumL zs)).toArray, (by simp [results, Tryz.results78, asAddr, Act.put, run_res hX7 127 _ Tryz.underlying127 rfl (by rw [show (cels (sumL zs)).toArray.size = 16 by simp [sumL_length]]; exact infoT24)]), rfl, hb6⟩
    case stop2 =>
      rintro D c pre W _ _ h _
      exact h.elim
  case stop =>
    rintro D c pre W _ _ h _
    exact h.elim

end Go.Proofs.YtplifodddfjhdaaGreatDoor
