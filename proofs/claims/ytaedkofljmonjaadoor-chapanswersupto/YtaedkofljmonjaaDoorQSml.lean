/-
  Contracts of the program's small functions: what a step takes, a turn to the left.
-/
import Derived.Test.YtaedkofljmonjaaDoorXBox
import Derived.Test.YtaedkofljmonjaaDoorQNum
namespace Go.Proofs.YtaedkofljmonjaaDoor
open Go.RowKit
set_option linter.unusedVariables false
set_option linter.unusedSimpArgs false

theorem ret_int {k : IntKind} {a b : Int} (h : a = b) : Ending.returned (.int k a) = .returned (.int k b) := by rw [h]
theorem u32max : IntKind.u32.max = ((4294967295 : Nat) : Int) := rfl
theorem not32 (x : Nat) (hx : x < 4294967296) : bits BinOp.xor IntKind.u32 IntKind.u32.max (x : Int) = ((4294967295 ^^^ x : Nat) : Int) := by rw [u32max]; exact u32_xor_nat _ _ (by omega) hx
theorem not32_lt (x : Nat) (hx : x < 4294967296) : 4294967295 ^^^ x < 4294967296 := xor_lt32 (by omega) hx

theorem fcase0 (b c d : Nat) (hb : b < 4294967296) (hc : c < 4294967296) (hd : d < 4294967296) :
    bits BinOp.or IntKind.u32 (bits BinOp.and IntKind.u32 (b : Int) (c : Int)) (bits BinOp.and IntKind.u32 (bits BinOp.xor IntKind.u32 IntKind.u32.max (b : Int)) (d : Int)) = (((b &&& c) ||| ((4294967295 ^^^ b) &&& d) : Nat) : Int) := by
  rw [not32 b hb, u32_and_nat _ _ hb hc, u32_and_nat _ _ (not32_lt b hb) hd]
  exact u32_or_nat _ _ (and_lt32 hc) (and_lt32 hd)
theorem fcase2 (b c d : Nat) (hb : b < 4294967296) (hc : c < 4294967296) (hd : d < 4294967296) :
    bits BinOp.xor IntKind.u32 (bits BinOp.xor IntKind.u32 (b : Int) (c : Int)) (d : Int) = (((b ^^^ c) ^^^ d : Nat) : Int) := by
  rw [u32_xor_nat _ _ hb hc]
  exact u32_xor_nat _ _ (xor_lt32 hb hc) hd
theorem fcase3 (b c d : Nat) (hb : b < 4294967296) (hc : c < 4294967296) (hd : d < 4294967296) :
    bits BinOp.xor IntKind.u32 (c : Int) (bits BinOp.or IntKind.u32 (b : Int) (bits BinOp.xor IntKind.u32 IntKind.u32.max (d : Int))) = ((c ^^^ (b ||| (4294967295 ^^^ d)) : Nat) : Int) := by
  rw [not32 d hd, u32_or_nat _ _ hb (not32_lt d hd)]
  exact u32_xor_nat _ _ hc (or_lt32 hb (not32_lt d hd))

theorem fN_0 {i b c d : Nat} (h : i / 16 = 0) : fN i b c d = ((b &&& c) ||| ((4294967295 ^^^ b) &&& d)) := by unfold fN; rw [if_pos h]
theorem fN_1 {i b c d : Nat} (h : i / 16 = 1) : fN i b c d = ((d &&& b) ||| ((4294967295 ^^^ d) &&& c)) := by unfold fN; rw [if_neg (by omega), if_pos h]
theorem fN_2 {i b c d : Nat} (h : i / 16 = 2) : fN i b c d = ((b ^^^ c) ^^^ d) := by unfold fN; rw [if_neg (by omega), if_neg (by omega), if_pos h]
theorem fN_3 {i b c d : Nat} (h0 : ¬ i / 16 = 0) (h1 : ¬ i / 16 = 1) (h2 : ¬ i / 16 = 2) : fN i b c d = (c ^^^ (b ||| (4294967295 ^^^ d))) := by unfold fN; rw [if_neg h0, if_neg h1, if_neg h2]
theorem ret_two {x y : Int} {x' y' : Int} (h : x = x') (k : y = y') : Ending.returned (.tuple #[.int .u32 x, .int .i64 y]) = .returned (.tuple #[.int .u32 x', .int .i64 y']) := by rw [h, k]

theorem pick_any (i : Nat) (b c d : Nat) (hi : i < 64) (w : World) (hb : b < 4294967296) (hc : c < 4294967296) (hd : d < 4294967296) :
    Calls Tryd.prog 30 #[.int .i64 (i : Int), .int .u32 (b : Int), .int .u32 (c : Int), .int .u32 (d : Int)] w fun e w' => e = .returned (.tuple #[.int .u32 (fN i b c d : Int), .int .i64 (gN i : Int)]) ∧ w' = w := by
  generalize hF : fN i b c d = F
  generalize hG : gN i = G
  replace hF := Kpt.mk hF
  replace hG := Kpt.mk hG
  go_enter Tryd.func30, Tryd.ntmps30
  go_wp2
  · have t0 : ((i : Int) / 16 == 0) = true := by assumption
    have e0 : i / 16 = 0 := by have := eq_of_beq t0; omega
    go_ret2
    exact ⟨ret_two (by rw [fcase0 b c d hb hc hd, ← hF.out, fN_0 e0]) (by rw [← hG.out, gN, if_pos e0]), rfl⟩
  · have t1 : ((i : Int) / 16 == 1) = true := by assumption
    have e1 : i / 16 = 1 := by have := eq_of_beq t1; omega
    go_ret2
    exact ⟨ret_two (by rw [fcase0 d b c hd hb hc, ← hF.out, fN_1 e1]) (by rw [← hG.out, gN, if_neg (by omega), if_pos e1]; omega), rfl⟩
  · have t0 : ((i : Int) / 16 == 2) = true := by assumption
    have e1 : i / 16 = 2 := by have := eq_of_beq t0; omega
    go_ret2
    exact ⟨ret_two (by rw [fcase2 b c d hb hc hd, ← hF.out, fN_2 e1]) (by rw [← hG.out, gN, if_neg (by omega), if_neg (by omega), if_pos e1]; omega), rfl⟩
  · have t0 : ((i : Int) / 16 == 0) = false := by assumption
    have t1 : ((i : Int) / 16 == 1) = false := by assumption
    have t2 : ((i : Int) / 16 == 2) = false := by assumption
    have e0 : ¬ i / 16 = 0 := fun h => by have := ne_of_beq_false t0; omega
    have e1 : ¬ i / 16 = 1 := fun h => by have := ne_of_beq_false t1; omega
    have e2 : ¬ i / 16 = 2 := fun h => by have := ne_of_beq_false t2; omega
    go_ret2
    exact ⟨ret_two (by rw [fcase3 b c d hb hc hd, ← hF.out, fN_3 e0 e1 e2]) (by rw [← hG.out, gN, if_neg e0, if_neg e1, if_neg e2]; omega), rfl⟩

theorem rot_eq (x n : Nat) (hx : x < 4294967296) : bits BinOp.or IntKind.u32 ((x : Int) * 2 ^ n % 4294967296) ((x : Int) / 2 ^ (32 - n)) = ((rotN x n : Nat) : Int) := by
  have e1 : ((x : Int) * 2 ^ n % 4294967296) = ((x * 2 ^ n % 4294967296 : Nat) : Int) := by rw [Int.natCast_emod, Int.natCast_mul, Int.natCast_pow]; rfl
  have e2 : ((x : Int) / 2 ^ (32 - n)) = ((x / 2 ^ (32 - n) : Nat) : Int) := by rw [Int.natCast_ediv, Int.natCast_pow]; rfl
  rw [e1, e2]
  exact u32_or_nat _ _ (Nat.mod_lt _ (by omega)) (Nat.lt_of_le_of_lt (Nat.div_le_self _ _) hx)

theorem rot_any (x n : Nat) (w : World) (hx : x < 4294967296) (hn : n < 32) :
    Calls Tryd.prog 31 #[.int .u32 (x : Int), .int .i64 (n : Int)] w fun e w' => e = .returned (.int .u32 (rotN x n : Int)) ∧ w' = w := by
  have hm : bits BinOp.and IntKind.u64 (n : Int) 31 = (n : Int) := by
    rw [show (31 : Int) = ((31 : Nat) : Int) from rfl, u64_and_nat _ _ (by omega) (by omega), nat_mask5, Nat.mod_eq_of_lt hn]
  generalize hF : rotN x n = F
  replace hF := Kpt.mk hF
  go_enter Tryd.func31, Tryd.ntmps31
  go_wp2
  go_ret
  exact ⟨ret_int (by rw [rot_eq x n hx, hF.out]), rfl⟩

theorem or_word (a b c d : Nat) (ha : a < 256) (hb : b < 256) (hc : c < 256) (hd : d < 256) : ((a ||| b * 256) ||| c * 65536) ||| d * 16777216 = a + 256 * b + 65536 * c + 16777216 * d := by
  have h1 : a ||| b * 256 = a + b * 256 := by rw [Nat.or_comm, nat_join 8 (b * 256) a (by omega) (by omega)]; omega
  have h2 : (a + b * 256) ||| c * 65536 = a + b * 256 + c * 65536 := by rw [Nat.or_comm, nat_join 16 (c * 65536) (a + b * 256) (by omega) (by omega)]; omega
  have h3 : (a + b * 256 + c * 65536) ||| d * 16777216 = a + b * 256 + c * 65536 + d * 16777216 := by rw [Nat.or_comm, nat_join 24 (d * 16777216) (a + b * 256 + c * 65536) (by omega) (by omega)]; omega
  rw [h1, h2, h3]; omega

end Go.Proofs.YtaedkofljmonjaaDoor
