/-
  Len8.
-/
import Derived.Test.YtdojhgapdocngaaMSelA
namespace Go.Proofs.Ytdojhgapdocngaa
open Go.RowKit
set_option linter.unusedVariables false
set_option linter.unusedSimpArgs false

theorem bitLen_log2 : ∀ n : Fin 256, n.val = 0 ∨ Lib.bitLen n.val = n.val.log2 + 1 := by decide +kernel
theorem len8_wrap (x : Int) (h0 : 0 ≤ x) (h1 : x ≤ 255) : wrap64 (Lib.len8 x) = (Lib.bitLen x.toNat : Int) := by
  rw [← Lib.len8_int x h0 h1]; unfold wrap64; omega
theorem ret_int {k : IntKind} {a b : Int} (h : a = b) : Ending.returned (.int k a) = .returned (.int k b) := by rw [h]
theorem len8_any (x : Int) (w : World) (h0 : 0 ≤ x) (h1 : x ≤ 255) :
    Calls Try.prog 32 #[.int .u8 x] w fun e w' => e = .returned (.int .i64 (Lib.bitLen x.toNat)) ∧ w' = w := by
  go_enter Try.func32, Try.ntmps32
  go_wp2
  go_ret
  exact ⟨ret_int (len8_wrap x h0 h1), rfl⟩
theorem len8_log (x : Int) (w : World) (h0 : 0 < x) (h1 : x ≤ 255) :
    Calls Try.prog 32 #[.int .u8 x] w fun e w' => e = .returned (.int .i64 ((x.toNat.log2 : Int) + 1)) ∧ w' = w := by
  have h := bitLen_log2 ⟨x.toNat, by omega⟩
  simp only at h
  have e : (x.toNat.log2 : Int) + 1 = (Lib.bitLen x.toNat : Int) := by omega
  rw [e]
  exact len8_any x w (by omega) h1
theorem log2_bd (x : Int) (h0 : 0 < x) (h1 : x ≤ 255) : (x.toNat.log2 : Int) < 8 := by
  have h := (Nat.log2_lt (n := x.toNat) (k := 8) (by omega)).2 (by omega)
  omega
theorem andNot_bd (x y : Int) (hx : 0 ≤ x ∧ x ≤ 255) (hy : 0 ≤ y ∧ y ≤ 255) : 0 ≤ Go.bits .andNot .u8 x y ∧ Go.bits .andNot .u8 x y ≤ 255 := by
  have key : ∀ a b : Fin 256, 0 ≤ Go.bits .andNot .u8 (a.val : Int) (b.val : Int) ∧ Go.bits .andNot .u8 (a.val : Int) (b.val : Int) ≤ 255 := by decide +kernel
  have := key ⟨x.toNat, by omega⟩ ⟨y.toNat, by omega⟩
  simp only [Int.toNat_of_nonneg hx.1, Int.toNat_of_nonneg hy.1] at this
  exact this

end Go.Proofs.Ytdojhgapdocngaa
