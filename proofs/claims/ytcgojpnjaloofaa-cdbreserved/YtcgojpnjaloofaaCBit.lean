/-
  The cells of a command's bytes; bits.
-/
import Derived.Test.YtcgojpnjaloofaaCLook
namespace Go.Proofs.Ytcgojpnjaloofaa
open Go.RowKit
set_option linter.unusedVariables false
set_option linter.unusedSimpArgs false

/-- The cells of a command's bytes. -/
def Cells (w : World) (b off n : Nat) (zs : List Int) : Prop := b < w.heap.size ∧ ∀ j, j < n → w.cell? ⟨b, off + j, none⟩ = some (.int .u8 (zs.getD j 0))
theorem Cells.below {w w' : World} {b off n m : Nat} {zs : List Int} (h : Cells w b off n zs) (hb : Below m w w') (hm : b < m) : Cells w' b off n zs :=
  ⟨Nat.lt_of_lt_of_le h.1 hb.size, fun j hj => (hb.cell (p := ⟨b, off + j, none⟩) hm).trans (h.2 j hj)⟩

theorem number_in (b off n cap i k : Nat) (zs : List Int) (w : World) (hl : n ≤ 1000) (hk1 : 1 ≤ k) (hk2 : k ≤ 8) (hi : i + k ≤ n) (hb : B.Bytes zs) (hc : Cells w b off n zs) :
    Kpt (∀ W, Below w.heap.size w W → Calls Try.prog 43 #[.slice (some ⟨b, off, none⟩) n cap, .int .i64 i, .int .i64 k] W fun e w' => e = .returned (.int .u64 (B.num zs i k)) ∧ w' = W) :=
  ⟨fun W hW => number_any b off n cap i k zs W hl hk1 hk2 hi hb (hc.below hW hc.1).2⟩
theorem count_in (b off n cap i k : Nat) (zs : List Int) (w : World) (hl : n ≤ 1000) (hk1 : 1 ≤ k) (hk2 : k ≤ 4) (hi : i + k ≤ n) (hb : B.Bytes zs) (hc : Cells w b off n zs) :
    Kpt (∀ W, Below w.heap.size w W → Calls Try.prog 31 #[.slice (some ⟨b, off, none⟩) n cap, .int .i64 i, .int .i64 k] W fun e w' => e = .returned (.int .i64 (B.num zs i k)) ∧ w' = W) :=
  ⟨fun W hW => count_any b off n cap i k zs W hl hk1 hk2 hi hb (hc.below hW hc.1).2⟩

theorem bt_all : ∀ n : Fin 256, (bits .and .u8 (n.val : Int) 1 != 0) = bt n.val 1 ∧ (bits .and .u8 (n.val : Int) 2 != 0) = bt n.val 2 ∧ (bits .and .u8 (n.val : Int) 8 != 0) = bt n.val 8 ∧ (bits .and .u8 (n.val : Int) 16 == 0) = !bt n.val 16 ∧ bits .and .u8 (n.val : Int) 63 = (n.val : Int) % 64 := by decide +kernel
theorem bt_of (z : Int) (h : 0 ≤ z ∧ z ≤ 255) : (bits .and .u8 z 1 != 0) = bt z 1 ∧ (bits .and .u8 z 2 != 0) = bt z 2 ∧ (bits .and .u8 z 8 != 0) = bt z 8 ∧ (bits .and .u8 z 16 == 0) = !bt z 16 ∧ bits .and .u8 z 63 = z % 64 := by
  have := bt_all ⟨z.toNat, by omega⟩
  simp only [show ((z.toNat : Nat) : Int) = z from by omega] at this
  exact this
theorem bt_one (z : Int) (h : z = 0 ∨ z = 1) : (z != 0) = bt z 1 := by rcases h with rfl | rfl <;> decide
end Go.Proofs.Ytcgojpnjaloofaa
