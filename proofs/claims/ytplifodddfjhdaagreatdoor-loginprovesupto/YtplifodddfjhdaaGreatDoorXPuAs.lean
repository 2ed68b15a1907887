/-
  text: strconv's own ParseUint.
-/
import Derived.Test.YtplifodddfjhdaaGreatDoorXPres
import Derived.Lib.ConvBytes
import Derived.Lib.BitFns
namespace Go.Proofs.YtplifodddfjhdaaGreatDoor
open Go.RowKit
set_option linter.unusedVariables false
set_option linter.unusedSimpArgs false

/-- A letter with the bit 32; 0: it is none. -/
def lowC (c : Int) : Int := if (65 ≤ c ∧ c ≤ 90) then c + 32 else if (97 ≤ c ∧ c ≤ 122) then c else 0
theorem low_bits0 : ∀ n : Fin 256, (0 ≤ bits BinOp.or IntKind.u8 (n.val : Int) 32 ∧ bits BinOp.or IntKind.u8 (n.val : Int) 32 ≤ 255 ∧ ((97 ≤ bits BinOp.or IntKind.u8 (n.val : Int) 32 ∧ bits BinOp.or IntKind.u8 (n.val : Int) 32 ≤ 122) ↔ lowC (n.val : Int) ≠ 0) ∧ (lowC (n.val : Int) ≠ 0 → bits BinOp.or IntKind.u8 (n.val : Int) 32 = lowC (n.val : Int))) := by decide +kernel
theorem low_any (c : Int) (w : World) (h0 : 0 ≤ c) (h1 : c ≤ 255) : Calls Tryz.prog 109 #[.int .u8 c] w fun e w' => e = .returned (.int .u8 (bits BinOp.or IntKind.u8 c 32)) ∧ w' = w := by
  go_enter Tryz.func109, Tryz.ntmps109
  go_wp2
  go_ret
  exact ⟨rfl, rfl⟩
theorem low_let (c : Int) (h0 : 0 ≤ c) (h1 : c ≤ 255) (hl : lowC c ≠ 0) : bits BinOp.or IntKind.u8 c 32 = lowC c ∧ 97 ≤ lowC c ∧ lowC c ≤ 122 := by
  have h := low_bits0 ⟨c.toNat, by omega⟩
  simp only [show ((c.toNat : Nat) : Int) = c by omega] at h
  have e := h.2.2.2 hl
  rw [e] at h
  exact ⟨e, h.2.2.1.2 hl⟩
theorem low_no (c : Int) (h0 : 0 ≤ c) (h1 : c ≤ 255) (hl : lowC c = 0) : ∃ x, bits BinOp.or IntKind.u8 c 32 = x ∧ 0 ≤ x ∧ x ≤ 255 ∧ ¬ (97 ≤ x ∧ x ≤ 122) := by
  have h := low_bits0 ⟨c.toNat, by omega⟩
  simp only [show ((c.toNat : Nat) : Int) = c by omega] at h
  exact ⟨_, rfl, h.1, h.2.1, fun k => h.2.2.1.1 k hl⟩
theorem bw_below (w : World) (S : ByteArray) : Below w.heap.size w (Lib.bytesWorld w 5 S) := ⟨rfl, rfl, rfl, by rw [Lib.bytesWorld_size]; omega, fun j hj => Lib.bytesWorld_at_old w 5 S j hj⟩
theorem bw_cell (w : World) (S : ByteArray) (k : Nat) (hk : k < S.size) : (Lib.bytesWorld w 5 S).cell? ⟨w.heap.size, k, none⟩ = some (.int .u8 ((nums S).getD k 0)) := by
  rw [Lib.bytesWorld_cell w 5 S k hk]
  unfold nums
  simp only [List.getD_eq_getElem?_getD, List.getElem?_map]
  have : k < S.data.toList.length := by simpa using hk
  rw [List.getElem?_eq_getElem this]
  rfl
theorem cels_nb (S : ByteArray) (k : Nat) : 0 ≤ (nums S).getD k 0 ∧ (nums S).getD k 0 ≤ 255 := nums_byte S k
/-- What ParseUint answers with an error. -/
def BadP (e : Ending) : Prop := ∃ (v : Int) (k : Int), e = .returned (.tuple #[.int .u64 v, .iface 166 (.int .i64 k)]) ∧ 0 ≤ v ∧ v < 18446744073709551616 ∧ (k = 1 ∨ k = 2)
end Go.Proofs.YtplifodddfjhdaaGreatDoor
