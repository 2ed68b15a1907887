/-
  The contract of a word of four bytes.
-/
import Derived.Test.YtaedkofljmonjaaDoorQSml
namespace Go.Proofs.YtaedkofljmonjaaDoor
open Go.RowKit
set_option linter.unusedVariables false
set_option linter.unusedSimpArgs false

theorem or_word_int (x0 x1 x2 x3 : Int) (b0 : 0 ≤ x0 ∧ x0 ≤ 255) (b1 : 0 ≤ x1 ∧ x1 ≤ 255) (b2 : 0 ≤ x2 ∧ x2 ≤ 255) (b3 : 0 ≤ x3 ∧ x3 ≤ 255) :
    bits BinOp.or IntKind.u32 (bits BinOp.or IntKind.u32 (bits BinOp.or IntKind.u32 x0 (x1 * 256)) (x2 * 65536)) (x3 * 16777216) = ((x0.toNat + 256 * x1.toNat + 65536 * x2.toNat + 16777216 * x3.toNat : Nat) : Int) := by
  obtain ⟨a, rfl⟩ := Int.eq_ofNat_of_zero_le b0.1
  obtain ⟨b, rfl⟩ := Int.eq_ofNat_of_zero_le b1.1
  obtain ⟨c, rfl⟩ := Int.eq_ofNat_of_zero_le b2.1
  obtain ⟨d, rfl⟩ := Int.eq_ofNat_of_zero_le b3.1
  have e1 : (b : Int) * 256 = ((b * 256 : Nat) : Int) := by omega
  have e2 : (c : Int) * 65536 = ((c * 65536 : Nat) : Int) := by omega
  have e3 : (d : Int) * 16777216 = ((d * 16777216 : Nat) : Int) := by omega
  rw [e1, e2, e3, u32_or_nat _ _ (by omega) (by omega), u32_or_nat _ _ (or_lt32 (by omega) (by omega)) (by omega), u32_or_nat _ _ (or_lt32 (or_lt32 (by omega) (by omega)) (by omega)) (by omega), or_word a b c d (by omega) (by omega) (by omega) (by omega)]
  simp only [Int.toNat_natCast]

set_option maxRecDepth 100000 in
set_option maxHeartbeats 400000 in
theorem word_any (b off n c : Nat) (zs : List Int) (w : World) (hr : RdAt w (.slice (some ⟨b, off, none⟩) n c) zs) (h4 : 4 ≤ zs.length) (hb : Bytes zs) :
    Calls Tryd.prog 29 #[.slice (some ⟨b, off, none⟩) n c] w fun e w' => e = .returned (.int .u32 (wordN zs 0 : Int)) ∧ ∃ k, w' = w.drewN k := by
  obtain ⟨hl, hc⟩ := rd_cells hr
  have c0 : ∀ m, (w.drewN m).cell? ⟨b, off, none⟩ = some (.int .u8 (zs.getD 0 0)) := fun m => hc 0 (by omega)
  have c1 : ∀ m, (w.drewN m).cell? ⟨b, off + 1, none⟩ = some (.int .u8 (zs.getD 1 0)) := fun m => hc 1 (by omega)
  have c2 : ∀ m, (w.drewN m).cell? ⟨b, off + 2, none⟩ = some (.int .u8 (zs.getD 2 0)) := fun m => hc 2 (by omega)
  have c3 : ∀ m, (w.drewN m).cell? ⟨b, off + 3, none⟩ = some (.int .u8 (zs.getD 3 0)) := fun m => hc 3 (by omega)
  obtain ⟨b0, b1, b2, b3⟩ := And.intro (hb 0) (And.intro (hb 1) (And.intro (hb 2) (hb 3)))
  have hw : wordN zs 0 = ((zs.getD 0 0).toNat + 256 * (zs.getD 1 0).toNat + 65536 * (zs.getD 2 0).toNat + 16777216 * (zs.getD 3 0).toNat) := rfl
  rw [hw]
  have hn : 4 ≤ n := by omega
  clear hc hr hl hw
  generalize zs.getD 0 0 = x0 at *
  generalize zs.getD 1 0 = x1 at *
  generalize zs.getD 2 0 = x2 at *
  generalize zs.getD 3 0 = x3 at *
  go_enter Tryd.func29, Tryd.ntmps29
  go_wp2
  go_quiet (fail)
  have e : bits BinOp.or IntKind.u32 (bits BinOp.or IntKind.u32 (bits BinOp.or IntKind.u32 x0 (x1 * 256)) (x2 * 65536)) (x3 * 16777216) = ((x0.toNat + 256 * x1.toNat + 65536 * x2.toNat + 16777216 * x3.toNat : Nat) : Int) := or_word_int x0 x1 x2 x3 b0 b1 b2 b3
  go_wp2
  go_ret
  exact ⟨ret_int e, _, rfl⟩

end Go.Proofs.YtaedkofljmonjaaDoor
