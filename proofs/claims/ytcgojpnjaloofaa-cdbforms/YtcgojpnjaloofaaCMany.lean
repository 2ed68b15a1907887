/-
  Commands that read or write so many blocks: what their bytes tell. No program is looked at here.
-/
import Derived.Test.YtcgojpnjaloofaaCLaw
import Derived.Test.YtcgojpnjaloofaaCOwn
namespace Go.Proofs.Ytcgojpnjaloofaa
open Go.RowKit
set_option linter.unusedVariables false
set_option linter.unusedSimpArgs false

theorem bigL_8 (k : Int) (h0 : 0 ≤ k) (h : k < 18446744073709551616) : bigL k 8 = [k / 72057594037927936 % 256, k / 281474976710656 % 256, k / 1099511627776 % 256, k / 4294967296 % 256, k / 16777216 % 256, k / 65536 % 256, k / 256 % 256, k % 256] := by
  simp [bigL, B.desc, List.replicate]
theorem bigL_4 (k : Int) : bigL k 4 = [k / 16777216 % 256, k / 65536 % 256, k / 256 % 256, k % 256] := by
  simp [bigL, B.desc, List.replicate]
theorem bigL_3 (k : Int) : bigL k 3 = [k / 65536 % 256, k / 256 % 256, k % 256] := by
  simp [bigL, B.desc, List.replicate]
theorem bigL_2 (k : Int) : bigL k 2 = [k / 256 % 256, k % 256] := by
  simp [bigL, B.desc, List.replicate]

theorem not_ff : ∀ n : Fin 256, bits .andNot .u8 (n.val : Int) 255 = 0 := by decide +kernel
theorem ff (z : Int) (h : 0 ≤ z ∧ z ≤ 255) : bits .andNot .u8 z 255 = 0 := by
  have := not_ff ⟨z.toNat, by omega⟩
  simpa [show ((z.toNat : Nat) : Int) = z from by omega] using this
theorem fm (z : Int) : bits .andNot .u8 (z % 256) 255 = 0 := ff _ (by omega)
theorem an_all : bits .andNot .u8 0 255 = 0 ∧ bits .andNot .u8 0 0 = 0 ∧ bits .andNot .u8 0 248 = 0 ∧ bits .andNot .u8 0 240 = 0 ∧ bits .andNot .u8 0 242 = 0 ∧ bits .andNot .u8 136 136 = 0 ∧ bits .andNot .u8 138 138 = 0 ∧ bits .andNot .u8 40 40 = 0 ∧ bits .andNot .u8 42 42 = 0 ∧ bits .andNot .u8 46 46 = 0 ∧ bits .andNot .u8 47 47 = 0 ∧ bits .andNot .u8 8 8 = 0 ∧ bits .andNot .u8 10 10 = 0 := by decide +kernel

def zsA (op k : Int) : List Int := [op, 0, 0, 0, 0, 0, 0, 0, 0, 0, k / 16777216 % 256, k / 65536 % 256, k / 256 % 256, k % 256, 0, 0]
def zsB (op k : Int) : List Int := [op, 0, 0, 0, 0, 0, 0, k / 256 % 256, k % 256, 0]

def cmA (op k : Int) : Cm := { kind := kindL op, blocks := k }

theorem odd_A (op k : Int) (h : op = 136 ∨ op = 138) : oddL (zsA op k) = (-1, -1) := by
  obtain ⟨a1, a2, a3, a4, a5, a6, a7, a8, a9, a10, a11, _⟩ := an_all
  rcases h with rfl | rfl <;> simp [oddL, zsA, maskL, B.oddFrom, B.ext, fm, a1, a2, a3, a4, a5, a6, a7]
theorem odd_B (op k : Int) (h : op = 40 ∨ op = 42 ∨ op = 46 ∨ op = 47) : oddL (zsB op k) = (-1, -1) := by
  obtain ⟨a1, a2, a3, a4, a5, a6, a7, a8, a9, a10, a11, _⟩ := an_all
  rcases h with rfl | rfl | rfl | rfl <;> simp [oddL, zsB, maskL, B.oddFrom, B.ext, fm, a1, a2, a3, a4, a5, a8, a9, a10, a11]

theorem cmd_A (op k : Int) (h : op = 136 ∨ op = 138) (h0 : 0 ≤ k) (h1 : k < 4294967296) : cmdL op (zsA op k) = cmA op k := by
  have e : B.num (zsA op k) 10 4 = k := by simp [zsA, B.num]; omega
  have e2 : B.num (zsA op k) 2 8 = 0 := by simp [zsA, B.num]
  rcases h with rfl | rfl
  · show ({ kind := 7, lba := B.num (zsA 136 k) 2 8, blocks := B.num (zsA 136 k) 10 4, prot := (zsA 136 k).getD 1 0 / 32, fua := bt ((zsA 136 k).getD 1 0) 8 } : Cm) = _
    rw [e, e2]; rfl
  · show ({ kind := 8, lba := B.num (zsA 138 k) 2 8, blocks := B.num (zsA 138 k) 10 4, prot := (zsA 138 k).getD 1 0 / 32, fua := bt ((zsA 138 k).getD 1 0) 8 } : Cm) = _
    rw [e, e2]; rfl

theorem cmd_B (op k : Int) (h : op = 40 ∨ op = 42 ∨ op = 46 ∨ op = 47) (h0 : 0 ≤ k) (h1 : k < 65536) : cmdL op (zsB op k) = cmA op k := by
  have e : B.num (zsB op k) 7 2 = k := by simp [zsB, B.num]; omega
  have e2 : B.num (zsB op k) 2 4 = 0 := by simp [zsB, B.num]
  rcases h with rfl | rfl | rfl | rfl
  · show ({ kind := 7, lba := B.num (zsB 40 k) 2 4, blocks := B.num (zsB 40 k) 7 2, prot := (zsB 40 k).getD 1 0 / 32, fua := bt ((zsB 40 k).getD 1 0) 8 } : Cm) = _
    rw [e, e2]; rfl
  · show ({ kind := 8, lba := B.num (zsB 42 k) 2 4, blocks := B.num (zsB 42 k) 7 2, prot := (zsB 42 k).getD 1 0 / 32, fua := bt ((zsB 42 k).getD 1 0) 8 } : Cm) = _
    rw [e, e2]; rfl
  · show ({ kind := 9, lba := B.num (zsB 46 k) 2 4, blocks := B.num (zsB 46 k) 7 2, prot := (zsB 46 k).getD 1 0 / 32 } : Cm) = _
    rw [e, e2]; rfl
  · show ({ kind := 10, lba := B.num (zsB 47 k) 2 4, blocks := B.num (zsB 47 k) 7 2, prot := (zsB 47 k).getD 1 0 / 32, bytes := bt ((zsB 47 k).getD 1 0) 2 } : Cm) = _
    rw [e, e2]; rfl

def manyRes (op k at' : Int) : Value := if 256 < k then .tuple #[.agg noC.vals, .agg (faultS at' 7).vals, .bool false] else .tuple #[.agg (cmA op k).vals, .agg noS.vals, .bool true]

theorem parse_A (op k : Int) (h : op = 136 ∨ op = 138) (h0 : 0 ≤ k) (h1 : k < 4294967296) : parseRes (zsA op k) = manyRes op k 10 := by
  have e0 : (zsA op k).getD 0 0 = op := rfl
  have hu : unfL (zsA op k) = if 256 < k then (10, 7) else (-1, -1) := by
    unfold unfL
    rw [e0, cmd_A op k h h0 h1]
    rcases h with rfl | rfl <;> rfl
  have hm : (maskL op).length = 16 := by rcases h with rfl | rfl <;> rfl
  have hs : servB op ((zsA op k).getD 1 0) = true := by rcases h with rfl | rfl <;> rfl
  have hf : faultL (zsA op k) = if 256 < k then some (faultS 10 7) else none := by
    unfold faultL
    rw [e0, odd_A op k h, hu, if_neg (show ¬ (zsA op k).length = 0 by simp [zsA]), if_neg (fun e => by rw [e] at hm; cases hm), hm, if_neg (show ¬ (zsA op k).length < 16 by simp [zsA]), if_neg (by decide), if_neg (by rw [hs]; decide)]
    by_cases hk : 256 < k
    · rw [if_pos hk, if_pos hk, if_pos (by decide)]
    · rw [if_neg hk, if_neg hk, if_neg (by decide)]
  unfold parseRes manyRes
  rw [hf, e0, cmd_A op k h h0 h1]
  by_cases hk : 256 < k
  · rw [if_pos hk, if_pos hk]
  · rw [if_neg hk, if_neg hk]

theorem parse_B (op k : Int) (h : op = 40 ∨ op = 42 ∨ op = 46 ∨ op = 47) (h0 : 0 ≤ k) (h1 : k < 65536) : parseRes (zsB op k) = manyRes op k 7 := by
  have e0 : (zsB op k).getD 0 0 = op := rfl
  have hu : unfL (zsB op k) = if 256 < k then (7, 7) else (-1, -1) := by
    unfold unfL
    rw [e0, cmd_B op k h h0 h1]
    rcases h with rfl | rfl | rfl | rfl <;> rfl
  have hm : (maskL op).length = 10 := by rcases h with rfl | rfl | rfl | rfl <;> rfl
  have hs : servB op ((zsB op k).getD 1 0) = true := by rcases h with rfl | rfl | rfl | rfl <;> rfl
  have hf : faultL (zsB op k) = if 256 < k then some (faultS 7 7) else none := by
    unfold faultL
    rw [e0, odd_B op k h, hu, if_neg (show ¬ (zsB op k).length = 0 by simp [zsB]), if_neg (fun e => by rw [e] at hm; cases hm), hm, if_neg (show ¬ (zsB op k).length < 10 by simp [zsB]), if_neg (by decide), if_neg (by rw [hs]; decide)]
    by_cases hk : 256 < k
    · rw [if_pos hk, if_pos hk, if_pos (by decide)]
    · rw [if_neg hk, if_neg hk, if_neg (by decide)]
  unfold parseRes manyRes
  rw [hf, e0, cmd_B op k h h0 h1]
  by_cases hk : 256 < k
  · rw [if_pos hk, if_pos hk]
  · rw [if_neg hk, if_neg hk]

theorem rd_alloc' (W : World) (b : Nat) (zs : List Int) (n : Nat) (hb : b = W.heap.size) (hn : n = zs.length) : RdAt (W.alloc (.cells (cels zs).toArray 5)) (.slice (some ⟨b, 0, none⟩) n n) zs := by
  subst hb; exact rd_alloc W zs n hn

theorem bytes_A (op k : Int) (h : 0 ≤ op ∧ op ≤ 255) : B.Bytes (zsA op k) := bytes_of (by simp [zsA]; omega)
theorem bytes_B (op k : Int) (h : 0 ≤ op ∧ op ≤ 255) : B.Bytes (zsB op k) := bytes_of (by simp [zsB]; omega)
end Go.Proofs.Ytcgojpnjaloofaa
