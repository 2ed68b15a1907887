/-
  The three forms of a command on blocks: what their bytes tell. No program is looked at here.
-/
import Derived.Test.YtcgojpnjaloofaaCMany
namespace Go.Proofs.Ytcgojpnjaloofaa
open Go.RowKit
set_option linter.unusedVariables false
set_option linter.unusedSimpArgs false

def kOf (n : Int) : Int := if n = 0 then 256 else n
def f6 (op at' n : Int) : List Int := [op, at' / 65536 % 256, at' / 256 % 256, at' % 256, n, 0]
def f10 (op at' k : Int) : List Int := [op, 0, at' / 16777216 % 256, at' / 65536 % 256, at' / 256 % 256, at' % 256, 0, k / 256 % 256, k % 256, 0]
def f16 (op at' k : Int) : List Int := [op, 0, at' / 72057594037927936 % 256, at' / 281474976710656 % 256, at' / 1099511627776 % 256, at' / 4294967296 % 256, at' / 16777216 % 256, at' / 65536 % 256, at' / 256 % 256, at' % 256, k / 16777216 % 256, k / 65536 % 256, k / 256 % 256, k % 256, 0, 0]
def cmF (kd at' k : Int) : Cm := { kind := kd, lba := at', blocks := k }

theorem not_1f : ∀ n : Fin 32, bits .andNot .u8 (n.val : Int) 31 = 0 := by decide +kernel
theorem x1f (z : Int) (h : 0 ≤ z ∧ z < 32) : bits .andNot .u8 z 31 = 0 := by
  have := not_1f ⟨z.toNat, by omega⟩
  simpa [show ((z.toNat : Nat) : Int) = z from by omega] using this
theorem an_more : bits .andNot .u8 8 8 = 0 ∧ bits .andNot .u8 10 10 = 0 ∧ bits .andNot .u8 40 40 = 0 ∧ bits .andNot .u8 42 42 = 0 ∧ bits .andNot .u8 136 136 = 0 ∧ bits .andNot .u8 138 138 = 0 ∧ bits .andNot .u8 0 0 = 0 ∧ bits .andNot .u8 0 248 = 0 := by decide +kernel

theorem parse_gen (zs : List Int) (op : Int) (c : Cm) (m : Nat) (h0 : zs.getD 0 0 = op) (hl : zs.length = m) (hm : (maskL op).length = m) (hm0 : 0 < m) (ho : oddL zs = (-1, -1)) (hs : servB op (zs.getD 1 0) = true) (hc : cmdL op zs = c) (hu : (unfitL c (zs.getD 1 0) m).1 = -1) :
    parseRes zs = .tuple #[.agg c.vals, .agg noS.vals, .bool true] := by
  have hf : faultL zs = none := by
    unfold faultL
    have hu' : (unfL zs).1 = -1 := by unfold unfL; rw [h0, hc, hm]; exact hu
    rw [h0, ho, hu', if_neg (by omega), if_neg (fun e => by rw [e] at hm; simp at hm; omega), if_neg (by omega), if_neg (by decide), if_neg (by rw [hs]; decide), if_neg (by decide)]
  unfold parseRes
  rw [hf, h0, hc]

theorem parse_6 (op kd at' n : Int) (h : op = 8 ∧ kd = 7 ∨ op = 10 ∧ kd = 8) (ha : 0 ≤ at' ∧ at' < 2097152) (hn : 0 ≤ n ∧ n ≤ 255) : parseRes (f6 op at' n) = .tuple #[.agg (cmF kd at' (kOf n)).vals, .agg noS.vals, .bool true] := by
  have g := x1f (at' / 65536 % 256) (by omega)
  have g2 := ff n hn
  obtain ⟨a1, a2, a3, a4, a5, a6, a7, a8⟩ := an_more
  have e1 : B.num (f6 op at' n) 1 3 = at' := by simp [f6, B.num]; omega
  have e2 : B.num (f6 op at' n) 4 1 = n := by simp [f6, B.num]
  have hk : kOf n ≤ 256 := by unfold kOf; split <;> omega
  refine parse_gen _ op _ 6 rfl rfl (by rcases h with ⟨rfl, _⟩ | ⟨rfl, _⟩ <;> rfl) (by decide) ?_ (by rcases h with ⟨rfl, _⟩ | ⟨rfl, _⟩ <;> rfl) ?_ ?_
  · rcases h with ⟨rfl, _⟩ | ⟨rfl, _⟩ <;> simp [oddL, f6, maskL, B.oddFrom, B.ext, fm, g, g2, a1, a2, a7]
  · rcases h with ⟨rfl, rfl⟩ | ⟨rfl, rfl⟩
    · show ({ kind := 7, lba := B.num (f6 8 at' n) 1 3, blocks := if B.num (f6 8 at' n) 4 1 = 0 then 256 else B.num (f6 8 at' n) 4 1 } : Cm) = _
      rw [e1, e2]; rfl
    · show ({ kind := 8, lba := B.num (f6 10 at' n) 1 3, blocks := if B.num (f6 10 at' n) 4 1 = 0 then 256 else B.num (f6 10 at' n) 4 1 } : Cm) = _
      rw [e1, e2]; rfl
  · rcases h with ⟨_, rfl⟩ | ⟨_, rfl⟩ <;> simp [unfitL, cmF] <;> rw [if_neg (by omega)]

theorem parse_10 (op kd at' k : Int) (h : op = 40 ∧ kd = 7 ∨ op = 42 ∧ kd = 8) (ha : 0 ≤ at' ∧ at' < 2097152) (hk : 0 ≤ k ∧ k ≤ 256) : parseRes (f10 op at' k) = .tuple #[.agg (cmF kd at' k).vals, .agg noS.vals, .bool true] := by
  obtain ⟨a1, a2, a3, a4, a5, a6, a7, a8⟩ := an_more
  have e1 : B.num (f10 op at' k) 2 4 = at' := by simp [f10, B.num]; omega
  have e2 : B.num (f10 op at' k) 7 2 = k := by simp [f10, B.num]; omega
  refine parse_gen _ op _ 10 rfl rfl (by rcases h with ⟨rfl, _⟩ | ⟨rfl, _⟩ <;> rfl) (by decide) ?_ (by rcases h with ⟨rfl, _⟩ | ⟨rfl, _⟩ <;> rfl) ?_ ?_
  · rcases h with ⟨rfl, _⟩ | ⟨rfl, _⟩ <;> simp [oddL, f10, maskL, B.oddFrom, B.ext, fm, a3, a4, a7, a8]
  · rcases h with ⟨rfl, rfl⟩ | ⟨rfl, rfl⟩
    · show ({ kind := 7, lba := B.num (f10 40 at' k) 2 4, blocks := B.num (f10 40 at' k) 7 2, prot := (f10 40 at' k).getD 1 0 / 32, fua := bt ((f10 40 at' k).getD 1 0) 8 } : Cm) = _
      rw [e1, e2]; rfl
    · show ({ kind := 8, lba := B.num (f10 42 at' k) 2 4, blocks := B.num (f10 42 at' k) 7 2, prot := (f10 42 at' k).getD 1 0 / 32, fua := bt ((f10 42 at' k).getD 1 0) 8 } : Cm) = _
      rw [e1, e2]; rfl
  · rcases h with ⟨_, rfl⟩ | ⟨_, rfl⟩ <;> simp [unfitL, cmF] <;> rw [if_neg (by omega)]

theorem parse_16 (op kd at' k : Int) (h : op = 136 ∧ kd = 7 ∨ op = 138 ∧ kd = 8) (ha : 0 ≤ at' ∧ at' < 2097152) (hk : 0 ≤ k ∧ k ≤ 256) : parseRes (f16 op at' k) = .tuple #[.agg (cmF kd at' k).vals, .agg noS.vals, .bool true] := by
  obtain ⟨a1, a2, a3, a4, a5, a6, a7, a8⟩ := an_more
  have e1 : B.num (f16 op at' k) 2 8 = at' := by simp [f16, B.num]; omega
  have e2 : B.num (f16 op at' k) 10 4 = k := by simp [f16, B.num]; omega
  refine parse_gen _ op _ 16 rfl rfl (by rcases h with ⟨rfl, _⟩ | ⟨rfl, _⟩ <;> rfl) (by decide) ?_ (by rcases h with ⟨rfl, _⟩ | ⟨rfl, _⟩ <;> rfl) ?_ ?_
  · rcases h with ⟨rfl, _⟩ | ⟨rfl, _⟩ <;> simp [oddL, f16, maskL, B.oddFrom, B.ext, fm, a5, a6, a7, a8]
  · rcases h with ⟨rfl, rfl⟩ | ⟨rfl, rfl⟩
    · show ({ kind := 7, lba := B.num (f16 136 at' k) 2 8, blocks := B.num (f16 136 at' k) 10 4, prot := (f16 136 at' k).getD 1 0 / 32, fua := bt ((f16 136 at' k).getD 1 0) 8 } : Cm) = _
      rw [e1, e2]; rfl
    · show ({ kind := 8, lba := B.num (f16 138 at' k) 2 8, blocks := B.num (f16 138 at' k) 10 4, prot := (f16 138 at' k).getD 1 0 / 32, fua := bt ((f16 138 at' k).getD 1 0) 8 } : Cm) = _
      rw [e1, e2]; rfl
  · rcases h with ⟨_, rfl⟩ | ⟨_, rfl⟩ <;> simp [unfitL, cmF] <;> rw [if_neg (by omega)]

theorem bytes_6 (op at' n : Int) (h : 0 ≤ op ∧ op ≤ 255) (hn : 0 ≤ n ∧ n ≤ 255) : B.Bytes (f6 op at' n) := bytes_of (by simp [f6]; omega)
theorem bytes_10 (op at' n : Int) (h : 0 ≤ op ∧ op ≤ 255) : B.Bytes (f10 op at' n) := bytes_of (by simp [f10]; omega)
theorem bytes_16 (op at' n : Int) (h : 0 ≤ op ∧ op ≤ 255) : B.Bytes (f16 op at' n) := bytes_of (by simp [f16]; omega)
end Go.Proofs.Ytcgojpnjaloofaa
