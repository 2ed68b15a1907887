/-
  A command's beginning alone is looked at; a bit that isn't looked at, turned to 1. No program is looked at here.
-/
import Derived.Test.YtcgojpnjaloofaaCLaw
import Derived.Test.YtcgojpnjaloofaaCOwn
namespace Go.Proofs.Ytcgojpnjaloofaa
open Go.RowKit
set_option linter.unusedVariables false
set_option linter.unusedSimpArgs false

theorem num_congr {zs ys : List Int} {m : Nat} (h : ∀ j, j < m → zs.getD j 0 = ys.getD j 0) {i : Nat} : ∀ {k : Nat}, i + k ≤ m → B.num zs i k = B.num ys i k
  | 0, _ => rfl
  | k + 1, hk => by
    unfold B.num
    rw [num_congr h (k := k) (by omega), h (i + k) (by omega)]

theorem odd_congr {x y : Nat → Int} : ∀ (f i : Nat), (∀ j, i ≤ j → j < i + f → x j = y j) → B.oddFrom x f i = B.oddFrom y f i
  | 0, _, _ => rfl
  | f + 1, i, h => by
    unfold B.oddFrom
    rw [h i (by omega) (by omega), odd_congr f (i + 1) (fun j h1 h2 => h j (by omega) (by omega))]

theorem cmd_congr (op : Int) (zs ys : List Int) (hz : ∀ j, j < (maskL op).length → zs.getD j 0 = ys.getD j 0) : cmdL op zs = cmdL op ys := by
  rcases op_cases op with rfl | rfl | rfl | rfl | rfl | rfl | rfl | rfl | rfl | rfl | rfl | rfl | rfl | rfl | rfl | rfl | rfl | rfl | rfl | rfl | rfl | rfl | rfl | rfl | rfl | rfl | rfl | ⟨h0, h3, h8, h10, h18, h21, h26, h37, h40, h42, h46, h47, h53, h65, h66, h85, h90, h94, h95, h131, h136, h137, h138, h145, h147, h158, h160⟩
  · show ({ kind := 1 } : Cm) = { kind := 1 }
    rfl
  · show ({ kind := 2, long := bt (zs.getD 1 0) 1, alloc := B.num zs 4 1 } : Cm) = { kind := 2, long := bt (ys.getD 1 0) 1, alloc := B.num ys 4 1 }
    rw [num_congr hz (show 4 + 1 ≤ _ by decide), hz 1 (by decide)]
  · show ({ kind := 7, lba := B.num zs 1 3, blocks := if B.num zs 4 1 = 0 then 256 else B.num zs 4 1 } : Cm) = { kind := 7, lba := B.num ys 1 3, blocks := if B.num ys 4 1 = 0 then 256 else B.num ys 4 1 }
    rw [num_congr hz (show 1 + 3 ≤ _ by decide), num_congr hz (show 4 + 1 ≤ _ by decide)]
  · show ({ kind := 8, lba := B.num zs 1 3, blocks := if B.num zs 4 1 = 0 then 256 else B.num zs 4 1 } : Cm) = { kind := 8, lba := B.num ys 1 3, blocks := if B.num ys 4 1 = 0 then 256 else B.num ys 4 1 }
    rw [num_congr hz (show 1 + 3 ≤ _ by decide), num_congr hz (show 4 + 1 ≤ _ by decide)]
  · show ({ kind := 3, evpd := bt (zs.getD 1 0) 1, page := zs.getD 2 0, alloc := B.num zs 3 2 } : Cm) = { kind := 3, evpd := bt (ys.getD 1 0) 1, page := ys.getD 2 0, alloc := B.num ys 3 2 }
    rw [num_congr hz (show 3 + 2 ≤ _ by decide), hz 1 (by decide), hz 2 (by decide)]
  · show ({ kind := 4, save := bt (zs.getD 1 0) 1, alloc := B.num zs 4 1 } : Cm) = { kind := 4, save := bt (ys.getD 1 0) 1, alloc := B.num ys 4 1 }
    rw [num_congr hz (show 4 + 1 ≤ _ by decide), hz 1 (by decide)]
  · show ({ kind := 5, control := zs.getD 2 0 / 64, page := zs.getD 2 0 % 64, alloc := B.num zs 4 1 } : Cm) = { kind := 5, control := ys.getD 2 0 / 64, page := ys.getD 2 0 % 64, alloc := B.num ys 4 1 }
    rw [num_congr hz (show 4 + 1 ≤ _ by decide), hz 2 (by decide)]
  · show ({ kind := 6 } : Cm) = { kind := 6 }
    rfl
  · show ({ kind := 7, lba := B.num zs 2 4, blocks := B.num zs 7 2, prot := zs.getD 1 0 / 32, fua := bt (zs.getD 1 0) 8 } : Cm) = { kind := 7, lba := B.num ys 2 4, blocks := B.num ys 7 2, prot := ys.getD 1 0 / 32, fua := bt (ys.getD 1 0) 8 }
    rw [num_congr hz (show 2 + 4 ≤ _ by decide), num_congr hz (show 7 + 2 ≤ _ by decide), hz 1 (by decide)]
  · show ({ kind := 8, lba := B.num zs 2 4, blocks := B.num zs 7 2, prot := zs.getD 1 0 / 32, fua := bt (zs.getD 1 0) 8 } : Cm) = { kind := 8, lba := B.num ys 2 4, blocks := B.num ys 7 2, prot := ys.getD 1 0 / 32, fua := bt (ys.getD 1 0) 8 }
    rw [num_congr hz (show 2 + 4 ≤ _ by decide), num_congr hz (show 7 + 2 ≤ _ by decide), hz 1 (by decide)]
  · show ({ kind := 9, lba := B.num zs 2 4, blocks := B.num zs 7 2, prot := zs.getD 1 0 / 32 } : Cm) = { kind := 9, lba := B.num ys 2 4, blocks := B.num ys 7 2, prot := ys.getD 1 0 / 32 }
    rw [num_congr hz (show 2 + 4 ≤ _ by decide), num_congr hz (show 7 + 2 ≤ _ by decide), hz 1 (by decide)]
  · show ({ kind := 10, lba := B.num zs 2 4, blocks := B.num zs 7 2, prot := zs.getD 1 0 / 32, bytes := bt (zs.getD 1 0) 2 } : Cm) = { kind := 10, lba := B.num ys 2 4, blocks := B.num ys 7 2, prot := ys.getD 1 0 / 32, bytes := bt (ys.getD 1 0) 2 }
    rw [num_congr hz (show 2 + 4 ≤ _ by decide), num_congr hz (show 7 + 2 ≤ _ by decide), hz 1 (by decide)]
  · show ({ kind := 11, lba := B.num zs 2 4, blocks := B.num zs 7 2, prot := zs.getD 1 0 / 32 } : Cm) = { kind := 11, lba := B.num ys 2 4, blocks := B.num ys 7 2, prot := ys.getD 1 0 / 32 }
    rw [num_congr hz (show 2 + 4 ≤ _ by decide), num_congr hz (show 7 + 2 ≤ _ by decide), hz 1 (by decide)]
  · show ({ kind := 12, lba := B.num zs 2 4, blocks := B.num zs 7 2, prot := zs.getD 1 0 / 32, unmap := bt (zs.getD 1 0) 8 } : Cm) = { kind := 12, lba := B.num ys 2 4, blocks := B.num ys 7 2, prot := ys.getD 1 0 / 32, unmap := bt (ys.getD 1 0) 8 }
    rw [num_congr hz (show 2 + 4 ≤ _ by decide), num_congr hz (show 7 + 2 ≤ _ by decide), hz 1 (by decide)]
  · show ({ kind := 13, alloc := B.num zs 7 2 } : Cm) = { kind := 13, alloc := B.num ys 7 2 }
    rw [num_congr hz (show 7 + 2 ≤ _ by decide)]
  · show ({ kind := 4, long := true, save := bt (zs.getD 1 0) 1, alloc := B.num zs 7 2 } : Cm) = { kind := 4, long := true, save := bt (ys.getD 1 0) 1, alloc := B.num ys 7 2 }
    rw [num_congr hz (show 7 + 2 ≤ _ by decide), hz 1 (by decide)]
  · show ({ kind := 5, long := true, control := zs.getD 2 0 / 64, page := zs.getD 2 0 % 64, alloc := B.num zs 7 2 } : Cm) = { kind := 5, long := true, control := ys.getD 2 0 / 64, page := ys.getD 2 0 % 64, alloc := B.num ys 7 2 }
    rw [num_congr hz (show 7 + 2 ≤ _ by decide), hz 2 (by decide)]
  · show ({ kind := 15, service := zs.getD 1 0, alloc := B.num zs 7 2 } : Cm) = { kind := 15, service := ys.getD 1 0, alloc := B.num ys 7 2 }
    rw [num_congr hz (show 7 + 2 ≤ _ by decide), hz 1 (by decide)]
  · show ({ kind := 16, service := zs.getD 1 0, type := zs.getD 2 0, alloc := B.num zs 5 4 } : Cm) = { kind := 16, service := ys.getD 1 0, type := ys.getD 2 0, alloc := B.num ys 5 4 }
    rw [num_congr hz (show 5 + 4 ≤ _ by decide), hz 1 (by decide), hz 2 (by decide)]
  · show ({ kind := 18, alloc := B.num zs 10 4 } : Cm) = { kind := 18, alloc := B.num ys 10 4 }
    rw [num_congr hz (show 10 + 4 ≤ _ by decide)]
  · show ({ kind := 7, lba := B.num zs 2 8, blocks := B.num zs 10 4, prot := zs.getD 1 0 / 32, fua := bt (zs.getD 1 0) 8 } : Cm) = { kind := 7, lba := B.num ys 2 8, blocks := B.num ys 10 4, prot := ys.getD 1 0 / 32, fua := bt (ys.getD 1 0) 8 }
    rw [num_congr hz (show 10 + 4 ≤ _ by decide), num_congr hz (show 2 + 8 ≤ _ by decide), hz 1 (by decide)]
  · show ({ kind := 14, lba := B.num zs 2 8, blocks := B.num zs 10 4, prot := zs.getD 1 0 / 32, fua := bt (zs.getD 1 0) 8 } : Cm) = { kind := 14, lba := B.num ys 2 8, blocks := B.num ys 10 4, prot := ys.getD 1 0 / 32, fua := bt (ys.getD 1 0) 8 }
    rw [num_congr hz (show 10 + 4 ≤ _ by decide), num_congr hz (show 2 + 8 ≤ _ by decide), hz 1 (by decide)]
  · show ({ kind := 8, lba := B.num zs 2 8, blocks := B.num zs 10 4, prot := zs.getD 1 0 / 32, fua := bt (zs.getD 1 0) 8 } : Cm) = { kind := 8, lba := B.num ys 2 8, blocks := B.num ys 10 4, prot := ys.getD 1 0 / 32, fua := bt (ys.getD 1 0) 8 }
    rw [num_congr hz (show 10 + 4 ≤ _ by decide), num_congr hz (show 2 + 8 ≤ _ by decide), hz 1 (by decide)]
  · show ({ kind := 11, lba := B.num zs 2 8, blocks := B.num zs 10 4, prot := zs.getD 1 0 / 32 } : Cm) = { kind := 11, lba := B.num ys 2 8, blocks := B.num ys 10 4, prot := ys.getD 1 0 / 32 }
    rw [num_congr hz (show 10 + 4 ≤ _ by decide), num_congr hz (show 2 + 8 ≤ _ by decide), hz 1 (by decide)]
  · show ({ kind := 12, lba := B.num zs 2 8, blocks := B.num zs 10 4, prot := zs.getD 1 0 / 32, unmap := bt (zs.getD 1 0) 8 } : Cm) = { kind := 12, lba := B.num ys 2 8, blocks := B.num ys 10 4, prot := ys.getD 1 0 / 32, unmap := bt (ys.getD 1 0) 8 }
    rw [num_congr hz (show 10 + 4 ≤ _ by decide), num_congr hz (show 2 + 8 ≤ _ by decide), hz 1 (by decide)]
  · show ({ kind := 6, long := true, alloc := B.num zs 10 4 } : Cm) = { kind := 6, long := true, alloc := B.num ys 10 4 }
    rw [num_congr hz (show 10 + 4 ≤ _ by decide)]
  · show ({ kind := 17, page := zs.getD 2 0, alloc := B.num zs 6 4 } : Cm) = { kind := 17, page := ys.getD 2 0, alloc := B.num ys 6 4 }
    rw [num_congr hz (show 6 + 4 ≤ _ by decide), hz 2 (by decide)]
  · simp only [cmdL, h0, h3, h8, h10, h18, h21, h26, h37, h40, h42, h46, h47, h53, h65, h66, h85, h90, h94, h95, h131, h136, h137, h138, h145, h147, h158, h160, if_false]

theorem front {zs ys : List Int} (h : faultL zs = none) (hz : ∀ j, j < (maskL (zs.getD 0 0)).length → ys.getD j 0 = zs.getD j 0) (hl : (maskL (zs.getD 0 0)).length ≤ ys.length) :
    faultL ys = none ∧ cmdL (ys.getD 0 0) ys = cmdL (zs.getD 0 0) zs ∧ ys.getD 0 0 = zs.getD 0 0 := by
  obtain ⟨h0, hm, hle, ho, hs, hu⟩ := none_facts h
  obtain ⟨h2, h16, _⟩ := (mask_cases _).resolve_left hm
  have e0 := hz 0 (by omega)
  have e1 := hz 1 (by omega)
  have ec : cmdL (ys.getD 0 0) ys = cmdL (zs.getD 0 0) zs := by rw [e0]; exact cmd_congr _ _ _ hz
  have eo : oddL ys = oddL zs := by
    unfold oddL
    rw [e0]
    refine odd_congr _ _ (fun j _ hj => ?_)
    unfold B.ext
    rw [hz j (by omega)]
  have eu : unfL ys = unfL zs := by unfold unfL; rw [ec, e0, e1]
  refine ⟨?_, ec, e0⟩
  unfold faultL
  rw [eo, eu, e0, e1, if_neg (by omega), if_neg hm, if_neg (by omega), if_neg (by omega), if_neg (by rw [hs]; decide), if_neg (by omega)]

theorem parse_front {zs ys : List Int} (h : faultL zs = none) (hz : ∀ j, j < (maskL (zs.getD 0 0)).length → ys.getD j 0 = zs.getD j 0) (hl : (maskL (zs.getD 0 0)).length ≤ ys.length) :
    parseRes ys = .tuple #[.agg (cmdL (zs.getD 0 0) zs).vals, .agg noS.vals, .bool true] := by
  obtain ⟨h1, h2, _⟩ := front h hz hl
  unfold parseRes
  rw [h1, h2]

theorem or_andNot (z m d : Nat) (hz : z < 256) (hm : m < 256) (hd : d < 8) (h0 : z &&& (255 - m) = 0) (hb : m.testBit d = false) : (z ||| 2 ^ d) &&& (255 - m) = 2 ^ d := by
  apply Nat.eq_of_testBit_eq
  intro k
  have hk0 : (z &&& (255 - m)).testBit k = false := by rw [h0]; simp
  rw [Nat.testBit_and] at hk0 ⊢
  rw [Nat.testBit_or, Nat.testBit_two_pow]
  have e : 255 - m = 2 ^ 8 - (m + 1) := by omega
  by_cases hkd : d = k
  · subst hkd
    rw [e, Nat.testBit_two_pow_sub_succ (by omega)]
    simp [hd, hb]
  · simp [hkd]
    simpa using hk0

theorem odd_hit (x : Nat → Int) : ∀ (f i t : Nat), i ≤ t → t < i + f → (∀ j, i ≤ j → j < t → x j = 0) → x t ≠ 0 → B.oddFrom x f i = ((t : Int), ((x t).toNat.log2 : Int))
  | 0, i, t, h1, h2, _, _ => by omega
  | f + 1, i, t, h1, h2, h3, h4 => by
    unfold B.oddFrom
    by_cases hi : i = t
    · subst hi
      rw [if_neg h4]
    · rw [if_pos (h3 i (Nat.le_refl _) (by omega))]
      exact odd_hit x f (i + 1) t (by omega) (by omega) (fun j a b => h3 j (by omega) b) h4

theorem turned {ys : List Int} (hb : B.Bytes ys) (h : faultL ys = none) (i d : Nat) (h0 : 0 < i) (hi : i < (maskL (ys.getD 0 0)).length) (hd : d < 8) (v : Int) (hv : v = ((ys.getD i 0).toNat ||| 2 ^ d : Nat)) (hbit : ((maskL (ys.getD 0 0)).getD i 0).toNat.testBit d = false) :
    parseRes (ys.set i v) = .tuple #[.agg noC.vals, .agg (faultS i d).vals, .bool false] := by
  obtain ⟨hl0, hm, hle, ho, hs, hu⟩ := none_facts h
  obtain ⟨h2, h16, hmb⟩ := (mask_cases _).resolve_left hm
  have hget : ∀ j, j ≠ i → (ys.set i v).getD j 0 = ys.getD j 0 := fun j hj => by
    rw [List.getD_eq_getElem?_getD, List.getD_eq_getElem?_getD, List.getElem?_set_ne (Ne.symm hj)]
  have hgi : (ys.set i v).getD i 0 = v := by
    rw [List.getD_eq_getElem?_getD, List.getElem?_set_self (by omega)]; rfl
  have e0 := hget 0 (by omega)
  have hex : ∀ j, j < (maskL (ys.getD 0 0)).length → B.ext ys (maskL (ys.getD 0 0)) (maskL (ys.getD 0 0)).length j = 0 := fun j hj => by
    unfold oddL at ho
    exact odd_zero _ _ _ ho j (by omega) (by omega)
  have hz := hb i
  have hM := hmb i
  have hzi := hex i hi
  rw [B.ext_nat ys _ hb hmb, if_pos hi] at hzi
  have key := or_andNot (ys.getD i 0).toNat ((maskL (ys.getD 0 0)).getD i 0).toNat d (by omega) (by omega) hd (by omega) hbit
  have hvlt : v ≤ 255 := by
    have : (ys.getD i 0).toNat ||| 2 ^ d < 2 ^ 8 := Nat.or_lt_two_pow (by omega) (Nat.pow_lt_pow_right (by decide) hd)
    omega
  have hb' : B.Bytes (ys.set i v) := fun j => by
    by_cases hj : j = i
    · subst hj; rw [hgi]; omega
    · rw [hget j hj]; exact hb j
  have hxi : B.ext (ys.set i v) (maskL (ys.getD 0 0)) (maskL (ys.getD 0 0)).length i = ((2 ^ d : Nat) : Int) := by
    rw [B.ext_nat _ _ hb' hmb, if_pos hi, hgi, hv, Int.toNat_natCast, key]
  have hpos : 0 < 2 ^ d := Nat.two_pow_pos d
  have eo : oddL (ys.set i v) = ((i : Int), (d : Int)) := by
    unfold oddL
    rw [e0, odd_hit _ _ 0 i (by omega) (by omega) (fun j _ hj => by
      have := hex j (by omega)
      unfold B.ext at this ⊢
      rw [hget j (by omega)]
      exact this) (by rw [hxi]; omega), hxi, Int.toNat_natCast, Nat.log2_two_pow]
  have hf : faultL (ys.set i v) = some (faultS i d) := by
    unfold faultL
    rw [eo, e0, List.length_set, if_neg (by omega), if_neg hm, if_neg (by omega), if_pos (by simp)]
  unfold parseRes
  rw [hf]
end Go.Proofs.Ytcgojpnjaloofaa
