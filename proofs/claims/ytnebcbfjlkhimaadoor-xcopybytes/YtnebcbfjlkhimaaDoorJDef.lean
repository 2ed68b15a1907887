/-
  What parameters of a copy say, plainly.
-/
import Derived.Test.YtnebcbfjlkhimaaDoorERow
import Derived.Test.YtnebcbfjlkhimaaDoorBGet
import Derived.Test.YtnebcbfjlkhimaaDoorBPut
namespace Go.Proofs.YtnebcbfjlkhimaaDoor
open Go.RowKit
set_option linter.unusedVariables false
set_option linter.unusedSimpArgs false

/-- A sense. -/
structure Sn where
  key : Int
  code : Int
  info : Int
  hi : Bool
  field : Int
  bit : Int
  hf : Bool
  ic : Bool
def Sn.vals (s : Sn) : Array Value := #[.int .u8 s.key, .int .u16 s.code, .int .u64 s.info, .bool s.hi, .int .i64 s.field, .int .i64 s.bit, .bool s.hf, .bool s.ic]
def noS : Sn := ⟨0, 0, 0, false, 0, 0, false, false⟩
def plS (key code : Int) : Sn := ⟨key, code, 0, false, 0, 0, false, false⟩
def paS (f : Int) : Sn := ⟨5, 9728, 0, false, f, -1, true, false⟩
def zeroS : Array Value := #[.int .u8 0, .int .u16 0, .int .u64 0, .bool false, .int .i64 0, .int .i64 0, .bool false, .bool false]
theorem infoS : (Tryd.prog.info? 31).map (·.size) = some 8 := by kernel_rfl
theorem zeroSi : (Tryd.prog.info? 31).map (fun i => i.zero) = some (some (.agg zeroS)) := by kernel_rfl
theorem Sn.vals_one (c : Sn) : c.vals.all (·.oneCell') = true := by simp [Sn.vals, Value.oneCell']
/-- A piece. -/
structure Sg where
  fr : Int
  to : Int
  bl : Int
  src : Int
  dst : Int
def Sg.vals (s : Sg) : Array Value := #[.int .i64 s.fr, .int .i64 s.to, .int .i64 s.bl, .int .u64 s.src, .int .u64 s.dst]
theorem Sg.vals_one (c : Sg) : c.vals.all (·.oneCell') = true := by simp [Sg.vals, Value.oneCell']
def zeroG : Array Value := #[.int .i64 0, .int .i64 0, .int .i64 0, .int .u64 0, .int .u64 0]
theorem infoG : (Tryd.prog.info? 50).map (·.size) = some 5 := by kernel_rfl
theorem zeroGi : (Tryd.prog.info? 50).map (fun i => i.zero) = some (some (.agg zeroG)) := by kernel_rfl
theorem infoRG : (Tryd.prog.info? 61).map (·.size) = some 5 := by kernel_rfl
theorem zeroRGi : (Tryd.prog.info? 61).map (fun i => i.zero) = some (some (.agg zeroG)) := by kernel_rfl
/-- A list's two rows. -/
def lsV (u s : Value) : Array Value := #[u, s]
def zeroL : Array Value := #[.slice none 0 0, .slice none 0 0]
theorem infoL : (Tryd.prog.info? 27).map (·.size) = some 2 := by kernel_rfl
theorem zeroLi : (Tryd.prog.info? 27).map (fun i => i.zero) = some (some (.agg zeroL)) := by kernel_rfl
theorem infoRL : (Tryd.prog.info? 36).map (·.size) = some 2 := by kernel_rfl
theorem zeroRLi : (Tryd.prog.info? 36).map (fun i => i.zero) = some (some (.agg zeroL)) := by kernel_rfl
/-- Bytes that lie in a block. -/
def Cs (w : World) (b off n : Nat) (zs : List Int) : Prop := b < w.heap.size ∧ ∀ j, j < n → w.cell? ⟨b, off + j, none⟩ = some (.int .u8 (zs.getD j 0))
theorem Cs.below {w w' : World} {b off n m : Nat} {zs : List Int} (h : Cs w b off n zs) (hb : Below m w w') (hm : b < m) : Cs w' b off n zs :=
  ⟨Nat.lt_of_lt_of_le h.1 hb.size, fun j hj => (World.cell?_of_block (w := w) (a := ⟨b, off + j, none⟩) (hb.block b hm)).trans (h.2 j hj)⟩
theorem bel_own {n b : Nat} {w w' : World} (hg : w.grownBy w' (some b)) (hn : n ≤ w.heap.size) (hb : n ≤ b) : Below n w w' := (Below.refl n w).grown hg hn (fun k hk => by injection hk with hk; omega)
abbrev num := B.num
def front : List Int := [228, 0, 0, 0, 2, 1, 0, 20]
def units (zs : List Int) : Nat := (num zs 2 2 / 32).toNat
def segs (zs : List Int) : Nat := (num zs 8 4 / 28).toNat
/-- What is wrong with a head. -/
def headX (zs : List Int) : Option Sn :=
  if zs.length < 16 then some (plS 5 6656)
  else if num zs 0 2 ≠ 0 then some (paS 0)
  else if num zs 4 4 ≠ 0 then some (paS 4)
  else if num zs 12 4 ≠ 0 then some (paS 12)
  else if num zs 2 2 % 32 ≠ 0 then some (paS 2)
  else if num zs 8 4 % 28 ≠ 0 then some (paS 8)
  else if (zs.length : Int) ≠ 16 + num zs 2 2 + num zs 8 4 then some (plS 5 6656)
  else if 224 < num zs 8 4 ∨ 256 < num zs 2 2 then some (plS 5 9736)
  else none
/-- The first byte of a unit's front that is wrong, from the end. -/
def frF (zs : List Int) (at_ : Nat) : Nat → Option Nat
  | 0 => none
  | k + 1 => if zs.getD (at_ + (8 - (k + 1))) 0 ≠ front.getD (8 - (k + 1)) 0 then some (at_ + (8 - (k + 1))) else frF zs at_ k
def unitF (zs : List Int) (at_ : Nat) : Option Nat :=
  match frF zs at_ 8 with
  | some f => some f
  | none => if zs.getD (at_ + 28) 0 ≠ 0 then some (at_ + 28) else if num zs (at_ + 29) 3 ≠ 16 then some (at_ + 29) else none
/-- Without blanks at the end: how many are left. -/
def trimN (l : List Int) : Nat → Nat
  | 0 => 0
  | n + 1 => if l.getD n 0 = 32 then trimN l n else n + 1
theorem trimN_le (l : List Int) : ∀ n, trimN l n ≤ n
  | 0 => Nat.le_refl _
  | n + 1 => by rw [trimN]; split; exact Nat.le_succ_of_le (trimN_le l n); exact Nat.le_refl _
def trimL (l : List Int) : List Int := l.take (trimN l l.length)
def serL (zs : List Int) (at_ : Nat) : List Int := (zs.drop (at_ + 8)).take 20
def ser (zs : List Int) (at_ : Nat) : List Int := trimL (serL zs at_)
def segF (zs : List Int) (n at_ : Nat) : Option Nat :=
  if num zs at_ 4 ≠ 33554456 then some at_
  else if num zs (at_ + 8) 2 ≠ 0 then some (at_ + 8)
  else if ¬ num zs (at_ + 4) 2 < n then some (at_ + 4)
  else if ¬ num zs (at_ + 6) 2 < n then some (at_ + 6)
  else if 256 < num zs (at_ + 10) 2 then some (at_ + 10)
  else none
def sg (zs : List Int) (at_ : Nat) : Sg := ⟨num zs (at_ + 4) 2, num zs (at_ + 6) 2, num zs (at_ + 10) 2, num zs (at_ + 12) 8, num zs (at_ + 20) 8⟩
/-- A list, the sense, whether it is one. -/
structure Rx where
  us : List (List Int)
  ss : List Sg
  s : Sn
  ok : Bool
def unitsX (zs : List Int) (k : Nat) : List (List Int) := (List.range k).map (fun j => ser zs (16 + 32 * j))
def segsX (zs : List Int) (m k : Nat) : List Sg := (List.range k).map (fun j => sg zs (m + 28 * j))
/-- The first fault, from the end. -/
def firstF (f : Nat → Option Nat) (n : Nat) : Nat → Option Nat
  | 0 => none
  | k + 1 => match f (n - (k + 1)) with
    | some x => some x
    | none => firstF f n k
def parseX (zs : List Int) : Rx :=
  if zs.length = 0 then ⟨[], [], noS, true⟩
  else match headX zs with
  | some s => ⟨[], [], s, false⟩
  | none => match firstF (fun j => unitF zs (16 + 32 * j)) (units zs) (units zs) with
    | some f => ⟨[], [], paS f, false⟩
    | none => match firstF (fun j => segF zs (units zs) (16 + 32 * units zs + 28 * j)) (segs zs) (segs zs) with
      | some f => ⟨[], [], paS f, false⟩
      | none => ⟨unitsX zs (units zs), segsX zs (16 + 32 * units zs) (segs zs), noS, true⟩
theorem firstF_none {f : Nat → Option Nat} {n : Nat} (h : ∀ j, j < n → f j = none) : ∀ k, k ≤ n → firstF f n k = none
  | 0, _ => rfl
  | k + 1, hk => by rw [firstF, h _ (by omega)]; exact firstF_none h k (by omega)
theorem firstF_some {f : Nat → Option Nat} {n i x : Nat} (hi : i < n) (h : ∀ j, j < i → f j = none) (hx : f i = some x) : ∀ k, n - i ≤ k → k ≤ n → firstF f n k = some x
  | 0, h1, _ => by omega
  | k + 1, h1, h2 => by
    rw [firstF]
    by_cases e : n - (k + 1) = i
    · rw [e, hx]
    · rw [h _ (by omega)]
      exact firstF_some hi h hx k (by omega) (by omega)
theorem firstF_of_none {f : Nat → Option Nat} {n : Nat} : ∀ k, k ≤ n → firstF f n k = none → ∀ j, n - k ≤ j → j < n → f j = none
  | 0, _, _, j, h1, h2 => by omega
  | k + 1, hk, h, j, h1, h2 => by
    rw [firstF] at h
    cases hf : f (n - (k + 1)) with
    | some x => rw [hf] at h; cases h
    | none =>
      rw [hf] at h
      by_cases e : n - (k + 1) = j
      · rw [← e]; exact hf
      · exact firstF_of_none k (by omega) h j (by omega) h2
theorem num2_bd (zs : List Int) (hb : Bytes zs) (i : Nat) : 0 ≤ num zs i 2 ∧ num zs i 2 < 65536 := by have := B.num_bd zs i hb 2; simpa using this
theorem num3_bd (zs : List Int) (hb : Bytes zs) (i : Nat) : 0 ≤ num zs i 3 ∧ num zs i 3 < 16777216 := by have := B.num_bd zs i hb 3; simpa using this
theorem num4_bd (zs : List Int) (hb : Bytes zs) (i : Nat) : 0 ≤ num zs i 4 ∧ num zs i 4 < 4294967296 := by have := B.num_bd zs i hb 4; simpa using this
theorem num8_bd (zs : List Int) (hb : Bytes zs) (i : Nat) : 0 ≤ num zs i 8 ∧ num zs i 8 < 18446744073709551616 := by have := B.num_bd zs i hb 8; simpa using this
end Go.Proofs.YtnebcbfjlkhimaaDoor
