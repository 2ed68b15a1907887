/-
  Commands: their bytes' masks, what they tell, their faults. No program is looked at here.
-/
import Derived.Test.YtcgojpnjaloofaaBOddNum
namespace Go.Proofs.Ytcgojpnjaloofaa
set_option linter.unusedVariables false

structure Sn where
  key : Int
  code : Int
  info : Int
  hi : Bool
  field : Int
  bit : Int
  hf : Bool
  ic : Bool
def Sn.vals (s : Sn) : Array Value := #[.int .u8 s.key, .int .u16 s.code, .int .u64 s.info, .bool s.hi, .int .i64 s.field, .int .i64 s.bit, .bool s.hf, .bool s.ic]

structure Cm where
  kind : Int := 0
  long : Bool := false
  lba : Int := 0
  blocks : Int := 0
  alloc : Int := 0
  fua : Bool := false
  prot : Int := 0
  unmap : Bool := false
  evpd : Bool := false
  page : Int := 0
  control : Int := 0
  save : Bool := false
  service : Int := 0
  type : Int := 0
  bytes : Bool := false
def Cm.vals (c : Cm) : Array Value := #[.int .u8 c.kind, .bool c.long, .int .u64 c.lba, .int .u64 c.blocks, .int .i64 c.alloc, .bool c.fua, .int .u8 c.prot, .bool c.unmap, .bool c.evpd, .int .u8 c.page, .int .u8 c.control, .bool c.save, .int .u8 c.service, .int .u8 c.type, .bool c.bytes]

def faultS (f b : Int) : Sn := ⟨5, 9216, 0, false, f, b, true, true⟩
def noOpS : Sn := ⟨5, 8192, 0, false, 0, 7, true, true⟩
def noS : Sn := ⟨0, 0, 0, false, 0, 0, false, false⟩
def noC : Cm := {}

def opsL : List Int := [0, 3, 8, 10, 18, 21, 26, 37, 40, 42, 46, 47, 53, 65, 66, 85, 90, 94, 95, 131, 136, 137, 138, 145, 147, 158, 160]
def masksL : List (List Int) := [[0, 0, 0, 0, 0, 0],
  [3, 1, 0, 0, 255, 0],
  [8, 31, 255, 255, 255, 0],
  [10, 31, 255, 255, 255, 0],
  [18, 1, 255, 255, 255, 0],
  [21, 17, 0, 0, 255, 0],
  [26, 8, 255, 0, 255, 0],
  [37, 0, 0, 0, 0, 0, 0, 0, 0, 0],
  [40, 248, 255, 255, 255, 255, 0, 255, 255, 0],
  [42, 248, 255, 255, 255, 255, 0, 255, 255, 0],
  [46, 240, 255, 255, 255, 255, 0, 255, 255, 0],
  [47, 242, 255, 255, 255, 255, 0, 255, 255, 0],
  [53, 0, 255, 255, 255, 255, 0, 255, 255, 0],
  [65, 232, 255, 255, 255, 255, 0, 255, 255, 0],
  [66, 0, 0, 0, 0, 0, 0, 255, 255, 0],
  [85, 17, 0, 0, 0, 0, 0, 255, 255, 0],
  [90, 8, 255, 0, 0, 0, 0, 255, 255, 0],
  [94, 31, 0, 0, 0, 0, 0, 255, 255, 0],
  [95, 31, 15, 0, 0, 255, 255, 255, 255, 0],
  [131, 31, 0, 0, 0, 0, 0, 0, 0, 0, 255, 255, 255, 255, 0, 0],
  [136, 248, 255, 255, 255, 255, 255, 255, 255, 255, 255, 255, 255, 255, 0, 0],
  [137, 248, 255, 255, 255, 255, 255, 255, 255, 255, 0, 0, 0, 255, 0, 0],
  [138, 248, 255, 255, 255, 255, 255, 255, 255, 255, 255, 255, 255, 255, 0, 0],
  [145, 0, 255, 255, 255, 255, 255, 255, 255, 255, 255, 255, 255, 255, 0, 0],
  [147, 232, 255, 255, 255, 255, 255, 255, 255, 255, 255, 255, 255, 255, 0, 0],
  [158, 31, 0, 0, 0, 0, 0, 0, 0, 0, 255, 255, 255, 255, 0, 0],
  [160, 0, 3, 0, 0, 0, 255, 255, 255, 255, 0, 0]]
def kindsL : List Int := [1, 2, 7, 8, 3, 4, 5, 6, 7, 8, 9, 10, 11, 12, 13, 4, 5, 15, 16, 18, 7, 14, 8, 11, 12, 6, 17]

def maskL (op : Int) : List Int :=
  if op = 0 then [0, 0, 0, 0, 0, 0] else
  if op = 3 then [3, 1, 0, 0, 255, 0] else
  if op = 8 then [8, 31, 255, 255, 255, 0] else
  if op = 10 then [10, 31, 255, 255, 255, 0] else
  if op = 18 then [18, 1, 255, 255, 255, 0] else
  if op = 21 then [21, 17, 0, 0, 255, 0] else
  if op = 26 then [26, 8, 255, 0, 255, 0] else
  if op = 37 then [37, 0, 0, 0, 0, 0, 0, 0, 0, 0] else
  if op = 40 then [40, 248, 255, 255, 255, 255, 0, 255, 255, 0] else
  if op = 42 then [42, 248, 255, 255, 255, 255, 0, 255, 255, 0] else
  if op = 46 then [46, 240, 255, 255, 255, 255, 0, 255, 255, 0] else
  if op = 47 then [47, 242, 255, 255, 255, 255, 0, 255, 255, 0] else
  if op = 53 then [53, 0, 255, 255, 255, 255, 0, 255, 255, 0] else
  if op = 65 then [65, 232, 255, 255, 255, 255, 0, 255, 255, 0] else
  if op = 66 then [66, 0, 0, 0, 0, 0, 0, 255, 255, 0] else
  if op = 85 then [85, 17, 0, 0, 0, 0, 0, 255, 255, 0] else
  if op = 90 then [90, 8, 255, 0, 0, 0, 0, 255, 255, 0] else
  if op = 94 then [94, 31, 0, 0, 0, 0, 0, 255, 255, 0] else
  if op = 95 then [95, 31, 15, 0, 0, 255, 255, 255, 255, 0] else
  if op = 131 then [131, 31, 0, 0, 0, 0, 0, 0, 0, 0, 255, 255, 255, 255, 0, 0] else
  if op = 136 then [136, 248, 255, 255, 255, 255, 255, 255, 255, 255, 255, 255, 255, 255, 0, 0] else
  if op = 137 then [137, 248, 255, 255, 255, 255, 255, 255, 255, 255, 0, 0, 0, 255, 0, 0] else
  if op = 138 then [138, 248, 255, 255, 255, 255, 255, 255, 255, 255, 255, 255, 255, 255, 0, 0] else
  if op = 145 then [145, 0, 255, 255, 255, 255, 255, 255, 255, 255, 255, 255, 255, 255, 0, 0] else
  if op = 147 then [147, 232, 255, 255, 255, 255, 255, 255, 255, 255, 255, 255, 255, 255, 0, 0] else
  if op = 158 then [158, 31, 0, 0, 0, 0, 0, 0, 0, 0, 255, 255, 255, 255, 0, 0] else
  if op = 160 then [160, 0, 3, 0, 0, 0, 255, 255, 255, 255, 0, 0] else
  []

def kindL (op : Int) : Int :=
  if op = 0 then 1 else
  if op = 3 then 2 else
  if op = 8 then 7 else
  if op = 10 then 8 else
  if op = 18 then 3 else
  if op = 21 then 4 else
  if op = 26 then 5 else
  if op = 37 then 6 else
  if op = 40 then 7 else
  if op = 42 then 8 else
  if op = 46 then 9 else
  if op = 47 then 10 else
  if op = 53 then 11 else
  if op = 65 then 12 else
  if op = 66 then 13 else
  if op = 85 then 4 else
  if op = 90 then 5 else
  if op = 94 then 15 else
  if op = 95 then 16 else
  if op = 131 then 18 else
  if op = 136 then 7 else
  if op = 137 then 14 else
  if op = 138 then 8 else
  if op = 145 then 11 else
  if op = 147 then 12 else
  if op = 158 then 6 else
  if op = 160 then 17 else
  0

def servB (op s : Int) : Bool := if op = 94 then decide (s ≤ 3) else if op = 95 then decide (s ≤ 6) else if op = 131 then decide (s = 0) else if op = 158 then decide (s = 16) else true

/-- A bit of a byte. -/
def bt (z k : Int) : Bool := decide (z / k % 2 = 1)

def cmdL (op : Int) (zs : List Int) : Cm :=
  if op = 0 then { kind := 1 } else
  if op = 3 then { kind := 2, long := bt (zs.getD 1 0) 1, alloc := B.num zs 4 1 } else
  if op = 8 then { kind := 7, lba := B.num zs 1 3, blocks := if B.num zs 4 1 = 0 then 256 else B.num zs 4 1 } else
  if op = 10 then { kind := 8, lba := B.num zs 1 3, blocks := if B.num zs 4 1 = 0 then 256 else B.num zs 4 1 } else
  if op = 18 then { kind := 3, evpd := bt (zs.getD 1 0) 1, page := zs.getD 2 0, alloc := B.num zs 3 2 } else
  if op = 21 then { kind := 4, save := bt (zs.getD 1 0) 1, alloc := B.num zs 4 1 } else
  if op = 26 then { kind := 5, control := zs.getD 2 0 / 64, page := zs.getD 2 0 % 64, alloc := B.num zs 4 1 } else
  if op = 37 then { kind := 6 } else
  if op = 40 then { kind := 7, lba := B.num zs 2 4, blocks := B.num zs 7 2, prot := zs.getD 1 0 / 32, fua := bt (zs.getD 1 0) 8 } else
  if op = 42 then { kind := 8, lba := B.num zs 2 4, blocks := B.num zs 7 2, prot := zs.getD 1 0 / 32, fua := bt (zs.getD 1 0) 8 } else
  if op = 46 then { kind := 9, lba := B.num zs 2 4, blocks := B.num zs 7 2, prot := zs.getD 1 0 / 32 } else
  if op = 47 then { kind := 10, lba := B.num zs 2 4, blocks := B.num zs 7 2, prot := zs.getD 1 0 / 32, bytes := bt (zs.getD 1 0) 2 } else
  if op = 53 then { kind := 11, lba := B.num zs 2 4, blocks := B.num zs 7 2, prot := zs.getD 1 0 / 32 } else
  if op = 65 then { kind := 12, lba := B.num zs 2 4, blocks := B.num zs 7 2, prot := zs.getD 1 0 / 32, unmap := bt (zs.getD 1 0) 8 } else
  if op = 66 then { kind := 13, alloc := B.num zs 7 2 } else
  if op = 85 then { kind := 4, long := true, save := bt (zs.getD 1 0) 1, alloc := B.num zs 7 2 } else
  if op = 90 then { kind := 5, long := true, control := zs.getD 2 0 / 64, page := zs.getD 2 0 % 64, alloc := B.num zs 7 2 } else
  if op = 94 then { kind := 15, service := zs.getD 1 0, alloc := B.num zs 7 2 } else
  if op = 95 then { kind := 16, service := zs.getD 1 0, type := zs.getD 2 0, alloc := B.num zs 5 4 } else
  if op = 131 then { kind := 18, alloc := B.num zs 10 4 } else
  if op = 136 then { kind := 7, lba := B.num zs 2 8, blocks := B.num zs 10 4, prot := zs.getD 1 0 / 32, fua := bt (zs.getD 1 0) 8 } else
  if op = 137 then { kind := 14, lba := B.num zs 2 8, blocks := B.num zs 10 4, prot := zs.getD 1 0 / 32, fua := bt (zs.getD 1 0) 8 } else
  if op = 138 then { kind := 8, lba := B.num zs 2 8, blocks := B.num zs 10 4, prot := zs.getD 1 0 / 32, fua := bt (zs.getD 1 0) 8 } else
  if op = 145 then { kind := 11, lba := B.num zs 2 8, blocks := B.num zs 10 4, prot := zs.getD 1 0 / 32 } else
  if op = 147 then { kind := 12, lba := B.num zs 2 8, blocks := B.num zs 10 4, prot := zs.getD 1 0 / 32, unmap := bt (zs.getD 1 0) 8 } else
  if op = 158 then { kind := 6, long := true, alloc := B.num zs 10 4 } else
  if op = 160 then { kind := 17, page := zs.getD 2 0, alloc := B.num zs 6 4 } else
  noC

/-- The fault of values that don't go together. -/
def unfitL (c : Cm) (z1 : Int) (n : Nat) : Int × Int :=
  if c.kind = 3 then (if c.evpd = false ∧ c.page ≠ 0 then (2, 7) else (-1, -1)) else
  if c.kind = 4 then (if bt z1 16 = false then (1, 4) else (-1, -1)) else
  if c.kind = 17 then (if c.page = 3 then (2, 1) else (-1, -1)) else
  if 7 ≤ c.kind ∧ c.kind ≤ 10 then (if 256 < c.blocks then (if n = 10 then (7, 7) else (10, 7)) else (-1, -1)) else (-1, -1)

/-- The first bit that the mask of the operation has not. -/
def oddL (zs : List Int) : Int × Int := B.oddFrom (B.ext zs (maskL (zs.getD 0 0)) (maskL (zs.getD 0 0)).length) (maskL (zs.getD 0 0)).length 0

def unfL (zs : List Int) : Int × Int := unfitL (cmdL (zs.getD 0 0) zs) (zs.getD 1 0) (maskL (zs.getD 0 0)).length

/-- The fault of bytes; none: they are a command. -/
def faultL (zs : List Int) : Option Sn :=
  if zs.length = 0 then some (faultS 0 (-1)) else
  if maskL (zs.getD 0 0) = [] then some noOpS else
  if zs.length < (maskL (zs.getD 0 0)).length then some (faultS zs.length (-1)) else
  if 0 ≤ (oddL zs).1 then some (faultS (oddL zs).1 (oddL zs).2) else
  if servB (zs.getD 0 0) (zs.getD 1 0) = false then some (faultS 1 4) else
  if 0 ≤ (unfL zs).1 then some (faultS (unfL zs).1 (unfL zs).2) else none

def parseRes (zs : List Int) : Value := match faultL zs with
  | some s => .tuple #[.agg noC.vals, .agg s.vals, .bool false]
  | none => .tuple #[.agg (cmdL (zs.getD 0 0) zs).vals, .agg noS.vals, .bool true]

end Go.Proofs.Ytcgojpnjaloofaa
