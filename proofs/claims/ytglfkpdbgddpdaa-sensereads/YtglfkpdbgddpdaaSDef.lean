/-
  Senses: what they are as values, when they are in form, their bytes; the contracts of Form.
-/
import Derived.Test.YtglfkpdbgddpdaaBSame
import Derived.Test.YtglfkpdbgddpdaaMem
import Derived.Test.YtglfkpdbgddpdaaOrder
namespace Go.Proofs.Ytglfkpdbgddpdaa
open Go.RowKit
set_option linter.unusedVariables false

structure Sn where
  key : Int
  code : Int
  info : Int
  hi : Bool
  field : Int
  bit : Int
  hf : Bool
  ic : Bool

def Sn.vals (s : Sn) : Array Value := #[.int .u8 s.key, .int .u16 s.code, .int .u64 s.info, .bool s.hi, .int .i64 s.field, .int .i64 s.bit, .bool s.hf, .bool s.ic]

structure Sn.wf (s : Sn) : Prop where
  key : 0 ≤ s.key ∧ s.key ≤ 255
  code : 0 ≤ s.code ∧ s.code ≤ 65535
  info : 0 ≤ s.info ∧ s.info < 18446744073709551616
  field : -9223372036854775808 ≤ s.field ∧ s.field < 9223372036854775808
  bit : -9223372036854775808 ≤ s.bit ∧ s.bit < 9223372036854775808

def Sn.form (s : Sn) : Bool := decide (s.key ≤ 15) && (s.hi || decide (s.info = 0)) &&
  (if s.hf then decide (0 ≤ s.field ∧ s.field ≤ 65535 ∧ -1 ≤ s.bit ∧ s.bit ≤ 7) else decide (s.field = 0 ∧ s.bit = 0) && !s.ic)

def Sn.flags (s : Sn) : Int := if s.hf then 128 + (if s.ic then 64 else 0) + (if 0 ≤ s.bit then 8 + s.bit else 0) else 0

def Sn.fieldB (s : Sn) : List Int := [s.flags, s.field / 256, s.field % 256]

def Sn.fixedB (s : Sn) : List Int := [if s.hi then 240 else 112, 0, s.key, s.info / 16777216, s.info / 65536 % 256, s.info / 256 % 256, s.info % 256, 10, 0, 0, 0, 0, s.code / 256, s.code % 256, 0] ++ s.fieldB

def Sn.infoB (s : Sn) : List Int := [0, 10, 128, 0, s.info / 72057594037927936, s.info / 281474976710656 % 256, s.info / 1099511627776 % 256, s.info / 4294967296 % 256, s.info / 16777216 % 256, s.info / 65536 % 256, s.info / 256 % 256, s.info % 256]
def Sn.partB (s : Sn) : List Int := [2, 6, 0, 0] ++ s.fieldB ++ [0]
def Sn.rest (s : Sn) : List Int := (if s.hi then s.infoB else []) ++ (if s.hf then s.partB else [])
def Sn.descB (s : Sn) : List Int := [114, s.key, s.code / 256, s.code % 256, 0, 0, 0, (s.rest.length : Int)] ++ s.rest

end Go.Proofs.Ytglfkpdbgddpdaa
