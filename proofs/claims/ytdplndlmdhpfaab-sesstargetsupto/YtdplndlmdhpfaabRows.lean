/-
  No cell of these rows narrows 'for every input' (looked for: loops, veiled, ifaces, maps, wideKeys, modest, calm, conditions, laid).
  DERIVED. THE GIVEN ROWS OF THIS SEAT. 3 by the template 'for every input the law returns true; each argument reads behind the call as it read before'; 0 by the template 'total and deterministic' (their statements: YtdplndlmdhpfaabTotals.lean).
  GIVEN WITH THE SEED: the statements are not yours to turn. If you find one false, say at which input.
  Laid BY PROGRAM, IN A SANDBOX (cutbox-rows.mjs): the forced cells as the released guide's own fill.sh prints them over the translation 6f1937619e45d789… (all of the seat's roots in one cut). By AI agents, Wed Nov 11 2026. No macro, syntax, notation, axiom, sorry.
-/
import Derived.Test.YtdplndlmdhpfaabChecked
import GoSem.Claim
import GoSem.ClaimJoined
import GoSem.ClaimMapViews
import Derived.JoinedTies
import Derived.KernelRfl
namespace Go.Proofs.Ytdplndlmdhpfaab
/- THE CELL 'sum', in the pinned program and in every row, IS THE sha256 OF THE DUMP (.gsa) THAT YtdplndlmdhpfaabProg.lean LOADS. Nothing in Lean hashes anything: it is a label: what it is worth is what the hold of that sum in a sandbox is worth. -/
noncomputable def Try.pinned : Pinned := { name := "ytdplndlmdhpfaab", sum := "6f1937619e45d789d147ff5b03d72439e437bca15ae12023b0215f42f46fe85f", checked := Try.checked }
namespace Rows
def none {H : Type} : Left H := { results := [], args := [] }

/-- 'palletlaw21.SessTargets': WHATEVER THE INPUT: true; the input reads as it did. -/
def sessTargetsSpec : ChangeSpec := { name := "sessTargets", fn := fun _ => fun
  | [d1, d2, d3] => { results := [.lit (.bool true)], args := [d1, d2, d3] }
  | _ => none }
def sessTargetsRow : OpenClaim := { program := "ytdplndlmdhpfaab", sum := "6f1937619e45d789d147ff5b03d72439e437bca15ae12023b0215f42f46fe85f", func := "pallet/palletlaw21.SessTargets", spec := "sessTargets", inPlace := ["internal/bytealg.IndexByte", "internal/bytealg.Index", "internal/bytealg.IndexByteString", "internal/bytealg.IndexString"], unfollowed := true, recurses := true, named := ["internal/bytealg.MaxLen"], apart := false }
def SessTargetsSaid : Prop := sessTargetsRow.holds Try.pinned (OpenSpec.ofChange sessTargetsSpec)

/-- ITS FALSE NEIGHBOUR: 'it returns false'. Refute it at one input. -/
def sessTargetsWrong : ChangeSpec := { name := "sessTargets", fn := fun _ => fun
  | [d1, d2, d3] => { results := [.lit (.bool false)], args := [d1, d2, d3] }
  | _ => none }
def SessTargetsWrongFalsely : Prop := sessTargetsRow.holds Try.pinned (OpenSpec.ofChange sessTargetsWrong)

/-- 'palletlaw21.SessWindow': WHATEVER THE INPUT: true; the input reads as it did. -/
def sessWindowSpec : ChangeSpec := { name := "sessWindow", fn := fun _ => fun
  | [d1, d2, d3] => { results := [.lit (.bool true)], args := [d1, d2, d3] }
  | _ => none }
def sessWindowRow : OpenClaim := { program := "ytdplndlmdhpfaab", sum := "6f1937619e45d789d147ff5b03d72439e437bca15ae12023b0215f42f46fe85f", func := "pallet/palletlaw21.SessWindow", spec := "sessWindow", inPlace := ["internal/bytealg.IndexByte", "internal/bytealg.Index", "internal/bytealg.IndexByteString", "internal/bytealg.IndexString"], unfollowed := true, recurses := true, named := ["internal/bytealg.MaxLen"], apart := false }
def SessWindowSaid : Prop := sessWindowRow.holds Try.pinned (OpenSpec.ofChange sessWindowSpec)

/-- ITS FALSE NEIGHBOUR: 'it returns false'. Refute it at one input. -/
def sessWindowWrong : ChangeSpec := { name := "sessWindow", fn := fun _ => fun
  | [d1, d2, d3] => { results := [.lit (.bool false)], args := [d1, d2, d3] }
  | _ => none }
def SessWindowWrongFalsely : Prop := sessWindowRow.holds Try.pinned (OpenSpec.ofChange sessWindowWrong)

/-- 'palletlaw21.SessForgets': WHATEVER THE INPUT: true; the input reads as it did. -/
def sessForgetsSpec : ChangeSpec := { name := "sessForgets", fn := fun _ => fun
  | [d1, d2] => { results := [.lit (.bool true)], args := [d1, d2] }
  | _ => none }
def sessForgetsRow : OpenClaim := { program := "ytdplndlmdhpfaab", sum := "6f1937619e45d789d147ff5b03d72439e437bca15ae12023b0215f42f46fe85f", func := "pallet/palletlaw21.SessForgets", spec := "sessForgets", inPlace := ["internal/bytealg.IndexByte", "internal/bytealg.Index", "internal/bytealg.IndexByteString", "internal/bytealg.IndexString"], unfollowed := true, recurses := true, named := ["internal/bytealg.MaxLen"], apart := false }
def SessForgetsSaid : Prop := sessForgetsRow.holds Try.pinned (OpenSpec.ofChange sessForgetsSpec)

/-- ITS FALSE NEIGHBOUR: 'it returns false'. Refute it at one input. -/
def sessForgetsWrong : ChangeSpec := { name := "sessForgets", fn := fun _ => fun
  | [d1, d2] => { results := [.lit (.bool false)], args := [d1, d2] }
  | _ => none }
def SessForgetsWrongFalsely : Prop := sessForgetsRow.holds Try.pinned (OpenSpec.ofChange sessForgetsWrong)

/- THE SECOND FORM. 'bulk': how many values and letters a reading holds, each counted each time it is reached (what is shared counts as often as it is met; a slice's spare places count too). A statement '..UptoSaid' is the law's where the arguments, and the package variables that the reading takes, are together of bulk at most 1048576: NARROWER than '..Said'. Prove '..Said' where nothing that the law and all that it calls make is longer than what came in: it says more and counts as full. Else prove '..UptoSaid'. A law counts once. -/
mutual
def uptoBulk {H : Type} : DataW H → Nat
  | .lit (.string bytes) => bytes.length + 1
  | .lit _ => 1
  | .nil => 1
  | .ptr d => uptoBulk d + 1
  | .slice elems spare => uptoBulkAll elems + uptoBulkAll spare + 1
  | .agg parts => uptoBulkAll parts + 1
  | .iface _ d => uptoBulk d + 1
  | .map entries => uptoBulkEntries entries + 1
  | .held _ => 1
def uptoBulkAll {H : Type} : List (DataW H) → Nat
  | [] => 0
  | d :: r => uptoBulk d + uptoBulkAll r
def uptoBulkEntries {H : Type} : List (Lit × DataW H) → Nat
  | [] => 0
  | x :: r => uptoBulkEntry x + uptoBulkEntries r
def uptoBulkEntry {H : Type} : Lit × DataW H → Nat
  | (.string bytes, d) => bytes.length + uptoBulk d + 1
  | (_, d) => uptoBulk d + 1
 end
def uptoSmall : (H : Type) → List (DataW H) → Bool := fun _ ds => decide (uptoBulkAll ds ≤ 1048576)
def OpenSpec.upto (s : _root_.Go.ChangeSpec) : _root_.Go.OpenSpec := { _root_.Go.OpenSpec.ofChange s with cond := some uptoSmall }

/-- 'palletlaw21.SessTargets', WHERE WHAT IT READS IS OF BULK AT MOST 1048576: true; the input reads as it did. -/
def sessTargetsUptoRow : OpenClaim := { program := "ytdplndlmdhpfaab", sum := "6f1937619e45d789d147ff5b03d72439e437bca15ae12023b0215f42f46fe85f", func := "pallet/palletlaw21.SessTargets", spec := "sessTargets", inPlace := ["internal/bytealg.IndexByte", "internal/bytealg.Index", "internal/bytealg.IndexByteString", "internal/bytealg.IndexString"], unfollowed := true, recurses := true, named := ["internal/bytealg.MaxLen"], apart := false, narrowed := true }
def SessTargetsUptoSaid : Prop := sessTargetsUptoRow.holds Try.pinned (OpenSpec.upto sessTargetsSpec)

/-- 'palletlaw21.SessWindow', WHERE WHAT IT READS IS OF BULK AT MOST 1048576: true; the input reads as it did. -/
def sessWindowUptoRow : OpenClaim := { program := "ytdplndlmdhpfaab", sum := "6f1937619e45d789d147ff5b03d72439e437bca15ae12023b0215f42f46fe85f", func := "pallet/palletlaw21.SessWindow", spec := "sessWindow", inPlace := ["internal/bytealg.IndexByte", "internal/bytealg.Index", "internal/bytealg.IndexByteString", "internal/bytealg.IndexString"], unfollowed := true, recurses := true, named := ["internal/bytealg.MaxLen"], apart := false, narrowed := true }
def SessWindowUptoSaid : Prop := sessWindowUptoRow.holds Try.pinned (OpenSpec.upto sessWindowSpec)

/-- 'palletlaw21.SessForgets', WHERE WHAT IT READS IS OF BULK AT MOST 1048576: true; the input reads as it did. -/
def sessForgetsUptoRow : OpenClaim := { program := "ytdplndlmdhpfaab", sum := "6f1937619e45d789d147ff5b03d72439e437bca15ae12023b0215f42f46fe85f", func := "pallet/palletlaw21.SessForgets", spec := "sessForgets", inPlace := ["internal/bytealg.IndexByte", "internal/bytealg.Index", "internal/bytealg.IndexByteString", "internal/bytealg.IndexString"], unfollowed := true, recurses := true, named := ["internal/bytealg.MaxLen"], apart := false, narrowed := true }
def SessForgetsUptoSaid : Prop := sessForgetsUptoRow.holds Try.pinned (OpenSpec.upto sessForgetsSpec)

end Rows
end Go.Proofs.Ytdplndlmdhpfaab
