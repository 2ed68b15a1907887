/-
  No cell of these rows narrows 'for every input' (looked for: loops, veiled, ifaces, maps, wideKeys, modest, calm, conditions, laid).
  DERIVED. THE GIVEN ROWS OF THIS SEAT. 6 by the template 'for every input the law returns true; each argument reads behind the call as it read before'; 0 by the template 'total and deterministic' (their statements: YtmjpomkofgfbbaaTotals.lean).
  GIVEN WITH THE SEED: the statements are not yours to turn. If you find one false, say at which input.
  Laid BY PROGRAM, IN A SANDBOX (cutbox-rows.mjs): the forced cells as the released guide's own fill.sh prints them over the translation c5a3832ed44ac06b… (all of the seat's roots in one cut). By AI agents, Wed Nov 11 2026. No macro, syntax, notation, axiom, sorry.
-/
import Derived.Test.YtmjpomkofgfbbaaChecked
import GoSem.Claim
import GoSem.ClaimJoined
import GoSem.ClaimMapViews
import Derived.JoinedTies
import Derived.KernelRfl
namespace Go.Proofs.Ytmjpomkofgfbbaa
/- THE CELL 'sum', in the pinned program and in every row, IS THE sha256 OF THE DUMP (.gsa) THAT YtmjpomkofgfbbaaProg.lean LOADS. Nothing in Lean hashes anything: it is a label: what it is worth is what the hold of that sum in a sandbox is worth. -/
noncomputable def Try.pinned : Pinned := { name := "ytmjpomkofgfbbaa", sum := "c5a3832ed44ac06b9c2e6e062dca117ac6b0804b14d66e891acfeb775b93e7b7", checked := Try.checked }
namespace Rows
def none {H : Type} : Left H := { results := [], args := [] }

/-- 'palletlaw04.StorePlays': WHATEVER THE INPUT: true; the input reads as it did. -/
def storePlaysSpec : ChangeSpec := { name := "storePlays", fn := fun _ => fun
  | [d1, d2, d3] => { results := [.lit (.bool true)], args := [d1, d2, d3] }
  | _ => none }
def storePlaysRow : OpenClaim := { program := "ytmjpomkofgfbbaa", sum := "c5a3832ed44ac06b9c2e6e062dca117ac6b0804b14d66e891acfeb775b93e7b7", func := "pallet/palletlaw04.StorePlays", spec := "storePlays", apart := false }
def StorePlaysSaid : Prop := storePlaysRow.holds Try.pinned (OpenSpec.ofChange storePlaysSpec)

/-- ITS FALSE NEIGHBOUR: 'it returns false'. Refute it at one input. -/
def storePlaysWrong : ChangeSpec := { name := "storePlays", fn := fun _ => fun
  | [d1, d2, d3] => { results := [.lit (.bool false)], args := [d1, d2, d3] }
  | _ => none }
def StorePlaysWrongFalsely : Prop := storePlaysRow.holds Try.pinned (OpenSpec.ofChange storePlaysWrong)

/-- 'palletlaw04.StoreDurable': WHATEVER THE INPUT: true; the input reads as it did. -/
def storeDurableSpec : ChangeSpec := { name := "storeDurable", fn := fun _ => fun
  | [d1, d2, d3, d4, d5, d6, d7] => { results := [.lit (.bool true)], args := [d1, d2, d3, d4, d5, d6, d7] }
  | _ => none }
def storeDurableRow : OpenClaim := { program := "ytmjpomkofgfbbaa", sum := "c5a3832ed44ac06b9c2e6e062dca117ac6b0804b14d66e891acfeb775b93e7b7", func := "pallet/palletlaw04.StoreDurable", spec := "storeDurable", apart := false }
def StoreDurableSaid : Prop := storeDurableRow.holds Try.pinned (OpenSpec.ofChange storeDurableSpec)

/-- ITS FALSE NEIGHBOUR: 'it returns false'. Refute it at one input. -/
def storeDurableWrong : ChangeSpec := { name := "storeDurable", fn := fun _ => fun
  | [d1, d2, d3, d4, d5, d6, d7] => { results := [.lit (.bool false)], args := [d1, d2, d3, d4, d5, d6, d7] }
  | _ => none }
def StoreDurableWrongFalsely : Prop := storeDurableRow.holds Try.pinned (OpenSpec.ofChange storeDurableWrong)

/-- 'palletlaw04.StoreBlocks': WHATEVER THE INPUT: true; the input reads as it did. -/
def storeBlocksSpec : ChangeSpec := { name := "storeBlocks", fn := fun _ => fun
  | [d] => { results := [.lit (.bool true)], args := [d] }
  | _ => none }
def storeBlocksRow : OpenClaim := { program := "ytmjpomkofgfbbaa", sum := "c5a3832ed44ac06b9c2e6e062dca117ac6b0804b14d66e891acfeb775b93e7b7", func := "pallet/palletlaw04.StoreBlocks", spec := "storeBlocks", apart := false }
def StoreBlocksSaid : Prop := storeBlocksRow.holds Try.pinned (OpenSpec.ofChange storeBlocksSpec)

/-- ITS FALSE NEIGHBOUR: 'it returns false'. Refute it at one input. -/
def storeBlocksWrong : ChangeSpec := { name := "storeBlocks", fn := fun _ => fun
  | [d] => { results := [.lit (.bool false)], args := [d] }
  | _ => none }
def StoreBlocksWrongFalsely : Prop := storeBlocksRow.holds Try.pinned (OpenSpec.ofChange storeBlocksWrong)

/-- 'palletlaw04.StoreRefuses': WHATEVER THE INPUT: true; the input reads as it did. -/
def storeRefusesSpec : ChangeSpec := { name := "storeRefuses", fn := fun _ => fun
  | [d1, d2, d3] => { results := [.lit (.bool true)], args := [d1, d2, d3] }
  | _ => none }
def storeRefusesRow : OpenClaim := { program := "ytmjpomkofgfbbaa", sum := "c5a3832ed44ac06b9c2e6e062dca117ac6b0804b14d66e891acfeb775b93e7b7", func := "pallet/palletlaw04.StoreRefuses", spec := "storeRefuses", apart := false }
def StoreRefusesSaid : Prop := storeRefusesRow.holds Try.pinned (OpenSpec.ofChange storeRefusesSpec)

/-- ITS FALSE NEIGHBOUR: 'it returns false'. Refute it at one input. -/
def storeRefusesWrong : ChangeSpec := { name := "storeRefuses", fn := fun _ => fun
  | [d1, d2, d3] => { results := [.lit (.bool false)], args := [d1, d2, d3] }
  | _ => none }
def StoreRefusesWrongFalsely : Prop := storeRefusesRow.holds Try.pinned (OpenSpec.ofChange storeRefusesWrong)

/-- 'palletlaw04.StoreSplits': WHATEVER THE INPUT: true; the input reads as it did. -/
def storeSplitsSpec : ChangeSpec := { name := "storeSplits", fn := fun _ => fun
  | [d1, d2, d3] => { results := [.lit (.bool true)], args := [d1, d2, d3] }
  | _ => none }
def storeSplitsRow : OpenClaim := { program := "ytmjpomkofgfbbaa", sum := "c5a3832ed44ac06b9c2e6e062dca117ac6b0804b14d66e891acfeb775b93e7b7", func := "pallet/palletlaw04.StoreSplits", spec := "storeSplits", apart := false }
def StoreSplitsSaid : Prop := storeSplitsRow.holds Try.pinned (OpenSpec.ofChange storeSplitsSpec)

/-- ITS FALSE NEIGHBOUR: 'it returns false'. Refute it at one input. -/
def storeSplitsWrong : ChangeSpec := { name := "storeSplits", fn := fun _ => fun
  | [d1, d2, d3] => { results := [.lit (.bool false)], args := [d1, d2, d3] }
  | _ => none }
def StoreSplitsWrongFalsely : Prop := storeSplitsRow.holds Try.pinned (OpenSpec.ofChange storeSplitsWrong)

/-- 'palletlaw04.StoreCaches': WHATEVER THE INPUT: true; the input reads as it did. -/
def storeCachesSpec : ChangeSpec := { name := "storeCaches", fn := fun _ => fun
  | [d1, d2, d3] => { results := [.lit (.bool true)], args := [d1, d2, d3] }
  | _ => none }
def storeCachesRow : OpenClaim := { program := "ytmjpomkofgfbbaa", sum := "c5a3832ed44ac06b9c2e6e062dca117ac6b0804b14d66e891acfeb775b93e7b7", func := "pallet/palletlaw04.StoreCaches", spec := "storeCaches", apart := false }
def StoreCachesSaid : Prop := storeCachesRow.holds Try.pinned (OpenSpec.ofChange storeCachesSpec)

/-- ITS FALSE NEIGHBOUR: 'it returns false'. Refute it at one input. -/
def storeCachesWrong : ChangeSpec := { name := "storeCaches", fn := fun _ => fun
  | [d1, d2, d3] => { results := [.lit (.bool false)], args := [d1, d2, d3] }
  | _ => none }
def StoreCachesWrongFalsely : Prop := storeCachesRow.holds Try.pinned (OpenSpec.ofChange storeCachesWrong)

/- THE SECOND FORM. 'bulk': how many values and letters a reading holds, each counted each time it is reached (what is shared counts as often as it is met; a slice's spare places count too). A statement '..UptoSaid' is the law's where the arguments, and the package variables that the reading takes, are together of bulk at most 1048576: NARROWER than '..Said'. Prove '..Said' where nothing that the law and all that it calls make is longer than what came in: it says more and counts as full. Else prove '..UptoSaid'. A law counts once. -/
mutual
def uptoBulk {H : Type} : DataW H → Nat
  | .lit (.string bytes) => bytes.length + 1
  | .lit _ => 1
  | .nil => 1
  | .ptr d => uptoBulk d + 1
  | .slice elems spare => uptoBulkAll elems + uptoBulkAll spare + 1
  | .agg parts => uptoBulkAll parts + 1
  | .iface _ d => uptoBulk d + 1
  | .map entries => uptoBulkEntries entries + 1
  | .held _ => 1
def uptoBulkAll {H : Type} : List (DataW H) → Nat
  | [] => 0
  | d :: r => uptoBulk d + uptoBulkAll r
def uptoBulkEntries {H : Type} : List (Lit × DataW H) → Nat
  | [] => 0
  | x :: r => uptoBulkEntry x + uptoBulkEntries r
def uptoBulkEntry {H : Type} : Lit × DataW H → Nat
  | (.string bytes, d) => bytes.length + uptoBulk d + 1
  | (_, d) => uptoBulk d + 1
 end
def uptoSmall : (H : Type) → List (DataW H) → Bool := fun _ ds => decide (uptoBulkAll ds ≤ 1048576)
def OpenSpec.upto (s : _root_.Go.ChangeSpec) : _root_.Go.OpenSpec := { _root_.Go.OpenSpec.ofChange s with cond := some uptoSmall }

/-- 'palletlaw04.StorePlays', WHERE WHAT IT READS IS OF BULK AT MOST 1048576: true; the input reads as it did. -/
def storePlaysUptoRow : OpenClaim := { program := "ytmjpomkofgfbbaa", sum := "c5a3832ed44ac06b9c2e6e062dca117ac6b0804b14d66e891acfeb775b93e7b7", func := "pallet/palletlaw04.StorePlays", spec := "storePlays", apart := false, narrowed := true }
def StorePlaysUptoSaid : Prop := storePlaysUptoRow.holds Try.pinned (OpenSpec.upto storePlaysSpec)

/-- 'palletlaw04.StoreDurable', WHERE WHAT IT READS IS OF BULK AT MOST 1048576: true; the input reads as it did. -/
def storeDurableUptoRow : OpenClaim := { program := "ytmjpomkofgfbbaa", sum := "c5a3832ed44ac06b9c2e6e062dca117ac6b0804b14d66e891acfeb775b93e7b7", func := "pallet/palletlaw04.StoreDurable", spec := "storeDurable", apart := false, narrowed := true }
def StoreDurableUptoSaid : Prop := storeDurableUptoRow.holds Try.pinned (OpenSpec.upto storeDurableSpec)

/-- 'palletlaw04.StoreBlocks', WHERE WHAT IT READS IS OF BULK AT MOST 1048576: true; the input reads as it did. -/
def storeBlocksUptoRow : OpenClaim := { program := "ytmjpomkofgfbbaa", sum := "c5a3832ed44ac06b9c2e6e062dca117ac6b0804b14d66e891acfeb775b93e7b7", func := "pallet/palletlaw04.StoreBlocks", spec := "storeBlocks", apart := false, narrowed := true }
def StoreBlocksUptoSaid : Prop := storeBlocksUptoRow.holds Try.pinned (OpenSpec.upto storeBlocksSpec)

/-- 'palletlaw04.StoreRefuses', WHERE WHAT IT READS IS OF BULK AT MOST 1048576: true; the input reads as it did. -/
def storeRefusesUptoRow : OpenClaim := { program := "ytmjpomkofgfbbaa", sum := "c5a3832ed44ac06b9c2e6e062dca117ac6b0804b14d66e891acfeb775b93e7b7", func := "pallet/palletlaw04.StoreRefuses", spec := "storeRefuses", apart := false, narrowed := true }
def StoreRefusesUptoSaid : Prop := storeRefusesUptoRow.holds Try.pinned (OpenSpec.upto storeRefusesSpec)

/-- 'palletlaw04.StoreSplits', WHERE WHAT IT READS IS OF BULK AT MOST 1048576: true; the input reads as it did. -/
def storeSplitsUptoRow : OpenClaim := { program := "ytmjpomkofgfbbaa", sum := "c5a3832ed44ac06b9c2e6e062dca117ac6b0804b14d66e891acfeb775b93e7b7", func := "pallet/palletlaw04.StoreSplits", spec := "storeSplits", apart := false, narrowed := true }
def StoreSplitsUptoSaid : Prop := storeSplitsUptoRow.holds Try.pinned (OpenSpec.upto storeSplitsSpec)

/-- 'palletlaw04.StoreCaches', WHERE WHAT IT READS IS OF BULK AT MOST 1048576: true; the input reads as it did. -/
def storeCachesUptoRow : OpenClaim := { program := "ytmjpomkofgfbbaa", sum := "c5a3832ed44ac06b9c2e6e062dca117ac6b0804b14d66e891acfeb775b93e7b7", func := "pallet/palletlaw04.StoreCaches", spec := "storeCaches", apart := false, narrowed := true }
def StoreCachesUptoSaid : Prop := storeCachesUptoRow.holds Try.pinned (OpenSpec.upto storeCachesSpec)

end Rows
end Go.Proofs.Ytmjpomkofgfbbaa
