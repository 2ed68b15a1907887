/-
  DERIVED. GIVEN WITH THE SEED: THE CARDS: each row of YtnebcbfjlkhimaaDoorRows.lean that lists a variable, with what it lists TIED to the program's text (the seventh form; the later family's looks); each row that meets fmt, with fmt's text TOLD by the authors' own Lean function (tested against real Go, not proved from fmt's source: count such statements apart). THE CARD IS WHAT COUNTS. Prove the row's statement (the work); the ties are given (YtnebcbfjlkhimaaDoorTie.lean); close each card by the builder's one call (the guide's Derived/Test/ToyasCard.lean, 'card_holds'). Laid BY PROGRAM, IN A SANDBOX (cutbox-door.mjs). By AI agents, Wed Nov 11 2026. No macro, syntax, notation, axiom, sorry.
-/
import Derived.Test.YtnebcbfjlkhimaaDoorRows
import GoSem.ClaimSeven
namespace Go.Proofs.YtnebcbfjlkhimaaDoor
namespace Rows

/-- THE TIED CARD OF 'palletlaw15.XcopyReads'. -/
def xcopyReadsCard : Claim7 := { stood := { row := xcopyReadsRow, standIns := [], harness := (true, "91e5a6c451cff855b97c74fb60eca2ba626cdf142f825e80d1471154e41a94d7"), looks := false }, kinds := [], alts := [], laidByText := true, laidKinds := [.data, .pinned], laidTests := true, laidLooks := .later }
def XcopyReadsCardSaid : Prop := Claim7.holds Tryd.pinned (.plain (OpenSpec.ofChange xcopyReadsSpec)) xcopyReadsCard

/-- THE TIED CARD OF 'palletlaw15.XcopyBytes'. -/
def xcopyBytesCard : Claim7 := { stood := { row := xcopyBytesRow, standIns := [], harness := (true, "91e5a6c451cff855b97c74fb60eca2ba626cdf142f825e80d1471154e41a94d7"), looks := false }, kinds := [], alts := [], laidByText := true, laidKinds := [.data, .pinned], laidTests := true, laidLooks := .later }
def XcopyBytesCardSaid : Prop := Claim7.holds Tryd.pinned (.plain (OpenSpec.ofChange xcopyBytesSpec)) xcopyBytesCard

/-- THE TIED CARD OF 'palletlaw15.XcopySpoils'. -/
def xcopySpoilsCard : Claim7 := { stood := { row := xcopySpoilsRow, standIns := [], harness := (true, "91e5a6c451cff855b97c74fb60eca2ba626cdf142f825e80d1471154e41a94d7"), looks := false }, kinds := [], alts := [], laidByText := true, laidKinds := [.data, .pinned], laidTests := true, laidLooks := .later }
def XcopySpoilsCardSaid : Prop := Claim7.holds Tryd.pinned (.plain (OpenSpec.ofChange xcopySpoilsSpec)) xcopySpoilsCard

/-- THE SECOND FORM's CARD OF 'palletlaw15.XcopyReads'. -/
def xcopyReadsUptoCard : Claim7 := { stood := { row := xcopyReadsUptoRow, standIns := [], harness := (true, "91e5a6c451cff855b97c74fb60eca2ba626cdf142f825e80d1471154e41a94d7"), looks := false }, kinds := [], alts := [], laidByText := true, laidKinds := [.data, .pinned], laidTests := true, laidLooks := .later }
def XcopyReadsUptoCardSaid : Prop := Claim7.holds Tryd.pinned (.plain (OpenSpec.upto xcopyReadsSpec)) xcopyReadsUptoCard

/-- THE SECOND FORM's CARD OF 'palletlaw15.XcopyBytes'. -/
def xcopyBytesUptoCard : Claim7 := { stood := { row := xcopyBytesUptoRow, standIns := [], harness := (true, "91e5a6c451cff855b97c74fb60eca2ba626cdf142f825e80d1471154e41a94d7"), looks := false }, kinds := [], alts := [], laidByText := true, laidKinds := [.data, .pinned], laidTests := true, laidLooks := .later }
def XcopyBytesUptoCardSaid : Prop := Claim7.holds Tryd.pinned (.plain (OpenSpec.upto xcopyBytesSpec)) xcopyBytesUptoCard

/-- THE SECOND FORM's CARD OF 'palletlaw15.XcopySpoils'. -/
def xcopySpoilsUptoCard : Claim7 := { stood := { row := xcopySpoilsUptoRow, standIns := [], harness := (true, "91e5a6c451cff855b97c74fb60eca2ba626cdf142f825e80d1471154e41a94d7"), looks := false }, kinds := [], alts := [], laidByText := true, laidKinds := [.data, .pinned], laidTests := true, laidLooks := .later }
def XcopySpoilsUptoCardSaid : Prop := Claim7.holds Tryd.pinned (.plain (OpenSpec.upto xcopySpoilsSpec)) xcopySpoilsUptoCard
end Rows
end Go.Proofs.YtnebcbfjlkhimaaDoor
