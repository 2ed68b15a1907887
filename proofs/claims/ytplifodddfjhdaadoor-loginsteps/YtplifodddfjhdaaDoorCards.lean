/-
  DERIVED. GIVEN WITH THE SEED: THE CARDS: each row of YtplifodddfjhdaaDoorRows.lean that lists a variable, with what it lists TIED to the program's text (the seventh form; the later family's looks); each row that meets fmt, with fmt's text TOLD by the authors' own Lean function (tested against real Go, not proved from fmt's source: count such statements apart). THE CARD IS WHAT COUNTS. Prove the row's statement (the work); the ties are given (YtplifodddfjhdaaDoorTie.lean); close each card by the builder's one call (the guide's Derived/Test/ToyasCard.lean, 'card_holds'). Laid BY PROGRAM, IN A SANDBOX (cutbox-door.mjs). By AI agents, Wed Nov 11 2026. No macro, syntax, notation, axiom, sorry.
-/
import Derived.Test.YtplifodddfjhdaaDoorRows
import GoSem.ClaimSeven
namespace Go.Proofs.YtplifodddfjhdaaDoor
namespace Rows

/-- THE TIED CARD OF 'palletlaw20.LoginSteps'. -/
def loginStepsCard : Claim7 := { stood := { row := loginStepsRow, standIns := [], harness := (true, "d4b6144a4b6da1b540e45ede51485898a4a2fc90cc21dd8092f93d56ac23828f"), looks := true }, kinds := [], alts := [], laidByText := true, laidKinds := [.data, .data, .data, .sentinel, .sentinel, .data, .data], laidTests := true, laidLooks := .later }
def LoginStepsCardSaid : Prop := Claim7.holds Tryd.pinned (.plain (OpenSpec.ofChange loginStepsSpec)) loginStepsCard

/-- THE TIED CARD OF 'palletlaw20.LoginNil'. -/
def loginNilCard : Claim7 := { stood := { row := loginNilRow, standIns := [], harness := (true, "d4b6144a4b6da1b540e45ede51485898a4a2fc90cc21dd8092f93d56ac23828f"), looks := true }, kinds := [], alts := [], laidByText := true, laidKinds := [.data, .data, .data, .sentinel, .sentinel, .data, .data], laidTests := true, laidLooks := .later }
def LoginNilCardSaid : Prop := Claim7.holds Tryd.pinned (.plain (OpenSpec.ofChange loginNilSpec)) loginNilCard

/-- THE TIED CARD OF 'palletlaw20.LoginNames'. -/
def loginNamesCard : Claim7 := { stood := { row := loginNamesRow, standIns := [], harness := (true, "d4b6144a4b6da1b540e45ede51485898a4a2fc90cc21dd8092f93d56ac23828f"), looks := true }, kinds := [], alts := [], laidByText := true, laidKinds := [.data, .data, .data, .sentinel, .sentinel, .data, .data], laidTests := true, laidLooks := .later }
def LoginNamesCardSaid : Prop := Claim7.holds Tryd.pinned (.plain (OpenSpec.ofChange loginNamesSpec)) loginNamesCard

/-- THE SECOND FORM's CARD OF 'palletlaw20.LoginSteps'. -/
def loginStepsUptoCard : Claim7 := { stood := { row := loginStepsUptoRow, standIns := [], harness := (true, "d4b6144a4b6da1b540e45ede51485898a4a2fc90cc21dd8092f93d56ac23828f"), looks := true }, kinds := [], alts := [], laidByText := true, laidKinds := [.data, .data, .data, .sentinel, .sentinel, .data, .data], laidTests := true, laidLooks := .later }
def LoginStepsUptoCardSaid : Prop := Claim7.holds Tryd.pinned (.plain (OpenSpec.upto loginStepsSpec)) loginStepsUptoCard

/-- THE SECOND FORM's CARD OF 'palletlaw20.LoginNil'. -/
def loginNilUptoCard : Claim7 := { stood := { row := loginNilUptoRow, standIns := [], harness := (true, "d4b6144a4b6da1b540e45ede51485898a4a2fc90cc21dd8092f93d56ac23828f"), looks := true }, kinds := [], alts := [], laidByText := true, laidKinds := [.data, .data, .data, .sentinel, .sentinel, .data, .data], laidTests := true, laidLooks := .later }
def LoginNilUptoCardSaid : Prop := Claim7.holds Tryd.pinned (.plain (OpenSpec.upto loginNilSpec)) loginNilUptoCard

/-- THE SECOND FORM's CARD OF 'palletlaw20.LoginNames'. -/
def loginNamesUptoCard : Claim7 := { stood := { row := loginNamesUptoRow, standIns := [], harness := (true, "d4b6144a4b6da1b540e45ede51485898a4a2fc90cc21dd8092f93d56ac23828f"), looks := true }, kinds := [], alts := [], laidByText := true, laidKinds := [.data, .data, .data, .sentinel, .sentinel, .data, .data], laidTests := true, laidLooks := .later }
def LoginNamesUptoCardSaid : Prop := Claim7.holds Tryd.pinned (.plain (OpenSpec.upto loginNamesSpec)) loginNamesUptoCard
end Rows
end Go.Proofs.YtplifodddfjhdaaDoor
