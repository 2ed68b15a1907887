/-
  DERIVED. GIVEN WITH THE SEED: THE CARDS: each row of YtplifodddfjhdaaGreatDoorRows.lean that lists a variable, with what it lists TIED to the program's text (the seventh form; the later family's looks); each row that meets fmt, with fmt's text TOLD by the authors' own Lean function (tested against real Go, not proved from fmt's source: count such statements apart). THE CARD IS WHAT COUNTS. Prove the row's statement (the work); the ties are given (YtplifodddfjhdaaGreatDoorTie.lean); close each card by the builder's one call (the guide's Derived/Test/ToyasCard.lean, 'card_holds'). Laid BY PROGRAM, IN A SANDBOX (cutbox-door.mjs). By AI agents, Wed Nov 11 2026. No macro, syntax, notation, axiom, sorry.
-/
import Derived.Test.YtplifodddfjhdaaGreatDoorRows
import GoSem.ClaimSeven
namespace Go.Proofs.YtplifodddfjhdaaGreatDoor
namespace Rows

/-- THE TIED CARD OF 'palletlaw20.LoginPlays'. -/
def loginPlaysCard : Claim7 := { stood := { row := loginPlaysRow, standIns := [], harness := (true, "eea5cdcab9c9ad2298003d577a6ca0d19abe038fa8428b1b4b4f2d468e6bad2f"), looks := true }, kinds := [], alts := [], laidByText := true, laidKinds := [.data, .data, .data, .sentinel, .sentinel, .data, .data], laidTests := true, laidLooks := .later }
def LoginPlaysCardSaid : Prop := Claim7.holds Tryz.pinned (.plain (OpenSpec.ofChange loginPlaysSpec)) loginPlaysCard

/-- THE TIED CARD OF 'palletlaw20.LoginGuards'. -/
def loginGuardsCard : Claim7 := { stood := { row := loginGuardsRow, standIns := [], harness := (true, "eea5cdcab9c9ad2298003d577a6ca0d19abe038fa8428b1b4b4f2d468e6bad2f"), looks := true }, kinds := [], alts := [], laidByText := true, laidKinds := [.data, .data, .data, .sentinel, .sentinel, .data, .data], laidTests := true, laidLooks := .later }
def LoginGuardsCardSaid : Prop := Claim7.holds Tryz.pinned (.plain (OpenSpec.ofChange loginGuardsSpec)) loginGuardsCard

/-- THE TIED CARD OF 'palletlaw20.LoginProves'. -/
def loginProvesCard : Claim7 := { stood := { row := loginProvesRow, standIns := [], harness := (true, "eea5cdcab9c9ad2298003d577a6ca0d19abe038fa8428b1b4b4f2d468e6bad2f"), looks := true }, kinds := [], alts := [], laidByText := true, laidKinds := [.data, .data, .data, .sentinel, .sentinel, .data, .data], laidTests := true, laidLooks := .later }
def LoginProvesCardSaid : Prop := Claim7.holds Tryz.pinned (.plain (OpenSpec.ofChange loginProvesSpec)) loginProvesCard

/-- THE SECOND FORM's CARD OF 'palletlaw20.LoginPlays'. -/
def loginPlaysUptoCard : Claim7 := { stood := { row := loginPlaysUptoRow, standIns := [], harness := (true, "eea5cdcab9c9ad2298003d577a6ca0d19abe038fa8428b1b4b4f2d468e6bad2f"), looks := true }, kinds := [], alts := [], laidByText := true, laidKinds := [.data, .data, .data, .sentinel, .sentinel, .data, .data], laidTests := true, laidLooks := .later }
def LoginPlaysUptoCardSaid : Prop := Claim7.holds Tryz.pinned (.plain (OpenSpec.upto loginPlaysSpec)) loginPlaysUptoCard

/-- THE SECOND FORM's CARD OF 'palletlaw20.LoginGuards'. -/
def loginGuardsUptoCard : Claim7 := { stood := { row := loginGuardsUptoRow, standIns := [], harness := (true, "eea5cdcab9c9ad2298003d577a6ca0d19abe038fa8428b1b4b4f2d468e6bad2f"), looks := true }, kinds := [], alts := [], laidByText := true, laidKinds := [.data, .data, .data, .sentinel, .sentinel, .data, .data], laidTests := true, laidLooks := .later }
def LoginGuardsUptoCardSaid : Prop := Claim7.holds Tryz.pinned (.plain (OpenSpec.upto loginGuardsSpec)) loginGuardsUptoCard

/-- THE SECOND FORM's CARD OF 'palletlaw20.LoginProves'. -/
def loginProvesUptoCard : Claim7 := { stood := { row := loginProvesUptoRow, standIns := [], harness := (true, "eea5cdcab9c9ad2298003d577a6ca0d19abe038fa8428b1b4b4f2d468e6bad2f"), looks := true }, kinds := [], alts := [], laidByText := true, laidKinds := [.data, .data, .data, .sentinel, .sentinel, .data, .data], laidTests := true, laidLooks := .later }
def LoginProvesUptoCardSaid : Prop := Claim7.holds Tryz.pinned (.plain (OpenSpec.upto loginProvesSpec)) loginProvesUptoCard
end Rows
end Go.Proofs.YtplifodddfjhdaaGreatDoor
