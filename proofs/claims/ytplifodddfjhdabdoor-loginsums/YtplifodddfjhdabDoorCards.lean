/-
  DERIVED. GIVEN WITH THE SEED: THE CARDS: each row of YtplifodddfjhdabDoorRows.lean that lists a variable, with what it lists TIED to the program's text (the seventh form; the later family's looks); each row that meets fmt, with fmt's text TOLD by the authors' own Lean function (tested against real Go, not proved from fmt's source: count such statements apart). THE CARD IS WHAT COUNTS. Prove the row's statement (the work); the ties are given (YtplifodddfjhdabDoorTie.lean); close each card by the builder's one call (the guide's Derived/Test/ToyasCard.lean, 'card_holds'). Laid BY PROGRAM, IN A SANDBOX (cutbox-door.mjs). By AI agents, Wed Nov 11 2026. No macro, syntax, notation, axiom, sorry.
-/
import Derived.Test.YtplifodddfjhdabDoorRows
import GoSem.ClaimSeven
namespace Go.Proofs.YtplifodddfjhdabDoor
namespace Rows

/-- THE TIED CARD OF 'palletlaw20.LoginSums'. -/
def loginSumsCard : Claim7 := { stood := { row := loginSumsRow, standIns := [], harness := (true, "18ff6d6688ef8d77ec26b17e1c61c879ca2c947fd7208d65e09e613381a38a1a"), looks := true }, kinds := [], alts := [], laidByText := true, laidKinds := [.data, .data, .data, .sentinel, .sentinel, .data, .data], laidTests := true, laidLooks := .later }
def LoginSumsCardSaid : Prop := Claim7.holds Tryd.pinned (.plain (OpenSpec.ofChange loginSumsSpec)) loginSumsCard

/-- THE SECOND FORM's CARD OF 'palletlaw20.LoginSums'. -/
def loginSumsUptoCard : Claim7 := { stood := { row := loginSumsUptoRow, standIns := [], harness := (true, "18ff6d6688ef8d77ec26b17e1c61c879ca2c947fd7208d65e09e613381a38a1a"), looks := true }, kinds := [], alts := [], laidByText := true, laidKinds := [.data, .data, .data, .sentinel, .sentinel, .data, .data], laidTests := true, laidLooks := .later }
def LoginSumsUptoCardSaid : Prop := Claim7.holds Tryd.pinned (.plain (OpenSpec.upto loginSumsSpec)) loginSumsUptoCard
end Rows
end Go.Proofs.YtplifodddfjhdabDoor
