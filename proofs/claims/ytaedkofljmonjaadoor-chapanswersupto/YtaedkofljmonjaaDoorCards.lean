/-
  DERIVED. GIVEN WITH THE SEED: THE CARDS: each row of YtaedkofljmonjaaDoorRows.lean that lists a variable, with what it lists TIED to the program's text (the seventh form; the later family's looks); each row that meets fmt, with fmt's text TOLD by the authors' own Lean function (tested against real Go, not proved from fmt's source: count such statements apart). THE CARD IS WHAT COUNTS. Prove the row's statement (the work); the ties are given (YtaedkofljmonjaaDoorTie.lean); close each card by the builder's one call (the guide's Derived/Test/ToyasCard.lean, 'card_holds'). Laid BY PROGRAM, IN A SANDBOX (cutbox-door.mjs). By AI agents, Wed Nov 11 2026. No macro, syntax, notation, axiom, sorry.
-/
import Derived.Test.YtaedkofljmonjaaDoorRows
import GoSem.ClaimSeven
namespace Go.Proofs.YtaedkofljmonjaaDoor
namespace Rows

/-- THE TIED CARD OF 'palletlaw19.ChapSums'. -/
def chapSumsCard : Claim7 := { stood := { row := chapSumsRow, standIns := [], harness := (true, "2b9c6e77382df189c3e84b627b87edb7ed1d72fa5d5a163b41c892fb6a666466"), looks := false }, kinds := [], alts := [], laidByText := true, laidKinds := [.data, .data], laidTests := true, laidLooks := .later }
def ChapSumsCardSaid : Prop := Claim7.holds Tryd.pinned (.plain (OpenSpec.ofChange chapSumsSpec)) chapSumsCard

/-- THE TIED CARD OF 'palletlaw19.ChapTexts'. -/
def chapTextsCard : Claim7 := { stood := { row := chapTextsRow, standIns := [], harness := (true, "2b9c6e77382df189c3e84b627b87edb7ed1d72fa5d5a163b41c892fb6a666466"), looks := false }, kinds := [], alts := [], laidByText := true, laidKinds := [.data, .data], laidTests := true, laidLooks := .later }
def ChapTextsCardSaid : Prop := Claim7.holds Tryd.pinned (.plain (OpenSpec.ofChange chapTextsSpec)) chapTextsCard

/-- THE TIED CARD OF 'palletlaw19.ChapAnswers'. -/
def chapAnswersCard : Claim7 := { stood := { row := chapAnswersRow, standIns := [], harness := (true, "2b9c6e77382df189c3e84b627b87edb7ed1d72fa5d5a163b41c892fb6a666466"), looks := false }, kinds := [], alts := [], laidByText := true, laidKinds := [.data, .data], laidTests := true, laidLooks := .later }
def ChapAnswersCardSaid : Prop := Claim7.holds Tryd.pinned (.plain (OpenSpec.ofChange chapAnswersSpec)) chapAnswersCard

/-- THE TIED CARD OF 'palletlaw19.ChapMillion'. -/
def chapMillionCard : Claim7 := { stood := { row := chapMillionRow, standIns := [], harness := (true, "2b9c6e77382df189c3e84b627b87edb7ed1d72fa5d5a163b41c892fb6a666466"), looks := false }, kinds := [], alts := [], laidByText := true, laidKinds := [.data, .data], laidTests := true, laidLooks := .later }
def ChapMillionCardSaid : Prop := Claim7.holds Tryd.pinned (.plain (OpenSpec.ofChange chapMillionSpec)) chapMillionCard

/-- THE SECOND FORM's CARD OF 'palletlaw19.ChapSums'. -/
def chapSumsUptoCard : Claim7 := { stood := { row := chapSumsUptoRow, standIns := [], harness := (true, "2b9c6e77382df189c3e84b627b87edb7ed1d72fa5d5a163b41c892fb6a666466"), looks := false }, kinds := [], alts := [], laidByText := true, laidKinds := [.data, .data], laidTests := true, laidLooks := .later }
def ChapSumsUptoCardSaid : Prop := Claim7.holds Tryd.pinned (.plain (OpenSpec.upto chapSumsSpec)) chapSumsUptoCard

/-- THE SECOND FORM's CARD OF 'palletlaw19.ChapTexts'. -/
def chapTextsUptoCard : Claim7 := { stood := { row := chapTextsUptoRow, standIns := [], harness := (true, "2b9c6e77382df189c3e84b627b87edb7ed1d72fa5d5a163b41c892fb6a666466"), looks := false }, kinds := [], alts := [], laidByText := true, laidKinds := [.data, .data], laidTests := true, laidLooks := .later }
def ChapTextsUptoCardSaid : Prop := Claim7.holds Tryd.pinned (.plain (OpenSpec.upto chapTextsSpec)) chapTextsUptoCard

/-- THE SECOND FORM's CARD OF 'palletlaw19.ChapAnswers'. -/
def chapAnswersUptoCard : Claim7 := { stood := { row := chapAnswersUptoRow, standIns := [], harness := (true, "2b9c6e77382df189c3e84b627b87edb7ed1d72fa5d5a163b41c892fb6a666466"), looks := false }, kinds := [], alts := [], laidByText := true, laidKinds := [.data, .data], laidTests := true, laidLooks := .later }
def ChapAnswersUptoCardSaid : Prop := Claim7.holds Tryd.pinned (.plain (OpenSpec.upto chapAnswersSpec)) chapAnswersUptoCard

/-- THE SECOND FORM's CARD OF 'palletlaw19.ChapMillion'. -/
def chapMillionUptoCard : Claim7 := { stood := { row := chapMillionUptoRow, standIns := [], harness := (true, "2b9c6e77382df189c3e84b627b87edb7ed1d72fa5d5a163b41c892fb6a666466"), looks := false }, kinds := [], alts := [], laidByText := true, laidKinds := [.data, .data], laidTests := true, laidLooks := .later }
def ChapMillionUptoCardSaid : Prop := Claim7.holds Tryd.pinned (.plain (OpenSpec.upto chapMillionSpec)) chapMillionUptoCard
end Rows
end Go.Proofs.YtaedkofljmonjaaDoor
