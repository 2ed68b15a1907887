/-
  What the document's told tells.
-/
import Derived.Test.YtcgojpnjaloofaaCRk
namespace Go.Proofs.Ytcgojpnjaloofaa
open Go.RowKit
set_option linter.unusedVariables false
set_option linter.unusedSimpArgs false

def toldF (u : Int × Int) : Int × Int := if 0 ≤ u.1 then u else (-1, 0)
def toldL (op : Int) (zs : List Int) (n : Nat) : Int × Int := toldF (unfitL (cmdL op zs) (zs.getD 1 0) n)
end Go.Proofs.Ytcgojpnjaloofaa
