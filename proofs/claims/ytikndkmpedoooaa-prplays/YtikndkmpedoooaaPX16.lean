/-
  The document's Load of what was saved, in one.
-/
import Derived.Test.YtikndkmpedoooaaPX15A
import Derived.Test.YtikndkmpedoooaaPX15B
import Derived.Test.YtikndkmpedoooaaPX15C
namespace Go.Proofs.Ytikndkmpedoooaa
open Go.RowKit
set_option linter.unusedVariables false

theorem rload_back (t : Tb) (hg : t.good) (g n c : Nat) (w : World) (hn : t.save.length = n) (hR : B.RowAt w (some ⟨g, 0, none⟩) n t.save) (hgl : g < w.heap.size) (hc : n ≤ c ∧ c ≤ maxLen) :
    Calls Try.prog 13 #[.slice (some ⟨g, 0, none⟩) n c] w fun e w' => ∃ C y, e = .returned (.tuple #[.pointer (some ⟨C, 0, none⟩), .int .i64 0]) ∧ w.heap.size ≤ C ∧ RTab w' C t.again y ∧ Below w.heap.size w w' := by
  by_cases h0 : t.again.kd = 0
  · exact rload_backA t hg ⟨h0⟩ g n c w hn hR hgl hc
  · cases h1 : isAll t.again.kd with
    | true => exact rload_backB t hg ⟨⟨h0, h1⟩⟩ g n c w hn hR hgl hc
    | false => exact rload_backC t hg ⟨⟨h0, h1⟩⟩ g n c w hn hR hgl hc
end Go.Proofs.Ytikndkmpedoooaa
