/-
  The document's Sense of all pages.
-/
import Derived.Test.YtdojhgapdocngaaMRSD1
import Derived.Test.YtdojhgapdocngaaMRSD2
import Derived.Test.YtdojhgapdocngaaMRSD3
import Derived.Test.YtdojhgapdocngaaMRSD0
namespace Go.Proofs.Ytdojhgapdocngaa
open Go.RowKit
set_option linter.unusedVariables false
set_option linter.unusedSimpArgs false
theorem rsense_63 (B : Nat) (n s : Vs) (c : Cm) (w : World) (hP : RPg w B n s) (hpg : c.pg = 63) :
    Calls Try.prog 15 #[.pointer (some ⟨B, 0, none⟩), .agg c.vals] w fun e w' => ∃ v, e = .returned (.tuple #[v, .agg noS.vals, .bool true]) ∧ RdAt w' v (senL c.lg c.pg c.ct n s) ∧ Below w.heap.size w w' := by
  by_cases h1 : c.ct = 1
  · exact rs63_1 B n s c w hP hpg h1
  · by_cases h2 : c.ct = 2
    · exact rs63_2 B n s c w hP hpg h2
    · by_cases h3 : c.ct = 3
      · exact rs63_3 B n s c w hP hpg h3
      · exact rs63_0 B n s c w hP hpg ⟨h1, h2, h3⟩
end Go.Proofs.Ytdojhgapdocngaa
