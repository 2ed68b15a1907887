/-
  Spoils, whole.
-/
import Derived.Test.YtnebcbfjlkhimaaDoorJSmtz
import Derived.Test.YtnebcbfjlkhimaaDoorJSmtn
import Derived.Test.YtnebcbfjlkhimaaDoorJSmfz
import Derived.Test.YtnebcbfjlkhimaaDoorJSmfn
import Derived.Test.YtnebcbfjlkhimaaDoorJOpn
namespace Go.Proofs.YtnebcbfjlkhimaaDoor
open Go.RowKit
set_option linter.unusedVariables false
set_option linter.unusedSimpArgs false
theorem spl_any (ua sa : Option Addr) (un uc sn sc : Nat) (us : List ByteArray) (ss : List Sg) (w : World) (h1 : Ro 1 w (.slice ua un uc) (us.map sZ)) (h2 : Ro 5 w (.slice sa sn sc) (ss.map Sg.vals)) (hw : ∀ g ∈ ss, SegW g) (at' y : Nat) (hat : at' < 65536) (hy : y < 256) :
    Calls Tryd.prog 5 #[.agg (lsV (.slice ua un uc) (.slice sa sn sc)), .int .u16 at', .int .u8 y] w fun e w' => e = .returned (.bool true) ∧ Below w.heap.size w w' := by
  by_cases hy0 : y = 0
  · subst hy0
    exact spl_zero ua sa un uc sn sc us ss w h1 h2 at'
  by_cases hl : 8 < un ∨ 8 < sn
  · exact spl_long ua sa un uc sn sc us ss w h1 h2 at' y hy0 hl
  by_cases hf : (∀ S ∈ us, Ser (nums S)) ∧ ∀ g ∈ ss, Seg un g
  case neg => exact spl_form ua sa un uc sn sc us ss w h1 h2 at' y hy0 (by omega) (by omega) hf
  case pos =>
  obtain ⟨E, hE⟩ : ∃ E, E = (bytesX (us.map nums) ss).length := ⟨_, rfl⟩
  obtain ⟨i, hi⟩ : ∃ i, i = at' % E := ⟨_, rfl⟩
  obtain ⟨z, hz⟩ : ∃ z, z = bits .xor .u8 ((bytesX (us.map nums) ss).getD i 0) y := ⟨_, rfl⟩
  cases hok : (parseX ((bytesX (us.map nums) ss).set i z)).ok with
  | true =>
    by_cases hi0 : i = 0
    · exact spl_mtz ua sa un uc sn sc us ss w h1 h2 at' y E i (by omega) (by omega) hf.1 hf.2 hw hat hy0 hy hE hi hi0 z hz hok
    · exact spl_mtn ua sa un uc sn sc us ss w h1 h2 at' y E i (by omega) (by omega) hf.1 hf.2 hw hat hy0 hy hE hi hi0 z hz hok
  | false =>
    by_cases hi0 : i = 0
    · exact spl_mfz ua sa un uc sn sc us ss w h1 h2 at' y E i (by omega) (by omega) hf.1 hf.2 hw hat hy0 hy hE hi hi0 z hz hok
    · exact spl_mfn ua sa un uc sn sc us ss w h1 h2 at' y E i (by omega) (by omega) hf.1 hf.2 hw hat hy0 hy hE hi hi0 z hz hok
end Go.Proofs.YtnebcbfjlkhimaaDoor
