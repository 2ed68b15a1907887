/-
  sess: SessTargets, all ways.
-/
import Derived.Test.YtdplndlmdhpfaabETgWalld
import Derived.Test.YtdplndlmdhpfaabETgWalln
import Derived.Test.YtdplndlmdhpfaabETgWrejd
import Derived.Test.YtdplndlmdhpfaabETgWrejn
namespace Go.Proofs.Ytdplndlmdhpfaab
open Go.RowKit
set_option linter.unusedVariables false
set_option linter.unusedSimpArgs false

theorem targets_any (a : Option Addr) (n c : Nat) (os : List ByteArray) (d : Bool) (ask : ByteArray) (w : World) (hst : StAt w (.slice a n c) os) (hca : a = none → c = 0) (hcm : c ≤ maxLen) (hsum : (os.map ByteArray.size).sum + n + ask.size ≤ 1048576) :
    Calls Try.prog 3 #[.slice a n c, .bool d, .string ask] w fun e w' => e = .returned (.bool true) ∧ Below w.heap.size w w' := by
  by_cases hE : wrE [(stB, ask)] = 0
  · cases d with
    | true =>
      by_cases he : ask = ⟨#[65, 108, 108]⟩
      · subst he
        exact tg_all_d a n c os w hst hca hcm hsum
      · exact tg_rej_d ask a n c os w hst hca hcm hsum hE he
    | false =>
      by_cases he : ask = ⟨#[]⟩
      · subst he
        exact tg_all_n a n c os w hst hca hcm hsum
      · exact tg_rej_n ask a n c os w hst hca hcm hsum hE he
  · exact tg_bad d ask a n c os w hst hca hsum hE
end Go.Proofs.Ytdplndlmdhpfaab
