/-
  sess: what SessNumbers' own text needs.
-/
import Derived.Test.YtdplndlmdhpfaaaENmW
import Derived.Test.YtdplndlmdhpfaaaERdi
namespace Go.Proofs.Ytdplndlmdhpfaaa
end Go.Proofs.Ytdplndlmdhpfaaa
