/-
  The contract of Decode.
-/
import Derived.Test.YtglfkpdbgddpdaaSEqual
namespace Go.Proofs.Ytglfkpdbgddpdaa
open Go.RowKit
set_option linter.unusedVariables false
set_option linter.unusedSimpArgs false

/-- A block of eight cells, each of which may be written. -/
structure Blk (w : World) (b : Nat) (s : Sn) : Prop where
  box : Box w b s
  fz : ∀ i, w.frozen? ⟨b, i, none⟩ = false
  lt : b < w.heap.size

theorem Blk.below {w w' : World} {b n : Nat} {s : Sn} (h : Blk w b s) (hb : Below n w w') (hn : b < n) : Blk w' b s := ⟨h.box.below hb hn, fun i => (hb.frozen (p := ⟨b, i, none⟩) hn).trans (h.fz i), Nat.lt_of_lt_of_le h.lt hb.size⟩

theorem blk_alloc (w : World) (s : Sn) : Blk (w.alloc (.cells s.vals 25)) w.heap.size s := ⟨box_of w s 25, fun i => by go_simp, by simp⟩

end Go.Proofs.Ytglfkpdbgddpdaa
