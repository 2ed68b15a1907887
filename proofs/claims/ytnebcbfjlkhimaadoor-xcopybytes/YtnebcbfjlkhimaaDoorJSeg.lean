/-
  A piece, read.
-/
import Derived.Test.YtnebcbfjlkhimaaDoorJSga
import Derived.Test.YtnebcbfjlkhimaaDoorJSgb
import Derived.Test.YtnebcbfjlkhimaaDoorJSgc
import Derived.Test.YtnebcbfjlkhimaaDoorJSgd
import Derived.Test.YtnebcbfjlkhimaaDoorJSge
import Derived.Test.YtnebcbfjlkhimaaDoorJSgf
namespace Go.Proofs.YtnebcbfjlkhimaaDoor
open Go.RowKit
set_option linter.unusedVariables false
set_option linter.unusedSimpArgs false
theorem segr_any (b off len cap at_ : Nat) (zs : List Int) (ua : Option Addr) (n uc : Nat) (s : Value) (w : World) (hl : len ≤ 140737488351232) (hcap : len ≤ cap) (hz : zs.length = len) (hb_ : Bytes zs) (hc : Cs w b off len zs) (hat : at_ + 28 ≤ len) (hn : n ≤ maxLen) :
    Calls Tryd.prog 16 #[.agg (lsV (.slice ua n uc) s), .slice (some ⟨b, off, none⟩) len cap, .int .i64 at_] w fun e w' => ((∃ f : Nat, segF zs n at_ = some f ∧ e = .returned (.tuple #[.agg zeroG, .agg (paS (f : Int)).vals, .bool false])) ∨ (segF zs n at_ = none ∧ e = .returned (.tuple #[.agg (sg zs at_).vals, .agg noS.vals, .bool true]))) ∧ Below w.heap.size w w' := by
  by_cases h0 : num zs at_ 4 ≠ 33554456
  · refine (seg_bad0 b off len cap at_ zs ua n uc s w hl hcap hz hb_ hc hat hn h0).mono ?_
    rintro e w' ⟨rfl, hb⟩
    exact ⟨.inl ⟨_, by unfold segF; rw [if_pos h0], rfl⟩, hb⟩
  by_cases h1 : num zs (at_ + 8) 2 ≠ 0
  · refine (seg_bad8 b off len cap at_ zs ua n uc s w hl hcap hz hb_ hc hat hn h0 h1).mono ?_
    rintro e w' ⟨rfl, hb⟩
    exact ⟨.inl ⟨_, by unfold segF; rw [if_neg h0, if_pos h1], rfl⟩, hb⟩
  by_cases h2 : ¬ num zs (at_ + 4) 2 < n
  · refine (seg_bad4 b off len cap at_ zs ua n uc s w hl hcap hz hb_ hc hat hn h0 h1 h2).mono ?_
    rintro e w' ⟨rfl, hb⟩
    exact ⟨.inl ⟨_, by unfold segF; rw [if_neg h0, if_neg h1, if_pos h2], rfl⟩, hb⟩
  by_cases h3 : ¬ num zs (at_ + 6) 2 < n
  · refine (seg_bad6 b off len cap at_ zs ua n uc s w hl hcap hz hb_ hc hat hn h0 h1 h2 h3).mono ?_
    rintro e w' ⟨rfl, hb⟩
    exact ⟨.inl ⟨_, by unfold segF; rw [if_neg h0, if_neg h1, if_neg h2, if_pos h3], rfl⟩, hb⟩
  by_cases h4 : 256 < num zs (at_ + 10) 2
  · refine (seg_bad10 b off len cap at_ zs ua n uc s w hl hcap hz hb_ hc hat hn h0 h1 h2 h3 h4).mono ?_
    rintro e w' ⟨rfl, hb⟩
    exact ⟨.inl ⟨_, by unfold segF; rw [if_neg h0, if_neg h1, if_neg h2, if_neg h3, if_pos h4], rfl⟩, hb⟩
  refine (seg_ok b off len cap at_ zs ua n uc s w hl hcap hz hb_ hc hat hn h0 h1 h2 h3 h4).mono ?_
  rintro e w' ⟨rfl, hb⟩
  exact ⟨.inr ⟨by unfold segF; rw [if_neg h0, if_neg h1, if_neg h2, if_neg h3, if_neg h4], rfl⟩, hb⟩
end Go.Proofs.YtnebcbfjlkhimaaDoor
