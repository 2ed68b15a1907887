/-
  Bytes as strings.
-/
import Derived.Test.YtcgojpnjaloofaaCRowB
import Derived.Laws.BytesArg
namespace Go.Proofs.Ytcgojpnjaloofaa
open Go.RowKit
set_option linter.unusedVariables false

theorem conv_any (w : World) (a : Option Addr) (len cap : Nat) (Z : List Int) (hz : Z.length = len) (hp : B.RowAt w a len Z) :
    (convert 22 9 (.slice a len cap)).run Try.prog w = .ok (.string (strOfNums Z)) w := by
  by_cases h0 : len = 0
  · subst h0
    have hz0 : Z = [] := List.eq_nil_of_length_eq_zero hz
    subst hz0
    cases a with
    | none => exact run_convert_bytes_nil w 22 5 Try.underlying22 Try.underlying5 0 cap 9 Try.underlying9
    | some x =>
      rw [run_convert_bytes_string w 22 9 5 _ 0 cap Try.underlying22 Try.underlying5 Try.underlying9, run_bytesToString w x 0 cap [] ?_]
      · rfl
      · exact run_loadCells_list (P := Try.prog) w x [] (fun j v hj => by simp at hj)
  · rcases hp with h | ⟨b, off, rfl, hc⟩
    · exact absurd h h0
    · exact run_convert_bytes_arg w 22 5 Try.underlying22 Try.underlying5 b off len cap Z hz hc 9 Try.underlying9

theorem rd_row {w : World} {a : Option Addr} {len cap : Nat} {zs : List Int} (h : RdAt w (.slice a len cap) zs) : zs.length = len ∧ B.RowAt w a len zs := by
  obtain ⟨a', c', hv, _, _, h'⟩ := id h
  simp only [Value.slice.injEq] at hv
  obtain ⟨rfl, hl, _⟩ := hv
  refine ⟨hl.symm, ?_⟩
  rcases h' with h' | ⟨b, off, rfl, _⟩
  · exact .inl (by omega)
  · exact .inr ⟨b, off, rfl, (rd_cells h).2⟩

theorem conv_rd {w : World} {a : Option Addr} {len cap : Nat} {zs : List Int} (h : RdAt w (.slice a len cap) zs) : (convert 22 9 (.slice a len cap)).run Try.prog w = .ok (.string (strOfNums zs)) w :=
  conv_any w a len cap zs (rd_row h).1 (rd_row h).2
end Go.Proofs.Ytcgojpnjaloofaa
