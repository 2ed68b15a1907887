/-
  Bytes as strings; the contract of Same.
-/
import Derived.Test.YtigfoldobkigeaaBPut
import Derived.Laws.BytesArg
namespace Go.Proofs.Ytigfoldobkigeaa.B
open Go.RowKit
set_option linter.unusedVariables false

theorem conv_any (w : World) (a : Option Addr) (len cap : Nat) (Z : List Int) (hz : Z.length = len) (hp : RowAt w a len Z) :
    (convert 24 9 (.slice a len cap)).run Try.prog w = .ok (.string (strOfNums Z)) w := by
  by_cases h0 : len = 0
  · subst h0
    have hz0 : Z = [] := List.eq_nil_of_length_eq_zero hz
    subst hz0
    cases a with
    | none => exact run_convert_bytes_nil w 24 5 Try.underlying24 Try.underlying5 0 cap 9 Try.underlying9
    | some x =>
      rw [run_convert_bytes_string w 24 9 5 _ 0 cap Try.underlying24 Try.underlying5 Try.underlying9, run_bytesToString w x 0 cap [] ?_]
      · rfl
      · exact run_loadCells_list (P := Try.prog) w x [] (fun j v hj => by simp at hj)
  · rcases hp with h | ⟨b, off, rfl, hc⟩
    · exact absurd h h0
    · exact run_convert_bytes_arg w 24 5 Try.underlying24 Try.underlying5 b off len cap Z hz hc 9 Try.underlying9

theorem RowAt.take {w : World} {a : Option Addr} {len : Nat} {zs : List Int} (h : RowAt w a len zs) : RowAt w a len (zs.take len) := by
  rcases h with h | ⟨b, off, ha, hc⟩
  · exact .inl h
  · refine .inr ⟨b, off, ha, fun j hj => ?_⟩
    rw [hc j hj]
    simp [List.getD_eq_getElem?_getD, hj]

theorem Bytes.take {zs : List Int} (h : Bytes zs) (n : Nat) : Bytes (zs.take n) := by
  intro j
  have := h j
  rw [List.getD_eq_getElem?_getD] at this ⊢
  rw [List.getElem?_take]
  by_cases hj : j < n
  · rw [if_pos hj]; exact this
  · rw [if_neg hj]; simp

theorem rowAt_own {w : World} {base g len cap : Nat} {L : List Int} (h : w.ownsRow base 5 1 (.slice (some ⟨g, 0, none⟩) len cap) len (L.map (Value.int .u8))) : RowAt w (some ⟨g, 0, none⟩) len L := by
  refine .inr ⟨g, 0, rfl, fun j hj => ?_⟩
  have hl : L.length = len := by have := h.1; simpa using this
  rw [Nat.zero_add, h.cellAt j (by omega), List.getElem?_map, List.getElem?_eq_getElem (by omega), List.getD_eq_getElem?_getD, List.getElem?_eq_getElem (by omega)]
  rfl

theorem own_cells {w : World} {base g len cap : Nat} {L : List Int} (h : w.ownsRow base 5 1 (.slice (some ⟨g, 0, none⟩) len cap) len (L.map (Value.int .u8))) :
    ∀ j, j < len → w.cell? ⟨g, 0 + j, none⟩ = some (.int .u8 (L.getD j 0)) := by
  intro j hj
  rcases rowAt_own h with h0 | ⟨b, off, hb, hc⟩
  · omega
  · simp only [Option.some.injEq, Addr.mk.injEq] at hb
    obtain ⟨rfl, rfl, _⟩ := hb
    exact hc j hj

end Go.Proofs.Ytigfoldobkigeaa.B
