/-
  The contracts of get, put, fieldBytes, fix, Fixed.
-/
import Derived.Test.YtglfkpdbgddpdaaSDef
import Derived.Test.YtglfkpdbgddpdaaBGet
import Derived.Test.YtglfkpdbgddpdaaBPut
namespace Go.Proofs.Ytglfkpdbgddpdaa
open Go.RowKit
set_option linter.unusedVariables false
set_option linter.unusedSimpArgs false

/-- A fresh row of bytes. -/
def New (w w' : World) (v : Value) (zs : List Int) : Prop := w'.ownsRow w.heap.size 5 1 v zs.length (cels zs) ∧ Below w.heap.size w w'

theorem rd_cells {w : World} {b off len c : Nat} {zs : List Int} (h : RdAt w (.slice (some ⟨b, off, none⟩) len c) zs) : zs.length = len ∧ ∀ j, j < len → w.cell? ⟨b, off + j, none⟩ = some (.int .u8 (zs.getD j 0)) := by
  obtain ⟨a, c', hv, _, _, h⟩ := h
  simp only [Value.slice.injEq] at hv
  obtain ⟨ha, hl, _⟩ := hv
  refine ⟨hl.symm, fun j hj => ?_⟩
  rcases h with h | ⟨b', off', hb, hc⟩
  · omega
  · rw [← ha] at hb
    simp only [Option.some.injEq, Addr.mk.injEq, and_true] at hb
    obtain ⟨rfl, rfl⟩ := hb
    refine hc j _ ?_
    unfold cels
    rw [List.getElem?_map, List.getElem?_eq_getElem (by omega), List.getD_eq_getElem?_getD, List.getElem?_eq_getElem (by omega)]
    rfl

set_option maxHeartbeats 1000000 in
theorem put_new (v : Value) (zs : List Int) (i n : Nat) (x : Int) (w : World) (hr : RdAt w v zs) (hl : zs.length ≤ 140737488351232) (hn1 : 1 ≤ n) (hn2 : n ≤ 8) (hi : i + n ≤ zs.length) (hx : 0 ≤ x) (hx2 : (x / 2 ^ (8 * n) != 0) = false) :
    Calls Try.prog 27 #[v, .int .i64 i, .int .i64 n, .int .u64 x] w fun e w' => ∃ g, e = .returned (.slice (some ⟨g, 0, none⟩) zs.length zs.length) ∧ New w w' (.slice (some ⟨g, 0, none⟩) zs.length zs.length) (B.asc zs i n x n) := by
  obtain ⟨a, c, rfl, ha, hlc, h⟩ := id hr
  obtain ⟨b, off, rfl⟩ : ∃ b off, a = some ⟨b, off, none⟩ := by
    rcases h with h | ⟨b, off, h, _⟩
    · omega
    · exact ⟨b, off, h⟩
  obtain ⟨_, hc⟩ := rd_cells hr
  have H := Kpt.mk (B.put_ok b off zs.length c i n x zs w rfl hl hn1 hn2 hi hx hx2 hc)
  clear hc h hr ha hx2
  go_enter Try.func27, Try.ntmps27
  go_wp2_with (go_at_call 34; refine H.out.mono ?_; rintro e w' ⟨g, rfl, h1, h2⟩)
  go_ret
  refine ⟨g, rfl, ?_, h2⟩
  rw [B.asc_len]
  exact h1
end Go.Proofs.Ytglfkpdbgddpdaa
