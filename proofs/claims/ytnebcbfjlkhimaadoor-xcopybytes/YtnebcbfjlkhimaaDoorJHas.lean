/-
  A list has a unit; cells of lists and pieces.
-/
import Derived.Test.YtnebcbfjlkhimaaDoorJPl
namespace Go.Proofs.YtnebcbfjlkhimaaDoor
open Go.RowKit
set_option linter.unusedVariables false
set_option linter.unusedSimpArgs false
theorem ls_c0 {w : World} {b : Nat} {u s : Value} (h : Bx w b (lsV u s)) : w.cell? ⟨b, 0, none⟩ = some u := h.cells 0 (by simp [lsV])
theorem ls_c1 {w : World} {b : Nat} {u s : Value} (h : Bx w b (lsV u s)) : w.cell? ⟨b, 1, none⟩ = some s := h.cells 1 (by simp [lsV])
theorem sg_c0 {w : World} {b : Nat} {F T B S D : Int} (h : Bx w b (Sg.vals ⟨F, T, B, S, D⟩)) : w.cell? ⟨b, 0, none⟩ = some (.int .i64 F) := h.cells 0 (by simp [Sg.vals])
theorem sg_c1 {w : World} {b : Nat} {F T B S D : Int} (h : Bx w b (Sg.vals ⟨F, T, B, S, D⟩)) : w.cell? ⟨b, 1, none⟩ = some (.int .i64 T) := h.cells 1 (by simp [Sg.vals])
theorem sg_c2 {w : World} {b : Nat} {F T B S D : Int} (h : Bx w b (Sg.vals ⟨F, T, B, S, D⟩)) : w.cell? ⟨b, 2, none⟩ = some (.int .i64 B) := h.cells 2 (by simp [Sg.vals])
theorem sg_c3 {w : World} {b : Nat} {F T B S D : Int} (h : Bx w b (Sg.vals ⟨F, T, B, S, D⟩)) : w.cell? ⟨b, 3, none⟩ = some (.int .u64 S) := h.cells 3 (by simp [Sg.vals])
theorem sg_c4 {w : World} {b : Nat} {F T B S D : Int} (h : Bx w b (Sg.vals ⟨F, T, B, S, D⟩)) : w.cell? ⟨b, 4, none⟩ = some (.int .u64 D) := h.cells 4 (by simp [Sg.vals])
theorem lsV_one {u s : Value} (hu : u.oneCell' = true) (hs : s.oneCell' = true) : (lsV u s).all (·.oneCell') = true := by simp [lsV, hu, hs]
theorem has_yes (ua : Option Addr) (n uc : Nat) (s : Value) (x : Int) (w : World) (hn : n ≤ maxLen) (h0 : 0 ≤ x) (h1 : x < n) :
    Calls Tryd.prog 31 #[.agg (lsV (.slice ua n uc) s), .int .i64 x] w fun e w' => e = .returned (.bool true) ∧ Below w.heap.size w w' := by
  unfold maxLen at hn
  have hb := Kpt.mk (Below.refl w.heap.size w)
  go_enter Tryd.func31, Tryd.ntmps31
  go_wp2_with (first
      | (refine wpList_box rfl 27 _ rfl (lsV (.slice ua n uc) s) rfl ?_; intro bl w_l hl_ hX_ h_ _; have ll := Kpt.mk (Nat.le_trans hb.out.size hl_); replace hb := Kpt.mk (hb.out.trans (h_.mono hb.out.size)); have Ol := Kpt.mk hX_; have cl0 := ls_c0 Ol.out; clear hl_ hX_ h_; have m1 : Kpt True := ⟨trivial⟩)
      | fail)
  go_ret
  exact ⟨rfl, hb.out⟩
theorem has_no (ua : Option Addr) (n uc : Nat) (s : Value) (x : Int) (w : World) (hn : n ≤ maxLen) (h : x < 0 ∨ n ≤ x) :
    Calls Tryd.prog 31 #[.agg (lsV (.slice ua n uc) s), .int .i64 x] w fun e w' => e = .returned (.bool false) ∧ Below w.heap.size w w' := by
  unfold maxLen at hn
  by_cases h0 : 0 ≤ x
  · have h1 : ¬ x < n := by omega
    clear h
    have hb := Kpt.mk (Below.refl w.heap.size w)
    go_enter Tryd.func31, Tryd.ntmps31
    go_wp2_with (first
        | (refine wpList_box rfl 27 _ rfl (lsV (.slice ua n uc) s) rfl ?_; intro bl w_l hl_ hX_ h_ _; have ll := Kpt.mk (Nat.le_trans hb.out.size hl_); replace hb := Kpt.mk (hb.out.trans (h_.mono hb.out.size)); have Ol := Kpt.mk hX_; have cl0 := ls_c0 Ol.out; clear hl_ hX_ h_; have m1 : Kpt True := ⟨trivial⟩)
        | fail)
    go_ret
    exact ⟨rfl, hb.out⟩
  · clear h
    have hb := Kpt.mk (Below.refl w.heap.size w)
    go_enter Tryd.func31, Tryd.ntmps31
    go_wp2_with (first
        | (refine wpList_box rfl 27 _ rfl (lsV (.slice ua n uc) s) rfl ?_; intro bl w_l hl_ hX_ h_ _; have ll := Kpt.mk (Nat.le_trans hb.out.size hl_); replace hb := Kpt.mk (hb.out.trans (h_.mono hb.out.size)); have Ol := Kpt.mk hX_; have cl0 := ls_c0 Ol.out; clear hl_ hX_ h_; have m1 : Kpt True := ⟨trivial⟩)
        | fail)
    go_ret
    exact ⟨rfl, hb.out⟩
end Go.Proofs.YtnebcbfjlkhimaaDoor
