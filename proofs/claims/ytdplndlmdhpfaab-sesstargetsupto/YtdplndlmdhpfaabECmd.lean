/-
  sess: commandBytes.
-/
import Derived.Test.YtdplndlmdhpfaabENop
namespace Go.Proofs.Ytdplndlmdhpfaab
open Go.RowKit
set_option linter.unusedVariables false
set_option linter.unusedSimpArgs false

/-- A word's bytes. -/
def be4 (x : Int) : List Int := [x / 16777216 % 256, x / 65536 % 256, x / 256 % 256, x % 256]
theorem be4_len (ws : List Int) : (ws.flatMap be4).length = ws.length * 4 := by
  induction ws with
  | nil => rfl
  | cons x r ih => rw [List.flatMap_cons, List.length_append, ih]; simp [be4]; omega
theorem be4_take (ws : List Int) (k : Nat) (x : Int) (h : ws[k]? = some x) : (ws.take (k + 1)).flatMap be4 = (ws.take k).flatMap be4 ++ be4 x := by
  rw [List.take_add_one, h]; simp [List.flatMap_append]

set_option maxRecDepth 100000 in
set_option maxHeartbeats 4000000 in
theorem cmdBytes_any (P : Nat) (ws : List Int) (hl : ws.length = 4) (w : World) (hP : P < w.heap.size) (hc : ∀ j x, ws[j]? = some x → w.cell? ⟨P, 9 + j, none⟩ = some (.int .u32 x)) (hr : ∀ x ∈ ws, 0 ≤ x ∧ x < 4294967296) :
    Calls Try.prog 61 #[.slice (some ⟨P, 9, none⟩) 4 4] w fun e w' => ∃ v, e = .returned v ∧ Row w' v (ws.flatMap be4) ∧ Below w.heap.size w w' ∧ ∀ g, v.ownBlock = some g → w.heap.size ≤ g := by
  have hcK := Kpt.mk hc
  have hrK := Kpt.mk hr
  have hlK := Kpt.mk hl
  clear hc hr hl
  go_enter Try.func61, Try.ntmps61
  go_wp2
  go_loopw [3, 8] (fun r t wr => ∃ (k : Nat) (x : Value), k ≤ 4 ∧ r = x ∧ t = .int .i64 k ∧ Kpt (wr.ownsRow w.heap.size 5 1 x (k * 4) (cels ((ws.take k).flatMap be4))) ∧ Kpt (Below w.heap.size w wr)) (fun _ t _ => 4 - (intOf t).toNat)
  case atStart => exact ⟨0, _, Nat.zero_le _, rfl, rfl, ⟨World.ownsRow_nil _ _ _ _⟩, ⟨Below.refl _ _⟩⟩
  case round =>
    obtain ⟨k, x, hk, hx0, rfl, hO, hB⟩ := hrel
    replace hx0 := hx0.symm
    subst hx0
    by_cases hlt : k < 4
    · have e1 : (k : Int) < 4 := by omega
      obtain ⟨y, hy⟩ : ∃ y, ws[k]? = some y := ⟨_, List.getElem?_eq_getElem (by rw [hlK.out]; exact hlt)⟩
      have hcy : wr.cell? ⟨P, 9 + k, none⟩ = some (.int .u32 y) := (hB.out.cell (p := ⟨P, 9 + k, none⟩) hP).trans (hcK.out k y hy)
      have hry := Kpt.mk (hrK.out y (List.mem_of_getElem? hy))
      have hst := Kpt.mk (be4_take ws k y hy)
      clear hy
      have hl1 : Kpt (((ws.take k).flatMap be4).length = k * 4) := ⟨by rw [be4_len, List.length_take, hlK.out, Nat.min_eq_left (by omega)]⟩
      have ho1 : Kpt ((wr.alloc (.cells (cels (be4 y)).toArray 5)).ownsRow w.heap.size 5 1 x (k * 4) (cels ((ws.take k).flatMap be4))) := ⟨hO.out.alloc _⟩
      have hr1 : Kpt (RdAt (wr.alloc (.cells (cels (be4 y)).toArray 5)) (.slice (some ⟨wr.heap.size, 0, none⟩) 4 4) (be4 y)) := ⟨own_rd (own_alloc wr wr.heap.size 4 0 (be4 y) rfl rfl (by omega) (Nat.zero_le _))⟩
      have hs1 : w.heap.size ≤ (wr.alloc (.cells (cels (be4 y)).toArray 5)).heap.size := by have := hB.out.size; simp; omega
      have hB1 : Kpt (Below w.heap.size w (wr.alloc (.cells (cels (be4 y)).toArray 5))) := ⟨hB.out.alloc hB.out.size _⟩
      go_wp2_with (at_builtin; go_must (refine wpList_append_new rfl (.tmp 12) (.tmp 24) rfl w.heap.size x (.slice (some ⟨wr.heap.size, 0, none⟩) 4 4) ((ws.take k).flatMap be4) (be4 y) (k * 4) (k * 4 + 4) rfl rfl ho1.out hr1.out (by simp [be4]) hl1.out rfl (by omega) hs1 ?_; intro g cap w2 h1 h2 h3))
      have hB2 : Kpt (Below w.heap.size w w2) := ⟨hB1.out.grown h3.out hB1.out.size (fun q e => (World.ownsRow.lt ho1.out q e).1)⟩
      go_roundw
      case rel => exact ⟨k + 1, _, by omega, rfl, by go_num, ⟨by rw [hst.out, show (k + 1) * 4 = k * 4 + 4 from by omega]; exact h1.out⟩, hB2⟩
      case measure => simp [intOf]; omega
    · obtain rfl : k = 4 := by omega
      go_wp2
      go_ret
      refine ⟨x, rfl, ?_, hB.out, fun g hg => (World.ownsRow.lt hO.out g hg).1⟩
      have := hO.out
      rw [List.take_of_length_le (by rw [hlK.out]; exact Nat.le_refl _)] at this
      unfold Row
      rw [be4_len, hlK.out]
      exact own_base this (Nat.zero_le _)
end Go.Proofs.Ytdplndlmdhpfaab
