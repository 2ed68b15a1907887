/-
  The document's bytes of a block; its Make.
-/
import Derived.Test.YtcnjnebhidfogaaGMake
namespace Go.Proofs.Ytcnjnebhidfogaa
open Go.RowKit
set_option linter.unusedVariables false
set_option linter.unusedSimpArgs false

theorem vals_data (b : Bk) (h : b.ok) (j : Nat) (hj : j < 16) : b.vals[j]? = some (.int .u8 (b.d.getD j 0)) := by
  simp only [Bk.vals, Bk.cs, List.getElem?_toArray]
  rw [List.getElem?_append_left (by simp [h.len]; exact hj)]
  unfold cels
  rw [List.getElem?_map, List.getElem?_eq_getElem (by rw [h.len]; exact hj), List.getD_eq_getElem?_getD, List.getElem?_eq_getElem (by rw [h.len]; exact hj)]
  rfl

set_option maxHeartbeats 400000 in
theorem rbytes_any (b : Bk) (hb : b.ok) (w : World) :
    Calls Try.prog 24 #[.agg b.vals] w fun e w' => ∃ g cap, e = .returned (.slice (some ⟨g, 0, none⟩) 16 cap) ∧ w'.ownsRow w.heap.size 5 1 (.slice (some ⟨g, 0, none⟩) 16 cap) 16 (cels b.d) ∧ Below w.heap.size w w' := by
  have hV := Kpt.mk (fun j hj => vals_data b hb j hj)
  obtain ⟨V, hVe⟩ : ∃ V, V = b.vals := ⟨_, rfl⟩
  rw [← hVe] at hV ⊢
  have hlen := Kpt.mk hb.len
  clear hVe hb
  go_enter Try.func24, Try.ntmps24
  go_wp2
  go_loopw [3, 4] (fun s t wr => ∃ (k : Nat) (v : Value), k ≤ 16 ∧ v = s ∧ t = .int .i64 k ∧ Kpt (wr.ownsRow (w.heap.size + 1) 5 1 v k (cels (b.d.take k))) ∧ Kpt (Below (w.heap.size + 1) (w.alloc (.cells V 33)) wr)) (fun _ t _ => 16 - (intOf t).toNat)
  case atStart => exact ⟨0, _, by omega, rfl, rfl, ⟨World.ownsRow_nil _ _ 5 1⟩, ⟨Below.refl _ _⟩⟩
  case round =>
    obtain ⟨k, sv, hk, rfl, rfl, ho, hB⟩ := hrel
    have hsz : w.heap.size + 1 ≤ wr.heap.size := by have := hB.out.size; simpa using this
    by_cases hlt : k < 16
    · have hc : wr.cell? ⟨w.heap.size, k, none⟩ = some (.int .u8 (b.d.getD k 0)) := by
        rw [hB.out.cell (p := ⟨w.heap.size, k, none⟩) (by simp), ← hV.out k hlt]; simp
      obtain ⟨x, hx⟩ : ∃ x, x = b.d.getD k 0 := ⟨_, rfl⟩
      rw [← hx] at hc
      have hoC : Kpt ((wr.alloc (.cells #[.int .u8 x] 5)).ownsRow (w.heap.size + 1) 5 1 sv k (cels (b.d.take k))) := ⟨own_of_block ho.out (fun q hq => Below.heap_alloc _ _ _ (World.ownsRow.lt ho.out q hq).2)⟩
      have hrC : Kpt (RdAt (wr.alloc (.cells #[.int .u8 x] 5)) (.slice (some ⟨wr.heap.size, 0, none⟩) 1 1) [x]) := ⟨own_rd (own_alloc wr wr.heap.size 1 0 [x] rfl rfl (by decide) (Nat.zero_le _))⟩
      have hBC : Kpt (Below (w.heap.size + 1) (w.alloc (.cells V 33)) (wr.alloc (.cells #[.int .u8 x] 5))) := ⟨hB.out.alloc hsz _⟩
      have hnext : Kpt (b.d.take k ++ [x] = b.d.take (k + 1)) := ⟨by rw [take_step b.d k (by rw [hlen.out]; exact hlt), hx]⟩
      have hlk : (b.d.take k).length = k := by rw [List.length_take, hlen.out]; omega
      have hlo : Kpt (∀ q, sv.ownBlock = some q → w.heap.size + 1 ≤ q) := ⟨fun q hq => (World.ownsRow.lt ho.out q hq).1⟩
      obtain ⟨T, hT⟩ : ∃ T, T = b.d.take k := ⟨_, rfl⟩
      rw [← hT] at hoC hnext hlk
      replace hlk := Kpt.mk hlk
      clear ho hB hx hT
      go_wp2_with (at_builtin; go_must (refine wpList_append_new rfl (.tmp 9) (.tmp 14) rfl (w.heap.size + 1) _ _ T [x] k (k + 1) rfl rfl hoC.out hrC.out (by simp) hlk.out rfl (by omega) (by simp; omega) ?_; intro g4 k4 w4 ho4 hl4 hg4))
      go_roundw
      case rel => exact ⟨k + 1, _, by omega, rfl, by go_num, by rw [← hnext.out]; exact ho4, ⟨hBC.out.grown hg4.out (by simp; omega) (fun q hq => hlo.out q hq)⟩⟩
      case measure => simp [intOf]; omega
    · obtain rfl : k = 16 := by omega
      obtain ⟨g, cap, rfl, hg1, hg2⟩ := own_shape ho.out (by decide)
      go_wp2
      go_ret
      refine ⟨g, cap, rfl, ?_, ?_⟩
      · have := ho.out
        rw [List.take_of_length_le (by rw [hlen.out]; decide)] at this
        exact own_base this (by omega)
      · exact ((Below.refl _ _).alloc (Nat.le_refl _) _).trans (hB.out.mono (by omega))
end Go.Proofs.Ytcnjnebhidfogaa
