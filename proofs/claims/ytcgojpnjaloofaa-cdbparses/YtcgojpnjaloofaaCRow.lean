/-
  The document's table: the contracts of many and ten.
-/
import Derived.Test.YtcgojpnjaloofaaCLaw
import Derived.Test.YtcgojpnjaloofaaCOwn
namespace Go.Proofs.Ytcgojpnjaloofaa
open Go.RowKit
set_option linter.unusedVariables false
set_option linter.unusedSimpArgs false

/-- A slice that is owned whole: its cells, and how it is spelt. -/
def Own (base : Nat) (w : World) (v : Value) (zs : List Int) : Prop := w.ownsRow base 5 1 v zs.length (cels zs)

theorem rep_snoc (k : Nat) (b : Int) (zs : List Int) : zs ++ List.replicate k b ++ [b] = zs ++ List.replicate (k + 1) b := by
  rw [List.replicate_succ', List.append_assoc]

set_option maxRecDepth 100000 in
set_option maxHeartbeats 1000000 in
theorem many_any (b : Int) (n : Nat) (v : Value) (zs : List Int) (base : Nat) (w : World) (hn : n ≤ 100) (hz : zs.length ≤ 100) (hb : base ≤ w.heap.size) (hown : Own base w v zs) :
    Calls Try.prog 41 #[.int .u8 b, .int .i64 n, v] w fun e w' => ∃ v', e = .returned v' ∧ Own base w' v' (zs ++ List.replicate n b) ∧ Below base w w' := by
  replace hown := Kpt.mk hown
  go_enter Try.func41, Try.ntmps41
  go_wp2
  go_loopw [2, 7] (fun y t wr => ∃ (x : Value) (k : Nat), x = y ∧ k ≤ n ∧ t = .int .i64 k ∧ Kpt (Own base wr x (zs ++ List.replicate k b)) ∧ Kpt (Below base w wr)) (fun _ t _ => n - (intOf t).toNat)
  case atStart => exact ⟨_, 0, rfl, Nat.zero_le _, rfl, ⟨by simpa using hown.out⟩, ⟨Below.refl _ _⟩⟩
  case round =>
    obtain ⟨x, k, hx, hk, rfl, ho, hB⟩ := hrel
    subst hx
    by_cases hlt : k < n
    · have hle : Kpt (base ≤ wr.heap.size) := ⟨Nat.le_trans hb hB.out.size⟩
      have hown2 : Kpt ((wr.alloc (.cells (cels [b]).toArray 5)).ownsRow base 5 1 x (zs ++ List.replicate k b).length (cels (zs ++ List.replicate k b))) := ⟨own_of_block ho.out (fun g hg => Below.heap_alloc _ _ _ (World.ownsRow.lt ho.out g hg).2)⟩
      have hlen : (zs ++ List.replicate k b).length + 1 ≤ 140737488355328 := by simp; omega
      have hrow : Kpt (∀ g2, x.ownBlock = some g2 → base ≤ g2) := ⟨fun g2 h => (World.ownsRow.lt ho.out g2 h).1⟩
      replace hlen := Kpt.mk hlen
      go_wp2_with (refine wpList_append_new rfl (.tmp 13) (.tmp 15) rfl base x (.slice (some ⟨wr.heap.size, 0, none⟩) 1 1) (zs ++ List.replicate k b) [b] _ _ rfl rfl hown2.out (rd_alloc wr [b] 1 rfl) (by simp) rfl rfl hlen.out (by have := hle.out; simp; omega) ?_; intro g c w1 ho1 hg1 hgr1; have HB1 : Kpt (Below base w w1) := ⟨(hB.out.alloc hle.out _).grown hgr1.out (by have := hle.out; simp; omega) hrow.out⟩; clear hgr1)
      go_roundw
      case rel => exact ⟨_, k + 1, rfl, by omega, by go_num, ⟨by
        have := ho1.out
        rw [rep_snoc] at this
        unfold Own
        simpa [Nat.add_assoc] using this⟩, HB1⟩
      case measure => simp [intOf]; omega
    · obtain rfl : k = n := by omega
      go_wp2
      go_ret
      exact ⟨_, rfl, ho.out, hB.out⟩
end Go.Proofs.Ytcgojpnjaloofaa
