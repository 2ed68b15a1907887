/-
  The walk of the statement on sums of 0 to 199 bytes.
-/
import Derived.Test.YtaedkofljmonjaaDoorQSms
namespace Go.Proofs.YtaedkofljmonjaaDoor
open Go.RowKit
set_option linter.unusedVariables false
set_option linter.unusedSimpArgs false

def mlL : Nat → List Int
  | 0 => []
  | k + 1 => mlL k ++ [(k : Int)]
theorem mlL_length : ∀ k, (mlL k).length = k
  | 0 => rfl
  | k + 1 => by rw [mlL, List.length_append, mlL_length k]; rfl
theorem mlL_mem : ∀ k, ∀ z ∈ mlL k, 0 ≤ z ∧ z < k
  | 0 => fun z hz => by simp [mlL] at hz
  | k + 1 => fun z hz => by
    simp only [mlL, List.mem_append, List.mem_singleton] at hz
    rcases hz with hz | rfl
    · have := mlL_mem k z hz; omega
    · omega
theorem mlL_bytes (k : Nat) (hk : k ≤ 200) : Bytes (mlL k) := bytes_of_mem fun z hz => by have := mlL_mem k z hz; omega
theorem own_ho {w : World} {base n : Nat} {v : Value} {xs : List Value} (h : w.ownsRow base 5 1 v n xs) : v = .slice none 0 0 ∨ (∃ x, v = .slice (some x) 0 0) ∨ ∃ b off n' c', v = .slice (some ⟨b, off, none⟩) n' c' := by
  rcases h.2 with ⟨rfl, _⟩ | ⟨g, cap, cur, rfl, _⟩
  · exact .inl rfl
  · exact .inr (.inr ⟨_, _, _, _, rfl⟩)
theorem own_row {w : World} {base n : Nat} {v : Value} {zs : List Int} (h : w.ownsRow base 5 1 v n (cels zs)) (hn : zs.length = n) : RdAt w v zs := by
  subst hn
  exact Row.rd (own_base h (Nat.zero_le _))

set_option maxRecDepth 100000 in
set_option maxHeartbeats 2000000 in
theorem mil_walk (w : World) (hG : Gl w) : Calls Tryd.prog 6 #[] w fun e w' => e = .returned (.bool true) ∧ Below w.heap.size w w' := by
  replace hG := Kpt.mk hG
  go_enter Tryd.func6, Tryd.ntmps6
  go_wp2
  go_loopw [1, 2] (fun x t wr => ∃ (k : Nat) (a : Option Addr) (c : Nat), k ≤ 200 ∧ x = .slice a k c ∧ t = .int .i64 k ∧ Kpt (wr.ownsRow w.heap.size 5 1 (.slice a k c) k (cels (mlL k))) ∧ Kpt (Below w.heap.size w wr)) (fun _ t _ => 200 - (intOf t).toNat)
  case atStart => exact ⟨0, none, 0, by omega, rfl, rfl, ⟨World.ownsRow_nil _ _ 5 1⟩, ⟨Below.refl _ _⟩⟩
  case round =>
    obtain ⟨k, a, c, hk, rfl, rfl, ho, hbe⟩ := hrel
    by_cases hlt : k < 200
    · have hrd := Kpt.mk (own_row ho.out (mlL_length k))
      have hGr := Kpt.mk (hG.out.below hbe.out hG.out.lt)
      go_wp2_with (first
        | (refine (?_ : wpList _ _ _ (Oper.mk none (Op.store 24 (.tmp 3) _) _ _ _ _ :: _) _ _); have hmm := m2; go_must (refine wpList_store_bx rfl 24 (.tmp 3) (.tmp 9) rfl w2.heap.size #[.int .u8 0, .int .u8 0, .int .u8 0, .int .u8 0, .int .u8 0, .int .u8 0, .int .u8 0, .int .u8 0, .int .u8 0, .int .u8 0, .int .u8 0, .int .u8 0, .int .u8 0, .int .u8 0, .int .u8 0, .int .u8 0] (cels (sumL (mlL k))).toArray rfl rfl (bx_new w2 _ 24) (by rw [sum_size]; rfl) (by rw [sum_size]; exact info24) (all_oneCell_toArray (cels_one _)) rfl ?_; intro w3 hX3 hg3; have hb3r : Kpt (Below wr.heap.size wr w3) := ⟨(hb2.out.alloc hb2.out.size _).grown hg3 (by simp; have := hb2.out.size; omega) (fun j e => by cases e; exact hb2.out.size)⟩; replace hX3 := Kpt.mk hX3; clear hg3 hmm m2))
        | (go_at_call 8; go_must (refine (sum_any _ (mlL k) _ hrd.out (mlL_bytes k hk) (by rw [mlL_length]; omega) hGr.out (own_ho ho.out)).mono ?_; rintro e w2 ⟨rfl, hb2⟩; replace hb2 := Kpt.mk hb2; have m2 : Kpt True := ⟨trivial⟩)))
      obtain ⟨B3, hB3⟩ : ∃ B3, w2.heap.size = B3 := ⟨_, rfl⟩
      rw [hB3] at hX3
      rw [hB3]
      clear hB3
      refine wp_region_any (by kernel_rfl) ?_
      refine wpAny_of_C (C := fun W => Bx W B3 (cels (sumL (mlL k))).toArray) _ _ _ _ ?_
      refine wpAnyC_take 0 (.slice (some ⟨B3, 0, none⟩) 16 16) rfl (by kernel_rfl) (by kernel_rfl) (by kernel_rfl) (fun _ _ _ h => h) (wanted_free rfl _) (fun W hW => by go_simp) ?_
      try simp only [Act.put, List.getElem_toArray, List.getElem_cons_succ, List.getElem_cons_zero, List.setIfInBounds_toArray, List.set_cons_succ, List.set_cons_zero]
      refine wpAnyC_take 1 (.string (strOfNums (sumL (mlL k)))) rfl (by kernel_rfl) (by kernel_rfl) (by kernel_rfl) (fun _ _ _ h => h) (wanted_free rfl _) (fun W hW => by have := conv_rd (bx_rd hW (sumL_length (mlL k))); first | (go_simp; done) | (go_simp; simp [this])) ?_
      try simp only [Act.put, List.getElem_toArray, List.getElem_cons_succ, List.getElem_cons_zero, List.setIfInBounds_toArray, List.set_cons_succ, List.set_cons_zero]
      refine wpAnyC_take 2 (.slice a k c) rfl (by kernel_rfl) (by kernel_rfl) (by kernel_rfl) (fun _ _ _ h => h) (wanted_free rfl _) (fun W hW => by go_simp) ?_
      try simp only [Act.put, List.getElem_toArray, List.getElem_cons_succ, List.getElem_cons_zero, List.setIfInBounds_toArray, List.set_cons_succ, List.set_cons_zero]
      refine wpAnyC_one 3 hX3.out.drew rfl (by kernel_rfl) (wanted_free rfl _) (fun KA hKA => ?_)
      go_simp
      refine (rsum_any a k c (mlL k) _ ((hrd.out.bel hb3r.out).of_block (w' := w3.drew) (fun _ _ => rfl)) (mlL_bytes k hk) (by omega)).mono ?_
      rintro e w4 ⟨g4, cap4, rfl, ho4, hb4⟩
      replace hb4 := below_undrew hb4
      refine hKA _ _ ?_
      clear hKA KA
      try simp only [Act.put, List.getElem_toArray, List.getElem_cons_succ, List.getElem_cons_zero, List.setIfInBounds_toArray, List.set_cons_succ, List.set_cons_zero]
      have hX4 : Bx w4 B3 (cels (sumL (mlL k))).toArray := hX3.out.below hb4 hX3.out.lt
      refine wpAnyC_one 4 hX4 rfl (by kernel_rfl) (wanted_free rfl _) (fun KA hKA => ?_)
      have hcv := conv_rd (own_rd ho4)
      go_simp
      try simp only [hcv]
      refine hKA _ _ ?_
      clear hKA KA
      try simp only [Act.put, List.getElem_toArray, List.getElem_cons_succ, List.getElem_cons_zero, List.setIfInBounds_toArray, List.set_cons_succ, List.set_cons_zero]
      refine wpAnyC_one 5 hX4 rfl (by kernel_rfl) (wanted_free rfl _) (fun KA hKA => ?_)
      go_simp
      refine hKA _ _ ?_
      clear hKA KA
      try simp only [Act.put, List.getElem_toArray, List.getElem_cons_succ, List.getElem_cons_zero, List.setIfInBounds_toArray, List.set_cons_succ, List.set_cons_zero]
      refine wpAnyC_done (hX4) (by kernel_rfl) ?_
      have hb4w : Kpt (Below wr.heap.size wr w4) := ⟨hb3r.out.trans (hb4.mono hb3r.out.size)⟩
      have ho4w : Kpt (w4.ownsRow w.heap.size 5 1 (.slice a k c) k (cels (mlL k))) := ⟨own_of_block ho.out (fun z e => hb4w.out.block z (World.ownsRow.lt ho.out z e).2)⟩
      have hbw4 : Kpt (Below w.heap.size w w4) := ⟨hbe.out.trans (hb4w.out.mono hbe.out.size)⟩
      clear hX4 hb4 ho4 hX3 hb3r hcv
      go_wp2_with (first
        | (refine (?_ : wpList _ _ _ (Oper.mk (some 20) _ _ _ _ _ :: _) _ _); go_must (refine wpList_append_new rfl (.tmp 16) (.tmp 19) rfl w.heap.size (.slice a k c) (.slice (some ⟨g5, 0, none⟩) 1 1) (mlL k) [(k : Int)] k (k + 1) rfl rfl ho5b.out (own_rd ho5.out) (by simp) (mlL_length k) (by simp) (by omega) (by have := hb5.out.size; omega) ?_; intro g6 cap6 w6 ho6 hg6 hgr6; have hb6 : Kpt (Below w.heap.size w w6) := ⟨hb5.out.grown hgr6.out hb5.out.size (fun q e => (World.ownsRow.lt ho5b.out q e).1)⟩; clear hgr6 ho5b ho5 hb5))
        | (refine (?_ : wpList _ _ _ (Oper.mk (some 19) _ _ _ _ _ :: _) _ _); go_must (refine wpList_built rfl 1 [(k : Int)] (by kernel_rfl) rfl (by decide) ?_; intro g5 w5 hg5 ho5 hbe5; have ho5b : Kpt (w5.ownsRow w.heap.size 5 1 (.slice a k c) k (cels (mlL k))) := ⟨own_of_block ho4w.out (fun q e => hbe5.block q (World.ownsRow.lt ho4w.out q e).2)⟩; have hb5 : Kpt (Below w.heap.size w w5) := ⟨hbw4.out.trans (hbe5.mono hbw4.out.size)⟩; replace ho5 := Kpt.mk ho5; clear hbe5 hg5)))
      go_roundw
      case rel => exact ⟨k + 1, some ⟨g6, 0, none⟩, cap6, by omega, rfl, by simp, ⟨ho6.out⟩, hb6⟩
      case measure => simp [intOf]; omega
    · obtain rfl : k = 200 := by omega
      have hGr := Kpt.mk (hG.out.below hbe.out hG.out.lt)
      go_wp2_with ((go_at_call 7; go_must (refine (awake_any _ hGr.out).mono ?_; rintro e w1 ⟨rfl, hb1⟩; replace hb1 := Kpt.mk hb1)))
      go_ret
      exact ⟨rfl, hbe.out.trans (hb1.out.mono hbe.out.size)⟩

end Go.Proofs.YtaedkofljmonjaaDoor
