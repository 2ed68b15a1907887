/-
  The document's examples: they hold.
-/
import Derived.Test.YtaedkofljmonjaaDoorQSumO
import Derived.Test.YtaedkofljmonjaaDoorQHex
namespace Go.Proofs.YtaedkofljmonjaaDoor
open Go.RowKit
set_option linter.unusedVariables false
set_option linter.unusedSimpArgs false

theorem hex_nil : strOfNums (48 :: 120 :: hexL (sumL [])) = ⟨#[48, 120, 100, 52, 49, 100, 56, 99, 100, 57, 56, 102, 48, 48, 98, 50, 48, 52, 101, 57, 56, 48, 48, 57, 57, 56, 101, 99, 102, 56, 52, 50, 55, 101]⟩ := by rw [sum_nil]; decide
theorem hex_abc : strOfNums (48 :: 120 :: hexL (sumL [97, 98, 99])) = ⟨#[48, 120, 57, 48, 48, 49, 53, 48, 57, 56, 51, 99, 100, 50, 52, 102, 98, 48, 100, 54, 57, 54, 51, 102, 55, 100, 50, 56, 101, 49, 55, 102, 55, 50]⟩ := by rw [sum_abc]; decide
theorem outL_bytes (h : Q4) : Bytes (outL h) := bytes_of_mem fun z hz => by
  unfold outL at hz
  simp only [List.mem_append] at hz
  rcases hz with ((hz | hz) | hz) | hz <;> exact lowL_bytes _ _ z hz
theorem sumL_bytes (zs : List Int) : Bytes (sumL zs) := outL_bytes _
theorem sum_size (zs : List Int) : (cels (sumL zs)).toArray.size = 16 := by simp [sumL_length]

theorem abc_bytes : Bytes [97, 98, 99] := Bytes.cons (by decide) (Bytes.cons (by decide) (Bytes.cons (by decide) Bytes.nil))
theorem rd_abc (w : World) : RdAt (w.alloc (.cells #[.int .u8 97, .int .u8 98, .int .u8 99] 5 (3, 4))) (.slice (some ⟨w.heap.size, 0, none⟩) 3 3) [97, 98, 99] := by
  refine ⟨some ⟨w.heap.size, 0, none⟩, 3, rfl, (fun h => by cases h), Nat.le_refl _, .inr ⟨w.heap.size, 0, rfl, fun j u hu => ?_⟩⟩
  rw [Nat.zero_add, Joins.cell_alloc_mark_at w _ 5 (3, 4) _ _ rfl, ← hu]; simp [cels]

set_option maxRecDepth 100000 in
set_option maxHeartbeats 1000000 in
theorem awake_any (w : World) (hG : Gl w) : Calls Tryd.prog 7 #[] w fun e w' => e = .returned (.bool true) ∧ Below w.heap.size w w' := by
  have kc := fun (w : World) (C : Array Value) (n c : Nat) => Lib.run_convert_bytes_const (P := Tryd.prog) w 22 5 C n c Tryd.underlying22 Tryd.underlying5
  replace hG := Kpt.mk hG
  go_enter Tryd.func7, Tryd.ntmps7
  go_wp2_with (first
    | (go_at_call 12; have hm := m5; go_must (refine (hex_any _ 16 16 (sumL [97, 98, 99]) _ (bx_rd (hX4.out.below hb5.out hX4.out.lt) (sumL_length _)) (sumL_bytes _) (by omega)).mono ?_; rintro e w6 ⟨rfl, hb6⟩; rw [hex_abc]; replace hb6 := Kpt.mk hb6; clear hm m5))
    | (go_at_call 12; have hm := m4; go_must (refine (hex_any _ 16 16 (sumL []) _ (bx_rd hX2d.out (sumL_length _)) (sumL_bytes _) (by omega)).mono ?_; rintro e w5 ⟨rfl, hb5⟩; rw [hex_nil]; replace hb5 := Kpt.mk hb5; clear hm m4; have m5 : Kpt True := ⟨trivial⟩))
    | (refine (?_ : wpList _ _ _ (Oper.mk none (Op.store 24 (.tmp 2) _) _ _ _ _ :: _) _ _); have hm := m3; go_must (refine wpList_store_bx rfl 24 (.tmp 2) (.tmp 6) rfl w3.heap.size #[.int .u8 0, .int .u8 0, .int .u8 0, .int .u8 0, .int .u8 0, .int .u8 0, .int .u8 0, .int .u8 0, .int .u8 0, .int .u8 0, .int .u8 0, .int .u8 0, .int .u8 0, .int .u8 0, .int .u8 0, .int .u8 0] (cels (sumL [97, 98, 99])).toArray rfl rfl (bx_new w3 _ 24) (by rw [sum_size]; rfl) (by rw [sum_size]; exact info24) (all_oneCell_toArray (cels_one _)) rfl ?_; intro w4 hX4 hg4; have hb4 : Kpt (Below w3.heap.size w3 w4) := ⟨((Below.refl _ w3).alloc (Nat.le_refl _) _).grown hg4 (by simp) (fun j e => by cases e; exact Nat.le_refl _)⟩; replace hX4 := Kpt.mk hX4; have hX2d : Kpt (Bx w4 w1.heap.size (cels (sumL [])).toArray) := ⟨hX2c.out.below hb4.out hX2c.out.lt⟩; clear hg4 hm m3; have m4 : Kpt True := ⟨trivial⟩))
    | (go_at_call 8; have hm := m2; go_must (refine (sum_any _ [97, 98, 99] _ (rd_abc w2) abc_bytes (by decide) (hG2.out.bel ((Below.refl _ w2).alloc (Nat.le_refl _) _)) (.inr (.inr ⟨_, _, _, _, rfl⟩))).mono ?_; rintro e w3 ⟨rfl, hb3⟩; have hb23 : Kpt (Below w2.heap.size w2 w3) := ⟨((Below.refl _ w2).alloc (Nat.le_refl _) _).trans (hb3.mono (by simp))⟩; have hX2c : Kpt (Bx w3 w1.heap.size (cels (sumL [])).toArray) := ⟨hX2.out.below hb23.out hX2.out.lt⟩; clear hb3 hm m2; have m3 : Kpt True := ⟨trivial⟩))
    | (refine (?_ : wpList _ _ _ (Oper.mk none (Op.store 24 (.tmp 1) _) _ _ _ _ :: _) _ _); have hm := m1; go_must (refine wpList_store_bx rfl 24 (.tmp 1) (.tmp 3) rfl w1.heap.size #[.int .u8 0, .int .u8 0, .int .u8 0, .int .u8 0, .int .u8 0, .int .u8 0, .int .u8 0, .int .u8 0, .int .u8 0, .int .u8 0, .int .u8 0, .int .u8 0, .int .u8 0, .int .u8 0, .int .u8 0, .int .u8 0] (cels (sumL [])).toArray rfl rfl (bx_new w1 _ 24) (by rw [sum_size]; rfl) (by rw [sum_size]; exact info24) (all_oneCell_toArray (cels_one _)) rfl ?_; intro w2 hX2 hg2; have hb2 : Kpt (Below w1.heap.size w1 w2) := ⟨((Below.refl _ w1).alloc (Nat.le_refl _) _).grown hg2 (by simp) (fun j e => by cases e; exact Nat.le_refl _)⟩; have hG2 : Kpt (Gl w2) := ⟨hG1.out.bel hb2.out⟩; replace hX2 := Kpt.mk hX2; clear hg2 hm m1; have m2 : Kpt True := ⟨trivial⟩))
    | (go_at_call 8; go_must (refine (sum_any _ [] _ (rd_nil _) Bytes.nil (by decide) hG.out (.inl rfl)).mono ?_; rintro e w1 ⟨rfl, hb1⟩; have hG1 : Kpt (Gl w1) := ⟨hG.out.bel hb1⟩; replace hb1 := Kpt.mk hb1; have m1 : Kpt True := ⟨trivial⟩)))
  go_ret
  refine ⟨rfl, ?_⟩
  have h1 := hb1.out.trans (hb2.out.mono hb1.out.size)
  have h2 := h1.trans (hb23.out.mono h1.size)
  have h3 := h2.trans (hb4.out.mono h2.size)
  have h4 := h3.trans (hb5.out.mono h3.size)
  exact h4.trans (hb6.out.mono h4.size)

end Go.Proofs.YtaedkofljmonjaaDoor
