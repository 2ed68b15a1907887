/-
  awake, of commands.
-/
import Derived.Test.YtcgojpnjaloofaaCAny
namespace Go.Proofs.Ytcgojpnjaloofaa
open Go.RowKit
set_option linter.unusedVariables false
set_option linter.unusedSimpArgs false

theorem bytes_of {l : List Int} (h3 : ∀ n ∈ l, 0 ≤ n ∧ n ≤ 255) : B.Bytes l := fun j => by
  rw [List.getD_eq_getElem?_getD]
  cases e : l[j]? with
  | none => simp
  | some v => exact h3 v (List.mem_of_getElem? e)

/-- A list of bytes laid anew. -/
theorem rd_alloc (w : World) (zs : List Int) (n : Nat) (hn : n = zs.length) : RdAt (w.alloc (.cells (cels zs).toArray 5)) (.slice (some ⟨w.heap.size, 0, none⟩) n n) zs := by
  subst hn
  refine ⟨_, _, rfl, (fun h => by cases h), Nat.le_refl _, .inr ⟨w.heap.size, 0, rfl, fun j u hu => ?_⟩⟩
  have : (w.alloc (.cells (cels zs).toArray 5)).cell? ⟨w.heap.size, 0 + j, none⟩ = (cels zs).toArray[j]? := by simp
  rw [this, List.getElem?_toArray]
  exact hu

theorem parse_awake : parseRes [8, 0, 0, 3, 1, 0] = .tuple #[.agg #[.int .u8 7, .bool false, .int .u64 3, .int .u64 1, .int .i64 0, .bool false, .int .u8 0, .bool false, .bool false, .int .u8 0, .int .u8 0, .bool false, .int .u8 0, .int .u8 0, .bool false], .agg #[.int .u8 0, .int .u16 0, .int .u64 0, .bool false, .int .i64 0, .int .i64 0, .bool false, .bool false], .bool true] := by
  have h : faultL [8, 0, 0, 3, 1, 0] = none := by rfl
  unfold parseRes
  rw [h]
  rfl

set_option maxRecDepth 100000 in
set_option maxHeartbeats 1000000 in
theorem awake_any (w : World) : Calls Try.prog 9 #[] w fun e w' => e = .returned (.bool true) ∧ Below w.heap.size w w' := by
  have H := Kpt.mk (parse_any (.slice (some ⟨w.heap.size, 0, none⟩) 6 6) [8, 0, 0, 3, 1, 0] (w.alloc (.cells (cels [8, 0, 0, 3, 1, 0]).toArray 5)) (rd_alloc w _ 6 rfl) (bytes_of (by decide)) (by decide))
  rw [parse_awake] at H
  go_enter Try.func9, Try.ntmps9
  go_wp2_with (go_at_call 10; refine H.out.mono ?_; rintro e w1 ⟨rfl, hb⟩; have HB : Kpt (Below w.heap.size w w1) := ⟨((Below.refl _ _).alloc (Nat.le_refl _) _).trans (hb.mono (by simp))⟩; clear hb)
  go_ret
  exact ⟨rfl, (HB.out.alloc HB.out.size _).alloc (by have := HB.out.size; simp; omega) _⟩
end Go.Proofs.Ytcgojpnjaloofaa
