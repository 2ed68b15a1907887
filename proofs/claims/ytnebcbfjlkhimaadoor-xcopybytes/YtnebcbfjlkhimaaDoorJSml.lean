/-
  Small functions of copies: numbers, senses.
-/
import Derived.Test.YtnebcbfjlkhimaaDoorJDef
namespace Go.Proofs.YtnebcbfjlkhimaaDoor
open Go.RowKit
set_option linter.unusedVariables false
set_option linter.unusedSimpArgs false
theorem number_any (b off len cap i k : Nat) (zs : List Int) (w : World) (hl : len ≤ maxLen) (hk1 : 1 ≤ k) (hk2 : k ≤ 8) (hi : i + k ≤ len) (hb : Bytes zs) (hc : Cs w b off len zs) :
    Calls Tryd.prog 29 #[.slice (some ⟨b, off, none⟩) len cap, .int .i64 i, .int .i64 k] w fun e w' => e = .returned (.int .u64 (num zs i k)) ∧ w' = w := by
  have H := Kpt.mk (B.get_ok b off len cap i k zs w hl hk1 hk2 hi hb hc.2)
  clear hc
  go_enter Tryd.func29, Tryd.ntmps29
  go_wp2_with (go_at_call 36; refine H.out.mono ?_; rintro e w' ⟨rfl, rfl⟩)
  go_ret
  exact ⟨rfl, rfl⟩
theorem count_any (b off len cap i k : Nat) (zs : List Int) (w : World) (hl : len ≤ maxLen) (hk1 : 1 ≤ k) (hk2 : k ≤ 4) (hi : i + k ≤ len) (hb : Bytes zs) (hc : Cs w b off len zs) :
    Calls Tryd.prog 14 #[.slice (some ⟨b, off, none⟩) len cap, .int .i64 i, .int .i64 k] w fun e w' => e = .returned (.int .i64 (num zs i k)) ∧ w' = w := by
  have H := Kpt.mk (number_any b off len cap i k zs w hl hk1 (by omega) hi hb hc)
  have hd := B.num_bd7 zs i hb k (by omega)
  have hw : IntKind.i64.wrap (num zs i k) = num zs i k := by rw [IntKind.wrap_i64]; unfold num; omega
  obtain ⟨x, hx⟩ : ∃ x, x = num zs i k := ⟨_, rfl⟩
  rw [← hx] at H hw ⊢
  clear hc hd hx
  go_enter Tryd.func14, Tryd.ntmps14
  go_wp2_with (go_at_call 29; refine H.out.mono ?_; rintro e w' ⟨rfl, rfl⟩)
  go_ret
  exact ⟨rfl, rfl⟩
theorem rnum_any (b off len cap i k : Nat) (zs : List Int) (w : World) (hl : len ≤ maxLen) (hk1 : 1 ≤ k) (hk2 : k ≤ 8) (hi : i + k ≤ len) (hb : Bytes zs) (hc : Cs w b off len zs) :
    Calls Tryd.prog 18 #[.slice (some ⟨b, off, none⟩) len cap, .int .i64 i, .int .i64 k] w fun e w' => e = .returned (.int .u64 (num zs i k)) ∧ w' = w := by
  have H := Kpt.mk (B.rget_ok b off len cap i k zs w hl hk1 hk2 hi hb hc.2)
  clear hc
  go_enter Tryd.func18, Tryd.ntmps18
  go_wp2_with (go_at_call 32; refine H.out.mono ?_; rintro e w' ⟨rfl, rfl⟩)
  go_ret
  exact ⟨rfl, rfl⟩
theorem tooShort_any (w : World) : Calls Tryd.prog 26 #[] w fun e w' => e = .returned (.agg (plS 5 6656).vals) ∧ Below w.heap.size w w' := by
  go_enter Tryd.func26, Tryd.ntmps26
  go_wp2
  refine bodyPost_ret (v := .agg (plS 5 6656).vals) (by simp [results, Tryd.results26, go_sem, plS, paS, Sn.vals]) rfl ⟨rfl, ?_⟩
  exact (Below.refl _ _).alloc (Nat.le_refl _) _
theorem tooMany_any (w : World) : Calls Tryd.prog 28 #[] w fun e w' => e = .returned (.agg (plS 5 9736).vals) ∧ Below w.heap.size w w' := by
  go_enter Tryd.func28, Tryd.ntmps28
  go_wp2
  refine bodyPost_ret (v := .agg (plS 5 9736).vals) (by simp [results, Tryd.results28, go_sem, plS, paS, Sn.vals]) rfl ⟨rfl, ?_⟩
  exact (Below.refl _ _).alloc (Nat.le_refl _) _
theorem fault_any (f : Int) (w : World) : Calls Tryd.prog 27 #[.int .i64 f] w fun e w' => e = .returned (.agg (paS f).vals) ∧ Below w.heap.size w w' := by
  go_enter Tryd.func27, Tryd.ntmps27
  go_wp2
  refine bodyPost_ret (v := .agg (paS f).vals) (by simp [results, Tryd.results27, go_sem, plS, paS, Sn.vals]) rfl ⟨rfl, ?_⟩
  exact (Below.refl _ _).alloc (Nat.le_refl _) _
theorem rfault_any (f : Int) (w : World) : Calls Tryd.prog 19 #[.int .i64 f] w fun e w' => e = .returned (.agg (paS f).vals) ∧ Below w.heap.size w w' := by
  go_enter Tryd.func19, Tryd.ntmps19
  go_wp2
  refine bodyPost_ret (v := .agg (paS f).vals) (by simp [results, Tryd.results19, go_sem, plS, paS, Sn.vals]) rfl ⟨rfl, ?_⟩
  exact (Below.refl _ _).alloc (Nat.le_refl _) _
end Go.Proofs.YtnebcbfjlkhimaaDoor
