/-
  The contract of Fixed.
-/
import Derived.Test.YtglfkpdbgddpdaaSFixed
namespace Go.Proofs.Ytglfkpdbgddpdaa
open Go.RowKit
set_option linter.unusedVariables false
set_option linter.unusedSimpArgs false

theorem box_of (w : World) (s : Sn) (t : TypeId) : Box (w.alloc (.cells s.vals t)) w.heap.size s := fun i => by simp

theorem form_box (s : Sn) (w : World) (t : TypeId) (f : Nat) (b : Bool) (H : ∀ w, Calls Try.prog f #[.agg s.vals] w fun e w' => e = .returned (.bool b) ∧ Below w.heap.size w w' ∧ Grown w w') :
    Calls Try.prog f #[.agg s.vals] (w.alloc (.cells s.vals t)) fun e w' => e = .returned (.bool b) ∧ Box w' w.heap.size s ∧ Below w.heap.size w w' ∧ w.heap.size < w'.heap.size := by
  refine (H _).mono ?_
  rintro e w' ⟨rfl, hb, _⟩
  have hlt : w.heap.size < (w.alloc (.cells s.vals t)).heap.size := by simp
  exact ⟨rfl, Box.below (box_of w s t) hb hlt, (box_alloc w _ _).trans (hb.mono (Nat.le_of_lt hlt)), Nat.lt_of_lt_of_le hlt hb.size⟩

theorem fixed_form (s : Sn) (hform : s.form = false) (w : World) :
    Calls Try.prog 9 #[.agg s.vals] w fun e w' => e = .returned (.tuple #[.slice none 0 0, .int .i64 3]) ∧ Below w.heap.size w w' := by
  have H := fun t => Kpt.mk (form_box s w t 13 false (fun w => by rw [← hform]; exact form_any s w))
  obtain ⟨key, code, info, hi, field, bit, hf, ic⟩ := s
  simp only [Sn.vals] at *
  clear hform
  go_enter Try.func9, Try.ntmps9
  go_wp2_with (go_at_call 13; refine (H 25).out.mono ?_; rintro e w' ⟨rfl, hB, hb, hlt⟩)
  go_ret2
  exact ⟨rfl, hb⟩

theorem fixed_range (s : Sn) (hform : s.form = true) (hr : 4294967295 < s.info) (w : World) :
    Calls Try.prog 9 #[.agg s.vals] w fun e w' => e = .returned (.tuple #[.slice none 0 0, .int .i64 4]) ∧ Below w.heap.size w w' := by
  have H := fun t => Kpt.mk (form_box s w t 13 true (fun w => by rw [← hform]; exact form_any s w))
  obtain ⟨key, code, info, hi, field, bit, hf, ic⟩ := s
  simp only [Sn.vals] at *
  clear hform
  go_enter Try.func9, Try.ntmps9
  go_wp2_with (go_at_call 13; refine (H 25).out.mono ?_; rintro e w' ⟨rfl, hB, hb, hlt⟩; have c2 := hB 2; simp [Sn.vals] at c2; clear hB)
  go_ret2
  exact ⟨rfl, hb⟩

set_option maxRecDepth 100000 in
theorem fixed_ok (s : Sn) (hs : s.wf) (hform : s.form = true) (hr : s.info < 4294967296) (w : World) :
    Calls Try.prog 9 #[.agg s.vals] w fun e w' => ∃ g, e = .returned (.tuple #[.slice (some ⟨g, 0, none⟩) 18 18, .int .i64 0]) ∧ New w w' (.slice (some ⟨g, 0, none⟩) 18 18) s.fixedB := by
  have H := fun t => Kpt.mk (form_box s w t 13 true (fun w => by rw [← hform]; exact form_any s w))
  have H2 := fun w => Kpt.mk (fix_any s hs hform hr w)
  obtain ⟨s', hs'⟩ : ∃ s', s' = s := ⟨_, rfl⟩
  rw [← hs'] at H2 ⊢
  have hr' : ¬ 4294967295 < s.info := by omega
  obtain ⟨key, code, info, hi, field, bit, hf, ic⟩ := s
  have hv : s'.vals = #[.int .u8 key, .int .u16 code, .int .u64 info, .bool hi, .int .i64 field, .int .i64 bit, .bool hf, .bool ic] := by rw [hs']; rfl
  rw [hv] at H2 ⊢
  simp only [Sn.vals] at *
  clear hform hs hs' hr
  replace hv := Kpt.mk hv
  go_enter Try.func9, Try.ntmps9
  go_wp2_with (first | (go_at_call 13; refine (H 25).out.mono ?_; rintro e w' ⟨rfl, hB, hb, hlt⟩; have c0 := hB 0; have c1 := hB 1; have c2 := hB 2; have c3 := hB 3; have c4 := hB 4; have c5 := hB 5; have c6 := hB 6; have c7 := hB 7; simp [Sn.vals] at c0 c1 c2 c3 c4 c5 c6 c7; clear hB) | (go_at_call 19; refine (H2 w').out.mono ?_; rintro e w2 ⟨g, rfl, hN⟩))
  go_ret2
  exact ⟨g, rfl, New.trans hb hN⟩
end Go.Proofs.Ytglfkpdbgddpdaa
