/-
  The document's bytes: Fixed and Described, of any sense.
-/
import Derived.Test.YtglfkpdbgddpdaaSRFix
import Derived.Test.YtglfkpdbgddpdaaSRDes
import Derived.Test.YtglfkpdbgddpdaaSRDet
import Derived.Test.YtglfkpdbgddpdaaSRDeu
namespace Go.Proofs.Ytglfkpdbgddpdaa
open Go.RowKit
set_option linter.unusedVariables false
set_option linter.unusedSimpArgs false

theorem rfixed_ok (s : Sn) (hs : s.wf) (hform : s.form = true) (hinfo : s.info < 4294967296) (w : World) :
    Calls Try.prog 11 #[.agg s.vals] w fun e w' => ∃ g cap, e = .returned (.tuple #[.slice (some ⟨g, 0, none⟩) 18 cap, .int .i64 0]) ∧ New w w' (.slice (some ⟨g, 0, none⟩) 18 cap) s.fixedB := by
  cases h1 : s.hi <;> cases h2 : s.hf
  · exact rfixed_nn s hs hform hinfo h1 h2 w
  · exact rfixed_nf s hs hform hinfo h1 h2 w
  · exact rfixed_in s hs hform hinfo h1 h2 w
  · exact rfixed_if s hs hform hinfo h1 h2 w

theorem rdescribed_ok (s : Sn) (hs : s.wf) (hform : s.form = true) (w : World) :
    Calls Try.prog 12 #[.agg s.vals] w fun e w' => ∃ g cap, e = .returned (.tuple #[.slice (some ⟨g, 0, none⟩) s.descB.length cap, .int .i64 0]) ∧ New w w' (.slice (some ⟨g, 0, none⟩) s.descB.length cap) s.descB := by
  have hl : s.descB.length = 8 + (if s.hi then 12 else 0) + (if s.hf then 8 else 0) := by
    cases h1 : s.hi <;> cases h2 : s.hf <;> simp [Sn.descB, Sn.rest, Sn.infoB, Sn.partB, Sn.fieldB, h1, h2]
  rw [hl]
  cases h1 : s.hi <;> cases h2 : s.hf
  · exact rdesc_nn s hs hform h1 h2 w
  · exact rdesc_nf s hs hform h1 h2 w
  · exact rdesc_in s hs hform h1 h2 w
  · exact rdesc_if s hs hform h1 h2 w

theorem rfixed_form (s : Sn) (hform : s.form = false) (w : World) :
    Calls Try.prog 11 #[.agg s.vals] w fun e w' => e = .returned (.tuple #[.slice none 0 0, .int .i64 3]) ∧ Below w.heap.size w w' := by
  have H := fun t => Kpt.mk (form_box s w t 14 false (fun w => by rw [← hform]; exact rform_any s w))
  obtain ⟨key, code, info, hi, field, bit, hf, ic⟩ := s
  simp only [Sn.vals] at *
  clear hform
  go_enter Try.func11, Try.ntmps11
  go_wp2_with (go_at_call 14; refine (H 25).out.mono ?_; rintro e w' ⟨rfl, hB, hb, hlt⟩)
  go_ret2
  exact ⟨rfl, hb⟩

theorem rfixed_range (s : Sn) (hform : s.form = true) (hr : 4294967296 ≤ s.info) (w : World) :
    Calls Try.prog 11 #[.agg s.vals] w fun e w' => e = .returned (.tuple #[.slice none 0 0, .int .i64 4]) ∧ Below w.heap.size w w' := by
  have H := fun t => Kpt.mk (form_box s w t 14 true (fun w => by rw [← hform]; exact rform_any s w))
  obtain ⟨key, code, info, hi, field, bit, hf, ic⟩ := s
  simp only [Sn.vals] at *
  clear hform
  go_enter Try.func11, Try.ntmps11
  go_wp2_with (go_at_call 14; refine (H 25).out.mono ?_; rintro e w' ⟨rfl, hB, hb, hlt⟩; have c2 := hB 2; simp [Sn.vals] at c2; clear hB)
  go_ret2
  exact ⟨rfl, hb⟩

theorem rdescribed_form (s : Sn) (hform : s.form = false) (w : World) :
    Calls Try.prog 12 #[.agg s.vals] w fun e w' => e = .returned (.tuple #[.slice none 0 0, .int .i64 3]) ∧ Below w.heap.size w w' := by
  have H := fun t => Kpt.mk (form_box s w t 14 false (fun w => by rw [← hform]; exact rform_any s w))
  obtain ⟨key, code, info, hi, field, bit, hf, ic⟩ := s
  simp only [Sn.vals] at *
  clear hform
  go_enter Try.func12, Try.ntmps12
  go_wp2_with (go_at_call 14; refine (H 25).out.mono ?_; rintro e w' ⟨rfl, hB, hb, hlt⟩)
  go_ret2
  exact ⟨rfl, hb⟩
end Go.Proofs.Ytglfkpdbgddpdaa
