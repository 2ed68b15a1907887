/-
  The contract of Described.
-/
import Derived.Test.YtglfkpdbgddpdaaSDesc
namespace Go.Proofs.Ytglfkpdbgddpdaa
open Go.RowKit
set_option linter.unusedVariables false
set_option linter.unusedSimpArgs false

theorem describe_any (s : Sn) (hs : s.wf) (hform : s.form = true) (w : World) :
    Calls Try.prog 20 #[.agg s.vals] w fun e w' => ∃ g cap, e = .returned (.slice (some ⟨g, 0, none⟩) s.descB.length cap) ∧ New w w' (.slice (some ⟨g, 0, none⟩) s.descB.length cap) s.descB := by
  have hl : s.descB.length = 8 + (if s.hi then 12 else 0) + (if s.hf then 8 else 0) := by
    cases h1 : s.hi <;> cases h2 : s.hf <;> simp [Sn.descB, Sn.rest, Sn.infoB, Sn.partB, Sn.fieldB, h1, h2]
  rw [hl]
  cases h1 : s.hi <;> cases h2 : s.hf
  · exact describe_nn s hs hform h1 h2 w
  · exact describe_nf s hs hform h1 h2 w
  · exact describe_in s hs hform h1 h2 w
  · exact describe_if s hs hform h1 h2 w

theorem described_form (s : Sn) (hform : s.form = false) (w : World) :
    Calls Try.prog 10 #[.agg s.vals] w fun e w' => e = .returned (.tuple #[.slice none 0 0, .int .i64 3]) ∧ Below w.heap.size w w' := by
  have H := fun t => Kpt.mk (form_box s w t 13 false (fun w => by rw [← hform]; exact form_any s w))
  obtain ⟨key, code, info, hi, field, bit, hf, ic⟩ := s
  simp only [Sn.vals] at *
  clear hform
  go_enter Try.func10, Try.ntmps10
  go_wp2_with (go_at_call 13; refine (H 25).out.mono ?_; rintro e w' ⟨rfl, hB, hb, hlt⟩)
  go_ret2
  exact ⟨rfl, hb⟩

set_option maxRecDepth 100000 in
theorem described_ok (s : Sn) (hs : s.wf) (hform : s.form = true) (w : World) :
    Calls Try.prog 10 #[.agg s.vals] w fun e w' => ∃ g cap, e = .returned (.tuple #[.slice (some ⟨g, 0, none⟩) s.descB.length cap, .int .i64 0]) ∧ New w w' (.slice (some ⟨g, 0, none⟩) s.descB.length cap) s.descB := by
  have H := fun t => Kpt.mk (form_box s w t 13 true (fun w => by rw [← hform]; exact form_any s w))
  have H2 := fun w => Kpt.mk (describe_any s hs hform w)
  obtain ⟨s', hs'⟩ : ∃ s', s' = s := ⟨_, rfl⟩
  rw [← hs'] at H2 ⊢
  obtain ⟨key, code, info, hi, field, bit, hf, ic⟩ := s
  have hv : s'.vals = #[.int .u8 key, .int .u16 code, .int .u64 info, .bool hi, .int .i64 field, .int .i64 bit, .bool hf, .bool ic] := by rw [hs']; rfl
  obtain ⟨D, hD⟩ : ∃ D, D = s'.descB := ⟨_, rfl⟩
  rw [← hD] at H2 ⊢
  obtain ⟨n, hn⟩ : ∃ n, n = D.length := ⟨_, rfl⟩
  rw [← hn] at H2 ⊢
  rw [hv] at H2 ⊢
  simp only [Sn.vals] at *
  clear hform hs hs' hD hn
  replace hv := Kpt.mk hv
  go_enter Try.func10, Try.ntmps10
  go_wp2_with (first | (go_at_call 13; refine (H 25).out.mono ?_; rintro e w' ⟨rfl, hB, hb, hlt⟩; have c0 := hB 0; have c1 := hB 1; have c2 := hB 2; have c3 := hB 3; have c4 := hB 4; have c5 := hB 5; have c6 := hB 6; have c7 := hB 7; simp [Sn.vals] at c0 c1 c2 c3 c4 c5 c6 c7; clear hB) | (go_at_call 20; refine (H2 w').out.mono ?_; rintro e w2 ⟨g, cap, rfl, hN⟩))
  go_ret2
  exact ⟨g, cap, rfl, New.trans hb hN⟩
end Go.Proofs.Ytglfkpdbgddpdaa
