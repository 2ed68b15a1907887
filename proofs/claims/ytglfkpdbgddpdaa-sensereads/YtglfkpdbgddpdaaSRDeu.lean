/-
  The document's bytes: Fixed.
-/
import Derived.Test.YtglfkpdbgddpdaaSBig
import Derived.Test.YtglfkpdbgddpdaaSForm
import Derived.Test.YtglfkpdbgddpdaaSSpA
import Derived.Laws.AppendOwnNone
namespace Go.Proofs.Ytglfkpdbgddpdaa
open Go.RowKit
set_option linter.unusedVariables false
set_option linter.unusedSimpArgs false

set_option maxRecDepth 100000 in
set_option maxHeartbeats 4000000 in
theorem rdesc_nn (s : Sn) (hs : s.wf) (hform : s.form = true) (hhi : s.hi = false) (hhf : s.hf = false) (w : World) :
    Calls Try.prog 12 #[.agg s.vals] w fun e w' => ∃ g cap, e = .returned (.tuple #[.slice (some ⟨g, 0, none⟩) 8 cap, .int .i64 0]) ∧ New w w' (.slice (some ⟨g, 0, none⟩) 8 cap) s.descB := by
  have HA : Kpt (∀ W, Calls Try.prog 14 #[.agg s.vals] W fun e w' => e = .returned (.bool true) ∧ Below W.heap.size W w' ∧ Grown W w') := ⟨fun W => by rw [← hform]; exact rform_any s W⟩
  have HI : Kpt (∀ W, Calls Try.prog 21 #[.int .u64 s.info, .int .i64 8] W fun e w' => ∃ g, e = .returned (.slice (some ⟨g, 0, none⟩) 8 8) ∧ New W w' (.slice (some ⟨g, 0, none⟩) 8 8) (bigL s.info 8)) := ⟨fun W => big_any s.info 8 W hs.info.1 hs.info.2 (by decide) (by decide)⟩
  have HC : Kpt (∀ W, Calls Try.prog 21 #[.int .u64 s.code, .int .i64 2] W fun e w' => ∃ g, e = .returned (.slice (some ⟨g, 0, none⟩) 2 2) ∧ New W w' (.slice (some ⟨g, 0, none⟩) 2 2) (bigL s.code 2)) := ⟨fun W => big_any s.code 2 W hs.code.1 (by have := hs.code.2; omega) (by decide) (by decide)⟩
  obtain ⟨V, hV⟩ : ∃ V, V = s.vals := ⟨_, rfl⟩
  have hbox0 : Kpt (Blk (w.alloc (.cells V 25)) w.heap.size s) := ⟨by rw [hV]; exact blk_alloc w s⟩
  obtain ⟨s', hs'⟩ : ∃ s', s' = s := ⟨_, rfl⟩
  have hD : Kpt ((([114, s.key] ++ (bigL s.code 2)) ++ [0, 0, 0, 0]) = s'.descB) := ⟨by
    rw [hs']
    have hc := hs.code; have hi := hs.info
    simp [bigL, B.desc, List.replicate, Sn.descB, Sn.rest, Sn.infoB, Sn.partB, hhi, hhf, Sn.fieldB]
    omega⟩
  obtain ⟨key, code, info, hi, field, bit, hf, ic⟩ := s
  simp only at hhi hhf
  subst hhi hhf
  have hvs : Kpt (s'.vals = #[.int .u8 key, .int .u16 code, .int .u64 info, .bool false, .int .i64 field, .int .i64 bit, .bool false, .bool ic]) := ⟨by rw [hs']; rfl⟩
  have d0 := hs.code.1; have d1 := hs.code.2; have i0 := hs.info.1; have i1 := hs.info.2
  simp only at d0 d1 i0 i1
  rw [← hV] at HA  ⊢
  simp only at HI HC
  simp only [Sn.vals] at hV
  rw [← hs'] at hbox0 ⊢
  subst hV
  clear hs hform
  replace hs' := Kpt.mk hs'
  obtain ⟨j0, hj0, _, _, _⟩ := info_parts Try.info5
  go_enter Try.func12, Try.ntmps12
  go_wp2_with (first
    | (at_builtin; have hm := m3; refine wpList_append_own_none rfl (.tmp 46) (.tmp 47) 27 rfl w1.heap.size 5 j0 1 Try.underlying27 hj0 (.slice (some ⟨ga4, 0, none⟩) 8 ca4) 8 (cels (([114, key] ++ (bigL code 2)) ++ [0, 0, 0, 0])) rfl hoa4.out rfl ?_)
    | (at_builtin; have hm := m2; refine wpList_append_new (w := (wa3.alloc (.cells (cels [0, 0, 0, 0]).toArray 5))) rfl (.tmp 40) (.tmp 44) rfl w1.heap.size (.slice (some ⟨ga3, 0, none⟩) 4 ca3) (.slice (some ⟨wa3.heap.size, 0, none⟩) 4 4) ([114, key] ++ (bigL code 2)) [0, 0, 0, 0] 4 8 rfl rfl (own_of_block (w' := (wa3.alloc (.cells (cels [0, 0, 0, 0]).toArray 5))) hoa3.out (fun g hg => by simp [Value.ownBlock] at hg; subst hg; exact Below.heap_alloc _ _ _ hga3.out.2)) (rd_alloc wa3 [0, 0, 0, 0] 4 rfl) (by simp [hd8, bigL_len, Sn.infoB, Sn.partB, Sn.fieldB]) (by simp [hd8, bigL_len, Sn.infoB, Sn.partB, Sn.fieldB]) (by simp [hd8, bigL_len, Sn.infoB, Sn.partB, Sn.fieldB]) (by decide) (Nat.le_of_lt (Nat.lt_of_le_of_lt hgtp.out (by have := hga3.out.2; simp; try omega))) ?_; intro ga4 ca4 wa4 hoa4 hga4 hgra4; have hBa4 : Kpt (Blk wa4 w.heap.size s') := ⟨(hBa3.out.below (n := wa3.heap.size) ((Below.refl _ _).alloc (Nat.le_refl _) _) hBa3.out.lt).grown hgra4.out (fun e => by simp [Value.ownBlock] at e; have := hgtp.out; have := hB1.out.lt; omega)⟩; have hba4 : Kpt (Below w.heap.size w wa4) := ⟨(hba3.out.alloc (Nat.le_of_lt hBa3.out.lt) _).grown hgra4.out (by have := hBa3.out.lt; simp; try omega) (fun k h => by simp [Value.ownBlock] at h; have := hgtp.out; have := hB1.out.lt; omega)⟩; clear hgtp; have hgtp : Kpt (w1.heap.size ≤ ga4) := ⟨hga4.out.1⟩; have m3 : Kpt True := ⟨trivial⟩; clear c0 c1 c2 c3 c4 c5 c6 c7; have c0 := hBa4.out.box 0; rw [hvs.out] at c0; simp at c0; have c1 := hBa4.out.box 1; rw [hvs.out] at c1; simp at c1; have c2 := hBa4.out.box 2; rw [hvs.out] at c2; simp at c2; have c3 := hBa4.out.box 3; rw [hvs.out] at c3; simp at c3; have c4 := hBa4.out.box 4; rw [hvs.out] at c4; simp at c4; have c5 := hBa4.out.box 5; rw [hvs.out] at c5; simp at c5; have c6 := hBa4.out.box 6; rw [hvs.out] at c6; simp at c6; have c7 := hBa4.out.box 7; rw [hvs.out] at c7; simp at c7; have hvl4 := hBa4.out.lt)
    | (at_builtin; have hm := m1; refine wpList_append_new (w := wc2) rfl (.tmp 34) (.tmp 38) rfl w1.heap.size (.slice (some ⟨w1.heap.size, 0, none⟩) 2 2) (.slice (some ⟨gc2, 0, none⟩) 2 2) [114, key] (bigL code 2) 2 4 rfl rfl hopc2.out (own_rd hNc2.out.1) (by simp [hd8, bigL_len, Sn.infoB, Sn.partB, Sn.fieldB]) (by simp [hd8, bigL_len, Sn.infoB, Sn.partB, Sn.fieldB]) (by simp [hd8, bigL_len, Sn.infoB, Sn.partB, Sn.fieldB]) (by decide) (Nat.le_of_lt (Nat.lt_of_le_of_lt hgtp.out (by have := hlpc2.out; simp; try omega))) ?_; intro ga3 ca3 wa3 hoa3 hga3 hgra3; have hBa3 : Kpt (Blk wa3 w.heap.size s') := ⟨hBc2.out.grown hgra3.out (fun e => by simp [Value.ownBlock] at e; have := hgtp.out; have := hB1.out.lt; omega)⟩; have hba3 : Kpt (Below w.heap.size w wa3) := ⟨hbc2.out.grown hgra3.out (by have := hBc2.out.lt; simp; try omega) (fun k h => by simp [Value.ownBlock] at h; have := hgtp.out; have := hB1.out.lt; omega)⟩; clear hgtp; have hgtp : Kpt (w1.heap.size ≤ ga3) := ⟨hga3.out.1⟩; have m2 : Kpt True := ⟨trivial⟩; clear c0 c1 c2 c3 c4 c5 c6 c7; have c0 := hBa3.out.box 0; rw [hvs.out] at c0; simp at c0; have c1 := hBa3.out.box 1; rw [hvs.out] at c1; simp at c1; have c2 := hBa3.out.box 2; rw [hvs.out] at c2; simp at c2; have c3 := hBa3.out.box 3; rw [hvs.out] at c3; simp at c3; have c4 := hBa3.out.box 4; rw [hvs.out] at c4; simp at c4; have c5 := hBa3.out.box 5; rw [hvs.out] at c5; simp at c5; have c6 := hBa3.out.box 6; rw [hvs.out] at c6; simp at c6; have c7 := hBa3.out.box 7; rw [hvs.out] at c7; simp at c7; have hvl3 := hBa3.out.lt)
    | (go_at_call 21; refine (HC.out (w1.alloc (.cells (cels [114, key]).toArray 5))).mono ?_; rintro e wc2 ⟨gc2, rfl, hNc2⟩; replace hNc2 := Kpt.mk hNc2; have hBc2 : Kpt (Blk wc2 w.heap.size s') := ⟨(hB1.out.below (n := w1.heap.size) ((Below.refl _ _).alloc (Nat.le_refl _) _) hB1.out.lt : Blk (w1.alloc (.cells (cels [114, key]).toArray 5)) w.heap.size s').below hNc2.out.2 (hB1.out.below (n := w1.heap.size) ((Below.refl _ _).alloc (Nat.le_refl _) _) hB1.out.lt : Blk (w1.alloc (.cells (cels [114, key]).toArray 5)) w.heap.size s').lt⟩; have hbc2 : Kpt (Below w.heap.size w wc2) := ⟨(hb1.out.alloc (Nat.le_of_lt hB1.out.lt) _ : Below w.heap.size w (w1.alloc (.cells (cels [114, key]).toArray 5))).trans (hNc2.out.2.mono (Nat.le_of_lt (hB1.out.below (n := w1.heap.size) ((Below.refl _ _).alloc (Nat.le_refl _) _) hB1.out.lt : Blk (w1.alloc (.cells (cels [114, key]).toArray 5)) w.heap.size s').lt))⟩; have hopc2 : Kpt (wc2.ownsRow w1.heap.size 5 1 (.slice (some ⟨w1.heap.size, 0, none⟩) 2 2) 2 (cels [114, key])) := ⟨own_of_block (own_alloc w1 w1.heap.size 2 w1.heap.size [114, key] rfl rfl (by simp) (Nat.le_refl _)) (fun g hg => by simp [Value.ownBlock] at hg; subst hg; exact hNc2.out.2.block _ (show w1.heap.size < (w1.alloc (.cells (cels [114, key]).toArray 5)).heap.size by simp))⟩; have hlpc2 : Kpt (w1.heap.size < wc2.heap.size) := ⟨Nat.lt_of_lt_of_le (show w1.heap.size < (w1.alloc (.cells (cels [114, key]).toArray 5)).heap.size by simp) hNc2.out.2.size⟩; have m1 : Kpt True := ⟨trivial⟩; clear c0 c1 c2 c3 c4 c5 c6 c7; have c0 := hBc2.out.box 0; rw [hvs.out] at c0; simp at c0; have c1 := hBc2.out.box 1; rw [hvs.out] at c1; simp at c1; have c2 := hBc2.out.box 2; rw [hvs.out] at c2; simp at c2; have c3 := hBc2.out.box 3; rw [hvs.out] at c3; simp at c3; have c4 := hBc2.out.box 4; rw [hvs.out] at c4; simp at c4; have c5 := hBc2.out.box 5; rw [hvs.out] at c5; simp at c5; have c6 := hBc2.out.box 6; rw [hvs.out] at c6; simp at c6; have c7 := hBc2.out.box 7; rw [hvs.out] at c7; simp at c7; have hvl2 := hBc2.out.lt; have hgtp : Kpt (w1.heap.size ≤ w1.heap.size) := ⟨Nat.le_refl _⟩)
    | (go_at_call 14; refine (HA.out _).mono ?_; rintro e w1 ⟨rfl, hN1, _⟩; have hB1 : Kpt (Blk w1 w.heap.size s') := ⟨hbox0.out.below hN1 hbox0.out.lt⟩; have hb1 : Kpt (Below w.heap.size w w1) := ⟨((Below.refl _ _).alloc (Nat.le_refl _) _).trans (hN1.mono (by simp))⟩; clear hN1; have c0 := hB1.out.box 0; rw [hvs.out] at c0; simp at c0; have c1 := hB1.out.box 1; rw [hvs.out] at c1; simp at c1; have c2 := hB1.out.box 2; rw [hvs.out] at c2; simp at c2; have c3 := hB1.out.box 3; rw [hvs.out] at c3; simp at c3; have c4 := hB1.out.box 4; rw [hvs.out] at c4; simp at c4; have c5 := hB1.out.box 5; rw [hvs.out] at c5; simp at c5; have c6 := hB1.out.box 6; rw [hvs.out] at c6; simp at c6; have c7 := hB1.out.box 7; rw [hvs.out] at c7; simp at c7; have hlt1 := hB1.out.lt))
  go_ret2
  refine ⟨_, _, rfl, ?_, hba4.out⟩
  rw [← hD.out]
  have := own_re (b' := w.heap.size) hoa4.out (by have := hgtp.out; have := hB1.out.lt; omega)
  simpa [bigL_len, Sn.fieldB] using this

end Go.Proofs.Ytglfkpdbgddpdaa
