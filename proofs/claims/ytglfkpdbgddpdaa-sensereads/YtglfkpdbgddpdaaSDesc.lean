/-
  append onto a row of one's own; the contracts of describe and Described.
-/
import Derived.Test.YtglfkpdbgddpdaaSPart
namespace Go.Proofs.Ytglfkpdbgddpdaa
open Go.RowKit
set_option linter.unusedVariables false
set_option linter.unusedSimpArgs false

theorem own_shape {w : World} {base n : Nat} {v : Value} {xs : List Value} (h : w.ownsRow base 5 1 v n xs) (h0 : 0 < n) : ∃ g cap, v = .slice (some ⟨g, 0, none⟩) n cap ∧ base ≤ g ∧ g < w.heap.size := by
  rcases id h.2 with ⟨_, h'⟩ | ⟨g, cap, cur, h', hb, _⟩
  · omega
  · exact ⟨g, cap, h', hb, (World.ownsRow.lt h g (by rw [h']; rfl)).2⟩

theorem own_re {w : World} {b b' n g k c : Nat} {xs : List Value} (h : w.ownsRow b 5 1 (.slice (some ⟨g, 0, none⟩) k c) n xs) (hb : b' ≤ g) : w.ownsRow b' 5 1 (.slice (some ⟨g, 0, none⟩) k c) n xs := by
  refine ⟨h.1, ?_⟩
  rcases h.2 with ⟨h1, _⟩ | ⟨g', cap, cur, e, _, rest⟩
  · cases h1
  · have : g' = g := by simp at e; exact e.1.symm
    subst this
    exact .inr ⟨g', cap, cur, e, hb, rest⟩

/-- append(v, sv...). -/
theorem wpList_append_new {w : World} {ops : Array Oper} {rest : List Oper} {o : Oper} {a : Act} {Q : Exit → Act → World → Prop} (hgd : o.guard = none) (d s : Operand)
    (ho : o.op = .call { callee := .builtin .append, args := #[d, s], argTypes := #[27, 27] })
    (base : Nat) (v sv : Value) (zs ds : List Int) (m n : Nat) (hd : a.eval d = v) (hs : a.eval s = sv) (hown : w.ownsRow base 5 1 v m (cels zs)) (hrd : RdAt w sv ds) (hpos : 0 < ds.length) (hm : zs.length = m) (hn : m + ds.length = n) (hlen : n ≤ 10000) (hb : base ≤ w.heap.size)
    (h : ∀ g cap w', Kpt (w'.ownsRow base 5 1 (.slice (some ⟨g, 0, none⟩) n cap) n (cels (zs ++ ds))) → Kpt (base ≤ g ∧ g < w'.heap.size) → Kpt (w.grownBy w' v.ownBlock) →
      wpList Try.prog ops Q rest (a.put o.dst (.slice (some ⟨g, 0, none⟩) n cap)) w') : wpList Try.prog ops Q (o :: rest) a w := by
  subst hm hn
  obtain ⟨i0, hi0, hz0, hz1, hz2⟩ := info_parts Try.info5
  obtain ⟨sa, sc, rfl, hsn, hsl, hsr⟩ := hrd
  rcases hsr with h1 | ⟨b, soff, rfl, hc⟩
  · omega
  refine wpList_append_own _ hgd d s 27 ho base 5 i0 (.int .u8 0) 1 1 Try.underlying27 hi0 hz0 hz1 hz2 rfl (by decide) v zs.length (cels zs) hd hown ⟨b, soff, none⟩ ds.length sc (cels ds) hs (by simp) (fun j u hu => by rw [Go.WideShapes.add_plain]; exact hc j u hu) (cels_one _) (by unfold maxLen; omega) (by omega) hb ?_
  intro v1 w1 hown1 hg1 _
  obtain ⟨g, cap, rfl, hg, hlt⟩ := own_shape hown1 (by omega)
  exact h g cap w1 ⟨by rw [cels_append]; exact hown1⟩ ⟨hg, hlt⟩ ⟨hg1⟩

def hd8 (key code : Int) : List Int := [114, key, code / 256, code % 256, 0, 0, 0, 0]
theorem hd8_asc (key code : Int) (h0 : 0 ≤ code) (h1 : code ≤ 65535) : B.asc [114, key, 0, 0, 0, 0, 0, 0] 2 2 code 2 = hd8 key code := by
  simp [B.asc, hd8]
  omega

set_option maxRecDepth 100000 in
set_option maxHeartbeats 2000000 in
theorem describe_nn (s : Sn) (hs : s.wf) (hform : s.form = true) (hhi : s.hi = false) (hhf : s.hf = false) (w : World) :
    Calls Try.prog 20 #[.agg s.vals] w fun e w' => ∃ g cap, e = .returned (.slice (some ⟨g, 0, none⟩) 8 cap) ∧ New w w' (.slice (some ⟨g, 0, none⟩) 8 cap) s.descB := by
  obtain ⟨s', hs'⟩ : ∃ s', s' = s := ⟨_, rfl⟩
  rw [← hs'] at hs hform ⊢
  have HI := fun w => Kpt.mk (infoPart_any s' hs w)
  have HF := fun w => Kpt.mk (fieldPart_any s' hform w)
  obtain ⟨key, code, info, hi, field, bit, hf, ic⟩ := s
  simp only at hhi hhf
  subst hhi hhf
  have hvals : s'.vals = #[.int .u8 key, .int .u16 code, .int .u64 info, .bool false, .int .i64 field, .int .i64 bit, .bool false, .bool ic] := by rw [hs']; rfl
  have d0 : 0 ≤ code := by have := hs.code.1; rw [hs'] at this; exact this
  have d1 : code ≤ 65535 := by have := hs.code.2; rw [hs'] at this; exact this
  have hD : Kpt ((hd8 key code).set 7 0 = s'.descB) := ⟨by rw [hs']; simp [hd8, Sn.descB, Sn.rest, Sn.infoB, Sn.partB, Sn.fieldB]⟩
  have H : Kpt (∀ w1 : World, w1.ownsRow w.heap.size 5 1 (.slice (some ⟨w.heap.size + 1, 0, none⟩) 8 8) 8 (cels (List.replicate 8 0)) → Calls Try.prog 27 #[.slice (some ⟨w.heap.size + 1, 0, none⟩) 8 8, .int .i64 2, .int .i64 2, .int .u64 code] ((w1.setCell ⟨w.heap.size + 1, 0, none⟩ (.int .u8 114)).setCell ⟨w.heap.size + 1, 1, none⟩ (.int .u8 key)) fun e w' => ∃ g, e = .returned (.slice (some ⟨g, 0, none⟩) 8 8) ∧ New ((w1.setCell ⟨w.heap.size + 1, 0, none⟩ (.int .u8 114)).setCell ⟨w.heap.size + 1, 1, none⟩ (.int .u8 key)) w' (.slice (some ⟨g, 0, none⟩) 8 8) (hd8 key code)) := by
    refine ⟨fun w1 h1 => ?_⟩
    have := put_new' (w.heap.size + 1) 8 [114, key, 0, 0, 0, 0, 0, 0] 2 2 code ((w1.setCell ⟨w.heap.size + 1, 0, none⟩ (.int .u8 114)).setCell ⟨w.heap.size + 1, 1, none⟩ (.int .u8 key)) w.heap.size rfl (own_set (own_set h1 0 114) 1 key) (by decide) (by decide) (by decide) (by decide) d0 (by omega)
    rw [hd8_asc key code d0 d1] at this
    exact this
  rw [hvals] at HI HF ⊢
  replace hvals := Kpt.mk hvals
  clear hs hform hs'
  go_enter Try.func20, Try.ntmps20
  go_wp2_with (first
    | (go_at_call 27; refine (H.out w1 hown.out).mono ?_; rintro e w2 ⟨g2, rfl, ho2⟩; replace ho2 := Kpt.mk ho2; have hltn : Kpt (w.heap.size + 1 < ((w1.setCell ⟨w.heap.size + 1, 0, none⟩ (.int .u8 114)).setCell ⟨w.heap.size + 1, 1, none⟩ (.int .u8 key)).heap.size) := ⟨by have := hlt.out; simpa using this⟩; have hg2 : Kpt (w.heap.size + 1 ≤ g2 ∧ g2 < w2.heap.size) := ⟨by have := (World.ownsRow.lt ho2.out.1 g2 rfl).1; have := hltn.out; omega, (World.ownsRow.lt ho2.out.1 g2 rfl).2⟩; have hB2 : Kpt (Box w2 w.heap.size s') := ⟨Box.below (Box.set (Box.set (Box.mk0 hbox.out hvals.out) (by omega)) (by omega)) ho2.out.2 (by have := hltn.out; omega)⟩; have hb2 : Kpt (Below w.heap.size w w2) := ⟨((hbel.out.setCell (Nat.le_succ _) _).setCell (Nat.le_succ _) _).trans (ho2.out.2.mono (by have := hltn.out; omega))⟩; have ho2' : Kpt (w2.ownsRow w.heap.size 5 1 (.slice (some ⟨g2, 0, none⟩) 8 8) 8 (cels (hd8 key code))) := ⟨own_base ho2.out.1 (by have := hltn.out; omega)⟩; clear q0 q1 p0 f0 p1 f1; have c0 := hB2.out 0; rw [hvals.out] at c0; simp at c0; have c1 := hB2.out 1; rw [hvals.out] at c1; simp at c1; have c2 := hB2.out 2; rw [hvals.out] at c2; simp at c2; have c3 := hB2.out 3; rw [hvals.out] at c3; simp at c3; have c4 := hB2.out 4; rw [hvals.out] at c4; simp at c4; have c5 := hB2.out 5; rw [hvals.out] at c5; simp at c5; have c6 := hB2.out 6; rw [hvals.out] at c6; simp at c6; have c7 := hB2.out 7; rw [hvals.out] at c7; simp at c7; have p7 := own_facts ho2'.out 7 (by decide); have f7 := ho2'.out.frozenAt 7)
    | (at_make; refine wpList_make_box w rfl _ _ rfl 8 rfl rfl (by decide) ?_; intro w1 hbox hown hbel; have hlt : Kpt (w.heap.size + 1 < w1.heap.size) := ⟨(World.ownsRow.lt hown.out (w.heap.size + 1) rfl).2⟩; have q0 := hbox.out 0; have q1 := hbox.out 1; simp at q0 q1; have p0 := own_facts hown.out 0 (by decide); have f0 := hown.out.frozenAt 0; have p1 := own_facts hown.out 1 (by decide); have f1 := hown.out.frozenAt 1; simp at p0 p1))
  go_ret
  refine ⟨_, _, rfl, ?_, hb2.out.setCell (by have := hg2.out.1; show w.heap.size ≤ g2; omega) _⟩
  rw [← hD.out]
  have := own_set (own_re (b' := w.heap.size) ho2'.out (by have := hg2.out.1; omega)) 7 0
  rw [List.length_set]
  simpa [hd8, Sn.infoB, Sn.partB, Sn.fieldB] using this

set_option maxRecDepth 100000 in
set_option maxHeartbeats 2000000 in
theorem describe_nf (s : Sn) (hs : s.wf) (hform : s.form = true) (hhi : s.hi = false) (hhf : s.hf = true) (w : World) :
    Calls Try.prog 20 #[.agg s.vals] w fun e w' => ∃ g cap, e = .returned (.slice (some ⟨g, 0, none⟩) 16 cap) ∧ New w w' (.slice (some ⟨g, 0, none⟩) 16 cap) s.descB := by
  obtain ⟨s', hs'⟩ : ∃ s', s' = s := ⟨_, rfl⟩
  rw [← hs'] at hs hform ⊢
  have HI := fun w => Kpt.mk (infoPart_any s' hs w)
  have HF := fun w => Kpt.mk (fieldPart_any s' hform w)
  obtain ⟨key, code, info, hi, field, bit, hf, ic⟩ := s
  simp only at hhi hhf
  subst hhi hhf
  have hvals : s'.vals = #[.int .u8 key, .int .u16 code, .int .u64 info, .bool false, .int .i64 field, .int .i64 bit, .bool true, .bool ic] := by rw [hs']; rfl
  have d0 : 0 ≤ code := by have := hs.code.1; rw [hs'] at this; exact this
  have d1 : code ≤ 65535 := by have := hs.code.2; rw [hs'] at this; exact this
  have hD : Kpt (((hd8 key code) ++ s'.partB).set 7 8 = s'.descB) := ⟨by rw [hs']; simp [hd8, Sn.descB, Sn.rest, Sn.infoB, Sn.partB, Sn.fieldB]⟩
  have H : Kpt (∀ w1 : World, w1.ownsRow w.heap.size 5 1 (.slice (some ⟨w.heap.size + 1, 0, none⟩) 8 8) 8 (cels (List.replicate 8 0)) → Calls Try.prog 27 #[.slice (some ⟨w.heap.size + 1, 0, none⟩) 8 8, .int .i64 2, .int .i64 2, .int .u64 code] ((w1.setCell ⟨w.heap.size + 1, 0, none⟩ (.int .u8 114)).setCell ⟨w.heap.size + 1, 1, none⟩ (.int .u8 key)) fun e w' => ∃ g, e = .returned (.slice (some ⟨g, 0, none⟩) 8 8) ∧ New ((w1.setCell ⟨w.heap.size + 1, 0, none⟩ (.int .u8 114)).setCell ⟨w.heap.size + 1, 1, none⟩ (.int .u8 key)) w' (.slice (some ⟨g, 0, none⟩) 8 8) (hd8 key code)) := by
    refine ⟨fun w1 h1 => ?_⟩
    have := put_new' (w.heap.size + 1) 8 [114, key, 0, 0, 0, 0, 0, 0] 2 2 code ((w1.setCell ⟨w.heap.size + 1, 0, none⟩ (.int .u8 114)).setCell ⟨w.heap.size + 1, 1, none⟩ (.int .u8 key)) w.heap.size rfl (own_set (own_set h1 0 114) 1 key) (by decide) (by decide) (by decide) (by decide) d0 (by omega)
    rw [hd8_asc key code d0 d1] at this
    exact this
  rw [hvals] at HI HF ⊢
  replace hvals := Kpt.mk hvals
  clear hs hform hs'
  go_enter Try.func20, Try.ntmps20
  go_wp2_with (first
    | (at_builtin; refine wpList_append_new (w := wc2) rfl (.tmp 24) (.tmp 26) rfl (w.heap.size + 1) (.slice (some ⟨g2, 0, none⟩) 8 8) (.slice (some ⟨gc2, 0, none⟩) 8 8) (hd8 key code) s'.partB 8 16 rfl rfl (own_of_block (own_re ho2'.out hg2.out.1) (fun g hg => by simp [Value.ownBlock] at hg; subst hg; exact hNc2.out.2.block _ hg2.out.2)) (own_rd hNc2.out.1) (by simp [Sn.infoB, Sn.partB, Sn.fieldB]) (by simp [hd8, Sn.infoB]) (by simp [Sn.infoB, Sn.partB, Sn.fieldB]) (by decide) (by have := hNc2.out.2.size; have := hg2.out; omega) ?_; intro ga2 capa2 wa2 hoa2 hga2 hgra2; have hBa2 : Kpt (Box wa2 w.heap.size s') := ⟨fun i => ((World.cell?_of_block (w := wc2) (a := ⟨w.heap.size, i, none⟩) (hgra2.out.block w.heap.size (by have := hNc2.out.2.size; have := hg2.out; omega) (fun e => by simp [Value.ownBlock] at e; have := hg2.out; omega))).trans (World.cell?_of_block (w := w2) (a := ⟨w.heap.size, i, none⟩) (hNc2.out.2.block w.heap.size (by have := hg2.out; omega)))).trans (hB2.out i)⟩; have hba2 : Kpt (Below w.heap.size w wa2) := ⟨(hb2.out.trans (hNc2.out.2.mono (by have := hg2.out; omega))).grown hgra2.out (by have := hNc2.out.2.size; have := hg2.out; omega) (fun k h => by simp [Value.ownBlock] at h; have := hg2.out; omega)⟩; clear c0 c1 c2 c3 c4 c5 c6 c7 p7 f7; have c0 := hBa2.out 0; rw [hvals.out] at c0; simp at c0; have c1 := hBa2.out 1; rw [hvals.out] at c1; simp at c1; have c2 := hBa2.out 2; rw [hvals.out] at c2; simp at c2; have c3 := hBa2.out 3; rw [hvals.out] at c3; simp at c3; have c4 := hBa2.out 4; rw [hvals.out] at c4; simp at c4; have c5 := hBa2.out 5; rw [hvals.out] at c5; simp at c5; have c6 := hBa2.out 6; rw [hvals.out] at c6; simp at c6; have c7 := hBa2.out 7; rw [hvals.out] at c7; simp at c7; have p7 := own_facts hoa2.out 7 (by decide); have f7 := hoa2.out.frozenAt 7)
    | (go_at_call 30; refine (HF w2).out.mono ?_; rintro e wc2 ⟨gc2, rfl, hNc2⟩; replace hNc2 := Kpt.mk hNc2)
    | (go_at_call 27; refine (H.out w1 hown.out).mono ?_; rintro e w2 ⟨g2, rfl, ho2⟩; replace ho2 := Kpt.mk ho2; have hltn : Kpt (w.heap.size + 1 < ((w1.setCell ⟨w.heap.size + 1, 0, none⟩ (.int .u8 114)).setCell ⟨w.heap.size + 1, 1, none⟩ (.int .u8 key)).heap.size) := ⟨by have := hlt.out; simpa using this⟩; have hg2 : Kpt (w.heap.size + 1 ≤ g2 ∧ g2 < w2.heap.size) := ⟨by have := (World.ownsRow.lt ho2.out.1 g2 rfl).1; have := hltn.out; omega, (World.ownsRow.lt ho2.out.1 g2 rfl).2⟩; have hB2 : Kpt (Box w2 w.heap.size s') := ⟨Box.below (Box.set (Box.set (Box.mk0 hbox.out hvals.out) (by omega)) (by omega)) ho2.out.2 (by have := hltn.out; omega)⟩; have hb2 : Kpt (Below w.heap.size w w2) := ⟨((hbel.out.setCell (Nat.le_succ _) _).setCell (Nat.le_succ _) _).trans (ho2.out.2.mono (by have := hltn.out; omega))⟩; have ho2' : Kpt (w2.ownsRow w.heap.size 5 1 (.slice (some ⟨g2, 0, none⟩) 8 8) 8 (cels (hd8 key code))) := ⟨own_base ho2.out.1 (by have := hltn.out; omega)⟩; clear q0 q1 p0 f0 p1 f1; have c0 := hB2.out 0; rw [hvals.out] at c0; simp at c0; have c1 := hB2.out 1; rw [hvals.out] at c1; simp at c1; have c2 := hB2.out 2; rw [hvals.out] at c2; simp at c2; have c3 := hB2.out 3; rw [hvals.out] at c3; simp at c3; have c4 := hB2.out 4; rw [hvals.out] at c4; simp at c4; have c5 := hB2.out 5; rw [hvals.out] at c5; simp at c5; have c6 := hB2.out 6; rw [hvals.out] at c6; simp at c6; have c7 := hB2.out 7; rw [hvals.out] at c7; simp at c7; have p7 := own_facts ho2'.out 7 (by decide); have f7 := ho2'.out.frozenAt 7)
    | (at_make; refine wpList_make_box w rfl _ _ rfl 8 rfl rfl (by decide) ?_; intro w1 hbox hown hbel; have hlt : Kpt (w.heap.size + 1 < w1.heap.size) := ⟨(World.ownsRow.lt hown.out (w.heap.size + 1) rfl).2⟩; have q0 := hbox.out 0; have q1 := hbox.out 1; simp at q0 q1; have p0 := own_facts hown.out 0 (by decide); have f0 := hown.out.frozenAt 0; have p1 := own_facts hown.out 1 (by decide); have f1 := hown.out.frozenAt 1; simp at p0 p1))
  go_ret
  refine ⟨_, _, rfl, ?_, hba2.out.setCell (by have := hga2.out.1; show w.heap.size ≤ ga2; omega) _⟩
  rw [← hD.out]
  have := own_set (own_re (b' := w.heap.size) hoa2.out (by have := hga2.out.1; omega)) 7 8
  rw [List.length_set]
  simpa [hd8, Sn.infoB, Sn.partB, Sn.fieldB] using this

set_option maxRecDepth 100000 in
set_option maxHeartbeats 2000000 in
theorem describe_in (s : Sn) (hs : s.wf) (hform : s.form = true) (hhi : s.hi = true) (hhf : s.hf = false) (w : World) :
    Calls Try.prog 20 #[.agg s.vals] w fun e w' => ∃ g cap, e = .returned (.slice (some ⟨g, 0, none⟩) 20 cap) ∧ New w w' (.slice (some ⟨g, 0, none⟩) 20 cap) s.descB := by
  obtain ⟨s', hs'⟩ : ∃ s', s' = s := ⟨_, rfl⟩
  rw [← hs'] at hs hform ⊢
  have HI := fun w => Kpt.mk (infoPart_any s' hs w)
  have HF := fun w => Kpt.mk (fieldPart_any s' hform w)
  obtain ⟨key, code, info, hi, field, bit, hf, ic⟩ := s
  simp only at hhi hhf
  subst hhi hhf
  have hvals : s'.vals = #[.int .u8 key, .int .u16 code, .int .u64 info, .bool true, .int .i64 field, .int .i64 bit, .bool false, .bool ic] := by rw [hs']; rfl
  have d0 : 0 ≤ code := by have := hs.code.1; rw [hs'] at this; exact this
  have d1 : code ≤ 65535 := by have := hs.code.2; rw [hs'] at this; exact this
  have hD : Kpt ((hd8 key code ++ s'.infoB).set 7 12 = s'.descB) := ⟨by rw [hs']; simp [hd8, Sn.descB, Sn.rest, Sn.infoB, Sn.partB, Sn.fieldB]⟩
  have H : Kpt (∀ w1 : World, w1.ownsRow w.heap.size 5 1 (.slice (some ⟨w.heap.size + 1, 0, none⟩) 8 8) 8 (cels (List.replicate 8 0)) → Calls Try.prog 27 #[.slice (some ⟨w.heap.size + 1, 0, none⟩) 8 8, .int .i64 2, .int .i64 2, .int .u64 code] ((w1.setCell ⟨w.heap.size + 1, 0, none⟩ (.int .u8 114)).setCell ⟨w.heap.size + 1, 1, none⟩ (.int .u8 key)) fun e w' => ∃ g, e = .returned (.slice (some ⟨g, 0, none⟩) 8 8) ∧ New ((w1.setCell ⟨w.heap.size + 1, 0, none⟩ (.int .u8 114)).setCell ⟨w.heap.size + 1, 1, none⟩ (.int .u8 key)) w' (.slice (some ⟨g, 0, none⟩) 8 8) (hd8 key code)) := by
    refine ⟨fun w1 h1 => ?_⟩
    have := put_new' (w.heap.size + 1) 8 [114, key, 0, 0, 0, 0, 0, 0] 2 2 code ((w1.setCell ⟨w.heap.size + 1, 0, none⟩ (.int .u8 114)).setCell ⟨w.heap.size + 1, 1, none⟩ (.int .u8 key)) w.heap.size rfl (own_set (own_set h1 0 114) 1 key) (by decide) (by decide) (by decide) (by decide) d0 (by omega)
    rw [hd8_asc key code d0 d1] at this
    exact this
  rw [hvals] at HI HF ⊢
  replace hvals := Kpt.mk hvals
  clear hs hform hs'
  go_enter Try.func20, Try.ntmps20
  go_wp2_with (first
    | (at_builtin; refine wpList_append_new (w := wc1) rfl (.tmp 18) (.tmp 20) rfl (w.heap.size + 1) (.slice (some ⟨g2, 0, none⟩) 8 8) (.slice (some ⟨gc1, 0, none⟩) 12 12) (hd8 key code) s'.infoB 8 20 rfl rfl (own_of_block (own_re ho2'.out hg2.out.1) (fun g hg => by simp [Value.ownBlock] at hg; subst hg; exact hNc1.out.2.block _ hg2.out.2)) (own_rd hNc1.out.1) (by simp [Sn.infoB, Sn.partB, Sn.fieldB]) (by simp [hd8, Sn.infoB]) (by simp [Sn.infoB, Sn.partB, Sn.fieldB]) (by decide) (by have := hNc1.out.2.size; have := hg2.out; omega) ?_; intro ga1 capa1 wa1 hoa1 hga1 hgra1; have hBa1 : Kpt (Box wa1 w.heap.size s') := ⟨fun i => ((World.cell?_of_block (w := wc1) (a := ⟨w.heap.size, i, none⟩) (hgra1.out.block w.heap.size (by have := hNc1.out.2.size; have := hg2.out; omega) (fun e => by simp [Value.ownBlock] at e; have := hg2.out; omega))).trans (World.cell?_of_block (w := w2) (a := ⟨w.heap.size, i, none⟩) (hNc1.out.2.block w.heap.size (by have := hg2.out; omega)))).trans (hB2.out i)⟩; have hba1 : Kpt (Below w.heap.size w wa1) := ⟨(hb2.out.trans (hNc1.out.2.mono (by have := hg2.out; omega))).grown hgra1.out (by have := hNc1.out.2.size; have := hg2.out; omega) (fun k h => by simp [Value.ownBlock] at h; have := hg2.out; omega)⟩; clear c0 c1 c2 c3 c4 c5 c6 c7 p7 f7; have c0 := hBa1.out 0; rw [hvals.out] at c0; simp at c0; have c1 := hBa1.out 1; rw [hvals.out] at c1; simp at c1; have c2 := hBa1.out 2; rw [hvals.out] at c2; simp at c2; have c3 := hBa1.out 3; rw [hvals.out] at c3; simp at c3; have c4 := hBa1.out 4; rw [hvals.out] at c4; simp at c4; have c5 := hBa1.out 5; rw [hvals.out] at c5; simp at c5; have c6 := hBa1.out 6; rw [hvals.out] at c6; simp at c6; have c7 := hBa1.out 7; rw [hvals.out] at c7; simp at c7; have p7 := own_facts hoa1.out 7 (by decide); have f7 := hoa1.out.frozenAt 7)
    | (go_at_call 29; refine (HI w2).out.mono ?_; rintro e wc1 ⟨gc1, rfl, hNc1⟩; replace hNc1 := Kpt.mk hNc1)
    | (go_at_call 27; refine (H.out w1 hown.out).mono ?_; rintro e w2 ⟨g2, rfl, ho2⟩; replace ho2 := Kpt.mk ho2; have hltn : Kpt (w.heap.size + 1 < ((w1.setCell ⟨w.heap.size + 1, 0, none⟩ (.int .u8 114)).setCell ⟨w.heap.size + 1, 1, none⟩ (.int .u8 key)).heap.size) := ⟨by have := hlt.out; simpa using this⟩; have hg2 : Kpt (w.heap.size + 1 ≤ g2 ∧ g2 < w2.heap.size) := ⟨by have := (World.ownsRow.lt ho2.out.1 g2 rfl).1; have := hltn.out; omega, (World.ownsRow.lt ho2.out.1 g2 rfl).2⟩; have hB2 : Kpt (Box w2 w.heap.size s') := ⟨Box.below (Box.set (Box.set (Box.mk0 hbox.out hvals.out) (by omega)) (by omega)) ho2.out.2 (by have := hltn.out; omega)⟩; have hb2 : Kpt (Below w.heap.size w w2) := ⟨((hbel.out.setCell (Nat.le_succ _) _).setCell (Nat.le_succ _) _).trans (ho2.out.2.mono (by have := hltn.out; omega))⟩; have ho2' : Kpt (w2.ownsRow w.heap.size 5 1 (.slice (some ⟨g2, 0, none⟩) 8 8) 8 (cels (hd8 key code))) := ⟨own_base ho2.out.1 (by have := hltn.out; omega)⟩; clear q0 q1 p0 f0 p1 f1; have c0 := hB2.out 0; rw [hvals.out] at c0; simp at c0; have c1 := hB2.out 1; rw [hvals.out] at c1; simp at c1; have c2 := hB2.out 2; rw [hvals.out] at c2; simp at c2; have c3 := hB2.out 3; rw [hvals.out] at c3; simp at c3; have c4 := hB2.out 4; rw [hvals.out] at c4; simp at c4; have c5 := hB2.out 5; rw [hvals.out] at c5; simp at c5; have c6 := hB2.out 6; rw [hvals.out] at c6; simp at c6; have c7 := hB2.out 7; rw [hvals.out] at c7; simp at c7; have p7 := own_facts ho2'.out 7 (by decide); have f7 := ho2'.out.frozenAt 7)
    | (at_make; refine wpList_make_box w rfl _ _ rfl 8 rfl rfl (by decide) ?_; intro w1 hbox hown hbel; have hlt : Kpt (w.heap.size + 1 < w1.heap.size) := ⟨(World.ownsRow.lt hown.out (w.heap.size + 1) rfl).2⟩; have q0 := hbox.out 0; have q1 := hbox.out 1; simp at q0 q1; have p0 := own_facts hown.out 0 (by decide); have f0 := hown.out.frozenAt 0; have p1 := own_facts hown.out 1 (by decide); have f1 := hown.out.frozenAt 1; simp at p0 p1))
  go_ret
  refine ⟨_, _, rfl, ?_, hba1.out.setCell (by have := hga1.out.1; show w.heap.size ≤ ga1; omega) _⟩
  rw [← hD.out]
  have := own_set (own_re (b' := w.heap.size) hoa1.out (by have := hga1.out.1; omega)) 7 12
  rw [List.length_set]
  simpa [hd8, Sn.infoB, Sn.partB, Sn.fieldB] using this

set_option maxRecDepth 100000 in
set_option maxHeartbeats 2000000 in
theorem describe_if (s : Sn) (hs : s.wf) (hform : s.form = true) (hhi : s.hi = true) (hhf : s.hf = true) (w : World) :
    Calls Try.prog 20 #[.agg s.vals] w fun e w' => ∃ g cap, e = .returned (.slice (some ⟨g, 0, none⟩) 28 cap) ∧ New w w' (.slice (some ⟨g, 0, none⟩) 28 cap) s.descB := by
  obtain ⟨s', hs'⟩ : ∃ s', s' = s := ⟨_, rfl⟩
  rw [← hs'] at hs hform ⊢
  have HI := fun w => Kpt.mk (infoPart_any s' hs w)
  have HF := fun w => Kpt.mk (fieldPart_any s' hform w)
  obtain ⟨key, code, info, hi, field, bit, hf, ic⟩ := s
  simp only at hhi hhf
  subst hhi hhf
  have hvals : s'.vals = #[.int .u8 key, .int .u16 code, .int .u64 info, .bool true, .int .i64 field, .int .i64 bit, .bool true, .bool ic] := by rw [hs']; rfl
  have d0 : 0 ≤ code := by have := hs.code.1; rw [hs'] at this; exact this
  have d1 : code ≤ 65535 := by have := hs.code.2; rw [hs'] at this; exact this
  have hD : Kpt (((hd8 key code ++ s'.infoB) ++ s'.partB).set 7 20 = s'.descB) := ⟨by rw [hs']; simp [hd8, Sn.descB, Sn.rest, Sn.infoB, Sn.partB, Sn.fieldB]⟩
  have H : Kpt (∀ w1 : World, w1.ownsRow w.heap.size 5 1 (.slice (some ⟨w.heap.size + 1, 0, none⟩) 8 8) 8 (cels (List.replicate 8 0)) → Calls Try.prog 27 #[.slice (some ⟨w.heap.size + 1, 0, none⟩) 8 8, .int .i64 2, .int .i64 2, .int .u64 code] ((w1.setCell ⟨w.heap.size + 1, 0, none⟩ (.int .u8 114)).setCell ⟨w.heap.size + 1, 1, none⟩ (.int .u8 key)) fun e w' => ∃ g, e = .returned (.slice (some ⟨g, 0, none⟩) 8 8) ∧ New ((w1.setCell ⟨w.heap.size + 1, 0, none⟩ (.int .u8 114)).setCell ⟨w.heap.size + 1, 1, none⟩ (.int .u8 key)) w' (.slice (some ⟨g, 0, none⟩) 8 8) (hd8 key code)) := by
    refine ⟨fun w1 h1 => ?_⟩
    have := put_new' (w.heap.size + 1) 8 [114, key, 0, 0, 0, 0, 0, 0] 2 2 code ((w1.setCell ⟨w.heap.size + 1, 0, none⟩ (.int .u8 114)).setCell ⟨w.heap.size + 1, 1, none⟩ (.int .u8 key)) w.heap.size rfl (own_set (own_set h1 0 114) 1 key) (by decide) (by decide) (by decide) (by decide) d0 (by omega)
    rw [hd8_asc key code d0 d1] at this
    exact this
  rw [hvals] at HI HF ⊢
  replace hvals := Kpt.mk hvals
  clear hs hform hs'
  go_enter Try.func20, Try.ntmps20
  go_wp2_with (first
    | (at_builtin; refine wpList_append_new (w := wc2) rfl (.tmp 24) (.tmp 26) rfl (w.heap.size + 1) (.slice (some ⟨ga1, 0, none⟩) 20 capa1) (.slice (some ⟨gc2, 0, none⟩) 8 8) (hd8 key code ++ s'.infoB) s'.partB 20 28 rfl rfl (own_of_block (own_re hoa1.out hga1.out.1) (fun g hg => by simp [Value.ownBlock] at hg; subst hg; exact hNc2.out.2.block _ hga1.out.2)) (own_rd hNc2.out.1) (by simp [Sn.infoB, Sn.partB, Sn.fieldB]) (by simp [hd8, Sn.infoB]) (by simp [Sn.infoB, Sn.partB, Sn.fieldB]) (by decide) (by have := hNc2.out.2.size; have := hga1.out; omega) ?_; intro ga2 capa2 wa2 hoa2 hga2 hgra2; have hBa2 : Kpt (Box wa2 w.heap.size s') := ⟨fun i => ((World.cell?_of_block (w := wc2) (a := ⟨w.heap.size, i, none⟩) (hgra2.out.block w.heap.size (by have := hNc2.out.2.size; have := hga1.out; omega) (fun e => by simp [Value.ownBlock] at e; have := hga1.out; omega))).trans (World.cell?_of_block (w := wa1) (a := ⟨w.heap.size, i, none⟩) (hNc2.out.2.block w.heap.size (by have := hga1.out; omega)))).trans (hBa1.out i)⟩; have hba2 : Kpt (Below w.heap.size w wa2) := ⟨(hba1.out.trans (hNc2.out.2.mono (by have := hga1.out; omega))).grown hgra2.out (by have := hNc2.out.2.size; have := hga1.out; omega) (fun k h => by simp [Value.ownBlock] at h; have := hga1.out; omega)⟩; clear c0 c1 c2 c3 c4 c5 c6 c7 p7 f7; have c0 := hBa2.out 0; rw [hvals.out] at c0; simp at c0; have c1 := hBa2.out 1; rw [hvals.out] at c1; simp at c1; have c2 := hBa2.out 2; rw [hvals.out] at c2; simp at c2; have c3 := hBa2.out 3; rw [hvals.out] at c3; simp at c3; have c4 := hBa2.out 4; rw [hvals.out] at c4; simp at c4; have c5 := hBa2.out 5; rw [hvals.out] at c5; simp at c5; have c6 := hBa2.out 6; rw [hvals.out] at c6; simp at c6; have c7 := hBa2.out 7; rw [hvals.out] at c7; simp at c7; have p7 := own_facts hoa2.out 7 (by decide); have f7 := hoa2.out.frozenAt 7)
    | (go_at_call 30; refine (HF wa1).out.mono ?_; rintro e wc2 ⟨gc2, rfl, hNc2⟩; replace hNc2 := Kpt.mk hNc2)
    | (at_builtin; refine wpList_append_new (w := wc1) rfl (.tmp 18) (.tmp 20) rfl (w.heap.size + 1) (.slice (some ⟨g2, 0, none⟩) 8 8) (.slice (some ⟨gc1, 0, none⟩) 12 12) (hd8 key code) s'.infoB 8 20 rfl rfl (own_of_block (own_re ho2'.out hg2.out.1) (fun g hg => by simp [Value.ownBlock] at hg; subst hg; exact hNc1.out.2.block _ hg2.out.2)) (own_rd hNc1.out.1) (by simp [Sn.infoB, Sn.partB, Sn.fieldB]) (by simp [hd8, Sn.infoB]) (by simp [Sn.infoB, Sn.partB, Sn.fieldB]) (by decide) (by have := hNc1.out.2.size; have := hg2.out; omega) ?_; intro ga1 capa1 wa1 hoa1 hga1 hgra1; have hBa1 : Kpt (Box wa1 w.heap.size s') := ⟨fun i => ((World.cell?_of_block (w := wc1) (a := ⟨w.heap.size, i, none⟩) (hgra1.out.block w.heap.size (by have := hNc1.out.2.size; have := hg2.out; omega) (fun e => by simp [Value.ownBlock] at e; have := hg2.out; omega))).trans (World.cell?_of_block (w := w2) (a := ⟨w.heap.size, i, none⟩) (hNc1.out.2.block w.heap.size (by have := hg2.out; omega)))).trans (hB2.out i)⟩; have hba1 : Kpt (Below w.heap.size w wa1) := ⟨(hb2.out.trans (hNc1.out.2.mono (by have := hg2.out; omega))).grown hgra1.out (by have := hNc1.out.2.size; have := hg2.out; omega) (fun k h => by simp [Value.ownBlock] at h; have := hg2.out; omega)⟩; clear c0 c1 c2 c3 c4 c5 c6 c7 p7 f7; have c0 := hBa1.out 0; rw [hvals.out] at c0; simp at c0; have c1 := hBa1.out 1; rw [hvals.out] at c1; simp at c1; have c2 := hBa1.out 2; rw [hvals.out] at c2; simp at c2; have c3 := hBa1.out 3; rw [hvals.out] at c3; simp at c3; have c4 := hBa1.out 4; rw [hvals.out] at c4; simp at c4; have c5 := hBa1.out 5; rw [hvals.out] at c5; simp at c5; have c6 := hBa1.out 6; rw [hvals.out] at c6; simp at c6; have c7 := hBa1.out 7; rw [hvals.out] at c7; simp at c7; have p7 := own_facts hoa1.out 7 (by decide); have f7 := hoa1.out.frozenAt 7)
    | (go_at_call 29; refine (HI w2).out.mono ?_; rintro e wc1 ⟨gc1, rfl, hNc1⟩; replace hNc1 := Kpt.mk hNc1)
    | (go_at_call 27; refine (H.out w1 hown.out).mono ?_; rintro e w2 ⟨g2, rfl, ho2⟩; replace ho2 := Kpt.mk ho2; have hltn : Kpt (w.heap.size + 1 < ((w1.setCell ⟨w.heap.size + 1, 0, none⟩ (.int .u8 114)).setCell ⟨w.heap.size + 1, 1, none⟩ (.int .u8 key)).heap.size) := ⟨by have := hlt.out; simpa using this⟩; have hg2 : Kpt (w.heap.size + 1 ≤ g2 ∧ g2 < w2.heap.size) := ⟨by have := (World.ownsRow.lt ho2.out.1 g2 rfl).1; have := hltn.out; omega, (World.ownsRow.lt ho2.out.1 g2 rfl).2⟩; have hB2 : Kpt (Box w2 w.heap.size s') := ⟨Box.below (Box.set (Box.set (Box.mk0 hbox.out hvals.out) (by omega)) (by omega)) ho2.out.2 (by have := hltn.out; omega)⟩; have hb2 : Kpt (Below w.heap.size w w2) := ⟨((hbel.out.setCell (Nat.le_succ _) _).setCell (Nat.le_succ _) _).trans (ho2.out.2.mono (by have := hltn.out; omega))⟩; have ho2' : Kpt (w2.ownsRow w.heap.size 5 1 (.slice (some ⟨g2, 0, none⟩) 8 8) 8 (cels (hd8 key code))) := ⟨own_base ho2.out.1 (by have := hltn.out; omega)⟩; clear q0 q1 p0 f0 p1 f1; have c0 := hB2.out 0; rw [hvals.out] at c0; simp at c0; have c1 := hB2.out 1; rw [hvals.out] at c1; simp at c1; have c2 := hB2.out 2; rw [hvals.out] at c2; simp at c2; have c3 := hB2.out 3; rw [hvals.out] at c3; simp at c3; have c4 := hB2.out 4; rw [hvals.out] at c4; simp at c4; have c5 := hB2.out 5; rw [hvals.out] at c5; simp at c5; have c6 := hB2.out 6; rw [hvals.out] at c6; simp at c6; have c7 := hB2.out 7; rw [hvals.out] at c7; simp at c7; have p7 := own_facts ho2'.out 7 (by decide); have f7 := ho2'.out.frozenAt 7)
    | (at_make; refine wpList_make_box w rfl _ _ rfl 8 rfl rfl (by decide) ?_; intro w1 hbox hown hbel; have hlt : Kpt (w.heap.size + 1 < w1.heap.size) := ⟨(World.ownsRow.lt hown.out (w.heap.size + 1) rfl).2⟩; have q0 := hbox.out 0; have q1 := hbox.out 1; simp at q0 q1; have p0 := own_facts hown.out 0 (by decide); have f0 := hown.out.frozenAt 0; have p1 := own_facts hown.out 1 (by decide); have f1 := hown.out.frozenAt 1; simp at p0 p1))
  go_ret
  refine ⟨_, _, rfl, ?_, hba2.out.setCell (by have := hga2.out.1; show w.heap.size ≤ ga2; omega) _⟩
  rw [← hD.out]
  have := own_set (own_re (b' := w.heap.size) hoa2.out (by have := hga2.out.1; omega)) 7 20
  rw [List.length_set]
  simpa [hd8, Sn.infoB, Sn.partB, Sn.fieldB] using this

end Go.Proofs.Ytglfkpdbgddpdaa
