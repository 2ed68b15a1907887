/-
  What the document's Decode guesses; Num; its Fixed and Described of any sense.
-/
import Derived.Test.YtglfkpdbgddpdaaSDecode
import Derived.Test.YtglfkpdbgddpdaaSRDesc
namespace Go.Proofs.Ytglfkpdbgddpdaa
open Go.RowKit
set_option linter.unusedVariables false
set_option linter.unusedSimpArgs false

def tF (zs : List Int) : Sn := ⟨getN zs 2 1, getN zs 12 2, if 128 ≤ getN zs 0 1 then getN zs 3 4 else 0, decide (128 ≤ getN zs 0 1), 0, 0, false, false⟩
def hF (zs : List Int) : Sn := (tF zs).withF zs 15
def tD (zs : List Int) : Sn := ⟨getN zs 1 1, getN zs 2 2, if zs.length = 20 ∨ zs.length = 28 then getN zs 12 8 else 0, decide (zs.length = 20 ∨ zs.length = 28), 0, 0, false, false⟩
def hD (zs : List Int) : Sn := if zs.length = 16 ∨ zs.length = 28 then (tD zs).withF zs (zs.length - 4) else tD zs

theorem tF_wf {zs : List Int} (hb : B.Bytes zs) : (tF zs).wf := by
  have h1 := getN_bd zs hb 2 1
  have h2 := getN_bd zs hb 12 2
  have h3 := getN_bd zs hb 3 4
  simp at h1 h2 h3
  refine ⟨by simp only [tF]; omega, by simp only [tF]; omega, ?_, by simp [tF], by simp [tF]⟩
  simp only [tF]
  split <;> omega
theorem hF_wf {zs : List Int} (hb : B.Bytes zs) : (hF zs).wf := withF_wf (tF_wf hb) hb
theorem hF_info {zs : List Int} (hb : B.Bytes zs) : (hF zs).info < 4294967296 := by
  have h3 := getN_bd zs hb 3 4
  simp at h3
  unfold hF Sn.withF
  have : (tF zs).info < 4294967296 := by simp only [tF]; split <;> omega
  split <;> exact this
theorem tD_wf {zs : List Int} (hb : B.Bytes zs) : (tD zs).wf := by
  have h1 := getN_bd zs hb 1 1
  have h2 := getN_bd zs hb 2 2
  have h3 := getN_bd zs hb 12 8
  simp at h1 h2 h3
  refine ⟨by simp only [tD]; omega, by simp only [tD]; omega, ?_, by simp [tD], by simp [tD]⟩
  simp only [tD]
  split <;> omega
theorem hD_wf {zs : List Int} (hb : B.Bytes zs) : (hD zs).wf := by
  unfold hD
  split
  · exact withF_wf (tD_wf hb) hb
  · exact tD_wf hb

theorem no_field {s : Sn} (hf : s.form = true) (h : s.hf = false) : s.field = 0 ∧ s.bit = 0 ∧ s.ic = false := by
  obtain ⟨key, code, info, hi, field, bit, hf', ic⟩ := s
  simp only at h
  subst h
  simp [Sn.form] at hf
  exact ⟨hf.2.1.1, hf.2.1.2, hf.2.2⟩
theorem no_info {s : Sn} (hf : s.form = true) (h : s.hi = false) : s.info = 0 := by
  obtain ⟨key, code, info, hi, field, bit, hf', ic⟩ := s
  simp only at h
  subst h
  simp [Sn.form] at hf
  exact hf.1.2

theorem hF_back (s : Sn) (hs : s.wf) (hf : s.form = true) (hi : s.info < 4294967296) : hF s.fixedB = s := by
  obtain ⟨h0, h1, h2, h3, h4⟩ := Sn.form_field hf
  obtain ⟨⟨a0, a1⟩, ⟨b0, b1⟩, ⟨c0, c1⟩, _, _⟩ := hs
  unfold hF tF
  refine withF_back s hf _ _ _ ?_ ?_ ?_ ?_ ?_ ?_ rfl rfl rfl rfl
  · simp [getN, B.num, Sn.fixedB, Sn.fieldB]
  · simp [getN, B.num, Sn.fixedB, Sn.fieldB]; omega
  · simp [getN, B.num, Sn.fixedB, Sn.fieldB]
  · simp [getN, B.num, Sn.fixedB, Sn.fieldB]; omega
  · cases h : s.hi with
    | true => simp [getN, B.num, Sn.fixedB, Sn.fieldB, h]; omega
    | false => rw [no_info hf h]; simp [getN, B.num, Sn.fixedB, Sn.fieldB, h]
  · cases h : s.hi <;> simp [getN, B.num, Sn.fixedB, Sn.fieldB, h]

theorem desc_len (s : Sn) : s.descB.length = 8 + (if s.hi then 12 else 0) + (if s.hf then 8 else 0) := by
  cases h1 : s.hi <;> cases h2 : s.hf <;> simp [Sn.descB, Sn.rest, Sn.infoB, Sn.partB, Sn.fieldB, h1, h2]

theorem hD_back (s : Sn) (hs : s.wf) (hf : s.form = true) : hD s.descB = s := by
  obtain ⟨h0, h1, h2, h3, h4⟩ := Sn.form_field hf
  obtain ⟨⟨a0, a1⟩, ⟨b0, b1⟩, ⟨c0, c1⟩, _, _⟩ := hs
  have hlen := desc_len s
  unfold hD tD
  cases h5 : s.hi with
  | true =>
    cases h6 : s.hf with
    | true =>
      have hl : s.descB.length = 28 := by rw [hlen, h5, h6]; rfl
      rw [hl, if_pos (.inr rfl)]
      refine withF_back s hf _ _ _ ?_ ?_ ?_ ?_ ?_ ?_ rfl rfl rfl rfl
      · simp [getN, B.num, Sn.descB, Sn.rest, h5, h6, Sn.infoB, Sn.partB, Sn.fieldB]
      · simp [getN, B.num, Sn.descB, Sn.rest, h5, h6, Sn.infoB, Sn.partB, Sn.fieldB]; omega
      · simp [getN, B.num, Sn.descB, Sn.rest, h5, h6, Sn.infoB, Sn.partB, Sn.fieldB]
      · simp [getN, B.num, Sn.descB, Sn.rest, h5, h6, Sn.infoB, Sn.partB, Sn.fieldB]; omega
      · simp [getN, B.num, Sn.descB, Sn.rest, h5, h6, Sn.infoB, Sn.partB, Sn.fieldB]; omega
      · simp [h5]
    | false =>
      have hl : s.descB.length = 20 := by rw [hlen, h5, h6]; rfl
      obtain ⟨e1, e2, e3⟩ := no_field hf h6
      rw [hl, if_neg (by decide)]
      have g1 : getN s.descB 1 1 = s.key := by simp [getN, B.num, Sn.descB, Sn.rest, h5, h6, Sn.infoB]
      have g2 : getN s.descB 2 2 = s.code := by simp [getN, B.num, Sn.descB, Sn.rest, h5, h6, Sn.infoB]; omega
      have g3 : getN s.descB 12 8 = s.info := by simp [getN, B.num, Sn.descB, Sn.rest, h5, h6, Sn.infoB]; omega
      rw [g1, g2, g3]
      obtain ⟨key, code, info, hi, field, bit, hf', ic⟩ := s
      simp only at h5 h6 e1 e2 e3
      subst h5 h6 e1 e2 e3
      simp
  | false =>
    have e0 := no_info hf h5
    cases h6 : s.hf with
    | true =>
      have hl : s.descB.length = 16 := by rw [hlen, h5, h6]; rfl
      rw [hl, if_pos (.inl rfl)]
      refine withF_back s hf _ _ _ ?_ ?_ ?_ ?_ ?_ ?_ rfl rfl rfl rfl
      · simp [getN, B.num, Sn.descB, Sn.rest, h5, h6, Sn.partB, Sn.fieldB]
      · simp [getN, B.num, Sn.descB, Sn.rest, h5, h6, Sn.partB, Sn.fieldB]; omega
      · simp [getN, B.num, Sn.descB, Sn.rest, h5, h6, Sn.partB, Sn.fieldB]
      · simp [getN, B.num, Sn.descB, Sn.rest, h5, h6, Sn.partB, Sn.fieldB]; omega
      · rw [e0]; rfl
      · rw [h5]; rfl
    | false =>
      have hl : s.descB.length = 8 := by rw [hlen, h5, h6]; rfl
      obtain ⟨e1, e2, e3⟩ := no_field hf h6
      rw [hl, if_neg (by decide)]
      have g1 : getN s.descB 1 1 = s.key := by simp [getN, B.num, Sn.descB, Sn.rest, h5, h6]
      have g2 : getN s.descB 2 2 = s.code := by simp [getN, B.num, Sn.descB, Sn.rest, h5, h6]; omega
      rw [g1, g2]
      obtain ⟨key, code, info, hi, field, bit, hf', ic⟩ := s
      simp only at h5 h6 e0 e1 e2 e3
      subst h5 h6 e0 e1 e2 e3
      simp

/-- What the document's Decode tells, and why. -/
theorem dec_fixed {zs : List Int} (hb : B.Bytes zs) (hl : zs.length = 18) : decS zs = if (hF zs).form = true ∧ (hF zs).fixedB = zs then some (hF zs) else none := by
  by_cases h : (hF zs).form = true ∧ (hF zs).fixedB = zs
  · rw [if_pos h]
    have := decS_fixed (hF zs) (hF_wf hb) h.1 (hF_info hb)
    rw [h.2] at this
    exact this
  · rw [if_neg h]
    cases hd : decS zs with
    | none => rfl
    | some s =>
      obtain ⟨h1, h2, h3⟩ := decS_some hb hd
      rcases h3 with ⟨h3, h4⟩ | h4
      · have := hF_back s h1 h2 h3
        rw [← h4] at this
        rw [this] at h
        exact absurd ⟨h2, h4.symm⟩ h
      · have := desc_len s
        rw [← h4, hl] at this
        cases h5 : s.hi <;> cases h6 : s.hf <;> simp [h5, h6] at this
theorem dec_desc {zs : List Int} (hb : B.Bytes zs) (hl : ¬ zs.length = 18) : decS zs = if (hD zs).form = true ∧ (hD zs).descB = zs then some (hD zs) else none := by
  by_cases h : (hD zs).form = true ∧ (hD zs).descB = zs
  · rw [if_pos h]
    have := decS_desc (hD zs) (hD_wf hb) h.1
    rw [h.2] at this
    exact this
  · rw [if_neg h]
    cases hd : decS zs with
    | none => rfl
    | some s =>
      obtain ⟨h1, h2, h3⟩ := decS_some hb hd
      rcases h3 with ⟨h3, h4⟩ | h4
      · exact absurd (by rw [h4]; simp [Sn.fixedB, Sn.fieldB]) hl
      · have := hD_back s h1 h2
        rw [← h4] at this
        rw [this] at h
        exact absurd ⟨h2, h4.symm⟩ h
theorem dec_short {zs : List Int} (hb : B.Bytes zs) (hl : zs.length < 8) : decS zs = none := by
  cases hd : decS zs with
  | none => rfl
  | some s =>
    obtain ⟨h1, h2, h3⟩ := decS_some hb hd
    rcases h3 with ⟨h3, h4⟩ | h4
    · rw [h4] at hl; simp [Sn.fixedB, Sn.fieldB] at hl
    · rw [h4, desc_len] at hl; omega

theorem and128 (x : Int) (h : 0 ≤ x ∧ x ≤ 255) : (bits .and .u8 x 128 = 0) ↔ x < 128 := by
  have key : ∀ n : Fin 256, (bits .and .u8 (n.val : Int) 128 = 0) ↔ (n.val : Int) < 128 := by decide +kernel
  have := key ⟨x.toNat, by omega⟩
  simp only at this
  rw [Int.toNat_of_nonneg h.1] at this
  exact this

theorem rnum_any (b off len cap i n : Nat) (zs : List Int) (w : World) (hl : len ≤ maxLen) (hn1 : 1 ≤ n) (hn2 : n ≤ 8) (hi : i + n ≤ len) (hb : B.Bytes zs)
    (hc : ∀ j, j < len → w.cell? ⟨b, off + j, none⟩ = some (.int .u8 (zs.getD j 0))) :
    Calls Try.prog 26 #[.slice (some ⟨b, off, none⟩) len cap, .int .i64 i, .int .i64 n] w fun e w' => e = .returned (.int .u64 (B.num zs i n)) ∧ w' = w := by
  have H := Kpt.mk (B.rget_ok b off len cap i n zs w hl hn1 hn2 hi hb hc)
  clear hc
  go_enter Try.func26, Try.ntmps26
  go_wp2_with (go_at_call 33; refine H.out.mono ?_; rintro e w' ⟨rfl, rfl⟩)
  go_ret
  exact ⟨rfl, rfl⟩

/-- The document's Described of any sense. -/
theorem rdesc_gen (s : Sn) (hs : s.wf) (w : World) : Calls Try.prog 12 #[.agg s.vals] w fun e w' => ∃ v x, e = .returned (.tuple #[v, .int .i64 x]) ∧ Below w.heap.size w w' ∧ ((s.form = true ∧ x = 0 ∧ RdAt w' v s.descB ∧ ∀ g, v.ownBlock = some g → g < w'.heap.size) ∨ (s.form = false ∧ x = 3 ∧ v = .slice none 0 0)) := by
  cases hf : s.form with
  | true =>
    refine (rdescribed_ok s hs hf w).mono ?_
    rintro e w' ⟨g, cap, h1, h2⟩
    exact ⟨_, _, h1, h2.2, .inl ⟨rfl, rfl, own_rd h2.1, fun g' hg => (World.ownsRow.lt h2.1 g' hg).2⟩⟩
  | false =>
    refine (rdescribed_form s hf w).mono ?_
    rintro e w' ⟨h1, h2⟩
    exact ⟨_, _, h1, h2, .inr ⟨rfl, rfl, rfl⟩⟩
theorem rfix_gen (s : Sn) (hs : s.wf) (hi : s.info < 4294967296) (w : World) : Calls Try.prog 11 #[.agg s.vals] w fun e w' => ∃ v x, e = .returned (.tuple #[v, .int .i64 x]) ∧ Below w.heap.size w w' ∧ ((s.form = true ∧ x = 0 ∧ RdAt w' v s.fixedB ∧ ∀ g, v.ownBlock = some g → g < w'.heap.size) ∨ (s.form = false ∧ x = 3 ∧ v = .slice none 0 0)) := by
  cases hf : s.form with
  | true =>
    refine (rfixed_ok s hs hf hi w).mono ?_
    rintro e w' ⟨g, cap, h1, h2⟩
    exact ⟨_, _, h1, h2.2, .inl ⟨rfl, rfl, own_rd h2.1, fun g' hg => (World.ownsRow.lt h2.1 g' hg).2⟩⟩
  | false =>
    refine (rfixed_form s hf w).mono ?_
    rintro e w' ⟨h1, h2⟩
    exact ⟨_, _, h1, h2, .inr ⟨rfl, rfl, rfl⟩⟩
end Go.Proofs.Ytglfkpdbgddpdaa
