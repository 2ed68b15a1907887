/-
  The contract of Decode, of any bytes; what it tells of a sense's own bytes.
-/
import Derived.Test.YtglfkpdbgddpdaaSDecD
import Derived.Test.YtglfkpdbgddpdaaSDecF
import Derived.Test.YtglfkpdbgddpdaaSDecG
namespace Go.Proofs.Ytglfkpdbgddpdaa
open Go.RowKit
set_option linter.unusedVariables false
set_option linter.unusedSimpArgs false

theorem decode_any (v : Value) (zs : List Int) (w : World) (hr : RdAt w v zs) (hb : B.Bytes zs) (hl : zs.length ≤ maxLen) (hvl : ∀ g, v.ownBlock = some g → g < w.heap.size) :
    Calls Try.prog 15 #[v] w fun e w' => e = .returned (decRes zs) ∧ Below w.heap.size w w' := by
  obtain ⟨a, c, rfl, hn, hlc, h⟩ := id hr
  by_cases h0 : 0 < zs.length
  · obtain ⟨b, off, rfl⟩ : ∃ b off, a = some ⟨b, off, none⟩ := by
      rcases h with h | ⟨b, off, h, _⟩
      · omega
      · exact ⟨b, off, h⟩
    by_cases hx : zs.getD 0 0 = 114
    · have hd : isD zs = true := by simp only [isD, decide_eq_true h0, decide_eq_true hx, Bool.and_self]
      unfold decRes decS
      rw [if_pos hd]
      cases hf : (gD zs).form with
      | false =>
        rw [if_neg (by simp)]
        exact dec_D_no b off c _ zs w hr hb hl hvl h0 rfl hx hf
      | true =>
        by_cases he : (gD zs).descB = zs
        · rw [if_pos ⟨rfl, he⟩]
          exact dec_D_ok b off c _ zs w hr hb hl hvl h0 rfl hx hf he
        · rw [if_neg (fun h => he h.2)]
          exact dec_D_diff b off c _ zs w hr hb hl hvl h0 rfl hx hf he
    · have hd : ¬ isD zs = true := by simp only [isD, decide_eq_false hx, Bool.and_false]; decide
      unfold decRes decS
      rw [if_neg hd]
      cases hf : (gF zs).form with
      | false =>
        rw [if_neg (by simp)]
        exact dec_F1_no b off c _ zs w hr hb hl hvl h0 rfl hx hf
      | true =>
        by_cases he : (gF zs).fixedB = zs
        · rw [if_pos ⟨rfl, he⟩]
          exact dec_F1_ok b off c _ zs w hr hb hl hvl h0 rfl hx hf he
        · rw [if_neg (fun h => he h.2)]
          exact dec_F1_diff b off c _ zs w hr hb hl hvl h0 rfl hx hf he
  · have h0' : zs.length = 0 := by omega
    have hd : ¬ isD zs = true := by simp only [isD, decide_eq_false h0, Bool.false_and]; decide
    unfold decRes decS
    rw [if_neg hd]
    have he : (gF zs).fixedB ≠ zs := by
      intro e
      have := congrArg List.length e
      rw [h0'] at this
      simp [Sn.fixedB, Sn.fieldB] at this
    cases hf : (gF zs).form with
    | false =>
      rw [if_neg (by simp)]
      exact dec_F0_no a c zs w hr hb hl hvl h0' hf
    | true =>
      rw [if_neg (fun h => he h.2)]
      exact dec_F0_diff a c zs w hr hb hl hvl h0' hf he

/-! ### What is read of a sense's own bytes is that sense. -/
theorem and128_128 : bits BinOp.and IntKind.u8 128 128 = 128 := by decide
theorem and128_64 : bits BinOp.and IntKind.u8 128 64 = 0 := by decide
theorem and128_8 : bits BinOp.and IntKind.u8 128 8 = 0 := by decide
theorem and136_128 : bits BinOp.and IntKind.u8 136 128 = 128 := by decide
theorem and136_64 : bits BinOp.and IntKind.u8 136 64 = 0 := by decide
theorem and136_8 : bits BinOp.and IntKind.u8 136 8 = 8 := by decide
theorem and137_128 : bits BinOp.and IntKind.u8 137 128 = 128 := by decide
theorem and137_64 : bits BinOp.and IntKind.u8 137 64 = 0 := by decide
theorem and137_8 : bits BinOp.and IntKind.u8 137 8 = 8 := by decide
theorem and138_128 : bits BinOp.and IntKind.u8 138 128 = 128 := by decide
theorem and138_64 : bits BinOp.and IntKind.u8 138 64 = 0 := by decide
theorem and138_8 : bits BinOp.and IntKind.u8 138 8 = 8 := by decide
theorem and139_128 : bits BinOp.and IntKind.u8 139 128 = 128 := by decide
theorem and139_64 : bits BinOp.and IntKind.u8 139 64 = 0 := by decide
theorem and139_8 : bits BinOp.and IntKind.u8 139 8 = 8 := by decide
theorem and140_128 : bits BinOp.and IntKind.u8 140 128 = 128 := by decide
theorem and140_64 : bits BinOp.and IntKind.u8 140 64 = 0 := by decide
theorem and140_8 : bits BinOp.and IntKind.u8 140 8 = 8 := by decide
theorem and141_128 : bits BinOp.and IntKind.u8 141 128 = 128 := by decide
theorem and141_64 : bits BinOp.and IntKind.u8 141 64 = 0 := by decide
theorem and141_8 : bits BinOp.and IntKind.u8 141 8 = 8 := by decide
theorem and142_128 : bits BinOp.and IntKind.u8 142 128 = 128 := by decide
theorem and142_64 : bits BinOp.and IntKind.u8 142 64 = 0 := by decide
theorem and142_8 : bits BinOp.and IntKind.u8 142 8 = 8 := by decide
theorem and143_128 : bits BinOp.and IntKind.u8 143 128 = 128 := by decide
theorem and143_64 : bits BinOp.and IntKind.u8 143 64 = 0 := by decide
theorem and143_8 : bits BinOp.and IntKind.u8 143 8 = 8 := by decide
theorem and192_128 : bits BinOp.and IntKind.u8 192 128 = 128 := by decide
theorem and192_64 : bits BinOp.and IntKind.u8 192 64 = 64 := by decide
theorem and192_8 : bits BinOp.and IntKind.u8 192 8 = 0 := by decide
theorem and200_128 : bits BinOp.and IntKind.u8 200 128 = 128 := by decide
theorem and200_64 : bits BinOp.and IntKind.u8 200 64 = 64 := by decide
theorem and200_8 : bits BinOp.and IntKind.u8 200 8 = 8 := by decide
theorem and201_128 : bits BinOp.and IntKind.u8 201 128 = 128 := by decide
theorem and201_64 : bits BinOp.and IntKind.u8 201 64 = 64 := by decide
theorem and201_8 : bits BinOp.and IntKind.u8 201 8 = 8 := by decide
theorem and202_128 : bits BinOp.and IntKind.u8 202 128 = 128 := by decide
theorem and202_64 : bits BinOp.and IntKind.u8 202 64 = 64 := by decide
theorem and202_8 : bits BinOp.and IntKind.u8 202 8 = 8 := by decide
theorem and203_128 : bits BinOp.and IntKind.u8 203 128 = 128 := by decide
theorem and203_64 : bits BinOp.and IntKind.u8 203 64 = 64 := by decide
theorem and203_8 : bits BinOp.and IntKind.u8 203 8 = 8 := by decide
theorem and204_128 : bits BinOp.and IntKind.u8 204 128 = 128 := by decide
theorem and204_64 : bits BinOp.and IntKind.u8 204 64 = 64 := by decide
theorem and204_8 : bits BinOp.and IntKind.u8 204 8 = 8 := by decide
theorem and205_128 : bits BinOp.and IntKind.u8 205 128 = 128 := by decide
theorem and205_64 : bits BinOp.and IntKind.u8 205 64 = 64 := by decide
theorem and205_8 : bits BinOp.and IntKind.u8 205 8 = 8 := by decide
theorem and206_128 : bits BinOp.and IntKind.u8 206 128 = 128 := by decide
theorem and206_64 : bits BinOp.and IntKind.u8 206 64 = 64 := by decide
theorem and206_8 : bits BinOp.and IntKind.u8 206 8 = 8 := by decide
theorem and207_128 : bits BinOp.and IntKind.u8 207 128 = 128 := by decide
theorem and207_64 : bits BinOp.and IntKind.u8 207 64 = 64 := by decide
theorem and207_8 : bits BinOp.and IntKind.u8 207 8 = 8 := by decide


theorem withF_back (s : Sn) (hf : s.form = true) (t : Sn) (zs : List Int) (i : Nat)
    (h1 : getN zs i 1 = s.flags) (h2 : getN zs (i + 1) 2 = s.field) (k1 : t.key = s.key) (k2 : t.code = s.code) (k3 : t.info = s.info) (k4 : t.hi = s.hi) (k5 : t.hf = false) (k6 : t.field = 0) (k7 : t.bit = 0) (k8 : t.ic = false) :
    t.withF zs i = s := by
  unfold Sn.withF
  rw [h1, h2]
  obtain ⟨key, code, info, hi, field, bit, hf', ic⟩ := s
  obtain ⟨tk, tc, ti, th, tf, tb, thf, tic⟩ := t
  simp only at k1 k2 k3 k4 k5 k6 k7 k8
  subst k1 k2 k3 k4 k5 k6 k7 k8
  cases hf' with
  | false =>
    simp [Sn.form] at hf
    obtain ⟨_, ⟨rfl, rfl⟩, rfl⟩ := hf
    simp [Sn.flags]
    decide
  | true =>
    have h := Sn.form_field hf
    simp only at h
    have hb : bit = -1 ∨ bit = 0 ∨ bit = 1 ∨ bit = 2 ∨ bit = 3 ∨ bit = 4 ∨ bit = 5 ∨ bit = 6 ∨ bit = 7 := by omega
    cases ic <;> rcases hb with rfl | rfl | rfl | rfl | rfl | rfl | rfl | rfl | rfl <;> simp [Sn.flags, and128_128, and128_64, and128_8, and136_128, and136_64, and136_8, and137_128, and137_64, and137_8, and138_128, and138_64, and138_8, and139_128, and139_64, and139_8, and140_128, and140_64, and140_8, and141_128, and141_64, and141_8, and142_128, and142_64, and142_8, and143_128, and143_64, and143_8, and192_128, and192_64, and192_8, and200_128, and200_64, and200_8, and201_128, and201_64, and201_8, and202_128, and202_64, and202_8, and203_128, and203_64, and203_8, and204_128, and204_64, and204_8, and205_128, and205_64, and205_8, and206_128, and206_64, and206_8, and207_128, and207_64, and207_8]

theorem getN_one (zs : List Int) (i : Nat) (h : i < zs.length) : getN zs i 1 = zs.getD i 0 := by
  unfold getN
  rw [if_pos (by omega)]
  simp [B.num]

theorem back_fixed (s : Sn) (hs : s.wf) (hf : s.form = true) (hi : s.info < 4294967296) : gF s.fixedB = s := by
  obtain ⟨h0, h1, h2, h3, h4⟩ := Sn.form_field hf
  obtain ⟨⟨a0, a1⟩, ⟨b0, b1⟩, ⟨c0, c1⟩, _, _⟩ := hs
  unfold gF
  refine withF_back s hf _ _ _ ?_ ?_ ?_ ?_ ?_ ?_ rfl rfl rfl rfl
  · simp [getN, B.num, Sn.fixedB, Sn.fieldB]
  · simp [getN, B.num, Sn.fixedB, Sn.fieldB]; omega
  · simp [getN, B.num, Sn.fixedB, Sn.fieldB]
  · simp [getN, B.num, Sn.fixedB, Sn.fieldB]; omega
  · simp [getN, B.num, Sn.fixedB, Sn.fieldB]; omega
  · simp [getN, B.num, Sn.fixedB, Sn.fieldB]
    cases s.hi <;> decide

theorem back_desc (s : Sn) (hs : s.wf) (hf : s.form = true) : gD s.descB = s := by
  obtain ⟨h0, h1, h2, h3, h4⟩ := Sn.form_field hf
  obtain ⟨⟨a0, a1⟩, ⟨b0, b1⟩, ⟨c0, c1⟩, _, _⟩ := hs
  have hlen : s.descB.length = 8 + (if s.hi then 12 else 0) + (if s.hf then 8 else 0) := by
    cases h1 : s.hi <;> cases h2 : s.hf <;> simp [Sn.descB, Sn.rest, Sn.infoB, Sn.partB, Sn.fieldB, h1, h2]
  have hfl : s.hf = false → s.flags = 0 ∧ s.field = 0 := by
    intro h
    obtain ⟨key, code, info, hi, field, bit, hf', ic⟩ := s
    simp only at h
    subst h
    simp [Sn.form] at hf
    exact ⟨rfl, hf.2.1.1⟩
  have hin : s.hi = false → s.info = 0 := by
    intro h
    obtain ⟨key, code, info, hi, field, bit, hf', ic⟩ := s
    simp only at h
    subst h
    simp [Sn.form] at hf
    exact hf.1.2
  unfold gD
  cases h5 : s.hi with
  | true =>
    rw [if_pos (by rw [hlen, h5]; exact Nat.le_add_right 20 _)]
    cases h6 : s.hf with
    | true =>
      refine withF_back s hf _ _ _ ?_ ?_ ?_ ?_ ?_ ?_ rfl rfl rfl rfl
      · simp [getN, B.num, Sn.descB, Sn.rest, h5, h6, Sn.infoB, Sn.partB, Sn.fieldB]
      · simp [getN, B.num, Sn.descB, Sn.rest, h5, h6, Sn.infoB, Sn.partB, Sn.fieldB]; omega
      · simp [getN, B.num, Sn.descB, Sn.rest, h5, h6, Sn.infoB, Sn.partB, Sn.fieldB]
      · simp [getN, B.num, Sn.descB, Sn.rest, h5, h6, Sn.infoB, Sn.partB, Sn.fieldB]; omega
      · simp [getN, B.num, Sn.descB, Sn.rest, h5, h6, Sn.infoB, Sn.partB, Sn.fieldB]; omega
      · exact h5.symm
    | false =>
      obtain ⟨e1, e2⟩ := hfl h6
      refine withF_back s hf _ _ _ ?_ ?_ ?_ ?_ ?_ ?_ rfl rfl rfl rfl
      · rw [e1]; simp [getN, B.num, Sn.descB, Sn.rest, h5, h6, Sn.infoB]
      · rw [e2]; simp [getN, B.num, Sn.descB, Sn.rest, h5, h6, Sn.infoB]
      · simp [getN, B.num, Sn.descB, Sn.rest, h5, h6, Sn.infoB]
      · simp [getN, B.num, Sn.descB, Sn.rest, h5, h6, Sn.infoB]; omega
      · simp [getN, B.num, Sn.descB, Sn.rest, h5, h6, Sn.infoB]; omega
      · exact h5.symm
  | false =>
    have e0 := hin h5
    have hlt : ¬ 20 ≤ s.descB.length := by
      rw [hlen, h5]
      cases s.hf <;> decide
    rw [if_neg hlt]
    cases h6 : s.hf with
    | true =>
      refine withF_back s hf _ _ _ ?_ ?_ ?_ ?_ ?_ ?_ rfl rfl rfl rfl
      · simp [getN, B.num, Sn.descB, Sn.rest, h5, h6, Sn.partB, Sn.fieldB]
      · simp [getN, B.num, Sn.descB, Sn.rest, h5, h6, Sn.partB, Sn.fieldB]; omega
      · simp [getN, B.num, Sn.descB, Sn.rest, h5, h6, Sn.partB, Sn.fieldB]
      · simp [getN, B.num, Sn.descB, Sn.rest, h5, h6, Sn.partB, Sn.fieldB]; omega
      · exact e0.symm
      · exact h5.symm
    | false =>
      obtain ⟨e1, e2⟩ := hfl h6
      refine withF_back s hf _ _ _ ?_ ?_ ?_ ?_ ?_ ?_ rfl rfl rfl rfl
      · rw [e1]; simp [getN, B.num, Sn.descB, Sn.rest, h5, h6]
      · rw [e2]; simp [getN, B.num, Sn.descB, Sn.rest, h5, h6]
      · simp [getN, B.num, Sn.descB, Sn.rest, h5, h6]
      · simp [getN, B.num, Sn.descB, Sn.rest, h5, h6]; omega
      · exact e0.symm
      · exact h5.symm

theorem isD_fixed (s : Sn) : isD s.fixedB = false := by
  have : s.fixedB.getD 0 0 ≠ 114 := by
    cases h : s.hi <;> simp [Sn.fixedB, h]
  simp only [isD, decide_eq_false this, Bool.and_false]
theorem isD_desc (s : Sn) : isD s.descB = true := by
  simp [isD, Sn.descB]

/-- Decode tells just the senses whose bytes these are. -/
theorem decS_fixed (s : Sn) (hs : s.wf) (hf : s.form = true) (hi : s.info < 4294967296) : decS s.fixedB = some s := by
  unfold decS
  rw [isD_fixed, back_fixed s hs hf hi]
  simp [hf]
theorem decS_desc (s : Sn) (hs : s.wf) (hf : s.form = true) : decS s.descB = some s := by
  unfold decS
  rw [isD_desc, back_desc s hs hf]
  simp [hf]
theorem decS_some {zs : List Int} {s : Sn} (hb : B.Bytes zs) (h : decS zs = some s) : s.wf ∧ s.form = true ∧ (s.info < 4294967296 ∧ zs = s.fixedB ∨ zs = s.descB) := by
  unfold decS at h
  split at h
  · split at h
    · rename_i h2
      simp only [Option.some.injEq] at h
      subst h
      exact ⟨gD_wf hb, h2.1, .inr h2.2.symm⟩
    · cases h
  · split at h
    · rename_i h2
      simp only [Option.some.injEq] at h
      subst h
      exact ⟨gF_wf hb, h2.1, .inl ⟨gF_info hb, h2.2.symm⟩⟩
    · cases h
end Go.Proofs.Ytglfkpdbgddpdaa
