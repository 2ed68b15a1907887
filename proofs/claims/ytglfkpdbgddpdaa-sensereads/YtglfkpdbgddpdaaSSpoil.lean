/-
  What a spoiled sense tells.
-/
import Derived.Test.YtglfkpdbgddpdaaSDecode
import Derived.Test.YtglfkpdbgddpdaaSName
import Derived.Laws.BitsAllLaws
namespace Go.Proofs.Ytglfkpdbgddpdaa
open Go.RowKit
set_option linter.unusedVariables false
set_option linter.unusedSimpArgs false

/-- The bytes of a sense in one of the formats. -/
def OfS (s : Sn) (P : List Int) : Prop := s.info < 4294967296 ∧ P = s.fixedB ∨ P = s.descB

theorem descB_len (s : Sn) : s.descB.length = 8 ∨ s.descB.length = 16 ∨ s.descB.length = 20 ∨ s.descB.length = 28 := by
  cases h1 : s.hi <;> cases h2 : s.hf <;> simp [Sn.descB, Sn.rest, Sn.infoB, Sn.partB, Sn.fieldB, h1, h2]
theorem fixedB_len (s : Sn) : s.fixedB.length = 18 := by simp [Sn.fixedB, Sn.fieldB]

theorem OfS.len {s : Sn} {P : List Int} (h : OfS s P) : 8 ≤ P.length ∧ P.length ≤ 28 := by
  rcases h with ⟨_, rfl⟩ | rfl
  · rw [fixedB_len]; omega
  · have := descB_len s; omega

theorem OfS.bytes {s : Sn} {P : List Int} (h : OfS s P) (hs : s.wf) (hf : s.form = true) : B.Bytes P := by
  rcases h with ⟨h1, rfl⟩ | rfl
  · exact bytes_of_wf_fixed hs hf h1
  · exact bytes_of_wf_desc hs hf

theorem len_ok (s t : Sn) {P Q : List Int} (hP : OfS s P) (hQ : OfS t Q) : Q.length ≠ P.length + 1 := by
  rcases hP with ⟨_, rfl⟩ | rfl <;> rcases hQ with ⟨_, rfl⟩ | rfl
  · rw [fixedB_len, fixedB_len]; omega
  · rw [fixedB_len]; have := descB_len t; omega
  · rw [fixedB_len]; have := descB_len s; omega
  · have := descB_len s; have := descB_len t; omega

theorem spoil_other {s t : Sn} {P Q : List Int} (hP : OfS s P) (hQ : B.Bytes Q) (hne : Q ≠ P) (hl : Q.length = P.length) (h : decS Q = some t) : t ≠ s := by
  rintro rfl
  obtain ⟨_, _, h3⟩ := decS_some hQ h
  have h18 := fixedB_len t
  have hd := descB_len t
  rcases hP with ⟨_, rfl⟩ | rfl <;> rcases h3 with ⟨_, rfl⟩ | rfl
  · exact hne rfl
  · omega
  · omega
  · exact hne rfl

theorem spoil_long {s : Sn} {P Q : List Int} (hP : OfS s P) (hQ : B.Bytes Q) (hl : Q.length = P.length + 1) : decS Q = none := by
  cases h : decS Q with
  | none => rfl
  | some t =>
    obtain ⟨_, _, h3⟩ := decS_some hQ h
    exact absurd hl (len_ok s t hP h3)

theorem bytes_take {zs : List Int} (h : B.Bytes zs) (k : Nat) : B.Bytes (zs.take k) := B.Bytes.take h k

theorem spoil_short {s : Sn} {P : List Int} (hP : OfS s P) (hs : s.wf) (hf : s.form = true) (i : Nat) (hi : i < P.length) : decS (P.take i) = none := by
  cases h : decS (P.take i) with
  | none => rfl
  | some t =>
    exfalso
    obtain ⟨_, _, h3⟩ := decS_some (bytes_take (hP.bytes hs hf) i) h
    have hlt : (P.take i).length = i := by rw [List.length_take]; omega
    have hget : ∀ k, k < i → (P.take i).getD k 0 = P.getD k 0 := fun k hk => by
      rw [List.getD_eq_getElem?_getD, List.getD_eq_getElem?_getD, List.getElem?_take, if_pos hk]
    rcases h3 with ⟨_, e⟩ | e
    · have := fixedB_len t
      rw [← e] at this
      rcases hP with ⟨_, rfl⟩ | rfl
      · have := fixedB_len s; omega
      · have h0 := hget 0 (by omega)
        rw [e] at h0
        have a : t.fixedB.getD 0 0 ≠ 114 := by cases hh : t.hi <;> simp [Sn.fixedB, hh]
        exact a (h0.trans (by simp [Sn.descB]))
    · have hl := descB_len t
      rw [← e, hlt] at hl
      rcases hP with ⟨_, rfl⟩ | rfl
      · have h0 := hget 0 (by omega)
        rw [e] at h0
        have a : s.fixedB.getD 0 0 ≠ 114 := by cases hh : s.hi <;> simp [Sn.fixedB, hh]
        exact a (h0.symm.trans (by simp [Sn.descB]))
      · have h7 := hget 7 (by omega)
        rw [e] at h7
        have q1 : t.descB.getD 7 0 = (t.rest.length : Int) := by simp [Sn.descB]
        have q2 : s.descB.getD 7 0 = (s.rest.length : Int) := by simp [Sn.descB]
        rw [q1, q2] at h7
        have l1 : t.descB.length = 8 + t.rest.length := by simp [Sn.descB]; omega
        have l2 : s.descB.length = 8 + s.rest.length := by simp [Sn.descB]; omega
        rw [← e, hlt] at l1
        omega

theorem xor_ne (x y : Int) (hx : 0 ≤ x ∧ x ≤ 255) (hy : 0 ≤ y ∧ y ≤ 255) (h0 : y ≠ 0) : bits .xor .u8 x y ≠ x ∧ 0 ≤ bits .xor .u8 x y ∧ bits .xor .u8 x y ≤ 255 := by
  obtain ⟨a, rfl⟩ : ∃ a : Nat, x = a := ⟨x.toNat, by omega⟩
  obtain ⟨b, rfl⟩ : ∃ b : Nat, y = b := ⟨y.toNat, by omega⟩
  rw [u8_xor_nat a b (by omega) (by omega)]
  have hlt : a ^^^ b < 2 ^ 8 := Nat.xor_lt_two_pow (by omega) (by omega)
  refine ⟨fun h => ?_, by omega, by omega⟩
  have h1 : a ^^^ b = a := by omega
  have h2 : a ^^^ (a ^^^ b) = a ^^^ a := by rw [h1]
  rw [← Nat.xor_assoc, Nat.xor_self, Nat.zero_xor] at h2
  omega

/-- A byte turned. -/
def turned (P : List Int) (i : Nat) (y : Int) : List Int := P.set i (bits .xor .u8 (P.getD i 0) y)

theorem turned_facts {P : List Int} (hb : B.Bytes P) {i : Nat} (hi : i < P.length) {y : Int} (hy : 0 ≤ y ∧ y ≤ 255) (h0 : y ≠ 0) : B.Bytes (turned P i y) ∧ turned P i y ≠ P ∧ (turned P i y).length = P.length := by
  have hx := xor_ne (P.getD i 0) y (hb i) hy h0
  refine ⟨?_, ?_, by simp [turned]⟩
  · intro j
    unfold turned
    rw [List.getD_eq_getElem?_getD, List.getElem?_set]
    by_cases hij : i = j
    · subst hij
      simp only [if_true]
      rw [if_pos (by simpa using hi)]
      exact hx.2
    · rw [if_neg hij]
      have := hb j
      rw [List.getD_eq_getElem?_getD] at this
      exact this
  · intro e
    have := congrArg (fun l => l.getD i 0) e
    simp only [turned] at this
    rw [List.getD_eq_getElem?_getD, List.getElem?_set] at this
    simp only [if_pos hi, if_true] at this
    exact hx.1 this

theorem bytes_zero {P : List Int} (hb : B.Bytes P) : B.Bytes (P ++ [0]) := by
  intro j
  rw [List.getD_eq_getElem?_getD, List.getElem?_append]
  split
  · have := hb j; rw [List.getD_eq_getElem?_getD] at this; exact this
  · cases h : j - P.length with
    | zero => simp
    | succ k => simp

theorem rd_take {w : World} {b n c : Nat} {P : List Int} (h : RdAt w (.slice (some ⟨b, 0, none⟩) n c) P) (i : Nat) (hi : i ≤ n) : RdAt w (.slice (some ⟨b, 0, none⟩) i c) (P.take i) := by
  obtain ⟨a, c', e, _, hlc, h⟩ := h
  simp only [Value.slice.injEq] at e
  obtain ⟨rfl, rfl, rfl⟩ := e
  have hl : (P.take i).length = i := by rw [List.length_take]; omega
  refine ⟨some ⟨b, 0, none⟩, c, by rw [hl], (fun e => by cases e), by omega, ?_⟩
  rcases h with h | ⟨b', off', e, h⟩
  · exact .inl (by omega)
  · simp only [Option.some.injEq, Addr.mk.injEq, and_true] at e
    obtain ⟨rfl, rfl⟩ := e
    refine .inr ⟨b, 0, rfl, fun j u hu => h j u ?_⟩
    unfold cels at hu ⊢
    rw [List.map_take, List.getElem?_take] at hu
    split at hu
    · exact hu
    · cases hu
end Go.Proofs.Ytglfkpdbgddpdaa
