/-
  Bytes as strings; the contract of bytes.Equal; what is read is in bounds.
-/
import Derived.Test.YtglfkpdbgddpdaaSReadE
import Derived.Test.YtglfkpdbgddpdaaSDescd
import Derived.Lib.Bytes
namespace Go.Proofs.Ytglfkpdbgddpdaa
open Go.RowKit
set_option linter.unusedVariables false
set_option linter.unusedSimpArgs false

theorem conv_rd (w : World) (v : Value) (zs : List Int) (h : RdAt w v zs) : (convert 27 9 v).run Try.prog w = .ok (.string (strOfNums zs)) w := by
  obtain ⟨a, c, rfl, ha, hlc, h⟩ := id h
  refine B.conv_any w a zs.length c zs rfl ?_
  rcases h with h0 | ⟨b, off, rfl, hc⟩
  · exact .inl h0
  · exact .inr ⟨b, off, rfl, (rd_cells (by assumption)).2⟩

theorem str_inj {A C : List Int} (hA : B.Bytes A) (hC : B.Bytes C) (h : strOfNums A = strOfNums C) : A = C := by
  have h1 := congrArg (fun s => s.data.toList) h
  simp only [strOfNums_data] at h1
  have hl : A.length = C.length := by have := congrArg List.length h1; simpa using this
  refine List.ext_getElem hl (fun i h2 h3 => ?_)
  have h4 := congrArg (fun l => l[i]?) h1
  simp [h2, h3] at h4
  have a := hA i
  have c := hC i
  rw [List.getD_eq_getElem?_getD, List.getElem?_eq_getElem h2] at a
  rw [List.getD_eq_getElem?_getD, List.getElem?_eq_getElem h3] at c
  simp at a c
  have h5 := congrArg UInt8.toNat h4
  simp at h5
  omega

theorem equal_any (u v : Value) (A C : List Int) (w : World) (ha : RdAt w u A) (hc : RdAt w v C) (hA : B.Bytes A) (hC : B.Bytes C) :
    Calls Try.prog 25 #[u, v] w fun e w' => e = .returned (.bool (decide (A = C))) ∧ w' = w := by
  have h1 := conv_rd w u A ha
  have h2 := conv_rd w v C hc
  obtain ⟨a, ca, rfl⟩ := rd_len ha
  obtain ⟨b, cb, rfl⟩ := rd_len hc
  have hR : Kpt (((strOfNums A).toList == (strOfNums C).toList) = decide (A = C)) := ⟨by
    by_cases h : A = C
    · subst h; simp
    · rw [decide_eq_false h, beq_eq_false_iff_ne]
      intro e
      rw [Go.Lib.strOfNums_toList, Go.Lib.strOfNums_toList] at e
      exact h (str_inj hA hC (by unfold strOfNums; exact congrArg (fun l => ByteArray.mk l.toArray) e))⟩
  clear ha hc
  obtain ⟨n, hn⟩ : ∃ n, n = A.length := ⟨_, rfl⟩
  obtain ⟨m, hm⟩ : ∃ n, n = C.length := ⟨_, rfl⟩
  obtain ⟨S, hS⟩ : ∃ S, S = strOfNums A := ⟨_, rfl⟩
  obtain ⟨T, hT⟩ : ∃ T, T = strOfNums C := ⟨_, rfl⟩
  rw [← hn, ← hS] at h1
  rw [← hm, ← hT] at h2
  rw [← hS, ← hT] at hR
  rw [← hn, ← hm]
  clear hn hm hS hT
  obtain ⟨d, hd⟩ : ∃ d, d = decide (A = C) := ⟨_, rfl⟩
  rw [← hd] at hR ⊢
  clear hd
  go_enter Try.func25, Try.ntmps25
  go_wp2
  go_ret
  exact ⟨B.ret_bool hR.out, rfl⟩

theorem withF_wf {s : Sn} {zs : List Int} {i : Nat} (h : s.wf) (hb : B.Bytes zs) : (s.withF zs i).wf := by
  unfold Sn.withF
  split
  · exact h
  · have h1 := getN_bd zs hb i 1
    have h2 := getN_bd zs hb (i + 1) 2
    simp at h1 h2
    refine ⟨h.key, h.code, h.info, ?_, ?_⟩
    · simp only; omega
    · simp only; split <;> omega

theorem gF_wf {zs : List Int} (hb : B.Bytes zs) : (gF zs).wf := by
  have h1 := getN_bd zs hb 2 1
  have h2 := getN_bd zs hb 12 2
  have h3 := getN_bd zs hb 3 4
  simp at h1 h2 h3
  exact withF_wf ⟨by simp only; omega, by simp only; omega, by simp only; omega, by simp, by simp⟩ hb

theorem gF_info {zs : List Int} (hb : B.Bytes zs) : (gF zs).info < 4294967296 := by
  have h3 := getN_bd zs hb 3 4
  simp at h3
  unfold gF Sn.withF
  split <;> exact h3.2

theorem gD_wf {zs : List Int} (hb : B.Bytes zs) : (gD zs).wf := by
  have h1 := getN_bd zs hb 1 1
  have h2 := getN_bd zs hb 2 2
  have h3 := getN_bd (zs.drop 8) (bytes_drop hb 8) 4 8
  simp at h1 h2 h3
  unfold gD
  split
  · exact withF_wf ⟨by simp only; omega, by simp only; omega, by simp only; omega, by simp, by simp⟩ (bytes_drop hb 20)
  · exact withF_wf ⟨by simp only; omega, by simp only; omega, by simp, by simp, by simp⟩ (bytes_drop hb 8)

/-- Which format. -/
def isD (zs : List Int) : Bool := decide (0 < zs.length) && decide (zs.getD 0 0 = 114)

/-- What Decode tells. -/
def decS (zs : List Int) : Option Sn :=
  if isD zs then (if (gD zs).form = true ∧ (gD zs).descB = zs then some (gD zs) else none)
  else (if (gF zs).form = true ∧ (gF zs).fixedB = zs then some (gF zs) else none)

def sn0 : Sn := ⟨0, 0, 0, false, 0, 0, false, false⟩
def decRes (zs : List Int) : Value := match decS zs with
  | some s => .tuple #[.agg s.vals, .int .i64 0]
  | none => .tuple #[.agg sn0.vals, .int .i64 3]

theorem bytes_of_wf_fixed {s : Sn} (h : s.wf) (hf : s.form = true) (hi : s.info < 4294967296) : B.Bytes s.fixedB := by
  obtain ⟨h0, h1, h2, h3, h4⟩ := Sn.form_field hf
  have hfl : 0 ≤ s.flags ∧ s.flags ≤ 255 := by unfold Sn.flags; (repeat' split) <;> omega
  obtain ⟨⟨a0, a1⟩, ⟨b0, b1⟩, ⟨c0, c1⟩, _, _⟩ := h
  intro j
  have : ∀ x ∈ s.fixedB, 0 ≤ x ∧ x ≤ 255 := by
    intro x hx
    simp [Sn.fixedB, Sn.fieldB] at hx
    rcases hx with rfl | rfl | rfl | rfl | rfl | rfl | rfl | rfl | rfl | rfl | rfl | rfl | rfl | rfl | rfl <;> first | omega | (split <;> omega)
  rw [List.getD_eq_getElem?_getD]
  by_cases hj : j < s.fixedB.length
  · rw [List.getElem?_eq_getElem hj]; exact this _ (List.getElem_mem _)
  · rw [List.getElem?_eq_none (by omega)]; simp

theorem bytes_of_wf_desc {s : Sn} (h : s.wf) (hf : s.form = true) : B.Bytes s.descB := by
  obtain ⟨h0, h1, h2, h3, h4⟩ := Sn.form_field hf
  have hfl : 0 ≤ s.flags ∧ s.flags ≤ 255 := by unfold Sn.flags; (repeat' split) <;> omega
  obtain ⟨⟨a0, a1⟩, ⟨b0, b1⟩, ⟨c0, c1⟩, _, _⟩ := h
  have hl : s.rest.length ≤ 20 := by unfold Sn.rest; (repeat' split) <;> simp [Sn.infoB, Sn.partB, Sn.fieldB]
  have hI : ∀ x ∈ s.infoB, 0 ≤ x ∧ x ≤ 255 := by
    intro x hx
    simp [Sn.infoB] at hx
    rcases hx with rfl | rfl | rfl | rfl | rfl | rfl | rfl | rfl | rfl | rfl | rfl | rfl <;> omega
  have hP : ∀ x ∈ s.partB, 0 ≤ x ∧ x ≤ 255 := by
    intro x hx
    simp [Sn.partB, Sn.fieldB] at hx
    rcases hx with rfl | rfl | rfl | rfl | rfl | rfl | rfl | rfl <;> omega
  intro j
  have : ∀ x ∈ s.descB, 0 ≤ x ∧ x ≤ 255 := by
    intro x hx
    simp only [Sn.descB, List.mem_append, List.mem_cons, List.not_mem_nil, or_false] at hx
    rcases hx with (rfl | rfl | rfl | rfl | rfl | rfl | rfl | rfl) | hx
    any_goals omega
    unfold Sn.rest at hx
    rw [List.mem_append] at hx
    rcases hx with hx | hx
    · split at hx
      · exact hI x hx
      · cases hx
    · split at hx
      · exact hP x hx
      · cases hx
  rw [List.getD_eq_getElem?_getD]
  by_cases hj : j < s.descB.length
  · rw [List.getElem?_eq_getElem hj]; exact this _ (List.getElem_mem _)
  · rw [List.getElem?_eq_none (by omega)]; simp
end Go.Proofs.Ytglfkpdbgddpdaa
