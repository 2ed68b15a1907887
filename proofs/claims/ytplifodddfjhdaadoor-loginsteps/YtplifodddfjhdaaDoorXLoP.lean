/-
  login: what keys come to where there are no users: plain facts.
-/
import Derived.Test.YtplifodddfjhdaaDoorXLoA
namespace Go.Proofs.YtplifodddfjhdaaDoor
open Go.RowKit
set_option linter.unusedVariables false
set_option linter.unusedSimpArgs false

theorem agV_keep2 (s : Lg) (K V : ByteArray) : (agV s K V).2.begun = s.begun ∧ (agV s K V).2.stage = s.stage ∧ (agV s K V).2.over = s.over ∧ (agV s K V).2.proved = s.proved := by
  unfold agV
  by_cases h0 : K = hdB
  · rw [if_pos h0]; exact ⟨rfl, rfl, rfl, rfl⟩
  by_cases h1 : K = ddB
  · rw [if_neg h0, if_pos h1]; exact ⟨rfl, rfl, rfl, rfl⟩
  by_cases h2 : K = kSeg
  · rw [if_neg h0, if_neg h1, if_pos h2]; exact ⟨rfl, rfl, rfl, rfl⟩
  by_cases h3 : K = kBu
  · rw [if_neg h0, if_neg h1, if_neg h2, if_pos h3]; exact ⟨rfl, rfl, rfl, rfl⟩
  by_cases h4 : K = kFi
  · rw [if_neg h0, if_neg h1, if_neg h2, if_neg h3, if_pos h4]; exact ⟨rfl, rfl, rfl, rfl⟩
  by_cases h5 : K = kR2
  · rw [if_neg h0, if_neg h1, if_neg h2, if_neg h3, if_neg h4, if_pos h5]; exact ⟨rfl, rfl, rfl, rfl⟩
  by_cases h6 : K = kIm
  · rw [if_neg h0, if_neg h1, if_neg h2, if_neg h3, if_neg h4, if_neg h5, if_pos h6]; exact ⟨rfl, rfl, rfl, rfl⟩
  by_cases h7 : K = kMo
  · rw [if_neg h0, if_neg h1, if_neg h2, if_neg h3, if_neg h4, if_neg h5, if_neg h6, if_pos h7]; exact ⟨rfl, rfl, rfl, rfl⟩
  by_cases h8 : K = kMc
  · rw [if_neg h0, if_neg h1, if_neg h2, if_neg h3, if_neg h4, if_neg h5, if_neg h6, if_neg h7, if_pos h8]; exact ⟨rfl, rfl, rfl, rfl⟩
  by_cases h9 : K = kEr
  · rw [if_neg h0, if_neg h1, if_neg h2, if_neg h3, if_neg h4, if_neg h5, if_neg h6, if_neg h7, if_neg h8, if_pos h9]; exact ⟨rfl, rfl, rfl, rfl⟩
  by_cases h10 : K = kPo
  · rw [if_neg h0, if_neg h1, if_neg h2, if_neg h3, if_neg h4, if_neg h5, if_neg h6, if_neg h7, if_neg h8, if_neg h9, if_pos h10]; exact ⟨rfl, rfl, rfl, rfl⟩
  by_cases h11 : K = kSo
  · rw [if_neg h0, if_neg h1, if_neg h2, if_neg h3, if_neg h4, if_neg h5, if_neg h6, if_neg h7, if_neg h8, if_neg h9, if_neg h10, if_pos h11]; exact ⟨rfl, rfl, rfl, rfl⟩
  rw [if_neg h0, if_neg h1, if_neg h2, if_neg h3, if_neg h4, if_neg h5, if_neg h6, if_neg h7, if_neg h8, if_neg h9, if_neg h10, if_neg h11]; exact ⟨rfl, rfl, rfl, rfl⟩
theorem agV_tg (s : Lg) (x : Value) (K V : ByteArray) : agV { s with tg := x } K V = ((agV s K V).1, { (agV s K V).2 with tg := x }) := by
  unfold agV
  by_cases h0 : K = hdB
  · simp only [if_pos h0]
  by_cases h1 : K = ddB
  · simp only [if_neg h0, if_pos h1]
  by_cases h2 : K = kSeg
  · simp only [if_neg h0, if_neg h1, if_pos h2]
  by_cases h3 : K = kBu
  · simp only [if_neg h0, if_neg h1, if_neg h2, if_pos h3]
  by_cases h4 : K = kFi
  · simp only [if_neg h0, if_neg h1, if_neg h2, if_neg h3, if_pos h4]
  by_cases h5 : K = kR2
  · simp only [if_neg h0, if_neg h1, if_neg h2, if_neg h3, if_neg h4, if_pos h5]
  by_cases h6 : K = kIm
  · simp only [if_neg h0, if_neg h1, if_neg h2, if_neg h3, if_neg h4, if_neg h5, if_pos h6]
  by_cases h7 : K = kMo
  · simp only [if_neg h0, if_neg h1, if_neg h2, if_neg h3, if_neg h4, if_neg h5, if_neg h6, if_pos h7]
  by_cases h8 : K = kMc
  · simp only [if_neg h0, if_neg h1, if_neg h2, if_neg h3, if_neg h4, if_neg h5, if_neg h6, if_neg h7, if_pos h8]
  by_cases h9 : K = kEr
  · simp only [if_neg h0, if_neg h1, if_neg h2, if_neg h3, if_neg h4, if_neg h5, if_neg h6, if_neg h7, if_neg h8, if_pos h9]
  by_cases h10 : K = kPo
  · simp only [if_neg h0, if_neg h1, if_neg h2, if_neg h3, if_neg h4, if_neg h5, if_neg h6, if_neg h7, if_neg h8, if_neg h9, if_pos h10]
  by_cases h11 : K = kSo
  · simp only [if_neg h0, if_neg h1, if_neg h2, if_neg h3, if_neg h4, if_neg h5, if_neg h6, if_neg h7, if_neg h8, if_neg h9, if_neg h10, if_pos h11]
  simp only [if_neg h0, if_neg h1, if_neg h2, if_neg h3, if_neg h4, if_neg h5, if_neg h6, if_neg h7, if_neg h8, if_neg h9, if_neg h10, if_neg h11]
theorem sF_keep2 (I : ByteArray) (t : Lg) (K V : ByteArray) (h : sI t) (hk : (sF I t (K, V)).2.1 = true) : sI (sF I t (K, V)).2.2 := by
  obtain ⟨i1, i2, i3, i4⟩ := h
  unfold sF at hk ⊢
  simp only at hk ⊢
  by_cases h0 : K = kIni
  · simp only [if_pos h0] at hk ⊢; exact ⟨i1, i2, i3, i4⟩
  by_cases h1 : K = kAl
  · simp only [if_neg h0, if_pos h1] at hk ⊢; exact ⟨i1, i2, i3, i4⟩
  by_cases h2 : K = kSes
  · simp only [if_neg h0, if_neg h1, if_pos h2] at hk ⊢; exact ⟨i1, i2, i3, i4⟩
  by_cases h3 : K = kTgt
  · simp only [if_neg h0, if_neg h1, if_neg h2, if_pos h3] at hk ⊢; exact ⟨i1, i2, i3, i4⟩
  by_cases h4 : K = kRsp
  · simp only [if_neg h0, if_neg h1, if_neg h2, if_neg h3, if_pos h4] at hk ⊢; exact ⟨i1, i2, i3, i4⟩
  by_cases h5 : K = kAut
  · simp only [if_neg h0, if_neg h1, if_neg h2, if_neg h3, if_neg h4, if_pos h5] at hk ⊢; exact ⟨i1, i2, i3, i4⟩
  by_cases h6 : K = kCA
  · simp only [if_neg h0, if_neg h1, if_neg h2, if_neg h3, if_neg h4, if_neg h5, if_pos h6] at hk; cases hk
  by_cases h7 : K = kCN
  · simp only [if_neg h0, if_neg h1, if_neg h2, if_neg h3, if_neg h4, if_neg h5, if_neg h6, if_pos h7] at hk; cases hk
  simp only [if_neg h0, if_neg h1, if_neg h2, if_neg h3, if_neg h4, if_neg h5, if_neg h6, if_neg h7]
  obtain ⟨a1, a2, a3, a4⟩ := agV_keep2 t K V
  exact ⟨a1.trans i1, a2.trans i2, a3.trans i3, a4.trans i4⟩
theorem sF_tg (I : ByteArray) (t : Lg) (x : Value) (K V : ByteArray) : sF I { t with tg := x } (K, V) = ((sF I t (K, V)).1, (sF I t (K, V)).2.1, { (sF I t (K, V)).2.2 with tg := x }) := by
  unfold sF
  simp only
  by_cases h0 : K = kIni
  · simp only [if_pos h0]
  by_cases h1 : K = kAl
  · simp only [if_neg h0, if_pos h1]
  by_cases h2 : K = kSes
  · simp only [if_neg h0, if_neg h1, if_pos h2]
  by_cases h3 : K = kTgt
  · simp only [if_neg h0, if_neg h1, if_neg h2, if_pos h3]
  by_cases h4 : K = kRsp
  · simp only [if_neg h0, if_neg h1, if_neg h2, if_neg h3, if_pos h4]
  by_cases h5 : K = kAut
  · simp only [if_neg h0, if_neg h1, if_neg h2, if_neg h3, if_neg h4, if_pos h5]
  by_cases h6 : K = kCA
  · simp only [if_neg h0, if_neg h1, if_neg h2, if_neg h3, if_neg h4, if_neg h5, if_pos h6]
  by_cases h7 : K = kCN
  · simp only [if_neg h0, if_neg h1, if_neg h2, if_neg h3, if_neg h4, if_neg h5, if_neg h6, if_pos h7]
  simp only [if_neg h0, if_neg h1, if_neg h2, if_neg h3, if_neg h4, if_neg h5, if_neg h6, if_neg h7, agV_tg]
theorem sF_tgp (I : ByteArray) (t : Lg) (x : Value) (p : ByteArray × ByteArray) : sF I { t with tg := x } p = ((sF I t p).1, (sF I t p).2.1, { (sF I t p).2.2 with tg := x }) := by
  obtain ⟨K, V⟩ := p
  exact sF_tg I t x K V
theorem akF_tg (I : ByteArray) (x : Value) : ∀ (l : Prs) (t : Lg), akF (sF I) { t with tg := x } l = ((akF (sF I) t l).1, (akF (sF I) t l).2.1, { (akF (sF I) t l).2.2 with tg := x })
  | [], t => rfl
  | p :: l, t => by
    by_cases h : (sF I t p).2.1 = true
    · have h' : (sF I { t with tg := x } p).2.1 = true := by rw [sF_tgp]; exact h
      rw [akF, if_pos h', akF, if_pos h, sF_tgp]
      simp only [akF_tg I x l]
    · have h' : ¬ (sF I { t with tg := x } p).2.1 = true := by rw [sF_tgp]; exact h
      rw [akF, if_neg h', akF, if_neg h, sF_tgp]
theorem akF_inv (I : ByteArray) : ∀ (l : Prs) (t : Lg), sI t → (akF (sF I) t l).2.1 = true → sI (akF (sF I) t l).2.2
  | [], t, h, _ => h
  | (K, V) :: l, t, h, hk => by
    by_cases hp : (sF I t (K, V)).2.1 = true
    · rw [akF, if_pos hp] at hk ⊢
      exact akF_inv I l _ (sF_keep2 I t K V h hp) hk
    · rw [akF, if_neg hp] at hk; cases hk
theorem sF_hello (I : ByteArray) (t : Lg) (l : Prs) : akF (sF I) t ((kIni, vI) :: (kTgt, vT) :: l) = akF (sF I) t l := by
  have e1 : sF I t (kIni, vI) = ([], true, t) := by unfold sF; rw [if_pos rfl]
  have e2 : sF I t (kTgt, vT) = ([], true, t) := by unfold sF; rw [if_neg (by decide +kernel), if_neg (by decide +kernel), if_neg (by decide +kernel), if_pos rfl]
  rw [akF, e1, if_pos rfl, akF, e2, if_pos rfl]
  simp
end Go.Proofs.YtplifodddfjhdaaDoor
