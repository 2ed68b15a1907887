/-
  login: what a first step comes to.
-/
import Derived.Test.YtplifodddfjhdaaDoorXLgA
namespace Go.Proofs.YtplifodddfjhdaaDoor
open Go.RowKit
set_option linter.unusedVariables false
set_option linter.unusedSimpArgs false

theorem k12 : ¬ kIni = kSes := by decide +kernel
theorem k13 : ¬ kIni = kTgt := by decide +kernel
theorem k32 : ¬ kTgt = kSes := by decide +kernel
def ps2 (I T : ByteArray) : List (ByteArray × ByteArray) := [(kIni, I), (kTgt, T)]
def ps3 (I T S : ByteArray) : List (ByteArray × ByteArray) := [(kIni, I), (kTgt, T)] ++ [(kSes, S)]
theorem ig2 (I T : ByteArray) : ∀ p ∈ ps2 I T, ign p.1 := fun p hp => by
  simp only [ps2, List.mem_cons, List.not_mem_nil, or_false] at hp
  rcases hp with rfl | rfl
  · exact .inl rfl
  · exact .inr (.inr rfl)
theorem ig3 (I T S : ByteArray) : ∀ p ∈ ps3 I T S, ign p.1 := fun p hp => by
  simp only [ps3, List.mem_append, List.mem_cons, List.not_mem_nil, or_false] at hp
  rcases hp with (rfl | rfl) | rfl
  · exact .inl rfl
  · exact .inr (.inr rfl)
  · exact .inr (.inl rfl)
theorem f2I (I T : ByteArray) : findP (ps2 I T) kIni = some I := by simp [ps2, findP]
theorem f2T (I T : ByteArray) : findP (ps2 I T) kTgt = some T := by simp [ps2, findP, k13]
theorem f2S (I T : ByteArray) : findP (ps2 I T) kSes = none := by simp [ps2, findP, k12, k32]
theorem f3I (I T S : ByteArray) : findP (ps3 I T S) kIni = some I := by simp [ps3, findP]
theorem f3T (I T S : ByteArray) : findP (ps3 I T S) kTgt = some T := by simp [ps3, findP, k13]
theorem f3S (I T S : ByteArray) : findP (ps3 I T S) kSes = some S := by simp [ps3, findP, k12, k32]

theorem entS_done (h : Hd) (s : Lg) : (entS h s).done = s.done := (begS_keep h _).2.2.2.2
theorem stp_fail {h : Hd} (s : Lg) (hO : begO h = false) (hd : s.done = false) : stpA h = ansF (begD h) ∧ (stpS h s).over = true ∧ (stpS h s).done = false := by
  unfold stpA stpS
  rw [if_neg (by rw [hO]; simp), if_neg (by rw [hO]; simp)]
  exact ⟨rfl, rfl, by rw [← hd]; exact entS_done h s⟩
theorem stp_good {h : Hd} (s : Lg) (hO : begO h = true) : stpA h = ansG (.slice none 0 0) ∧ (stpS h s).done = true ∧ (stpS h s).ini = h.ini ∧ (stpS h s).dis = decide (h.ses = vDis) ∧ (¬ h.ses = vDis → (stpS h s).tgt = h.tgt) := by
  unfold stpA stpS
  rw [if_pos hO, if_pos hO]
  refine ⟨rfl, rfl, ?_, ?_, fun hs => ?_⟩
  · unfold entS begS; split <;> rfl
  · unfold entS begS; split <;> rfl
  · have hn : ¬ (h.ini = ⟨#[]⟩ ∨ kBad h.fnd h.ses ∨ h.ses = vDis) := fun hc => by
      unfold begO at hO
      rcases hc with hc | hc | hc
      · rw [if_pos hc] at hO; cases hO
      · by_cases h1 : h.ini = ⟨#[]⟩
        · rw [if_pos h1] at hO; cases hO
        · rw [if_neg h1, if_pos hc] at hO; cases hO
      · exact hs hc
    unfold entS begS
    rw [if_neg hn]
/-- What a step is known to come to: it fails with a number, or is taken. -/
theorem beg7 {h : Hd} (h1 : h.ini = ⟨#[]⟩) : begO h = false ∧ begD h = 7 := by unfold begO begD; rw [if_pos h1, if_pos h1]; exact ⟨rfl, rfl⟩
theorem beg9 {h : Hd} (h1 : ¬ h.ini = ⟨#[]⟩) (h2 : kBad h.fnd h.ses) : begO h = false ∧ begD h = 9 := by unfold begO begD; rw [if_neg h1, if_neg h1, if_pos h2, if_pos h2]; exact ⟨rfl, rfl⟩
theorem begDis {h : Hd} (h1 : ¬ h.ini = ⟨#[]⟩) (h2 : h.ses = vDis) : begO h = true := by unfold begO; rw [if_neg h1, if_neg (fun k => k.2.2 h2), if_pos h2]
theorem beg_cho {h : Hd} (h1 : ¬ h.ini = ⟨#[]⟩) (h2 : ¬ kBad h.fnd h.ses) (h3 : ¬ h.ses = vDis) : begO h = choO h.os h.tgt ∧ begD h = choD h.os h.tgt := by unfold begO begD; rw [if_neg h1, if_neg h1, if_neg h2, if_neg h2, if_neg h3, if_neg h3]; exact ⟨rfl, rfl⟩
end Go.Proofs.YtplifodddfjhdaaDoor
