/-
  The contracts of what makes values, pages and senses.
-/
import Derived.Test.YtdojhgapdocngaaMBox
namespace Go.Proofs.Ytdojhgapdocngaa
open Go.RowKit
set_option linter.unusedVariables false
set_option linter.unusedSimpArgs false

def dflt : Vs := ⟨true, false, false⟩
def allV : Vs := ⟨true, true, true⟩
def noV : Vs := ⟨false, false, false⟩
def faultS (f b : Int) : Sn := ⟨5, 9728, 0, false, f, b, true, false⟩
def shortS : Sn := ⟨5, 6656, 0, false, 0, 0, false, false⟩
def noS : Sn := ⟨0, 0, 0, false, 0, 0, false, false⟩

theorem fault_any (f b : Int) (w : World) : Calls Try.prog 31 #[.int .i64 f, .int .i64 b] w fun e w' => e = .returned (.agg (faultS f b).vals) ∧ Below w.heap.size w w' := by
  go_enter Try.func31, Try.ntmps31
  go_wp2
  refine bodyPost_ret (v := .agg (faultS f b).vals) (by simp [results, Try.results31, go_sem, faultS, Sn.vals]) rfl ⟨rfl, ?_⟩
  exact (Below.refl _ _).alloc (Nat.le_refl _) _

theorem short_any (w : World) : Calls Try.prog 30 #[] w fun e w' => e = .returned (.agg shortS.vals) ∧ Below w.heap.size w w' := by
  go_enter Try.func30, Try.ntmps30
  go_wp2
  refine bodyPost_ret (v := .agg shortS.vals) (by simp [results, Try.results30, go_sem, shortS, Sn.vals]) rfl ⟨rfl, ?_⟩
  exact (Below.refl _ _).alloc (Nat.le_refl _) _

theorem every_any (w : World) : Calls Try.prog 29 #[] w fun e w' => e = .returned (.agg allV.vals) ∧ Below w.heap.size w w' := by
  go_enter Try.func29, Try.ntmps29
  go_wp2
  refine bodyPost_ret (v := .agg allV.vals) (by simp [results, Try.results29, go_sem, allV, Vs.vals]) rfl ⟨rfl, ?_⟩
  exact (Below.refl _ _).alloc (Nat.le_refl _) _

theorem default_any (w : World) : Calls Try.prog 9 #[] w fun e w' => e = .returned (.agg dflt.vals) ∧ Below w.heap.size w w' := by
  go_enter Try.func9, Try.ntmps9
  go_wp2
  refine bodyPost_ret (v := .agg dflt.vals) (by simp [results, Try.results9, go_sem, dflt, Vs.vals]) rfl ⟨rfl, ?_⟩
  exact (Below.refl _ _).alloc (Nat.le_refl _) _

theorem new_any (v : Vs) (w : World) : Calls Try.prog 10 #[.agg v.vals] w fun e w' => ∃ B, e = .returned (.pointer (some ⟨B, 0, none⟩)) ∧ w.heap.size ≤ B ∧ Pg w' B v v ∧ Below w.heap.size w w' := by
  obtain ⟨a, b, c⟩ := v
  simp only [Vs.vals]
  go_enter Try.func10, Try.ntmps10
  go_wp2
  go_ret
  refine ⟨_, rfl, ?_, ⟨?_, ?_, ?_, ?_, ?_, ?_, ?_, ?_⟩, ((Below.refl _ _).alloc (Nat.le_refl _) _).alloc (by simp) _⟩
  all_goals simp

theorem now_any (B : Nat) (n s : Vs) (w : World) (h : Pg w B n s) : Calls Try.prog 16 #[.pointer (some ⟨B, 0, none⟩)] w fun e w' => e = .returned (.agg n.vals) ∧ Below w.heap.size w w' := by
  have h0 := h.c0
  have h1 := h.c1
  have h2 := h.c2
  have hlt := h.lt
  clear h
  obtain ⟨a, b, c⟩ := n
  simp only at h0 h1 h2
  go_enter Try.func16, Try.ntmps16
  go_wp2
  refine bodyPost_ret (v := .agg (Vs.vals ⟨a, b, c⟩)) (by simp [results, Try.results16, go_sem, Vs.vals]) rfl ⟨rfl, ?_⟩
  exact (Below.refl _ _).alloc (Nat.le_refl _) _

theorem saved_any (B : Nat) (n s : Vs) (w : World) (h : Pg w B n s) : Calls Try.prog 17 #[.pointer (some ⟨B, 0, none⟩)] w fun e w' => e = .returned (.agg s.vals) ∧ Below w.heap.size w w' := by
  have h0 := h.c3
  have h1 := h.c4
  have h2 := h.c5
  have hlt := h.lt
  clear h
  obtain ⟨a, b, c⟩ := s
  simp only at h0 h1 h2
  go_enter Try.func17, Try.ntmps17
  go_wp2
  refine bodyPost_ret (v := .agg (Vs.vals ⟨a, b, c⟩)) (by simp [results, Try.results17, go_sem, Vs.vals]) rfl ⟨rfl, ?_⟩
  exact (Below.refl _ _).alloc (Nat.le_refl _) _

theorem now_nil (w : World) : Calls Try.prog 16 #[.pointer none] w fun e w' => e = .returned (.agg noV.vals) ∧ Below w.heap.size w w' := by
  go_enter Try.func16, Try.ntmps16
  go_wp2
  refine bodyPost_ret (v := .agg noV.vals) (by simp [results, Try.results16, go_sem, Vs.vals, noV]) rfl ⟨rfl, ?_⟩
  exact (Below.refl _ _).alloc (Nat.le_refl _) _
theorem saved_nil (w : World) : Calls Try.prog 17 #[.pointer none] w fun e w' => e = .returned (.agg noV.vals) ∧ Below w.heap.size w w' := by
  go_enter Try.func17, Try.ntmps17
  go_wp2
  refine bodyPost_ret (v := .agg noV.vals) (by simp [results, Try.results17, go_sem, Vs.vals, noV]) rfl ⟨rfl, ?_⟩
  exact (Below.refl _ _).alloc (Nat.le_refl _) _

theorem awake_any (w : World) : Calls Try.prog 8 #[] w fun e w' => e = .returned (.bool true) ∧ Below w.heap.size w w' := by
  have hfd : ∀ w : World, (Instr.field 23 (.agg #[.bool true, .bool false, .bool false]) 0).run Try.prog w = .ok (.bool true) w := fun _ => by kernel_rfl
  go_enter Try.func8, Try.ntmps8
  go_wp2_with (first
    | (go_at_call 16; refine (now_any _ _ _ _ hP.out).mono ?_; rintro e w3 ⟨e3, hb3⟩; rw [show dflt.vals = #[.bool true, .bool false, .bool false] from rfl] at e3; subst e3; replace hb3 := Kpt.mk hb3)
    | (go_at_call 10; refine (new_any _ _).mono ?_; rintro e w2 ⟨B, rfl, hB, hP, hb2⟩; replace hP := Kpt.mk hP; replace hb2 := Kpt.mk hb2; replace hB := Kpt.mk hB)
    | (go_at_call 9; refine (default_any _).mono ?_; rintro e w1 ⟨rfl, hb1⟩; replace hb1 := Kpt.mk hb1))
  go_ret
  exact ⟨rfl, (hb1.out.trans (hb2.out.mono hb1.out.size)).trans (hb3.out.mono (Nat.le_trans hb1.out.size hb2.out.size))⟩

theorem bits_any (v : Vs) (w : World) : Calls Try.prog 11 #[.agg v.vals] w fun e w' => e = .returned (.int .i64 (b2 v.a 1 + b2 v.b 2 + b2 v.c 4)) ∧ Below w.heap.size w w' := by
  obtain ⟨a, b, c⟩ := v
  cases a <;> cases b <;> cases c <;> simp only [Vs.vals]
  all_goals
    go_enter Try.func11, Try.ntmps11
    go_wp2
    go_ret
    exact ⟨by simp [b2], (Below.refl _ _).alloc (Nat.le_refl _) _⟩
end Go.Proofs.Ytdojhgapdocngaa
