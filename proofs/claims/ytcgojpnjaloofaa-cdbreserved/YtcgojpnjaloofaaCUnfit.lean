/-
  The contract of unfit.
-/
import Derived.Test.YtcgojpnjaloofaaCBit
namespace Go.Proofs.Ytcgojpnjaloofaa
open Go.RowKit
set_option linter.unusedVariables false
set_option linter.unusedSimpArgs false

theorem place_ne (a : Option Addr) (n cap : Nat) (w : World) (h : n ≠ 10) : Calls Try.prog 34 #[.slice a n cap] w fun e w' => e = .returned (.tuple #[.int .i64 10, .int .i64 4]) ∧ w' = w := by
  have h' : ¬ (n : Int) = 10 := by omega
  go_enter Try.func34, Try.ntmps34
  go_wp2
  go_ret2
  exact ⟨rfl, rfl⟩

set_option maxRecDepth 100000 in
set_option maxHeartbeats 2000000 in
theorem unfit_any (c : Cm) (b off n cap : Nat) (zs : List Int) (w : World) (hb : B.Bytes zs) (h2 : 2 ≤ n) (hn : n ≤ 16) (hc : Cells w b off n zs) (hbl : 0 ≤ c.blocks) :
    Calls Try.prog 21 #[.agg c.vals, .slice (some ⟨b, off, none⟩) n cap] w fun e w' => e = .returned (.tuple #[.int .i64 (unfitL c (zs.getD 1 0) n).1, .int .i64 (unfitL c (zs.getD 1 0) n).2]) ∧ Below w.heap.size w w' := by
  obtain ⟨kind, long, lba, blocks, alloc, fua, prot, unmap, evpd, page, control, save, service, type, bytes⟩ := c
  have c1 := hc.2 1 (by omega)
  have hlt := hc.1
  have z1 := hb 1
  obtain ⟨y1, ez1⟩ : ∃ x, x = zs.getD 1 0 := ⟨_, rfl⟩
  rw [← ez1] at c1 z1 ⊢
  clear ez1 hc hb
  have q := (bt_of y1 z1).2.2.2.1
  simp only [Cm.vals] at hbl ⊢
  have BB : ∀ o, Below w.heap.size w (w.alloc o) := fun o => (Below.refl _ _).alloc (Nat.le_refl _) _
  replace BB := Kpt.mk BB
  by_cases k3 : kind = 3
  · subst k3
    clear q
    cases evpd with
    | true =>
      go_enter Try.func21, Try.ntmps21
      go_wp2
      go_ret2
      exact ⟨by simp [unfitL], BB.out _⟩
    | false =>
      by_cases hp : page = 0
      · subst hp
        go_enter Try.func21, Try.ntmps21
        go_wp2
        go_ret2
        exact ⟨by simp [unfitL], BB.out _⟩
      · go_enter Try.func21, Try.ntmps21
        go_wp2
        go_ret2
        exact ⟨by simp [unfitL, hp], BB.out _⟩
  by_cases k4 : kind = 4
  · subst k4
    cases hq : bt y1 16 with
    | true =>
      rw [hq] at q
      go_enter Try.func21, Try.ntmps21
      go_wp2
      go_ret2
      exact ⟨by simp [unfitL, hq], BB.out _⟩
    | false =>
      rw [hq] at q
      go_enter Try.func21, Try.ntmps21
      go_wp2
      go_ret2
      exact ⟨by simp [unfitL, hq], BB.out _⟩
  clear q
  by_cases k17 : kind = 17
  · subst k17
    by_cases hp : page = 3
    · subst hp
      go_enter Try.func21, Try.ntmps21
      go_wp2
      go_ret2
      exact ⟨by simp [unfitL], BB.out _⟩
    · go_enter Try.func21, Try.ntmps21
      go_wp2
      go_ret2
      exact ⟨by simp [unfitL, hp], BB.out _⟩
  by_cases kb : 7 ≤ kind ∧ kind ≤ 10
  · have e : unfitL ⟨kind, long, lba, blocks, alloc, fua, prot, unmap, evpd, page, control, save, service, type, bytes⟩ y1 n = (if 256 < blocks then (if n = 10 then (7, 7) else (10, 7)) else (-1, -1)) := by
      simp only [unfitL, if_neg k3, if_neg k4, if_neg k17, if_pos kb]
    rw [e]
    replace e := Kpt.mk e
    have hk : kind = 7 ∨ kind = 8 ∨ kind = 9 ∨ kind = 10 := by omega
    clear kb k3 k4 k17 e
    by_cases hg : 256 < blocks
    · rw [if_pos hg]
      by_cases hn10 : n = 10
      · rw [if_pos hn10]
        subst hn10
        rcases hk with rfl | rfl | rfl | rfl
        all_goals
          go_enter Try.func21, Try.ntmps21
          go_wp2_with (go_at_call 34; refine (place_10 _ _ _).mono ?_; rintro e w' ⟨rfl, rfl⟩)
          go_ret2
          exact ⟨rfl, BB.out _⟩
      · rw [if_neg hn10]
        replace hn10 := Kpt.mk hn10
        rcases hk with rfl | rfl | rfl | rfl
        all_goals
          go_enter Try.func21, Try.ntmps21
          go_wp2_with (go_at_call 34; refine (place_ne _ _ _ _ hn10.out).mono ?_; rintro e w' ⟨rfl, rfl⟩)
          go_ret2
          exact ⟨rfl, BB.out _⟩
    · rw [if_neg hg]
      rcases hk with rfl | rfl | rfl | rfl
      all_goals
        go_enter Try.func21, Try.ntmps21
        go_wp2
        go_ret2
        exact ⟨rfl, BB.out _⟩
  · have e : unfitL ⟨kind, long, lba, blocks, alloc, fua, prot, unmap, evpd, page, control, save, service, type, bytes⟩ y1 n = (-1, -1) := by
      simp only [unfitL, if_neg k3, if_neg k4, if_neg k17, if_neg kb]
    rw [e]
    have k7 : kind ≠ 7 := by omega
    have k8 : kind ≠ 8 := by omega
    have k9 : kind ≠ 9 := by omega
    have k10 : kind ≠ 10 := by omega
    clear e kb
    go_enter Try.func21, Try.ntmps21
    go_wp2
    go_ret2
    exact ⟨rfl, BB.out _⟩
end Go.Proofs.Ytcgojpnjaloofaa
