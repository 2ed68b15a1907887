/-
  TaskRefuses.
-/
import Derived.Test.YtcnefmfmmgdidaaTFill
namespace Go.Proofs.Ytcnefmfmmgdidaa.taskRefuses
open Go.Proofs.Ytcnefmfmmgdidaa
open Go.RowKit
set_option linter.unusedVariables false
set_option linter.unusedSimpArgs false

theorem ent_cases (ts : List Tk) (st : Int) (t : Tk) : ((entR ts st t).1 = 0 ∧ (entR ts st t).2 = 0 ∧ entL ts st t = ts ++ [{ t with st := false }]) ∨ (entL ts st t = ts ∧ ((entR ts st t).1 ≠ 0 ∧ (entR ts st t).2 = 0 ∨ (entR ts st t).1 = 0 ∧ (entR ts st t).2 ≠ 0)) := by
  unfold entL
  by_cases h : entR ts st t = (0, 0)
  · rw [if_pos h, h]; exact .inl ⟨rfl, rfl, rfl⟩
  · rw [if_neg h]
    refine .inr ⟨rfl, ?_⟩
    unfold entR at h ⊢
    split
    · exact .inr ⟨rfl, by simp⟩
    · split
      · exact .inr ⟨rfl, by simp⟩
      · split
        · exact .inl ⟨by simp, rfl⟩
        · split
          · exact .inl ⟨by simp, rfl⟩
          · rename_i h1 h2 h3 h4
            rw [if_neg h1, if_neg h2, if_neg h3, if_neg h4] at h
            exact absurd rfl h

set_option maxRecDepth 100000 in
set_option maxHeartbeats 2000000 in
theorem ref_walk (a0 : Option Addr) (l0 c0 : Nat) (z0 : List Int) (t : Tk) (w : World) (h0 : Came w a0 l0 z0) :
    Calls Try.prog 8 #[.slice a0 l0 c0, .agg t.vals] w fun e w' => e = .returned (.bool true) ∧ Below w.heap.size w w' := by
  replace h0 := Kpt.mk h0
  have HW := fun W => Kpt.mk (awake_any W)
  obtain ⟨wA, hwA⟩ : ∃ wA, wA = w.alloc (.cells t.vals 48) := ⟨_, rfl⟩
  have hbA : Kpt (Below w.heap.size w wA) := ⟨by rw [hwA]; exact (Below.refl _ _).alloc (Nat.le_refl _) _⟩
  have hrA : Kpt (wA.rangeAt w.heap.size 0 t.vals.toList) := ⟨by rw [hwA]; exact range_new w t 48⟩
  have hsA : wA.heap.size = w.heap.size + 1 := by rw [hwA]; simp
  replace hwA := Kpt.mk hwA
  go_enter Try.func8, Try.ntmps8
  go_wp2_with (first
    | (go_at_call 18; go_must (refine HE.out.mono ?_; rintro e w4 ⟨rfl, hs4⟩; have m4 : Kpt True := ⟨trivial⟩; replace hs4 := Kpt.mk hs4))
    | (go_at_call 14; have hm := m2; go_must (refine HT.out.mono ?_; rintro e w3 ⟨y, rfl, hoy, hs3, _⟩; obtain ⟨q0, q1, q2, q3⟩ := range4 (hrB.out _ hs3.below); have HE := Kpt.mk (ss_enter t hs3); have hsz3 : w.heap.size < w3.heap.size := Nat.lt_of_lt_of_le hszB hs3.below.size; clear HT hm m2 hs3))
    | (go_at_call 24; go_must (refine HL.out.mono ?_; rintro e w2 ⟨B, ts, rfl, hs2, hg2⟩; have HT := Kpt.mk (ss_tasks hs2); have m2 : Kpt True := ⟨trivial⟩; clear hs2 hg2))
    | (go_at_call 9; go_must (refine (HW _).out.mono ?_; rintro e wB ⟨rfl, hbB⟩; rw [← hwA.out] at hbB; have hBB : Kpt (Below w.heap.size w wB) := ⟨hbA.out.trans (hbB.mono hbA.out.size)⟩; have HL := Kpt.mk (fill_any a0 l0 c0 z0 w wB hBB.out h0.out); have hszB : w.heap.size < wB.heap.size := Nat.lt_of_lt_of_le (by rw [hsA]; omega) hbB.size; have hrB : Kpt (∀ W, Below wB.heap.size wB W → W.rangeAt w.heap.size 0 t.vals.toList) := ⟨fun W hW => rangeAt_of_block (w := wA) hrA.out ((hW.block _ hszB).trans (hbB.block _ (by rw [hsA]; omega)))⟩; clear hbB)))
  refine (ss_tasks hs4.out).mono ?_
  rintro e w5 ⟨y2, rfl, ho2, _, hs5⟩
  have hbe : Kpt (Below w.heap.size w w5) := ⟨hBB.out.trans (hs5.below.mono hBB.out.size)⟩
  obtain ⟨p0, p1, p2, p3⟩ := range4 (hrB.out w5 hs5.below)
  have hsz5 : w.heap.size < w5.heap.size := Nat.lt_of_lt_of_le hszB hs5.below.size
  have hfew := hs5.few
  obtain ⟨v5, _, _, ⟨bz, hoy5⟩, _⟩ := hs5
  obtain ⟨ay, cy, hvy, hsy⟩ := hoy5.shape
  obtain ⟨a2, c2, hv2, hs2⟩ := ho2.shape
  subst hvy
  subst hv2
  rcases ent_cases ts (-1) t with ⟨e1, e2, e3⟩ | ⟨e3, hor⟩
  · rw [e3] at hs2 hfew ⊢
    have hl : (ts ++ [{ t with st := false }]).length = ts.length + 1 := by simp
    rw [hl] at hs2 hfew ⊢
    rw [e1, e2]
    rcases hs2 with ⟨_, _, hz⟩ | ⟨g2, rfl, _, hg2, hc21, hc22, _, hr2⟩
    · omega
    obtain ⟨r0, r1, r2, r3⟩ := range4 (hr2 ts.length { t with st := false } (by simp))
    obtain ⟨m, hm⟩ : ∃ m, m = ts.length := ⟨_, rfl⟩
    rw [← hm] at r0 r1 r2 r3 hfew ⊢
    clear hm hr2 e1 e2 e3 hl hsy q0 q1 q2 q3 HE HW hs4 m4 HL
    have em : (m : Int) < (m : Int) + 1 := by omega
    go_wp2_with fail
    go_quiet (fail)
    go_wp2
    go_ret
    exact ⟨rfl, below_drewN hbe.out _⟩
  · rw [e3] at hs2 hfew ⊢
    obtain ⟨m, hm⟩ : ∃ m, m = ts.length := ⟨_, rfl⟩
    rw [← hm] at hs2 hsy hfew ⊢
    generalize (entR ts (-1) t).1 = s at *
    generalize (entR ts (-1) t).2 = f at *
    replace hm := Kpt.mk hm
    replace hs2 := Kpt.mk hs2
    replace hsy := Kpt.mk hsy
    clear e3 q0 q1 q2 q3 p0 p1 p2 p3 HE HW hs4 m4 HL
    rcases hor with ⟨e1, rfl⟩ | ⟨rfl, e1⟩
    all_goals
      go_wp2_with fail
      go_loopw [10] (fun r wq => ∃ (k : Nat), k ≤ m ∧ r = .int .i64 k ∧ Kpt (∃ q, wq = w5.drewN q)) (fun r _ => m - (intOf r).toNat)
      case atStart => exact ⟨0, Nat.zero_le _, rfl, ⟨0, rfl⟩⟩
      case round =>
        obtain ⟨k, hk, rfl, hq⟩ := hrel
        by_cases hlt : k < m
        · have e5 : (k : Int) < m := by omega
          have hkz : k < ts.length := by rw [← hm.out]; exact hlt
          obtain ⟨u, hu⟩ : ∃ u, ts[k]? = some u := ⟨_, List.getElem?_eq_getElem hkz⟩
          obtain ⟨q, hq'⟩ := hq.out
          rcases hsy.out with ⟨_, _, hz⟩ | ⟨g, rfl, _, hg, hc1, hc1', _, hr1⟩
          · omega
          rcases hs2.out with ⟨_, _, hz⟩ | ⟨g2, rfl, _, hg2, hc2, hc2', _, hr2⟩
          · omega
          obtain ⟨r0, r1, r2, r3⟩ := range4 (t := u) (fun j v hv => (by rw [hq']; exact hr1 k u hu j v hv : wr.cell? ⟨g, k * 4 + j, none⟩ = some v))
          obtain ⟨s0, s1, s2, s3⟩ := range4 (t := u) (fun j v hv => (by rw [hq']; exact hr2 k u hu j v hv : wr.cell? ⟨g2, k * 4 + j, none⟩ = some v))
          clear hr1 hr2 hu hq' hsy hs2
          go_wp2_with fail
          go_quiet (fail)
          go_wp2
          go_roundw
          case rel => exact ⟨k + 1, by omega, by go_num, ⟨by obtain ⟨q, hq⟩ := hq.out; exact ⟨_, by rw [hq, World.drewN_drewN]⟩⟩⟩
          case measure => simp [intOf]; omega
        · have e5 : ¬ (k : Int) < m := by omega
          go_wp2
          go_ret
          exact ⟨rfl, by obtain ⟨q, hq⟩ := hq.out; rw [hq]; exact below_drewN hbe.out _⟩
end Go.Proofs.Ytcnefmfmmgdidaa.taskRefuses
