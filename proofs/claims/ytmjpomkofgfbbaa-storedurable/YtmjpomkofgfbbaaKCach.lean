/-
  StoreCaches: the walk.
-/
import Derived.Test.YtmjpomkofgfbbaaKOpen
namespace Go.Proofs.Ytmjpomkofgfbbaa
open Go.RowKit
set_option linter.unusedVariables false
set_option linter.unusedSimpArgs false

set_option maxRecDepth 100000 in
theorem okb_lt {W : World} {base : Nat} {a : Option Addr} {len cap : Nat} (h : Value.okWide Try.prog W .any base 35 (.slice a len cap)) : ∀ g, (Value.slice a len cap).ownBlock = some g → g < W.heap.size := by
  intro g hg
  cases a with
  | none => simp [Value.ownBlock] at hg
  | some x =>
    simp [Value.ownBlock] at hg
    subst hg
    simp only [Value.okWide, Try.underlying35, Cell.okWide, Cell.ok] at h
    obtain ⟨_, _, _, _, row, cells, hs, _⟩ := h
    unfold World.shape? at hs
    cases hx : W.heap[x.block]? with
    | none => rw [hx] at hs; simp at hs
    | some o => exact (Array.getElem?_eq_some_iff.1 hx).1
theorem own_len (a : Option Addr) (l n c : Nat) : (Value.slice a l c).ownBlock = (Value.slice a n c).ownBlock := by cases a <;> rfl
theorem Bks.cut {w w' : World} {a : Option Addr} {l c : Nat} {bs : List Bk} (h : Bks w (.slice a l c) bs) (hb : Below w.heap.size w w') (n : Nat) (hn : n ≤ l) : Bks w' (.slice a n c) (bs.take n) ∧ (bs.take n).length = n := by
  obtain ⟨a', c', hv, hm, hbs⟩ := h
  simp only [Value.slice.injEq] at hv
  obtain ⟨rfl, rfl, rfl⟩ := hv
  have hl : (bs.take n).length = n := by rw [List.length_take]; omega
  refine ⟨⟨a, c, by rw [hl], by rw [hl]; omega, fun j b hj => ?_⟩, hl⟩
  rw [List.getElem?_take] at hj
  split at hj
  · obtain ⟨h1, g, o, h2, h3, h4⟩ := hbs j b hj
    exact ⟨h1, g, o, h2, Nat.lt_of_lt_of_le h3 hb.size, rangeAt_keep h4 (hb.block g h3)⟩
  · cases hj
end Go.Proofs.Ytmjpomkofgfbbaa
namespace Go.Proofs.Ytmjpomkofgfbbaa.storeCaches
open Go.Proofs.Ytmjpomkofgfbbaa
open Go.RowKit
set_option linter.unusedVariables false
set_option linter.unusedSimpArgs false

set_option maxRecDepth 100000 in
set_option maxHeartbeats 2000000 in
theorem caches_walk (a : Option Addr) (l c : Nat) (bs : List Bk) (ca fua : Bool) (w : World) (hv : Bks w (.slice a l c) bs) (hlc : l ≤ c) (hl : l ≤ maxLen) (hvl : ∀ g, (Value.slice a l c).ownBlock = some g → g < w.heap.size) :
    Calls Try.prog 8 #[.slice a l c, .bool ca, .bool fua] w fun e w' => e = .returned (.bool true) ∧ Below w.heap.size w w' := by
  have HA := Kpt.mk (awake_any w)
  replace hv := Kpt.mk hv
  replace hvl := Kpt.mk hvl
  unfold maxLen at hl
  go_enter Try.func8, Try.ntmps8
  go_wp2_with fail
  refine HA.out.mono ?_
  rintro e w1 ⟨rfl, hb1⟩
  have HN := Kpt.mk (new_any w1)
  replace hb1 := Kpt.mk hb1
  clear HA
  by_cases h30 : 30 < l
  · have e1 : (30 : Int) < l := by omega
    have e2 : ¬ (l : Int) < 30 := by omega
    go_wp2_with fail
    refine HN.out.mono ?_
    rintro e w2 ⟨B, tag, rfl, hW2, hg2, ht2⟩
    have hb2 : Kpt (Below w.heap.size w w2) := ⟨hb1.out.trans (((Below.refl _ _).grown hg2 (Nat.le_refl _) (fun k hk => by cases hk)).mono hb1.out.size)⟩
    have HO := Kpt.mk (kopen_any w2 B 32 nmF ca (by decide) (by decide) (by decide) (by decide))
    have hsz2 : w1.heap.size ≤ w2.heap.size := hg2.size
    replace hW2 := Kpt.mk hW2
    replace ht2 := Kpt.mk ht2
    clear HN hg2
    go_wp2_with fail
    refine HO.out.mono ?_
    rintro e w3 ⟨rfl, hw3⟩
    have hS3 : Kpt (Sto w3 tag w2.heap.size B nmF 32 ca) := ⟨by rw [hw3]; exact sto_new w2 tag B 32 nmF ca (wd_none hW2.out (Nat.le_refl _))⟩
    have hbe3 : Below w2.heap.size w2 w3 := by rw [hw3]; exact (Below.refl _ _).alloc (Nat.le_refl _) _
    have hW3 := Kpt.mk (hW2.out.step (step_below hbe3 tag (fun _ => False)))
    have hb3 : Kpt (Below w.heap.size w w3) := ⟨hb2.out.trans (hbe3.mono hb2.out.size)⟩
    have ht3 : Kpt (∀ i, i < w.heap.size → tag i = none) := ⟨fun i hi => ht2.out i (Nat.lt_of_lt_of_le hi hb1.out.size)⟩
    obtain ⟨hcut, hcl⟩ := hv.out.cut hb3.out 30 (by omega)
    obtain ⟨us, hus⟩ : ∃ us, us = bs.take 30 := ⟨_, rfl⟩
    rw [← hus] at hcut hcl
    obtain ⟨S, hS⟩ : ∃ S, S = w2.heap.size := ⟨_, rfl⟩
    rw [← hS] at hS3 ⊢
    obtain ⟨o1, o2, o3, o4⟩ := wr_ops st0 nmF 0 us us.length (Nat.le_refl _)
    have HW := kwrite_any w3 B tag st0 S 32 0 nmF ca fua (.slice a 30 c) us hW3.out hS3.out (by decide) (by decide) (by decide) (by decide) (by decide) st0_fails (fun c hc => by cases hc) hcut (fun g hg => ht3.out g (hvl.out g ((own_len a _ 30 c).trans hg))) (by omega)
    have hwr := wr_wrs st0 nmF 0 us (fun c hc => by cases hc) us.length
    obtain ⟨st2, hst2⟩ : ∃ st2, st2 = (if settled ca fua us.length then wrSt st0 nmF 0 us us.length else syncSt (wrSt st0 nmF 0 us us.length)) := ⟨_, rfl⟩
    rw [← hst2] at HW
    have q1 : st2.waits.length = if ca = true ∧ fua = false then 30 else 0 := by
      rw [hst2]
      by_cases h0 : us.length = 0
      · have h00 : 30 = 0 := by omega
        rw [show settled ca fua us.length = true from by simp [settled, h0], if_pos rfl, o4, h0]
        simp [st0, h00]
      · by_cases hq : ca = true ∧ fua = false
        · rw [if_pos hq, show settled ca fua us.length = true from by simp [settled, hq.1, hq.2], if_pos rfl, o4, hcl]
          simp [st0]
        · rw [if_neg hq, show settled ca fua us.length = false from by cases ca <;> cases fua <;> simp_all [settled]]
          rfl
    have q2 : Kpt (Wrs st2.waits ∧ st2.cnt + st2.waits.length < 549755813888 ∧ ∀ i, st2.fails i = false) := ⟨by
      rw [hst2]
      split
      · exact ⟨hwr, by rw [o2, o4]; simp [st0]; omega, fun i => by rw [o3]; rfl⟩
      · exact ⟨(fun c hc => by cases hc), (by show (wrSt st0 nmF 0 us us.length).cnt + 1 + (wrSt st0 nmF 0 us us.length).waits.length + 0 < _; rw [o2, o4]; simp [st0]; omega), (fun i => by show (wrSt st0 nmF 0 us us.length).fails i = false; rw [o3]; rfl)⟩⟩
    rw [hcl] at HW
    replace HW := Kpt.mk HW
    clear hst2 hwr o1 o2 o3 o4 hcut HO hw3 hbe3 hW2 hb2 ht2 hus hS hcl hW3
    go_wp2_with fail
    refine HW.out.mono ?_
    rintro e w4 ⟨rfl, tag4, hW4, hSt4⟩
    have hS4 := hS3.out.step hSt4
    have HWa := Kpt.mk (waits_any w4 B tag4 st2 hW4)
    have HSy := Kpt.mk (ksync_any w4 B tag4 st2 S 32 nmF ca hW4 hS4 q2.out.2.1 (q2.out.2.2 _) q2.out.1)
    have hb4 : Kpt (Below w.heap.size w w4 ∧ ∀ i, i < w.heap.size → tag4 i = none) := ⟨by
      obtain ⟨k1, k2⟩ := hSt4.below (n := w.heap.size) hb3.out.size ht3.out
      exact ⟨hb3.out.trans k1, k2⟩⟩
    have hS4c := hS4.lt
    rw [q1] at HWa
    clear HW hS3 hb3 ht3 hW4 hSt4 hS4 q1 q2
    cases ca <;> cases fua
    all_goals
      simp only [Bool.false_eq_true, Bool.true_eq_false, if_true, if_false, and_true, and_false, and_self, false_and, true_and, reduceCtorEq] at HWa
      go_wp2_with (first
        | (go_at_call 20; refine HSy.out.mono ?_; rintro e w5 ⟨rfl, tag5, hW5, hSt5⟩; have HWb := Kpt.mk (waits_any w5 B tag5 (syncSt st2) hW5); have hb5 : Kpt (Below w.heap.size w w5) := ⟨hb4.out.1.trans (hSt5.below (n := w.heap.size) hb4.out.1.size hb4.out.2).1⟩; clear hW5 hSt5 HWa)
        | (go_at_call 29; refine HWb.out.mono ?_; rintro e w6 ⟨rfl, hw6⟩; subst hw6)
        | (go_at_call 29; refine HWa.out.mono ?_; rintro e w6 ⟨rfl, hw6⟩; subst hw6)
        | fail)
      go_ret
      exact ⟨rfl, hb5.out⟩
  · by_cases h30' : l = 30
    · subst h30'
      go_wp2_with fail
      refine HN.out.mono ?_
      rintro e w2 ⟨B, tag, rfl, hW2, hg2, ht2⟩
      have hb2 : Kpt (Below w.heap.size w w2) := ⟨hb1.out.trans (((Below.refl _ _).grown hg2 (Nat.le_refl _) (fun k hk => by cases hk)).mono hb1.out.size)⟩
      have HO := Kpt.mk (kopen_any w2 B 32 nmF ca (by decide) (by decide) (by decide) (by decide))
      have hsz2 : w1.heap.size ≤ w2.heap.size := hg2.size
      replace hW2 := Kpt.mk hW2
      replace ht2 := Kpt.mk ht2
      clear HN hg2
      go_wp2_with fail
      refine HO.out.mono ?_
      rintro e w3 ⟨rfl, hw3⟩
      have hS3 : Kpt (Sto w3 tag w2.heap.size B nmF 32 ca) := ⟨by rw [hw3]; exact sto_new w2 tag B 32 nmF ca (wd_none hW2.out (Nat.le_refl _))⟩
      have hbe3 : Below w2.heap.size w2 w3 := by rw [hw3]; exact (Below.refl _ _).alloc (Nat.le_refl _) _
      have hW3 := Kpt.mk (hW2.out.step (step_below hbe3 tag (fun _ => False)))
      have hb3 : Kpt (Below w.heap.size w w3) := ⟨hb2.out.trans (hbe3.mono hb2.out.size)⟩
      have ht3 : Kpt (∀ i, i < w.heap.size → tag i = none) := ⟨fun i hi => ht2.out i (Nat.lt_of_lt_of_le hi hb1.out.size)⟩
      obtain ⟨hcut, hcl⟩ := hv.out.cut hb3.out 30 (by omega)
      obtain ⟨us, hus⟩ : ∃ us, us = bs.take 30 := ⟨_, rfl⟩
      rw [← hus] at hcut hcl
      obtain ⟨S, hS⟩ : ∃ S, S = w2.heap.size := ⟨_, rfl⟩
      rw [← hS] at hS3 ⊢
      obtain ⟨o1, o2, o3, o4⟩ := wr_ops st0 nmF 0 us us.length (Nat.le_refl _)
      have HW := kwrite_any w3 B tag st0 S 32 0 nmF ca fua (.slice a 30 c) us hW3.out hS3.out (by decide) (by decide) (by decide) (by decide) (by decide) st0_fails (fun c hc => by cases hc) hcut (fun g hg => ht3.out g (hvl.out g ((own_len a _ 30 c).trans hg))) (by omega)
      have hwr := wr_wrs st0 nmF 0 us (fun c hc => by cases hc) us.length
      obtain ⟨st2, hst2⟩ : ∃ st2, st2 = (if settled ca fua us.length then wrSt st0 nmF 0 us us.length else syncSt (wrSt st0 nmF 0 us us.length)) := ⟨_, rfl⟩
      rw [← hst2] at HW
      have q1 : st2.waits.length = if ca = true ∧ fua = false then 30 else 0 := by
        rw [hst2]
        by_cases h0 : us.length = 0
        · have h00 : 30 = 0 := by omega
          rw [show settled ca fua us.length = true from by simp [settled, h0], if_pos rfl, o4, h0]
          simp [st0, h00]
        · by_cases hq : ca = true ∧ fua = false
          · rw [if_pos hq, show settled ca fua us.length = true from by simp [settled, hq.1, hq.2], if_pos rfl, o4, hcl]
            simp [st0]
          · rw [if_neg hq, show settled ca fua us.length = false from by cases ca <;> cases fua <;> simp_all [settled]]
            rfl
      have q2 : Kpt (Wrs st2.waits ∧ st2.cnt + st2.waits.length < 549755813888 ∧ ∀ i, st2.fails i = false) := ⟨by
        rw [hst2]
        split
        · exact ⟨hwr, by rw [o2, o4]; simp [st0]; omega, fun i => by rw [o3]; rfl⟩
        · exact ⟨(fun c hc => by cases hc), (by show (wrSt st0 nmF 0 us us.length).cnt + 1 + (wrSt st0 nmF 0 us us.length).waits.length + 0 < _; rw [o2, o4]; simp [st0]; omega), (fun i => by show (wrSt st0 nmF 0 us us.length).fails i = false; rw [o3]; rfl)⟩⟩
      rw [hcl] at HW
      replace HW := Kpt.mk HW
      clear hst2 hwr o1 o2 o3 o4 hcut HO hw3 hbe3 hW2 hb2 ht2 hus hS hcl hW3
      go_wp2_with fail
      refine HW.out.mono ?_
      rintro e w4 ⟨rfl, tag4, hW4, hSt4⟩
      have hS4 := hS3.out.step hSt4
      have HWa := Kpt.mk (waits_any w4 B tag4 st2 hW4)
      have HSy := Kpt.mk (ksync_any w4 B tag4 st2 S 32 nmF ca hW4 hS4 q2.out.2.1 (q2.out.2.2 _) q2.out.1)
      have hb4 : Kpt (Below w.heap.size w w4 ∧ ∀ i, i < w.heap.size → tag4 i = none) := ⟨by
        obtain ⟨k1, k2⟩ := hSt4.below (n := w.heap.size) hb3.out.size ht3.out
        exact ⟨hb3.out.trans k1, k2⟩⟩
      have hS4c := hS4.lt
      rw [q1] at HWa
      clear HW hS3 hb3 ht3 hW4 hSt4 hS4 q1 q2
      cases ca <;> cases fua
      all_goals
        simp only [Bool.false_eq_true, Bool.true_eq_false, if_true, if_false, and_true, and_false, and_self, false_and, true_and, reduceCtorEq] at HWa
        go_wp2_with (first
          | (go_at_call 20; refine HSy.out.mono ?_; rintro e w5 ⟨rfl, tag5, hW5, hSt5⟩; have HWb := Kpt.mk (waits_any w5 B tag5 (syncSt st2) hW5); have hb5 : Kpt (Below w.heap.size w w5) := ⟨hb4.out.1.trans (hSt5.below (n := w.heap.size) hb4.out.1.size hb4.out.2).1⟩; clear hW5 hSt5 HWa)
          | (go_at_call 29; refine HWb.out.mono ?_; rintro e w6 ⟨rfl, hw6⟩; subst hw6)
          | (go_at_call 29; refine HWa.out.mono ?_; rintro e w6 ⟨rfl, hw6⟩; subst hw6)
          | fail)
        go_ret
        exact ⟨rfl, hb5.out⟩
    · have e1 : ¬ (30 : Int) < l := by omega
      have e2 : (l : Int) < 30 := by omega
      go_wp2_with fail
      refine HN.out.mono ?_
      rintro e w2 ⟨B, tag, rfl, hW2, hg2, ht2⟩
      have hb2 : Kpt (Below w.heap.size w w2) := ⟨hb1.out.trans (((Below.refl _ _).grown hg2 (Nat.le_refl _) (fun k hk => by cases hk)).mono hb1.out.size)⟩
      have HO := Kpt.mk (kopen_any w2 B 32 nmF ca (by decide) (by decide) (by decide) (by decide))
      have hsz2 : w1.heap.size ≤ w2.heap.size := hg2.size
      replace hW2 := Kpt.mk hW2
      replace ht2 := Kpt.mk ht2
      clear HN hg2
      go_wp2_with fail
      refine HO.out.mono ?_
      rintro e w3 ⟨rfl, hw3⟩
      have hS3 : Kpt (Sto w3 tag w2.heap.size B nmF 32 ca) := ⟨by rw [hw3]; exact sto_new w2 tag B 32 nmF ca (wd_none hW2.out (Nat.le_refl _))⟩
      have hbe3 : Below w2.heap.size w2 w3 := by rw [hw3]; exact (Below.refl _ _).alloc (Nat.le_refl _) _
      have hW3 := Kpt.mk (hW2.out.step (step_below hbe3 tag (fun _ => False)))
      have hb3 : Kpt (Below w.heap.size w w3) := ⟨hb2.out.trans (hbe3.mono hb2.out.size)⟩
      have ht3 : Kpt (∀ i, i < w.heap.size → tag i = none) := ⟨fun i hi => ht2.out i (Nat.lt_of_lt_of_le hi hb1.out.size)⟩
      obtain ⟨hcut, hcl⟩ := hv.out.cut hb3.out l (by omega)
      obtain ⟨us, hus⟩ : ∃ us, us = bs.take l := ⟨_, rfl⟩
      rw [← hus] at hcut hcl
      obtain ⟨S, hS⟩ : ∃ S, S = w2.heap.size := ⟨_, rfl⟩
      rw [← hS] at hS3 ⊢
      obtain ⟨o1, o2, o3, o4⟩ := wr_ops st0 nmF 0 us us.length (Nat.le_refl _)
      have HW := kwrite_any w3 B tag st0 S 32 0 nmF ca fua (.slice a l c) us hW3.out hS3.out (by decide) (by decide) (by decide) (by decide) (by decide) st0_fails (fun c hc => by cases hc) hcut (fun g hg => ht3.out g (hvl.out g ((own_len a _ l c).trans hg))) (by omega)
      have hwr := wr_wrs st0 nmF 0 us (fun c hc => by cases hc) us.length
      obtain ⟨st2, hst2⟩ : ∃ st2, st2 = (if settled ca fua us.length then wrSt st0 nmF 0 us us.length else syncSt (wrSt st0 nmF 0 us us.length)) := ⟨_, rfl⟩
      rw [← hst2] at HW
      have q1 : st2.waits.length = if ca = true ∧ fua = false then l else 0 := by
        rw [hst2]
        by_cases h0 : us.length = 0
        · have h00 : l = 0 := by omega
          rw [show settled ca fua us.length = true from by simp [settled, h0], if_pos rfl, o4, h0]
          simp [st0, h00]
        · by_cases hq : ca = true ∧ fua = false
          · rw [if_pos hq, show settled ca fua us.length = true from by simp [settled, hq.1, hq.2], if_pos rfl, o4, hcl]
            simp [st0]
          · rw [if_neg hq, show settled ca fua us.length = false from by cases ca <;> cases fua <;> simp_all [settled]]
            rfl
      have q2 : Kpt (Wrs st2.waits ∧ st2.cnt + st2.waits.length < 549755813888 ∧ ∀ i, st2.fails i = false) := ⟨by
        rw [hst2]
        split
        · exact ⟨hwr, by rw [o2, o4]; simp [st0]; omega, fun i => by rw [o3]; rfl⟩
        · exact ⟨(fun c hc => by cases hc), (by show (wrSt st0 nmF 0 us us.length).cnt + 1 + (wrSt st0 nmF 0 us us.length).waits.length + 0 < _; rw [o2, o4]; simp [st0]; omega), (fun i => by show (wrSt st0 nmF 0 us us.length).fails i = false; rw [o3]; rfl)⟩⟩
      rw [hcl] at HW
      replace HW := Kpt.mk HW
      clear hst2 hwr o1 o2 o3 o4 hcut HO hw3 hbe3 hW2 hb2 ht2 hus hS hcl hW3
      go_wp2_with fail
      refine HW.out.mono ?_
      rintro e w4 ⟨rfl, tag4, hW4, hSt4⟩
      have hS4 := hS3.out.step hSt4
      have HWa := Kpt.mk (waits_any w4 B tag4 st2 hW4)
      have HSy := Kpt.mk (ksync_any w4 B tag4 st2 S 32 nmF ca hW4 hS4 q2.out.2.1 (q2.out.2.2 _) q2.out.1)
      have hb4 : Kpt (Below w.heap.size w w4 ∧ ∀ i, i < w.heap.size → tag4 i = none) := ⟨by
        obtain ⟨k1, k2⟩ := hSt4.below (n := w.heap.size) hb3.out.size ht3.out
        exact ⟨hb3.out.trans k1, k2⟩⟩
      have hS4c := hS4.lt
      rw [q1] at HWa
      clear HW hS3 hb3 ht3 hW4 hSt4 hS4 q1 q2
      cases ca <;> cases fua
      all_goals
        simp only [Bool.false_eq_true, Bool.true_eq_false, if_true, if_false, and_true, and_false, and_self, false_and, true_and, reduceCtorEq] at HWa
        go_wp2_with (first
          | (go_at_call 20; refine HSy.out.mono ?_; rintro e w5 ⟨rfl, tag5, hW5, hSt5⟩; have HWb := Kpt.mk (waits_any w5 B tag5 (syncSt st2) hW5); have hb5 : Kpt (Below w.heap.size w w5) := ⟨hb4.out.1.trans (hSt5.below (n := w.heap.size) hb4.out.1.size hb4.out.2).1⟩; clear hW5 hSt5 HWa)
          | (go_at_call 29; refine HWb.out.mono ?_; rintro e w6 ⟨rfl, hw6⟩; subst hw6)
          | (go_at_call 29; refine HWa.out.mono ?_; rintro e w6 ⟨rfl, hw6⟩; subst hw6)
          | fail)
        go_ret
        exact ⟨rfl, hb5.out⟩
end Go.Proofs.Ytmjpomkofgfbbaa.storeCaches
