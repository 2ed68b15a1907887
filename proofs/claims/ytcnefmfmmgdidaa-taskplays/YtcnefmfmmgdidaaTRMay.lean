/-
  The contracts of the document's May, Ready and Start.
-/
import Derived.Test.YtcnefmfmmgdidaaTRFind
namespace Go.Proofs.Ytcnefmfmmgdidaa
open Go.RowKit
set_option linter.unusedVariables false
set_option linter.unusedSimpArgs false

theorem has_step (ts : List Tk) (k : Nat) (t : Tk) (a : Int) (h : ts[k]? = some t) : hasA (ts.take (k + 1)) a = (hasA (ts.take k) a || decide (t.ar = a)) := by
  unfold hasA
  rw [List.take_add_one, List.any_append, h]
  simp
theorem has_some (ts : List Tk) (k m : Nat) (t : Tk) (a : Int) (h : ts[k]? = some t) (hk : k < m) (ha : t.ar = a) : hasA (ts.take m) a = true := by
  unfold hasA
  rw [List.any_eq_true]
  exact ⟨t, List.mem_of_getElem? (i := k) (by rw [List.getElem?_take, if_pos hk]; exact h), by simp [ha]⟩

set_option maxRecDepth 100000 in
set_option maxHeartbeats 2000000 in
theorem rmay_any (base B k : Nat) (ts : List Tk) (st : Int) (v : Value) (t : Tk) (w : World) (h : StR base w B ts st v) (hst0 : st = -1 ∨ 0 ≤ st) (hk : ts[k]? = some t) :
    Calls Try.prog 32 #[.pointer (some ⟨B, 0, none⟩), .int .i64 k] w fun e w' => e = .returned (.bool (mayT ts st k t)) ∧ Below w.heap.size w w' := by
  have hkl : k < ts.length := (List.getElem?_eq_some_iff.1 hk).1
  have hS := Kpt.mk h
  obtain ⟨a, c, hv, hs⟩ := h.own.shape
  rcases hs with ⟨_, _, hz⟩ | ⟨g, rfl, hbg, hg, hc1, hc2, _, hr⟩
  · omega
  obtain ⟨r0, r1, r2, r3⟩ := range4R (hr k t hk)
  have hc0 := h.c0
  have hc1' := h.c1
  have hlt := h.lt
  have hfew := h.few
  rw [hv] at hc0
  unfold maxLen at hc2
  have e1 : (k : Int) < ts.length := by omega
  replace hr := Kpt.mk hr
  obtain ⟨nx, tg, ar, sd⟩ := t
  simp only at r0 r1 r2 r3
  have hmay : Kpt (mayT ts st k ⟨nx, tg, ar, sd⟩ = if sd = true then false else if st ≠ -1 then decide (ar = 3) else if ar = 2 then true else if hasA ts 2 = true then false else if ar = 1 then decide (k = 0) else !hasA (ts.take k) 1) := ⟨rfl⟩
  obtain ⟨R, hR⟩ : ∃ R, R = mayT ts st k ⟨nx, tg, ar, sd⟩ := ⟨_, rfl⟩
  rw [← hR] at hmay ⊢
  have hall : ts.take ts.length = ts := List.take_length
  obtain ⟨m, hm⟩ : ∃ m, m = ts.length := ⟨_, rfl⟩
  rw [← hm] at hc0 hc1 hfew e1 hkl hall
  replace hm := Kpt.mk hm
  replace hall := Kpt.mk hall
  obtain ⟨w1, hw1⟩ : ∃ w1, w1 = w.alloc (.cells #[.int .i64 nx, .int .u32 tg, .int .i64 ar, .bool sd] 63) := ⟨_, rfl⟩
  have hb1 : Kpt (Below w.heap.size w w1) := ⟨by rw [hw1]; exact (Below.refl _ _).alloc (Nat.le_refl _) _⟩
  clear hk h hv hbg hR
  cases sd with
  | true =>
    have hRv : R = false := by rw [hmay.out]; rfl
    clear hmay
    subst hRv
    go_enter Try.func32, Try.ntmps32
    go_wp2
    go_ret
    exact ⟨rfl, by have := hb1.out; rw [hw1] at this; exact this⟩
  | false =>
    rcases hst0 with hst | hst
    · subst hst
      by_cases a2 : ar = 2
      · subst a2
        have hRv : R = true := by rw [hmay.out]; rfl
        clear hmay
        subst hRv
        go_enter Try.func32, Try.ntmps32
        go_wp2
        go_ret
        exact ⟨rfl, by have := hb1.out; rw [hw1] at this; exact this⟩
      · go_enter Try.func32, Try.ntmps32
        go_wp2
        have hsz := Kpt.mk hb1.out.size
        have hcB : w1.cell? ⟨B, 0, none⟩ = some (.slice (some ⟨g, 0, none⟩) m c) := (hb1.out.cell (p := ⟨B, 0, none⟩) hlt).trans hc0
        have hlB : B < w1.heap.size := Nat.lt_of_lt_of_le hlt hsz.out
        have hct : w1.cell? ⟨w.heap.size, 2, none⟩ = some (.int .i64 ar) := by rw [hw1]; simp
        have hlt1 : w.heap.size < w1.heap.size := by rw [hw1]; simp
        have hrow : Kpt (∀ j u, ts[j]? = some u → w1.rangeAt g (j * 4) u.valsR.toList) := ⟨fun j u hu => rangeAt_of_block (hr.out j u hu) (hb1.out.block g hg)⟩
        have hg1 : g < w1.heap.size := Nat.lt_of_lt_of_le hg hsz.out
        rw [← hw1]
        obtain ⟨T, hT⟩ : ∃ T, T = w.heap.size := ⟨_, rfl⟩
        rw [← hT] at hct hlt1 ⊢
        replace hw1 := Kpt.mk hw1
        replace hT := Kpt.mk hT
        clear r0 r1 r2 r3 hc0 hc1' hlt hg hr
        go_loopw [6] (fun t wr => ∃ (j : Nat), j ≤ m ∧ t = .int .i64 j ∧ wr = w1 ∧ Kpt (hasA (ts.take j) 2 = false)) (fun t _ => m - (intOf t).toNat)
        case atStart => exact ⟨0, Nat.zero_le _, rfl, rfl, ⟨rfl⟩⟩
        case round =>
          obtain ⟨j, hj, rfl, rfl, hno⟩ := hrel
          by_cases hjm : j < m
          · have ej : (j : Int) < m := by omega
            obtain ⟨u, hu⟩ : ∃ u, ts[j]? = some u := ⟨_, List.getElem?_eq_getElem (by rw [← hm.out]; exact hjm)⟩
            obtain ⟨s0, s1, s2, s3⟩ := range4R (hrow.out j u hu)
            have hstep := has_step ts j u 2 hu
            have hsome := has_some ts j m u 2 hu hjm
            rw [hno.out] at hstep
            replace hu := Kpt.mk hu
            by_cases u2 : u.ar = 2
            · rw [u2] at s2
              have hR2 := hsome u2
              rw [hall.out] at hR2
              have hRv : R = false := by rw [hmay.out, if_neg (by simp), if_neg (by simp), if_neg a2, if_pos hR2]
              clear hmay hstep hsome hR2
              subst hRv
              go_wp2
              go_ret
              exact ⟨rfl, hb1.out⟩
            · have hn2 : Kpt (hasA (ts.take (j + 1)) 2 = false) := ⟨by rw [hstep]; simp [u2]⟩
              clear hstep hsome
              go_wp2
              go_roundw
              all_goals first
                | exact ⟨j + 1, by omega, by go_num, rfl, hn2⟩
                | exact ⟨j + 1, by omega, by go_num, trivial, hn2⟩
                | exact ⟨j + 1, by omega, by go_num, hn2⟩
                | (simp [intOf]; omega; done)
          · have ej : ¬ (j : Int) < m := by omega
            have ejm : j = m := by omega
            have hn2 := hno.out
            rw [ejm, hall.out] at hn2
            clear hno
            have hmay2 : Kpt (R = if ar = 1 then decide (k = 0) else !hasA (ts.take k) 1) := ⟨by rw [hmay.out, if_neg (by simp), if_neg (by simp), if_neg a2, if_neg (by rw [hn2]; simp)]⟩
            clear hmay hn2 ejm
            go_wp2
            go_loopw [7] (fun t wq => ∃ (i : Nat), i ≤ k ∧ t = .int .i64 i ∧ wq = wr ∧ Kpt (i = 0 ∨ ¬ ar = 1) ∧ Kpt (hasA (ts.take i) 1 = false)) (fun t _ => k - (intOf t).toNat)
            case atStart => exact ⟨0, Nat.zero_le _, rfl, rfl, ⟨.inl rfl⟩, ⟨rfl⟩⟩
            case round =>
              obtain ⟨i, hi, rfl, rfl, hor, hno⟩ := hrel
              by_cases hik : i < k
              · have ei : (i : Int) < k := by omega
                have eim : (i : Int) < m := by omega
                obtain ⟨u, hu⟩ : ∃ u, ts[i]? = some u := ⟨_, List.getElem?_eq_getElem (by rw [← hm.out]; omega)⟩
                obtain ⟨s0, s1, s2, s3⟩ := range4R (hrow.out i u hu)
                have hstep := has_step ts i u 1 hu
                have hsome := has_some ts i k u 1 hu hik
                rw [hno.out] at hstep
                replace hu := Kpt.mk hu
                by_cases a1 : ar = 1
                · subst a1
                  have hRv : R = false := by rw [hmay2.out, if_pos rfl]; simp; omega
                  clear hmay2 hstep hsome
                  subst hRv
                  go_wp2
                  go_ret
                  exact ⟨rfl, hb1.out⟩
                · by_cases u1 : u.ar = 1
                  · rw [u1] at s2
                    have hRv : R = false := by rw [hmay2.out, if_neg a1, hsome u1]; rfl
                    clear hmay2 hstep hsome
                    subst hRv
                    go_wp2
                    go_ret
                    exact ⟨rfl, hb1.out⟩
                  · have hn1 : Kpt (hasA (ts.take (i + 1)) 1 = false) := ⟨by rw [hstep]; simp [u1]⟩
                    have fu1 : (u.ar == 1) = false := by simpa using u1
                    have fa1 : (ar == 1) = false := by simpa using a1
                    have ho1 : Kpt (i + 1 = 0 ∨ ¬ ar = 1) := ⟨.inr a1⟩
                    clear hstep hsome
                    go_wp2
                    go_roundw
                    all_goals first
                      | exact ⟨i + 1, by omega, by go_num, rfl, ho1, hn1⟩
                      | exact ⟨i + 1, by omega, by go_num, trivial, ho1, hn1⟩
                      | exact ⟨i + 1, by omega, by go_num, ho1, hn1⟩
                      | (simp [intOf]; omega; done)
              · have ei : ¬ (i : Int) < k := by omega
                have eik : i = k := by omega
                have hRv : R = true := by
                  have h1 := hor.out
                  have h2 := hno.out
                  rw [eik] at h1 h2
                  rw [hmay2.out]
                  by_cases a1 : ar = 1
                  · rw [if_pos a1]; simp; rcases h1 with h1 | h1
                    · exact h1
                    · exact absurd a1 h1
                  · rw [if_neg a1, h2]; rfl
                clear hmay2 hor hno eik
                subst hRv
                go_wp2
                go_ret
                exact ⟨rfl, hb1.out⟩
    · have hst' : ¬ st = -1 := by omega
      have hRv : R = decide (ar = 3) := by rw [hmay.out]; simp [hst']
      clear hmay
      subst hRv
      go_enter Try.func32, Try.ntmps32
      go_wp2
      go_ret
      exact ⟨rfl, by have := hb1.out; rw [hw1] at this; exact this⟩
end Go.Proofs.Ytcnefmfmmgdidaa
