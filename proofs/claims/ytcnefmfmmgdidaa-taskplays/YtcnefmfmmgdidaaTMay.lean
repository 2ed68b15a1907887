/-
  The contracts of mayStart, New, Stands.
-/
import Derived.Test.YtcnefmfmmgdidaaTSet
namespace Go.Proofs.Ytcnefmfmmgdidaa
open Go.RowKit
set_option linter.unusedVariables false
set_option linter.unusedSimpArgs false

/-- May the task at place k start? -/
def mayT (ts : List Tk) (st : Int) (k : Nat) (t : Tk) : Bool :=
  if t.st = true then false else if st ≠ -1 then decide (t.ar = 3) else if t.ar = 2 then true else if hasA ts 2 = true then false else if t.ar = 1 then decide (k = 0) else !hasA (ts.take k) 1

set_option maxHeartbeats 2000000 in
theorem may_any (base B k : Nat) (ts : List Tk) (st : Int) (v : Value) (t : Tk) (w : World) (h : St base w B ts st v) (hk : ts[k]? = some t) :
    Calls Try.prog 31 #[.pointer (some ⟨B, 0, none⟩), .int .i64 k] w fun e w' => e = .returned (.bool (mayT ts st k t)) ∧ Below w.heap.size w w' := by
  have hkl : k < ts.length := (List.getElem?_eq_some_iff.1 hk).1
  obtain ⟨a, c, hv, hs⟩ := h.own.shape
  rcases hs with ⟨_, _, hz⟩ | ⟨g, rfl, hbg, hg, hc1, hc2, _, hr⟩
  · omega
  obtain ⟨r0, r1, r2, r3⟩ := range4 (hr k t hk)
  have hc0 := h.c0
  have hc1' := h.c1
  have hlt := h.lt
  have hfew := h.few
  rw [hv] at hc0
  have HA : Kpt (∀ W, Below w.heap.size w W → Calls Try.prog 43 #[.slice (some ⟨g, 0, none⟩) ts.length c, .int .u8 2] W fun e w' => e = .returned (.bool (hasA ts 2)) ∧ Below W.heap.size W w') :=
    ⟨fun W hW => hasAny_any _ ts 2 W (by rw [← hv]; exact h.own.rd.below (Nat.le_refl _) hW) (by omega)⟩
  have HB : Kpt (∀ W, Below w.heap.size w W → Calls Try.prog 43 #[.slice (some ⟨g, 0, none⟩) k c, .int .u8 1] W fun e w' => e = .returned (.bool (hasA (ts.take k) 1)) ∧ Below W.heap.size W w') :=
    ⟨fun W hW => hasAny_any _ (ts.take k) 1 W (by have := h.own.rd.below (Nat.le_refl _) hW; rw [hv] at this; exact this.take k (by omega)) (by simp; omega)⟩
  have hcK : (ts.length : Int) ≤ c := by omega
  have hcM : (c : Int) ≤ 9223372036854775807 := by unfold maxLen at hc2; omega
  have e1 : (k : Int) < ts.length := by omega
  obtain ⟨nx, tg, ar, sd⟩ := t
  obtain ⟨w1, hw1⟩ : ∃ w1, w1 = w.alloc (.cells #[.int .i64 nx, .int .u32 tg, .int .u8 ar, .bool sd] 48) := ⟨_, rfl⟩
  have hb1 : Kpt (Below w.heap.size w w1) := ⟨by rw [hw1]; exact (Below.refl _ _).alloc (Nat.le_refl _) _⟩
  replace hw1 := Kpt.mk hw1
  simp only at r0 r1 r2 r3
  have hmay : Kpt (mayT ts st k ⟨nx, tg, ar, sd⟩ = if sd = true then false else if st ≠ -1 then decide (ar = 3) else if ar = 2 then true else if hasA ts 2 = true then false else if ar = 1 then decide (k = 0) else !hasA (ts.take k) 1) := ⟨rfl⟩
  generalize mayT ts st k ⟨nx, tg, ar, sd⟩ = R at *
  generalize hasA ts 2 = h2 at *
  generalize hasA (ts.take k) 1 = h1 at *
  generalize ts.length = m at *
  clear hr hk h hv hbg
  cases sd with
  | true =>
    go_enter Try.func31, Try.ntmps31
    go_wp2
    go_ret
    exact ⟨ret_bool (by rw [hmay.out]; rfl), by have := hb1.out; rw [hw1.out] at this; exact this⟩
  | false =>
    by_cases hst : st = -1
    · subst hst
      by_cases a2 : ar = 2
      · subst a2
        go_enter Try.func31, Try.ntmps31
        go_wp2
        go_ret
        exact ⟨ret_bool (by rw [hmay.out]; rfl), by have := hb1.out; rw [hw1.out] at this; exact this⟩
      · cases h2 with
        | true =>
          go_enter Try.func31, Try.ntmps31
          go_wp2_with (go_at_call 43; go_must (refine (HA.out _ (by have := hb1.out; rw [hw1.out] at this; exact this)).mono ?_; rintro e w2 ⟨rfl, hb2⟩; replace hb2 := Kpt.mk hb2))
          go_ret
          exact ⟨ret_bool (by rw [hmay.out]; simp [a2]), by have h1 := hb1.out; rw [hw1.out] at h1; exact h1.trans (hb2.out.mono h1.size)⟩
        | false =>
          by_cases a1 : ar = 1
          · subst a1
            go_enter Try.func31, Try.ntmps31
            go_wp2_with (go_at_call 43; go_must (refine (HA.out _ (by have := hb1.out; rw [hw1.out] at this; exact this)).mono ?_; rintro e w2 ⟨rfl, hb2⟩; have k2 : w2.cell? ⟨w.heap.size, 2, none⟩ = some (.int .u8 1) := (hb2.cell (p := ⟨w.heap.size, 2, none⟩) (by simp)).trans (by simp); have hB2 := Kpt.mk (by have h1 := hb1.out; rw [hw1.out] at h1; exact h1.trans (hb2.mono h1.size) : Below w.heap.size w w2); have k0 : w2.cell? ⟨B, 0, none⟩ = some (.slice (some ⟨g, 0, none⟩) m c) := (hB2.out.cell (p := ⟨B, 0, none⟩) hlt).trans hc0; have hs2 : w.heap.size < w2.heap.size := Nat.lt_of_lt_of_le (by simp) hb2.size; have m1 : Kpt True := ⟨trivial⟩; clear hb2))
            go_ret
            exact ⟨ret_bool (by rw [hmay.out]; simp; by_cases e : k = 0 <;> simp [e]), hB2.out⟩
          · have d1 : decide (ar = 1) = false := by simp [a1]
            go_enter Try.func31, Try.ntmps31
            go_wp2_with (first
              | (go_at_call 43; have hm := m1; go_must (refine (HB.out _ hB2.out).mono ?_; rintro e w3 ⟨rfl, hb3⟩; have hB3 := Kpt.mk (hB2.out.trans (hb3.mono hB2.out.size)); clear hb3))
              | (go_at_call 43; go_must (refine (HA.out _ (by have := hb1.out; rw [hw1.out] at this; exact this)).mono ?_; rintro e w2 ⟨rfl, hb2⟩; have k2 : w2.cell? ⟨w.heap.size, 2, none⟩ = some (.int .u8 ar) := (hb2.cell (p := ⟨w.heap.size, 2, none⟩) (by simp)).trans (by simp); have hB2 := Kpt.mk (by have h1 := hb1.out; rw [hw1.out] at h1; exact h1.trans (hb2.mono h1.size) : Below w.heap.size w w2); have k0 : w2.cell? ⟨B, 0, none⟩ = some (.slice (some ⟨g, 0, none⟩) m c) := (hB2.out.cell (p := ⟨B, 0, none⟩) hlt).trans hc0; have hs2 : w.heap.size < w2.heap.size := Nat.lt_of_lt_of_le (by simp) hb2.size; have m1 : Kpt True := ⟨trivial⟩; clear hb2)))
            go_ret
            exact ⟨ret_bool (by rw [hmay.out]; simp [a2, a1]), hB3.out⟩
    · go_enter Try.func31, Try.ntmps31
      go_wp2
      go_ret
      exact ⟨ret_bool (by rw [hmay.out]; simp [hst]; by_cases e : ar = 3 <;> simp [e]), by have := hb1.out; rw [hw1.out] at this; exact this⟩

abbrev newS (w : World) : World := w.alloc (.cells #[.slice none 0 0, .int .i64 (-1)] 59)
theorem new_any (w : World) : Calls Try.prog 10 #[] w fun e w' => e = .returned (.pointer (some ⟨w.heap.size, 0, none⟩)) ∧ w' = newS w := by
  go_enter Try.func10, Try.ntmps10
  go_wp2
  go_ret
  exact ⟨rfl, rfl⟩
theorem st_new (w : World) : St w.heap.size (newS w) w.heap.size [] (-1) (.slice none 0 0) :=
  ⟨by simp, Nat.le_refl _, by simp, by simp, fun j => by simp, own_nil _ _, fun g h => by simp [Value.ownBlock] at h, by simp⟩
theorem stands_any (base B : Nat) (ts : List Tk) (st : Int) (v : Value) (w : World) (h : St base w B ts st v) :
    Calls Try.prog 17 #[.pointer (some ⟨B, 0, none⟩)] w fun e w' => e = .returned (.int .i64 st) ∧ w' = w := by
  have hc1 := h.c1
  have hlt := h.lt
  clear h
  go_enter Try.func17, Try.ntmps17
  go_wp2
  go_ret
  exact ⟨rfl, rfl⟩
end Go.Proofs.Ytcnefmfmmgdidaa
