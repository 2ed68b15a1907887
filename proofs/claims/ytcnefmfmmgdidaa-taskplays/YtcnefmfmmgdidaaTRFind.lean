/-
  The contracts of the document's New and Find, and of same.
-/
import Derived.Test.YtcnefmfmmgdidaaTRQ
namespace Go.Proofs.Ytcnefmfmmgdidaa
open Go.RowKit
set_option linter.unusedVariables false
set_option linter.unusedSimpArgs false

abbrev newR (w : World) : World := w.alloc (.cells #[.slice none 0 0, .int .i64 (-1)] 38)
theorem rnew_any (w : World) : Calls Try.prog 11 #[] w fun e w' => e = .returned (.pointer (some ⟨w.heap.size, 0, none⟩)) ∧ w' = newR w := by
  go_enter Try.func11, Try.ntmps11
  go_wp2
  go_ret
  exact ⟨rfl, rfl⟩
theorem stR_new (w : World) : StR w.heap.size (newR w) w.heap.size [] (-1) (.slice none 0 0) :=
  ⟨by simp, Nat.le_refl _, by simp, by simp, fun j => by simp, ownR_nil _ _, fun g h => by simp [Value.ownBlock] at h, by simp⟩

theorem fidx_drop (p : Tk → Bool) (ts : List Tk) (k : Nat) (t : Tk) (h : ts[k]? = some t) : fidx p (ts.drop k) k = if p t = true then (k : Int) else fidx p (ts.drop (k + 1)) (k + 1) := by
  obtain ⟨hk, rfl⟩ := List.getElem?_eq_some_iff.1 h
  rw [List.drop_eq_getElem_cons hk]
  rfl
theorem fidx_end (p : Tk → Bool) (ts : List Tk) : fidx p (ts.drop ts.length) ts.length = -1 := by
  rw [List.drop_length]
  rfl

set_option maxRecDepth 100000 in
set_option maxHeartbeats 1000000 in
theorem rfind_any (base B : Nat) (ts : List Tk) (st : Int) (v : Value) (n g : Int) (w : World) (h : StR base w B ts st v) :
    Calls Try.prog 41 #[.pointer (some ⟨B, 0, none⟩), .int .i64 n, .int .u32 g] w fun e w' => e = .returned (.int .i64 (fidx (isT n g) ts 0)) ∧ w' = w := by
  obtain ⟨a, c, hv, hs⟩ := h.own.shape
  have hc0 := h.c0
  have hlt := h.lt
  have hfew := h.few
  rw [hv] at hc0
  replace hs := Kpt.mk hs
  obtain ⟨m, hm⟩ : ∃ m, m = ts.length := ⟨_, rfl⟩
  rw [← hm] at hc0 hfew hs
  have hend := Kpt.mk (fidx_end (isT n g) ts)
  rw [← hm] at hend
  obtain ⟨X, hX⟩ : ∃ X, X = fidx (isT n g) ts 0 := ⟨_, rfl⟩
  have hX0 : Kpt (X = fidx (isT n g) (ts.drop 0) 0) := ⟨by rw [hX]; rfl⟩
  rw [← hX]
  replace hm := Kpt.mk hm
  clear h hv hX
  go_enter Try.func41, Try.ntmps41
  go_wp2
  go_loopw [7] (fun t wr => ∃ (k : Nat), k ≤ m ∧ t = .int .i64 k ∧ wr = w ∧ Kpt (X = fidx (isT n g) (ts.drop k) k)) (fun t _ => m - (intOf t).toNat)
  case atStart => exact ⟨0, Nat.zero_le _, rfl, rfl, hX0⟩
  case round =>
    obtain ⟨k, hk, rfl, rfl, hXk⟩ := hrel
    by_cases hlt2 : k < m
    · have e1 : (k : Int) < m := by omega
      obtain ⟨t, ht⟩ : ∃ t, ts[k]? = some t := ⟨_, List.getElem?_eq_getElem (by rw [← hm.out]; exact hlt2)⟩
      rcases hs.out with ⟨_, _, hz⟩ | ⟨gr, rfl, hbg, hg, hc1, hc2, _, hr⟩
      · omega
      obtain ⟨r0, r1, r2, r3⟩ := range4R (hr k t ht)
      have hst := hXk.out
      rw [fidx_drop (isT n g) ts k t ht] at hst
      unfold maxLen at hc2
      clear hr hs ht hX0 hXk
      by_cases h1 : t.nx = n
      · by_cases h2 : t.tg = g
        · rw [if_pos (by simp [isT, h1, h2])] at hst
          clear hend
          subst hst
          rw [h1] at r0
          rw [h2] at r1
          go_wp2
          go_ret
          exact ⟨rfl, rfl⟩
        · rw [if_neg (by simp [isT, h2])] at hst
          replace hst := Kpt.mk hst
          rw [h1] at r0
          go_wp2
          go_roundw
          all_goals first
            | exact ⟨k + 1, by omega, by go_num, rfl, hst⟩
            | exact ⟨k + 1, by omega, by go_num, trivial, hst⟩
            | exact ⟨k + 1, by omega, by go_num, hst⟩
            | (simp [intOf]; omega; done)
      · rw [if_neg (by simp [isT, h1])] at hst
        replace hst := Kpt.mk hst
        go_wp2
        go_roundw
        all_goals first
          | exact ⟨k + 1, by omega, by go_num, rfl, hst⟩
          | exact ⟨k + 1, by omega, by go_num, trivial, hst⟩
          | exact ⟨k + 1, by omega, by go_num, hst⟩
          | (simp [intOf]; omega; done)
    · have e1 : ¬ (k : Int) < m := by omega
      have ek : k = m := by omega
      have hx := hXk.out
      rw [ek, hend.out] at hx
      clear hend hX0 hXk ek
      subst hx
      go_wp2
      go_ret
      exact ⟨rfl, rfl⟩

set_option maxRecDepth 100000 in
set_option maxHeartbeats 2000000 in
theorem alike_any (x y : Value) (ts : List Tk) (w : World) (hx : Rd w x ts) (hy : RdR w y ts) (hl : ts.length ≤ 100) (hA : ∀ t ∈ ts, 0 ≤ t.ar ∧ t.ar ≤ 3) :
    Calls Try.prog 13 #[x, y] w fun e w' => e = .returned (.bool true) ∧ Below w.heap.size w w' := by
  obtain ⟨ax, cx, rfl, hx⟩ := hx
  obtain ⟨ay, cy, rfl, hy⟩ := hy
  obtain ⟨m, hm⟩ : ∃ m, m = ts.length := ⟨_, rfl⟩
  rw [← hm] at hl hx hy ⊢
  replace hx := Kpt.mk hx
  replace hy := Kpt.mk hy
  replace hm := Kpt.mk hm
  replace hA := Kpt.mk hA
  go_enter Try.func13, Try.ntmps13
  go_wp2
  go_loopw [5] (fun t wr => ∃ (k : Nat), k ≤ m ∧ t = .int .i64 k ∧ Kpt (Below w.heap.size w wr)) (fun t _ => m - (intOf t).toNat)
  case atStart => exact ⟨0, Nat.zero_le _, rfl, ⟨Below.refl _ _⟩⟩
  case round =>
    obtain ⟨k, hk, rfl, hB⟩ := hrel
    by_cases hlt2 : k < m
    · have e1 : (k : Int) < m := by omega
      obtain ⟨t, ht⟩ : ∃ t, ts[k]? = some t := ⟨_, List.getElem?_eq_getElem (by rw [← hm.out]; exact hlt2)⟩
      obtain ⟨ha0, ha3⟩ := hA.out t (List.mem_of_getElem? ht)
      obtain ⟨g1, rfl, hg1, hc1, hd1, hr1⟩ := hx.out (by omega)
      obtain ⟨g2, rfl, hg2, hc2, hd2, hr2⟩ := hy.out (by omega)
      obtain ⟨r0, r1, r2, r3⟩ := range4 (rangeAt_of_block (hr1 k t ht) (hB.out.block g1 hg1))
      obtain ⟨s0, s1, s2, s3⟩ := range4R (rangeAt_of_block (hr2 k t ht) (hB.out.block g2 hg2))
      have hl1 := Nat.lt_of_lt_of_le hg1 hB.out.size
      have hl2 := Nat.lt_of_lt_of_le hg2 hB.out.size
      unfold maxLen at hd1 hd2
      clear hr1 hr2 hx hy ht
      obtain ⟨nx, tg, ar, sd⟩ := t
      simp only at r0 r1 r2 r3 s0 s1 s2 s3 ha0 ha3
      go_wp2
      go_quiet (fail)
      go_wp2
      go_roundw
      all_goals first
        | exact ⟨k + 1, by omega, by go_num, ⟨below_drewN hB.out _⟩⟩
        | (simp [intOf]; omega; done)
    · have e1 : ¬ (k : Int) < m := by omega
      go_wp2
      go_ret
      exact ⟨rfl, hB.out⟩
end Go.Proofs.Ytcnefmfmmgdidaa
