/-
  The law's function both: Clear, Establish, Relieve; and all of it.
-/
import Derived.Test.YtcnefmfmmgdidaaTBothB
namespace Go.Proofs.Ytcnefmfmmgdidaa
open Go.RowKit
set_option linter.unusedVariables false
set_option linter.unusedSimpArgs false

set_option maxRecDepth 100000 in
set_option maxHeartbeats 4000000 in
theorem both5 (w0 W : World) (B C : Nat) (ts : List Tk) (st : Int) (v u : Value) (K n g a : Int) (h : Pa w0 W B C ts st v u) (hI : Inv ts st) (hK : 0 ≤ K ∧ K ≤ 255) (eK : K % 8 = 5) :
    Calls Try.prog 12 #[.pointer (some ⟨B, 0, none⟩), .pointer (some ⟨C, 0, none⟩), .agg #[.int .u8 K, .int .i64 n, .int .u32 g, .int .u8 a]] W (BothPost w0 B C) := by
  have hP := Kpt.mk ((h.box K n g a).aca (-1))
  rw [World.setCell_alloc_past _ _ _ _ h.b.lt] at hP
  have hA : Kpt (∀ t ∈ ts, 0 ≤ t.ar ∧ t.ar ≤ 3) := ⟨fun t ht => by have := hI.2.1 t ht; exact ⟨this.1, this.2.1⟩⟩
  have hfew := Kpt.mk h.a.few
  have kc1 := h.b.c1
  have kf := h.b.free 1
  have klt := h.b.lt
  clear h
  go_enter Try.func12, Try.ntmps12
  go_wp2_with fail
  refine (pt_clear hP.out).mono ?_
  rintro e w2 ⟨y, v2, rfl, hr2, hP2⟩
  replace hP2 := Kpt.mk hP2
  replace hr2 := Kpt.mk hr2
  clear hP kc1 kf klt
  go_wp2_with fail
  refine (pt_rdrop 2 0 0 hP2.out hr2.out (by omega)).mono ?_
  rintro e w3 ⟨y3, u3, rfl, hx3, hy3, hP3⟩
  rw [drop_all, filt_all] at hy3
  replace hP3 := Kpt.mk hP3
  replace hx3 := Kpt.mk hx3
  replace hy3 := Kpt.mk hy3
  clear hP2 hr2
  go_wp2_with fail
  refine (pt_same hP3.out hx3.out hy3.out (by have := hfew.out; omega) hA.out).mono ?_
  rintro e w4 ⟨rfl, hP4, _⟩
  rw [drop_all, filt_none] at hP4
  replace hP4 := Kpt.mk hP4
  clear hP3 hx3 hy3
  go_wp2
  go_ret
  exact ⟨rfl, hP4.out.two rfl rfl inv_new⟩

set_option maxRecDepth 100000 in
set_option maxHeartbeats 4000000 in
theorem both6 (w0 W : World) (B C : Nat) (ts : List Tk) (st : Int) (v u : Value) (K n g a : Int) (h : Pa w0 W B C ts st v u) (hI : Inv ts st) (hK : 0 ≤ K ∧ K ≤ 255) (eK : K % 8 = 6) :
    Calls Try.prog 12 #[.pointer (some ⟨B, 0, none⟩), .pointer (some ⟨C, 0, none⟩), .agg #[.int .u8 K, .int .i64 n, .int .u32 g, .int .u8 a]] W (BothPost w0 B C) := by
  have hP := Kpt.mk (h.box K n g a)
  have kc1 := h.b.c1
  have kf := h.b.free 1
  have klt := h.b.lt
  clear h
  by_cases hn : 0 ≤ n ∧ n < 8
  · have n1 : ¬ n < 0 := by omega
    have n2 : ¬ 7 < n := by omega
    by_cases hst : st = -1
    · subst hst
      have hI2 := Kpt.mk (inv_est hI hn)
      go_enter Try.func12, Try.ntmps12
      go_wp2_with fail
      refine (establish_ok _ B ts v n _ hP.out.a hn).mono ?_
      rintro e w2 ⟨rfl, g1, g2, g3⟩
      have hP2 := hP.out.left g1 g2 g3
      obtain ⟨c0, c1, c2, c3⟩ := act4 hP2.tr
      have htl := hP2.tl
      have jc1 := hP2.b.c1
      have jf := hP2.b.free 1
      have jlt := hP2.b.lt
      have hP3 := Kpt.mk (hP2.aca n)
      clear hP g1 g2 g3 hP2 kc1 kf klt
      go_wp2
      go_ret
      exact ⟨rfl, hP3.out.two rfl rfl hI2.out⟩
    · have hs0 : 0 ≤ st := by rcases hI.1 with h | h; exact absurd h hst; exact h.1
      go_enter Try.func12, Try.ntmps12
      go_wp2_with fail
      refine (establish_twice _ B ts st v n _ hP.out.a hn hst).mono ?_
      rintro e w2 ⟨rfl, hw2⟩
      have hP2 := hP.out
      rw [← hw2] at hP2
      obtain ⟨c0, c1, c2, c3⟩ := act4 hP2.tr
      have htl := hP2.tl
      have jc1 := hP2.b.c1
      have jlt := hP2.b.lt
      replace hP2 := Kpt.mk hP2
      clear hP hw2 kc1 kf klt
      go_wp2
      go_ret
      exact ⟨rfl, hP2.out.two rfl rfl hI⟩
  · have hor : n < 0 ∨ (¬ n < 0 ∧ 7 < n) := by omega
    replace hn := Kpt.mk hn
    replace hI := Kpt.mk hI
    go_enter Try.func12, Try.ntmps12
    go_wp2_with fail
    refine (establish_arg _ B ts st v n _ hP.out.a hn.out).mono ?_
    rintro e w2 ⟨rfl, hw2⟩
    have hP2 := hP.out
    rw [← hw2] at hP2
    obtain ⟨c0, c1, c2, c3⟩ := act4 hP2.tr
    have htl := hP2.tl
    replace hP2 := Kpt.mk hP2
    clear hP hw2 kc1 kf klt
    rcases hor with h1 | ⟨h1, h2⟩
    all_goals
      go_wp2
      go_ret
      exact ⟨rfl, hP2.out.two rfl rfl hI.out⟩

theorem no_aca {ts : List Tk} (h : Inv ts (-1)) : ts.filter (fun t => decide (t.ar = 3)) = [] ∧ ts.filter (fun t => !decide (t.ar = 3)) = ts :=
  ⟨List.filter_eq_nil_iff.2 (fun t ht => by simpa using (h.2.1 t ht).2.2 rfl), List.filter_eq_self.2 (fun t ht => by simpa using (h.2.1 t ht).2.2 rfl)⟩

set_option maxRecDepth 100000 in
set_option maxHeartbeats 4000000 in
theorem both7 (w0 W : World) (B C : Nat) (ts : List Tk) (st : Int) (v u : Value) (K n g a : Int) (h : Pa w0 W B C ts st v u) (hI : Inv ts st) (hK : 0 ≤ K ∧ K ≤ 255) (eK : K % 8 = 7) :
    Calls Try.prog 12 #[.pointer (some ⟨B, 0, none⟩), .pointer (some ⟨C, 0, none⟩), .agg #[.int .u8 K, .int .i64 n, .int .u32 g, .int .u8 a]] W (BothPost w0 B C) := by
  have hfew := Kpt.mk h.a.few
  have kc1 := h.b.c1
  have kf := h.b.free 1
  have klt := h.b.lt
  by_cases hst : st = -1
  · subst hst
    have hP := Kpt.mk (h.box K n g a)
    obtain ⟨e1, e2⟩ := no_aca hI
    replace hI := Kpt.mk hI
    replace e1 := Kpt.mk e1
    replace e2 := Kpt.mk e2
    clear h
    go_enter Try.func12, Try.ntmps12
    go_wp2_with fail
    refine (pt_relieve hP.out).mono ?_
    rintro e w2 ⟨y, v2, rfl, hr2, hP2⟩
    rw [e1.out] at hr2
    rw [e2.out] at hP2
    obtain ⟨b, ho⟩ := hr2.1
    obtain ⟨ay, cy, hy, _⟩ := ho.shape
    simp only [List.length_nil] at hy
    subst hy
    replace hP2 := Kpt.mk hP2
    clear hP kc1 kf klt ho hr2
    go_wp2
    go_ret
    exact ⟨rfl, hP2.out.two rfl rfl hI.out⟩
  · have hs0 : 0 ≤ st := by rcases hI.1 with h | h; exact absurd h hst; exact h.1
    have hs1 : ¬ st < 0 := by omega
    have hP := Kpt.mk ((h.box K n g a).aca (-1))
    rw [World.setCell_alloc_past _ _ _ _ h.b.lt] at hP
    have hI2 := Kpt.mk (inv_relieve hI)
    have hA : Kpt (∀ t ∈ ts.filter (fun t => decide (t.ar = 3)), 0 ≤ t.ar ∧ t.ar ≤ 3) := ⟨fun t ht => by have := hI.2.1 t (List.mem_filter.1 ht).1; exact ⟨this.1, this.2.1⟩⟩
    clear h hI
    go_enter Try.func12, Try.ntmps12
    go_wp2_with fail
    refine (pt_relieve hP.out).mono ?_
    rintro e w2 ⟨y, v2, rfl, hr2, hP2⟩
    replace hP2 := Kpt.mk hP2
    replace hr2 := Kpt.mk hr2
    clear hP kc1 kf klt
    go_wp2_with fail
    refine (pt_rdrop 3 0 0 hP2.out hr2.out (by omega)).mono ?_
    rintro e w3 ⟨y3, u3, rfl, hx3, hy3, hP3⟩
    rw [drop_aca] at hy3 hP3
    replace hP3 := Kpt.mk hP3
    replace hx3 := Kpt.mk hx3
    replace hy3 := Kpt.mk hy3
    clear hP2 hr2
    go_wp2_with fail
    refine (pt_same hP3.out hx3.out hy3.out (by have := List.length_filter_le (fun t => decide (t.ar = 3)) ts; have := hfew.out; omega) hA.out).mono ?_
    rintro e w4 ⟨rfl, hP4, _⟩
    replace hP4 := Kpt.mk hP4
    clear hP3 hx3 hy3
    go_wp2
    go_ret
    exact ⟨rfl, hP4.out.two rfl rfl hI2.out⟩

theorem both_any (w0 W : World) (B C : Nat) (K n g a : Int) (h : Two w0 W B C) (hK : 0 ≤ K ∧ K ≤ 255) (hg : 0 ≤ g ∧ g ≤ 4294967295) (ha : 0 ≤ a ∧ a ≤ 255) :
    Calls Try.prog 12 #[.pointer (some ⟨B, 0, none⟩), .pointer (some ⟨C, 0, none⟩), .agg #[.int .u8 K, .int .i64 n, .int .u32 g, .int .u8 a]] W (BothPost w0 B C) := by
  obtain ⟨ts, st, v, u, hP, hI⟩ := h
  have hkind : K % 8 = 0 ∨ K % 8 = 1 ∨ K % 8 = 2 ∨ K % 8 = 3 ∨ K % 8 = 4 ∨ K % 8 = 5 ∨ K % 8 = 6 ∨ K % 8 = 7 := by omega
  rcases hkind with e | e | e | e | e | e | e | e
  · exact both0 w0 W B C ts st v u K n g a hP hI hK hg ha e
  · exact both1 w0 W B C ts st v u K n g a hP hI hK e
  · exact both2 w0 W B C ts st v u K n g a hP hI hK e
  · exact both3 w0 W B C ts st v u K n g a hP hI hK e
  · exact both4 w0 W B C ts st v u K n g a hP hI hK e
  · exact both5 w0 W B C ts st v u K n g a hP hI hK e
  · exact both6 w0 W B C ts st v u K n g a hP hI hK e
  · exact both7 w0 W B C ts st v u K n g a hP hI hK e
end Go.Proofs.Ytcnefmfmmgdidaa
