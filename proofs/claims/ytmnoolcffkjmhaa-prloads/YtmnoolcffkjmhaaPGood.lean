/-
  What holds of every table that services make; a table between calls.
-/
import Derived.Test.YtmnoolcffkjmhaaPDoB
namespace Go.Proofs.Ytmnoolcffkjmhaa
open Go.RowKit
set_option linter.unusedVariables false
set_option linter.unusedSimpArgs false

/-- What a table is, always. -/
structure Tb.good (t : Tb) : Prop where
  ty : t.kd = 0 ∨ isTy t.kd = true
  one : t.kd ≠ 0 → isAll t.kd = false → 0 ≤ t.ho ∧ t.ho < 8 ∧ t.ks t.ho.toNat ≠ 0
  all : isAll t.kd = true → ∃ j, j < 8 ∧ t.ks j ≠ 0
  gn0 : 0 ≤ t.gn ∧ t.gn < 4294967296
  kr : ∀ j, j < 8 → 0 ≤ t.ks j ∧ t.ks j < 18446744073709551616
theorem Tb.good.ok {t : Tb} (h : t.good) : t.ok :=
  ⟨fun h1 h2 => ⟨(h.one h1 h2).1, (h.one h1 h2).2.1⟩, by rcases h.ty with e | e
                                                         · omega
                                                         · simp [isTy] at e; omega, h.gn0⟩
theorem zero_good : zeroT.good := ⟨.inl rfl, fun h => absurd rfl h, fun h => by simp [zeroT, isAll] at h, by simp [zeroT], fun j hj => by simp [zeroT]⟩

theorem bad_false {t : Tb} {n : Int} {o : Ou} (h : ¬ t.bad n o = true) : (0 ≤ n ∧ n < 8) ∧ o.sv ≤ 6 := by
  unfold Tb.bad at h
  simp only [decide_eq_true_eq] at h
  omega

theorem good_register {t : Tb} (h : t.good) (n : Nat) (o : Ou) (hn : n < 8) (ho : 0 ≤ o.ac ∧ o.ac < 18446744073709551616) : (t.register n o).good := by
  have hput : (t.put n o).gn = (t.gn + 1) % 4294967296 := rfl
  have hkd : (t.put n o).kd = t.kd := rfl
  have hho : (t.put n o).ho = t.ho := rfl
  have hks : (t.put n o).ks = upd t.ks n o.ac := rfl
  have hgn : 0 ≤ (t.gn + 1) % 4294967296 ∧ (t.gn + 1) % 4294967296 < 4294967296 := by omega
  have hkr : ∀ j, j < 8 → 0 ≤ (t.put n o).ks j ∧ (t.put n o).ks j < 18446744073709551616 := fun j hj => by
    rw [hks]
    unfold upd
    split
    · exact ho
    · exact h.kr j hj
  unfold Tb.register
  split
  · exact ⟨.inl rfl, fun h => absurd rfl h, fun h => by simp [isAll] at h, hgn, hkr⟩
  · rename_i hb
    refine ⟨by rw [hkd]; exact h.ty, fun h1 h2 => ?_, fun h2 => ?_, by rw [hput]; exact hgn, hkr⟩
    · rw [hkd] at h1 h2
      rw [hho, hks]
      obtain ⟨a, b, c⟩ := h.one h1 h2
      refine ⟨a, b, ?_⟩
      unfold upd
      split
      · rename_i e
        intro e0
        refine hb ⟨e0, ?_⟩
        unfold Tb.bereft
        rw [hkd, h2, hho]
        simp [h1]
        omega
      · exact c
    · rw [hkd] at h2
      rw [hks]
      by_cases e0 : o.ac = 0
      · have hv : ¬ (t.put n o).void = true := fun hv => hb ⟨e0, by unfold Tb.bereft; rw [hkd, h2]; simpa using hv⟩
        unfold Tb.void at hv
        simp only [List.all_eq_true, List.mem_range, decide_eq_true_eq] at hv
        apply Classical.byContradiction
        intro hne
        refine hv (fun j hj => ?_)
        apply Classical.byContradiction
        intro hj0
        exact hne ⟨j, hj, by rw [hks] at hj0; exact hj0⟩
      · exact ⟨n, hn, by simp [upd, e0]⟩
theorem good_reserve {t : Tb} (h : t.good) (n : Nat) (ty : Int) (hn : n < 8) (hk : t.ks n ≠ 0) : (t.reserve n ty).good := by
  unfold Tb.reserve
  split
  · rename_i hb
    exact ⟨.inr hb.1, fun _ _ => ⟨by simp, by simp; omega, by simpa using hk⟩, fun _ => ⟨n, hn, hk⟩, h.gn0, h.kr⟩
  · exact h
theorem good_release {t : Tb} (h : t.good) (n ty : Int) : (t.release n ty).good := by
  unfold Tb.release
  split
  · exact ⟨.inl rfl, fun h => absurd rfl h, fun h => by simp [isAll] at h, h.gn0, h.kr⟩
  · exact h
theorem good_clear {t : Tb} (h : t.good) : t.clear.good :=
  ⟨.inl rfl, fun h => absurd rfl h, fun h => by simp [Tb.clear, isAll] at h, by unfold Tb.clear; simp only; omega, fun j hj => by simp [Tb.clear]⟩
theorem good_preempt {t : Tb} (h : t.good) (n : Nat) (o : Ou) (hn : n < 8) (hk : t.ks n ≠ 0) : (t.preempt n o).good := by
  have hgn : 0 ≤ (t.gn + 1) % 4294967296 ∧ (t.gn + 1) % 4294967296 < 4294967296 := by omega
  have hkr : ∀ j, j < 8 → 0 ≤ (t.rmG n o).ks j ∧ (t.rmG n o).ks j < 18446744073709551616 := fun j hj => by
    simp only [Tb.rmG, Tb.rm]
    split
    · omega
    · exact h.kr j hj
  have hown : (t.rmG n o).ks n ≠ 0 := by simp [Tb.rmG, Tb.rm, rmP, hk]
  unfold Tb.preempt
  split
  · exact h
  · rename_i hR
    have hR' : (t.preemptR o).1 = 0 := by simpa using hR
    unfold Tb.preemptR at hR'
    split
    · rename_i htk
      have hty : isTy o.ty = true := by
        cases e : isTy o.ty with
        | true => rfl
        | false => simp [htk, e] at hR'
      exact ⟨.inr hty, fun _ _ => ⟨by simp, by simp; omega, by simpa using hown⟩, fun _ => ⟨n, hn, hown⟩, hgn, hkr⟩
    · rename_i htk
      have htk' : t.taken o.ac = false := by simpa using htk
      have hac : o.ac ≠ 0 := fun e => by simp [e] at hR'; rw [e] at htk'; simp [htk'] at hR'
      refine ⟨h.ty, fun h1 h2 => ?_, fun h2 => ⟨n, hn, hown⟩, hgn, hkr⟩
      obtain ⟨a, b, c⟩ := h.one h1 h2
      refine ⟨a, b, ?_⟩
      have h1' : t.kd ≠ 0 := h1
      have h2' : isAll t.kd = false := h2
      have hta : t.ks t.ho.toNat ≠ o.ac := fun e => by simp [Tb.taken, h1', h2', e] at htk'
      show (if rmP n o.ac ((t.ho.toNat : Int), t.ks t.ho.toNat) = true then 0 else t.ks t.ho.toNat) ≠ 0
      rw [if_neg]
      · exact c
      · simp only [rmP, decide_eq_true_eq]
        rintro ⟨_, e | e⟩
        · exact hac e
        · exact hta e
theorem good_do {t : Tb} (h : t.good) (n : Int) (o : Ou) (ho : 0 ≤ o.ac ∧ o.ac < 18446744073709551616) : (t.doT n o).good := by
  unfold Tb.doT
  split
  · exact h
  rename_i hb
  obtain ⟨hn, hs⟩ := bad_false hb
  obtain ⟨m, rfl⟩ : ∃ m : Nat, n = m := ⟨n.toNat, by omega⟩
  have hm : m < 8 := by omega
  rw [Int.toNat_natCast]
  split
  · exact h
  rename_i hal
  have hreg : o.sv ≠ 6 → o.sv ≠ 0 → t.ks m ≠ 0 := fun h6 h0 => by
    have : t.allows m o = true := by simpa using hal
    simp [Tb.allows, h6, h0] at this
    exact this.1
  split
  · exact good_reserve h m o.ty hm (hreg (by omega) (by omega))
  split
  · exact good_release h _ _
  split
  · exact good_clear h
  split
  · exact good_preempt h m o hm (hreg (by omega) (by omega))
  · exact good_register h m o hm ho

/-- A table between calls. -/
structure Ss (w0 w : World) (B : Nat) (t : Tb) : Prop where
  tab : Tab w B t
  new : w0.heap.size ≤ B
  bel : Below w0.heap.size w0 w
  good : t.good
section
variable {w0 w w' : World} {B : Nat} {t : Tb}
theorem Ss.below (h : Ss w0 w B t) (hb : Below w.heap.size w w') : Ss w0 w' B t := ⟨h.tab.below' hb, h.new, h.bel.trans (hb.mono h.bel.size), h.good⟩
theorem Ss.drewN (h : Ss w0 w B t) (n : Nat) : Ss w0 (w.drewN n) B t := ⟨h.tab.drewN n, h.new, below_drewN h.bel n, h.good⟩
theorem below_grown {w0 w w' : World} {B : Nat} (h : Below w0.heap.size w0 w) (hg : w.grownBy w' (some B)) (hB : w0.heap.size ≤ B) : Below w0.heap.size w0 w' :=
  h.grown hg (by have := h.size; omega) (fun k hk => by simp at hk; omega)
theorem ss_do (h : Ss w0 w B t) (n : Int) (o : Ou) (ho : 0 ≤ o.ac ∧ o.ac < 18446744073709551616) :
    Calls Try.prog 15 #[.pointer (some ⟨B, 0, none⟩), .int .i64 n, .agg o.vals] w fun e w' => ∃ v, e = .returned (.tuple #[.int .u8 (t.doR n o).1, .int .u16 (t.doR n o).2, v]) ∧ Own .u16 55 w.heap.size w' v (t.doE n o) ∧ Ss w0 w' B (t.doT n o) ∧ w.grownBy w' (some B) :=
  (do_any B t n o w h.tab h.good.ok).mono fun e w' ⟨v, he, hO, hT, hG⟩ => ⟨v, he, hO, ⟨hT, h.new, below_grown h.bel hG h.new, good_do h.good n o ho⟩, hG⟩
theorem ss_new (w : World) : Ss w (newT w) w.heap.size zeroT := ⟨tab_new w, Nat.le_refl _, (Below.refl _ _).alloc (Nat.le_refl _) _, zero_good⟩
theorem ss_from {w0 w : World} (h : Below w0.heap.size w0 w) : Ss w0 (newT w) w.heap.size zeroT := ⟨tab_new w, h.size, h.alloc h.size _, zero_good⟩
end

theorem gen_any (B : Nat) (t : Tb) (w : World) (h : Tab w B t) : Calls Try.prog 21 #[.pointer (some ⟨B, 0, none⟩)] w fun e w' => e = .returned (.int .u32 t.gn) ∧ w' = w := by
  have hlt := h.lt
  have h10 := h.c10
  generalize t.gn = x at *
  clear h
  go_enter Try.func21, Try.ntmps21
  go_wp2
  go_ret
  exact ⟨rfl, rfl⟩

theorem awake_R : zeroT.doR 1 ⟨6, 0, 0, 7, false⟩ = (0, 0) := by decide
theorem awake_L : (zeroT.doT 1 ⟨6, 0, 0, 7, false⟩).regs = [(1, 7)] := by decide
set_option maxHeartbeats 1000000 in
theorem awake_any (w : World) : Calls Try.prog 9 #[] w fun e w' => e = .returned (.bool true) ∧ Below w.heap.size w w' := by
  have HN := Kpt.mk (new_any w)
  have HD := Kpt.mk (ss_do (ss_new w) 1 ⟨6, 0, 0, 7, false⟩ (by decide))
  have HR : Kpt (∀ W, Ss w W w.heap.size (zeroT.doT 1 ⟨6, 0, 0, 7, false⟩) → Calls Try.prog 19 #[.pointer (some ⟨w.heap.size, 0, none⟩)] W fun e w' => ∃ v, e = .returned v ∧ Own .u64 67 W.heap.size w' v [(1, 7)] ∧ Below W.heap.size W w') := ⟨fun W hW => by
    have := regs_any _ _ W hW.tab
    rw [awake_L] at this
    exact this⟩
  rw [awake_R] at HD
  generalize zeroT.doT 1 ⟨6, 0, 0, 7, false⟩ = T at *
  simp only [Ou.vals] at HD
  go_enter Try.func9, Try.ntmps9
  go_wp2_with (first
    | (go_at_call 19; go_must (refine (HR.out _ h1.out).mono ?_; rintro e w2 ⟨x, rfl, hO2, hB2⟩; obtain ⟨a, c, hx, hs⟩ := hO2.shape; have hB := Kpt.mk (h1.out.bel.trans (hB2.mono h1.out.bel.size)); subst hx; rcases hs with ⟨_, _, hz⟩ | ⟨g, rfl, hbg, hg, hc1, hc2, hrr⟩; (simp at hz); obtain ⟨r0, r1⟩ := range2 (hrr 0 _ rfl); simp only [List.length_cons, List.length_nil, Nat.zero_add, Nat.zero_mul] at *; clear hO2 hB2 hrr))
    | (go_at_call 15; go_must (refine HD.out.mono ?_; rintro e w1 ⟨v, rfl, _, h1, _⟩; replace h1 := Kpt.mk h1))
    | (go_at_call 10; go_must (refine HN.out.mono ?_; rintro e w1 ⟨rfl, rfl⟩)))
  go_ret
  exact ⟨rfl, hB.out⟩
end Go.Proofs.Ytmnoolcffkjmhaa
