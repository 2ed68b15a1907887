/-
  The document's preempt.
-/
import Derived.Test.YtikndkmpedoooaaPX4
namespace Go.Proofs.Ytikndkmpedoooaa
open Go.RowKit
set_option linter.unusedVariables false
set_option linter.unusedSimpArgs false

/-- What the first k nexuses whose registrations go are told. -/
def rmE (f : Nat → Int) (n key : Int) : Nat → List (Int × Int)
  | 0 => []
  | k + 1 => rmE f n key k ++ if f k ≠ 0 ∧ rmP n key ((k : Int), f k) = true then [((k : Int), 10757)] else []
theorem rmE_eq (f : Nat → Int) (n key : Int) : ∀ k, rmE f n key k = rmL n key (regsTo f k)
  | 0 => rfl
  | k + 1 => by
    unfold rmE regsTo
    rw [rmE_eq f n key k]
    unfold rmL
    rw [List.filter_append, List.map_append]
    congr 1
    by_cases h : f k = 0
    · simp [h]
    · by_cases e : rmP n key ((k : Int), f k) = true <;> simp [h, e]
theorem rmE_len (f : Nat → Int) (n key : Int) (k : Nat) : (rmE f n key k).length ≤ k := by
  rw [rmE_eq]
  exact Nat.le_trans (rmL_len _ _ _) (regsTo_len f k)
/-- The keys when k places have been looked at. -/
def rmF (f : Nat → Int) (n key : Int) (k : Nat) : Nat → Int := fun i => if i < k ∧ rmP n key ((i : Int), f i) = true then 0 else f i
theorem rmF_zero (f : Nat → Int) (n key : Int) : rmF f n key 0 = f := by funext i; simp [rmF]
theorem rmF_at (f : Nat → Int) (n key : Int) (k : Nat) : rmF f n key k k = f k := by simp [rmF]
theorem rmF_step (f : Nat → Int) (n key : Int) (k : Nat) : rmF f n key (k + 1) = if f k ≠ 0 ∧ rmP n key ((k : Int), f k) = true then upd (rmF f n key k) k 0 else rmF f n key k := by
  funext i
  split
  · rename_i h
    unfold upd rmF
    by_cases e : i = k
    · subst e; simp [h.2]
    · rw [if_neg e]
      by_cases h1 : i < k
      · have : i < k + 1 := by omega
        simp [h1, this]
      · have : ¬ i < k + 1 := by omega
        simp [h1, this]
  · rename_i h
    unfold rmF
    by_cases e : i = k
    · subst e
      by_cases h0 : f i = 0
      · simp [h0]
      · have : rmP n key ((i : Int), f i) = false := by simpa [h0] using h
        simp [this]
    · by_cases h1 : i < k
      · have : i < k + 1 := by omega
        simp [h1, this]
      · have : ¬ i < k + 1 := by omega
        simp [h1, this]
theorem grown_via1 {w1 wr w3 : World} {B p q : Nat} {u : Value} {row : Option Nat} (h : w1.grownBy wr (some B)) (o1 : Obj) (h3 : (((wr.drewN q).setCell ⟨B, p, none⟩ u).alloc o1).grownBy w3 row) (hr : ∀ g, row = some g → w1.heap.size ≤ g) : w1.grownBy w3 (some B) :=
  ⟨h3.os.trans h.os, h3.tape.trans h.tape, h3.output.trans h.output, Nat.le_trans h.size (Nat.le_trans (by simp) h3.size), fun j hj hk => by
    have hj' : j < wr.heap.size := Nat.lt_of_lt_of_le hj h.size
    refine (h3.block j (by simp; omega) (fun e => by have := hr j e.symm; omega)).trans ?_
    exact (Below.heap_alloc _ _ _ (by simp; omega)).trans ((Below.heap_setCell _ _ _ _ (fun e => hk (by rw [e]))).trans (h.block j hj hk))⟩

/-- How the reservation stands where it is not taken, or is. -/
def Nt (t : Tb) (ac : Int) : Prop := t.kd = 0 ∨ (t.kd ≠ 0 ∧ isAll t.kd = true ∧ ac ≠ 0) ∨ (t.kd ≠ 0 ∧ isAll t.kd = false ∧ t.ks t.ho.toNat ≠ ac)
theorem nt_of {t : Tb} {ac : Int} (h : t.taken ac = false) : Nt t ac := by
  unfold Tb.taken at h
  by_cases h0 : t.kd = 0
  · exact .inl h0
  · rw [if_neg h0] at h
    cases hal : isAll t.kd with
    | true => rw [hal, if_pos rfl] at h; exact .inr (.inl ⟨h0, hal, by simpa using h⟩)
    | false => rw [hal, if_neg (by simp)] at h; exact .inr (.inr ⟨h0, hal, by simpa using h⟩)
theorem tk_of {t : Tb} {ac : Int} (h : t.taken ac = true) : (t.kd ≠ 0 ∧ isAll t.kd = true ∧ ac = 0) ∨ (t.kd ≠ 0 ∧ isAll t.kd = false ∧ t.ks t.ho.toNat = ac) := by
  unfold Tb.taken at h
  by_cases h0 : t.kd = 0
  · rw [if_pos h0] at h; cases h
  · rw [if_neg h0] at h
    cases hal : isAll t.kd with
    | true => rw [hal, if_pos rfl] at h; exact .inl ⟨h0, rfl, by simpa using h⟩
    | false => rw [hal, if_neg (by simp)] at h; exact .inr ⟨h0, rfl, by simpa using h⟩

set_option maxRecDepth 100000 in
set_option maxHeartbeats 4000000 in
theorem rpre_par (C : Nat) (t : Tb) (x : Int) (n : Nat) (o : Ou) (w : World) (h : RTab w C t x) (hg : t.good) (hn : n < 8) (hac : o.ac = 0) (htk : t.taken o.ac = false) :
    Calls Try.prog 47 #[.pointer (some ⟨C, 0, none⟩), .int .i64 n, .agg o.rvals] w fun e w' => RDone w w' C e (t.preemptR o) (t.preemptE n o) (t.preempt n o) := by
  have hR : t.preemptR o = (2, 9728) := by unfold Tb.preemptR; rw [if_pos ⟨hac, htk⟩]
  rw [hR, show t.preemptE n o = [] from by unfold Tb.preemptE; rw [hR]; rw [if_pos (by simp)], show t.preempt n o = t from by unfold Tb.preempt; rw [hR]; rw [if_pos (by simp)]]
  have hnt := nt_of htk
  have hlt := h.lt
  have hK := Kpt.mk h
  have c8 := h.c8
  have c9 := h.c9
  have hkd0 := hg.ok.kd0
  have hgn := hg.gn0
  have hn8 : (n : Int) < 8 := by omega
  have hxo := h.hold
  have hone := hg.one
  have hkey := Kpt.mk h.key
  obtain ⟨sv, ty, ky, ac, ap⟩ := o
  simp only [Ou.rvals] at *
  have HY := fun k W => Kpt.mk (risTy_any k W)
  have HA := fun W => Kpt.mk (risAll_any t.kd W)
  have hne : C ≠ w.heap.size := by omega
  subst hac
  unfold Nt at hnt
  rcases hnt with hk0 | ⟨hk0, hal, hab⟩ | ⟨hk0, hal, hko⟩
  case inl =>
    rw [hk0] at c8
    clear HA
    have HA := fun W => Kpt.mk (risAll_any 0 W)
    clear h hg hxo hone
    go_enter Try.func47, Try.ntmps47
    go_wp2_with (go_at_call 33; go_must (refine (HA _).out.mono ?_; rintro e w0 ⟨rfl, rfl⟩))
    go_quiet ((go_at_call 33; exact Calls.quiet_of_same (HA _).out))
    go_wp2
    go_ret3
    exact ⟨_, x, rfl, own_nil _ _ _ _, (hK.out.alloc _).drewN _, grown_trans (grown_alloc _ _ _) (grown_drewN _ _ _)⟩
  case inr.inl => exact absurd rfl hab
  case inr.inr =>
    have hkb : ((t.kd : Int) != 0) = true := by simp [hk0]
    rw [hal] at HA
    obtain ⟨o1, o2, o3⟩ := hone hk0 hal
    have hxe := hxo hk0 hal
    obtain ⟨p, hp⟩ : ∃ p : Nat, x = p := ⟨x.toNat, by omega⟩
    have hp8 : p < 8 := by omega
    have hkp := hkey.out p hp8
    have htp : t.ho.toNat = p := by omega
    rw [htp] at hko o3
    subst hp
    have hp8i : (p : Int) < 8 := by omega
    have hkob : ((t.ks p : Int) == 0) = false := by simp [hko]
    generalize t.ks p = yp at *
    clear h hg hxo hone
    go_enter Try.func47, Try.ntmps47
    go_wp2_with (go_at_call 33; go_must (refine (HA _).out.mono ?_; rintro e w0 ⟨rfl, rfl⟩))
    go_quiet ((go_at_call 33; exact Calls.quiet_of_same (HA _).out))
    go_wp2
    go_ret3
    exact ⟨_, p, rfl, own_nil _ _ _ _, (hK.out.alloc _).drewN _, grown_trans (grown_alloc _ _ _) (grown_drewN _ _ _)⟩

set_option maxRecDepth 100000 in
set_option maxHeartbeats 4000000 in
theorem rpre_field (C : Nat) (t : Tb) (x : Int) (n : Nat) (o : Ou) (w : World) (h : RTab w C t x) (hg : t.good) (hn : n < 8) (htk : t.taken o.ac = true) (hty : isTy o.ty = false) :
    Calls Try.prog 47 #[.pointer (some ⟨C, 0, none⟩), .int .i64 n, .agg o.rvals] w fun e w' => RDone w w' C e (t.preemptR o) (t.preemptE n o) (t.preempt n o) := by
  have hR : t.preemptR o = (2, 9216) := by unfold Tb.preemptR; rw [if_neg (by simp [htk]), if_pos ⟨htk, hty⟩]
  rw [hR, show t.preemptE n o = [] from by unfold Tb.preemptE; rw [hR]; rw [if_pos (by simp)], show t.preempt n o = t from by unfold Tb.preempt; rw [hR]; rw [if_pos (by simp)]]
  have hnt := tk_of htk
  have hlt := h.lt
  have hK := Kpt.mk h
  have c8 := h.c8
  have c9 := h.c9
  have hkd0 := hg.ok.kd0
  have hgn := hg.gn0
  have hn8 : (n : Int) < 8 := by omega
  have hxo := h.hold
  have hone := hg.one
  have hkey := Kpt.mk h.key
  obtain ⟨sv, ty, ky, ac, ap⟩ := o
  simp only [Ou.rvals] at *
  have HY := fun k W => Kpt.mk (risTy_any k W)
  have HA := fun W => Kpt.mk (risAll_any t.kd W)
  have hne : C ≠ w.heap.size := by omega
  rcases hnt with ⟨hk0, hal, hab⟩ | ⟨hk0, hal, hko⟩
  case inl =>
    subst hab
    have hkb : ((t.kd : Int) != 0) = true := by simp [hk0]
    rw [hal] at HA
    clear h hg hxo hone
    go_enter Try.func47, Try.ntmps47
    go_wp2_with (go_at_call 33; go_must (refine (HA _).out.mono ?_; rintro e w0 ⟨rfl, rfl⟩))
    go_quiet ((go_at_call 33; exact Calls.quiet_of_same (HA _).out))
    go_wp2_with fail
    refine (HY _ _).out.mono ?_
    rintro e w0 ⟨rfl, rfl⟩
    rw [hty]
    go_wp2
    go_ret3
    exact ⟨_, x, rfl, own_nil _ _ _ _, (hK.out.alloc _).drewN _, grown_trans (grown_alloc _ _ _) (grown_drewN _ _ _)⟩
  case inr =>
    have hkb : ((t.kd : Int) != 0) = true := by simp [hk0]
    rw [hal] at HA
    obtain ⟨o1, o2, o3⟩ := hone hk0 hal
    have hxe := hxo hk0 hal
    obtain ⟨p, hp⟩ : ∃ p : Nat, x = p := ⟨x.toNat, by omega⟩
    have hp8 : p < 8 := by omega
    have hkp := hkey.out p hp8
    have htp : t.ho.toNat = p := by omega
    rw [htp] at hko o3
    subst hp
    have hp8i : (p : Int) < 8 := by omega
    generalize t.ks p = yp at *
    subst hko
    have hob : ((yp : Int) != 0) = true := by simp [o3]
    have hob2 : ((yp : Int) == 0) = false := by simp [o3]
    clear h hg hxo hone
    go_enter Try.func47, Try.ntmps47
    go_wp2_with (go_at_call 33; go_must (refine (HA _).out.mono ?_; rintro e w0 ⟨rfl, rfl⟩))
    go_quiet ((go_at_call 33; exact Calls.quiet_of_same (HA _).out))
    go_wp2_with fail
    refine (HY _ _).out.mono ?_
    rintro e w0 ⟨rfl, rfl⟩
    rw [hty]
    go_wp2
    go_ret3
    exact ⟨_, p, rfl, own_nil _ _ _ _, (hK.out.alloc _).drewN _, grown_trans (grown_alloc _ _ _) (grown_drewN _ _ _)⟩

end Go.Proofs.Ytikndkmpedoooaa
