/-
  The contracts of bereft, Contains, taken, allows.
-/
import Derived.Test.YtmnoolcffkjmhaaPRem
import Derived.DeepKeys
namespace Go.Proofs.Ytmnoolcffkjmhaa
open Go.RowKit
set_option linter.unusedVariables false
set_option linter.unusedSimpArgs false

/-- Is nobody registered? -/
def Tb.void (t : Tb) : Bool := (List.range 8).all (fun i => decide (t.ks i = 0))
theorem items_zero (w : World) (d : Nat) (A Z : Array Value) (f : Nat → Int) : ∀ (is : List Nat), (∀ i ∈ is, A[i]? = some (.int .u64 (f i)) ∧ Z[i]? = some (.int .u64 0)) → (Op.eqItems (d + 1) 27 1 A Z is).run Try.prog w = .ok (is.all (fun i => decide (f i = 0))) w
  | [], _ => by simp [Op.eqItems]
  | i :: is, h => by
    obtain ⟨ha, hz⟩ := h i (by simp)
    have hp := run_part_plain (P := Try.prog) w (e := 27) (off := i * 1) (xs := A) (v := .int .u64 (f i)) (by kernel_rfl) (by rw [Nat.mul_one]; exact ha)
    have hq := run_part_plain (P := Try.prog) w (e := 27) (off := i * 1) (xs := Z) (v := .int .u64 0) (by kernel_rfl) (by rw [Nat.mul_one]; exact hz)
    have he := run_equalIn_int (P := Try.prog) w d 27 .u64 .u64 (f i) 0 Try.underlying27
    have ih := items_zero w d A Z f is (fun j hj => h j (by simp [hj]))
    rw [List.all_cons]
    simp only [Op.eqItems, Sem.run_bind, hp, hq, he, Result.andThen_ok]
    by_cases e : f i = 0
    · rw [show (f i == 0) = true from by simp [e], show decide (f i = 0) = true from by simp [e]]
      simp only [Bool.not_true, Bool.false_eq_true, if_false, ih, Bool.true_and]
    · rw [show (f i == 0) = false from by simp [e], show decide (f i = 0) = false from by simp [e]]
      simp
abbrev zeroA : Array Value := #[.int .u64 0, .int .u64 0, .int .u64 0, .int .u64 0, .int .u64 0, .int .u64 0, .int .u64 0, .int .u64 0]
theorem arr_equal (w : World) (A : Array Value) (f : Nat → Int) (h : ∀ k, k < 8 → A[k]? = some (.int .u64 (f k))) : (Op.equalIn 10000 28 (.agg A) (.agg zeroA)).run Try.prog w = .ok ((List.range 8).all (fun i => decide (f i = 0))) w := by
  obtain ⟨i, hi⟩ := info_of_underlying Try.underlying27
  rw [run_equalIn_array w 9999 _ _ Try.underlying28 hi, show Try.prog.cellsOf 27 = 1 from by kernel_rfl]
  refine items_zero w 9998 A zeroA f _ (fun j hj => ?_)
  have hj' : j < 8 := by simpa using hj
  refine ⟨h j hj', ?_⟩
  obtain rfl | rfl | rfl | rfl | rfl | rfl | rfl | rfl : j = 0 ∨ j = 1 ∨ j = 2 ∨ j = 3 ∨ j = 4 ∨ j = 5 ∨ j = 6 ∨ j = 7 := by omega
  all_goals rfl

/-- Without the registration of a nexus that is gone: is there nobody left who holds? -/
def Tb.bereft (t : Tb) (n : Int) : Bool := if isAll t.kd = true then t.void else decide (t.kd ≠ 0 ∧ t.ho = n)
set_option maxHeartbeats 1000000 in
theorem bereft_any (B : Nat) (t : Tb) (n : Int) (w : World) (h : Tab w B t) :
    Calls Try.prog 59 #[.pointer (some ⟨B, 0, none⟩), .int .i64 n] w fun e w' => e = .returned (.bool (t.bereft n)) ∧ w' = w := by
  have HA := Kpt.mk (all_any t.kd w)
  have hra := Kpt.mk h.range
  have hlt := h.lt
  have h8 := h.c8
  have h9 := h.c9
  have hr : Kpt (t.bereft n = if isAll t.kd = true then t.void else decide (t.kd ≠ 0 ∧ t.ho = n)) := ⟨rfl⟩
  obtain ⟨A, hA⟩ : ∃ A, A = (keyL t.ks).toArray := ⟨_, rfl⟩
  have HE := fun W => arr_equal W A t.ks (fun k hk => by rw [hA]; exact keyL_at t.ks k hk)
  have hv : ((List.range 8).all (fun i => decide (t.ks i = 0))) = t.void := rfl
  rw [hv] at HE
  generalize t.void = V at *
  generalize t.bereft n = R at *
  generalize isAll t.kd = al at *
  generalize t.ho = o at *
  generalize t.kd = k at *
  generalize t.ks = f at *
  replace hA := Kpt.mk hA
  clear h hv
  cases al with
  | true =>
    go_enter Try.func59, Try.ntmps59
    go_wp2_with (first
      | (go_at_call 24; go_must (refine HA.out.mono ?_; rintro e w ⟨rfl, rfl⟩))
      | (refine wpList_load_mid rfl 28 (.tmp 12) rfl B 0 rfl (keyL f) _ hra.out Try.underlying28 rfl Try.infoARR ?_; rw [← hA.out]))
    go_ret
    exact ⟨ret_bool (by rw [hr.out]; simp), rfl⟩
  | false =>
    clear HE
    by_cases hk : k = 0
    · subst hk
      go_enter Try.func59, Try.ntmps59
      go_wp2_with (go_at_call 24; go_must (refine HA.out.mono ?_; rintro e w ⟨rfl, rfl⟩))
      go_ret
      exact ⟨ret_bool (by rw [hr.out]; simp), rfl⟩
    · have hb : ((k : Int) != 0) = true := by simp [hk]
      go_enter Try.func59, Try.ntmps59
      go_wp2_with (go_at_call 24; go_must (refine HA.out.mono ?_; rintro e w ⟨rfl, rfl⟩))
      go_ret
      exact ⟨ret_bool (by rw [hr.out]; simp [hk, beq_d]), rfl⟩

/-- Has some nexus that key? -/
def Tb.has (t : Tb) (x : Int) : Bool := (List.range 8).any (fun i => decide (t.ks i = x))
theorem has_iff (t : Tb) (x : Int) : t.has x = true ↔ ∃ i, i < 8 ∧ t.ks i = x := by simp [Tb.has]
set_option maxHeartbeats 1000000 in
theorem index_any (B : Nat) (t : Tb) (x : Int) (w : World) (h : Tab w B t) :
    Calls Try.prog 61 #[.slice (some ⟨B, 0, none⟩) 8 8, .int .u64 x] w fun e w' => (∃ r, e = .returned (.int .i64 r) ∧ (0 ≤ r ↔ t.has x = true)) ∧ w' = w := by
  have hk := Kpt.mk h.key
  have hlt := h.lt
  have hi := Kpt.mk (has_iff t x)
  generalize t.has x = R at *
  clear h
  go_enter Try.func61, Try.ntmps61
  go_wp2
  go_loopw [8] (fun r wr => ∃ k : Nat, k ≤ 8 ∧ r = .int .i64 k ∧ Kpt (∀ i, i < k → t.ks i ≠ x) ∧ Kpt (wr = w)) (fun r _ => 8 - (intOf r).toNat)
  case atStart => exact ⟨0, Nat.zero_le _, rfl, ⟨fun i hi => by omega⟩, ⟨rfl⟩⟩
  case round =>
    obtain ⟨k, hk8, rfl, hI, hw⟩ := hrel
    have := hw.out
    subst this
    by_cases hlt2 : k < 8
    · have e1 : (k : Int) < 8 := by omega
      have hc := hk.out k hlt2
      obtain ⟨y, hy⟩ : ∃ y, y = t.ks k := ⟨_, rfl⟩
      rw [← hy] at hc
      replace hy := Kpt.mk hy
      by_cases e : x = y
      · subst e
        go_wp2
        go_ret
        exact ⟨⟨_, rfl, by rw [hi.out]; exact ⟨fun _ => ⟨k, hlt2, hy.out.symm⟩, fun _ => by omega⟩⟩, rfl⟩
      · have eb : ((x : Int) == y) = false := by simp [e]
        go_wp2
        go_roundw
        case rel => exact ⟨k + 1, by omega, by go_num, ⟨fun i hi => by
          by_cases e2 : i = k
          · subst e2; rw [← hy.out]; exact fun e3 => e e3.symm
          · exact hI.out i (by omega)⟩, by first | exact ⟨rfl⟩ | exact ⟨trivial⟩⟩
        case measure => simp [intOf]; omega
    · have e1 : ¬ (k : Int) < 8 := by omega
      go_wp2
      go_ret
      exact ⟨⟨_, rfl, by rw [hi.out]; exact ⟨fun h => by omega, fun ⟨i, hi, e⟩ => absurd e (hI.out i (by omega))⟩⟩, rfl⟩
theorem contains_any (B : Nat) (t : Tb) (x : Int) (w : World) (h : Tab w B t) :
    Calls Try.prog 57 #[.slice (some ⟨B, 0, none⟩) 8 8, .int .u64 x] w fun e w' => e = .returned (.bool (t.has x)) ∧ w' = w := by
  have H := Kpt.mk (index_any B t x w h)
  generalize t.has x = R at *
  clear h
  go_enter Try.func57, Try.ntmps57
  go_wp2_with (go_at_call 61; go_must (refine H.out.mono ?_; rintro e w ⟨⟨r, rfl, hr⟩, rfl⟩; replace hr := Kpt.mk hr))
  go_ret
  exact ⟨ret_bool (by have := hr.out; cases R <;> simp at this ⊢ <;> omega), rfl⟩

/-- Is the reservation taken by that key? -/
def Tb.taken (t : Tb) (x : Int) : Bool := if t.kd = 0 then false else if isAll t.kd = true then decide (x = 0) else decide (t.ks t.ho.toNat = x)
/-- Where the reservation is one nexus' own, that is a nexus. -/
def Tb.fit (t : Tb) : Prop := t.kd ≠ 0 → isAll t.kd = false → 0 ≤ t.ho ∧ t.ho < 8
set_option maxHeartbeats 1000000 in
theorem taken_any (B : Nat) (t : Tb) (x : Int) (w : World) (h : Tab w B t) (hf : t.fit) :
    Calls Try.prog 56 #[.pointer (some ⟨B, 0, none⟩), .int .u64 x] w fun e w' => e = .returned (.bool (t.taken x)) ∧ ∃ q, w' = w.drewN q := by
  have HA := Kpt.mk (all_any t.kd w)
  have hlt := h.lt
  have h8 := h.c8
  have h9 := h.c9
  have hr : Kpt (t.taken x = if t.kd = 0 then false else if isAll t.kd = true then decide (x = 0) else decide (t.ks t.ho.toNat = x)) := ⟨rfl⟩
  unfold Tb.fit at hf
  have hkk := Kpt.mk h.key
  generalize t.taken x = R at *
  generalize isAll t.kd = al at *
  generalize t.ho = o at *
  generalize t.kd = k at *
  clear h
  by_cases hk : k = 0
  · subst hk
    clear hf
    go_enter Try.func56, Try.ntmps56
    go_wp2
    go_ret
    exact ⟨ret_bool (by rw [hr.out]; simp), 0, rfl⟩
  · have hb : ((k : Int) == 0) = false := by simp [hk]
    cases al with
    | true =>
      clear hf
      go_enter Try.func56, Try.ntmps56
      go_wp2_with (go_at_call 24; go_must (refine HA.out.mono ?_; rintro e w ⟨rfl, rfl⟩))
      go_ret
      exact ⟨ret_bool (by rw [hr.out]; simp [hk, beq_d]), 0, rfl⟩
    | false =>
      obtain ⟨ho1, ho2⟩ := hf hk rfl
      obtain ⟨m, rfl⟩ : ∃ m : Nat, o = m := ⟨o.toNat, by omega⟩
      have hm : m < 8 := by omega
      have hc := hkk.out m hm
      have hr2 : Kpt (R = decide (t.ks m = x)) := ⟨by rw [hr.out]; simp [hk]⟩
      generalize t.ks m = y at *
      clear hr hf hkk
      go_enter Try.func56, Try.ntmps56
      go_wp2_with (go_at_call 24; go_must (refine HA.out.mono ?_; rintro e w ⟨rfl, rfl⟩))
      go_quiet (fail)
      go_wp2
      go_ret
      exact ⟨ret_bool (by rw [hr2.out, beq_d]), _, rfl⟩
end Go.Proofs.Ytmnoolcffkjmhaa
