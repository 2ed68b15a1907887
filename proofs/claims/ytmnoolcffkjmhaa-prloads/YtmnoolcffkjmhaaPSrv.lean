/-
  The contracts of allows, register, reserve, release, clear.
-/
import Derived.Test.YtmnoolcffkjmhaaPBer
namespace Go.Proofs.Ytmnoolcffkjmhaa
open Go.RowKit
set_option linter.unusedVariables false
set_option linter.unusedSimpArgs false

/-- What a service wants. -/
structure Ou where
  sv : Int
  ty : Int
  ky : Int
  ac : Int
  ap : Bool
abbrev Ou.vals (o : Ou) : Array Value := #[.int .u8 o.sv, .int .u8 o.ty, .int .u64 o.ky, .int .u64 o.ac, .bool o.ap]

/-- Is the key the one that the service needs? -/
def Tb.allows (t : Tb) (n : Nat) (o : Ou) : Bool := if o.sv = 6 then true else if o.sv = 0 then decide (o.ky = t.ks n) else decide (t.ks n ≠ 0 ∧ o.ky = t.ks n)

set_option maxHeartbeats 1000000 in
theorem allows_any (B : Nat) (t : Tb) (n : Nat) (o : Ou) (w : World) (h : Tab w B t) (hn : n < 8) :
    Calls Try.prog 38 #[.pointer (some ⟨B, 0, none⟩), .int .i64 n, .agg o.vals] w fun e w' => e = .returned (.bool (t.allows n o)) ∧ Below w.heap.size w w' := by
  obtain ⟨sv, ty, ky, ac, ap⟩ := o
  simp only [Ou.vals]
  have hreg : Kpt (t.reg (n : Int) = decide (t.ks n ≠ 0)) := ⟨by unfold Tb.reg; simp; omega⟩
  have HR : Kpt (∀ m, Calls Try.prog 49 #[.pointer (some ⟨B, 0, none⟩), .int .i64 n] ((w.alloc (.cells #[.int .u8 sv, .int .u8 ty, .int .u64 ky, .int .u64 ac, .bool ap] 33)).drewN m) fun e w' => e = .returned (.bool (t.reg n)) ∧ w' = (w.alloc (.cells #[.int .u8 sv, .int .u8 ty, .int .u64 ky, .int .u64 ac, .bool ap] 33)).drewN m) :=
    ⟨fun m => registered_any B t n _ ((h.alloc _).drewN m)⟩
  have hr : Kpt (t.allows n ⟨sv, ty, ky, ac, ap⟩ = if sv = 6 then true else if sv = 0 then decide (ky = t.ks n) else decide (t.ks n ≠ 0 ∧ ky = t.ks n)) := ⟨rfl⟩
  have hlt := h.lt
  have hk := h.key n hn
  have hn8 : (n : Int) < 8 := by omega
  rw [hreg.out] at HR
  generalize t.allows n ⟨sv, ty, ky, ac, ap⟩ = R at *
  generalize t.ks n = y at *
  clear h hreg
  by_cases h6 : sv = 6
  · subst h6
    go_enter Try.func38, Try.ntmps38
    go_wp2
    go_ret
    exact ⟨ret_bool (by rw [hr.out]; simp), (Below.refl _ _).alloc (Nat.le_refl _) _⟩
  by_cases h0 : sv = 0
  · subst h0
    go_enter Try.func38, Try.ntmps38
    go_wp2
    go_quiet (fail)
    go_wp2
    go_ret
    exact ⟨ret_bool (by rw [hr.out]; simp [beq_d]), below_drewN ((Below.refl _ _).alloc (Nat.le_refl _) _) _⟩
  · have b6 : ((sv : Int) == 6) = false := by simp [h6]
    have b0 : ((sv : Int) == 0) = false := by simp [h0]
    by_cases hy : y = 0
    · subst hy
      rw [show decide ((0 : Int) ≠ 0) = false from rfl] at HR
      go_enter Try.func38, Try.ntmps38
      go_wp2
      go_quiet ((go_at_call 49; exact Calls.quiet_of_same (HR.out _)))
      go_wp2
      go_ret
      exact ⟨ret_bool (by rw [hr.out]; simp [h6, h0]), below_drewN ((Below.refl _ _).alloc (Nat.le_refl _) _) _⟩
    · rw [show decide (y ≠ 0) = true from by simp [hy]] at HR
      go_enter Try.func38, Try.ntmps38
      go_wp2
      go_quiet ((go_at_call 49; exact Calls.quiet_of_same (HR.out _)))
      go_wp2
      go_ret
      exact ⟨ret_bool (by rw [hr.out]; simp [h6, h0, hy, beq_d]), below_drewN ((Below.refl _ _).alloc (Nat.le_refl _) _) _⟩

theorem new_cell (w : World) (cs : Array Value) (ty : TypeId) (b : Nat) (hb : b = w.heap.size) (j : Nat) : (w.alloc (.cells cs ty)).drew.cell? ⟨b, j, none⟩ = cs[j]? := by subst hb; simp
/-- The nexus has that key now. -/
def Tb.put (t : Tb) (n : Nat) (o : Ou) : Tb := { t with ks := upd t.ks n o.ac, la := o.ap, gn := (t.gn + 1) % 4294967296 }
def Tb.register (t : Tb) (n : Nat) (o : Ou) : Tb := if o.ac = 0 ∧ (t.put n o).bereft n = true then { t.put n o with kd := 0 } else t.put n o
def Tb.registerE (t : Tb) (n : Nat) (o : Ou) : List (Int × Int) := if o.ac = 0 ∧ (t.put n o).bereft n = true then (t.put n o).endE n else []

set_option maxRecDepth 100000 in
set_option maxHeartbeats 2000000 in
theorem register_any (B : Nat) (t : Tb) (n : Nat) (o : Ou) (w : World) (h : Tab w B t) (hn : n < 8) (hkd : 0 ≤ t.kd) (hgn : 0 ≤ t.gn ∧ t.gn < 4294967296) :
    Calls Try.prog 43 #[.pointer (some ⟨B, 0, none⟩), .int .i64 n, .agg o.vals] w fun e w' => ∃ v, e = .returned v ∧ Own .u16 55 w.heap.size w' v (t.registerE n o) ∧ Tab w' B (t.register n o) ∧ w.grownBy w' (some B) := by
  have hput : Kpt (∀ W, Tab W B { t with ks := upd t.ks n o.ac, la := o.ap, gn := (t.gn + 1) % 4294967296 } → Tab W B (t.put n o)) := ⟨fun W h => h⟩
  have HB : Kpt (∀ W, Tab W B (t.put n o) → Calls Try.prog 59 #[.pointer (some ⟨B, 0, none⟩), .int .i64 n] W fun e w' => e = .returned (.bool ((t.put n o).bereft n)) ∧ w' = W) := ⟨fun W h => bereft_any B _ n W h⟩
  have HE : Kpt (∀ W, Tab W B (t.put n o) → Calls Try.prog 54 #[.pointer (some ⟨B, 0, none⟩), .int .i64 n] W fun e w' => ∃ v, e = .returned v ∧ Own .u16 55 W.heap.size w' v ((t.put n o).endE n) ∧ Tab w' B { t.put n o with kd := 0 } ∧ W.grownBy w' (some B)) := ⟨fun W h => end_any B _ n W h hkd⟩
  have hrT : Kpt (t.register n o = if o.ac = 0 ∧ (t.put n o).bereft n = true then { t.put n o with kd := 0 } else t.put n o) := ⟨rfl⟩
  have hrE : Kpt (t.registerE n o = if o.ac = 0 ∧ (t.put n o).bereft n = true then (t.put n o).endE n else []) := ⟨rfl⟩
  generalize t.register n o = RT at *
  generalize t.registerE n o = RE at *
  generalize t.put n o = P at *
  generalize P.bereft n = br at *
  obtain ⟨sv, ty, ky, ac, ap⟩ := o
  simp only [Ou.vals] at *
  have hTa := h.alloc (.cells #[.int .u8 sv, .int .u8 ty, .int .u64 ky, .int .u64 ac, .bool ap] 33)
  have hk := hTa.key n hn
  have hfr := hTa.free n
  have hlt := h.lt
  have hn8 : (n : Int) < 8 := by omega
  have hK := Kpt.mk h
  go_enter Try.func43, Try.ntmps43
  go_wp2_with fail
  go_region
  obtain ⟨w1, hw1⟩ : ∃ w1, w1 = (((w.setCell ⟨B, n, none⟩ (.int .u64 ac)).alloc (.cells #[.int .u8 sv, .int .u8 ty, .int .u64 ky, .int .u64 ac, .bool ap] 33)).drew) := ⟨_, rfl⟩
  rw [← hw1]
  have hT1 : Tab w1 B { t with ks := upd t.ks n ac } := by rw [hw1]; exact ((hK.out.setKey n hn ac).alloc _).drew
  have hG1 : Kpt (w.grownBy w1 (some B)) := ⟨by rw [hw1]; exact grown_trans (grown_setCell w ⟨B, n, none⟩ _) (grown_trans (grown_alloc _ _ _) (grown_drewN _ 1 _))⟩
  have q3 : w1.cell? ⟨w.heap.size, 3, none⟩ = some (.int .u64 ac) := by rw [hw1]; exact new_cell _ _ _ _ (by simp) 3
  have q4 : w1.cell? ⟨w.heap.size, 4, none⟩ = some (.bool ap) := by rw [hw1]; exact new_cell _ _ _ _ (by simp) 4
  have hs1 : w.heap.size < w1.heap.size := by rw [hw1]; simp
  have c10 := hT1.c10
  have c11 := hT1.c11
  have f10 := hT1.free 10
  have f11 := hT1.free 11
  have lt1 := hT1.lt
  have hT2 := Kpt.mk (hput.out _ ((hT1.setLa ap).setGn ((t.gn + 1) % 4294967296)))
  have hG2 : Kpt (w.grownBy ((w1.setCell ⟨B, 11, none⟩ (.bool ap)).setCell ⟨B, 10, none⟩ (.int .u32 ((t.gn + 1) % 4294967296))) (some B)) := ⟨grown_trans hG1.out (grown_trans (grown_setCell w1 ⟨B, 11, none⟩ _) (grown_setCell _ ⟨B, 10, none⟩ _))⟩
  generalize t.gn = gn at *
  have hne : B ≠ w.heap.size := by omega
  clear hw1 hT1 hTa hk hfr h hG1
  by_cases hac : ac = 0
  · subst hac
    cases br with
    | true =>
      go_wp2_with (first
        | (go_at_call 54; go_must (refine (HE.out _ hT2.out).mono ?_; rintro e w3 ⟨v, rfl, hO3, hT3, hG3⟩; replace hO3 := Kpt.mk hO3; replace hT3 := Kpt.mk hT3; replace hG3 := Kpt.mk hG3))
        | (go_at_call 59; go_must (refine (HB.out _ hT2.out).mono ?_; rintro e w2 ⟨rfl, rfl⟩)))
      go_ret
      exact ⟨v, rfl, by rw [hrE.out, if_pos (by simp)]; exact hO3.out.lower hG2.out.size, by rw [hrT.out, if_pos (by simp)]; exact hT3.out, grown_trans hG2.out hG3.out⟩
    | false =>
      go_wp2_with (go_at_call 59; go_must (refine (HB.out _ hT2.out).mono ?_; rintro e w2 ⟨rfl, rfl⟩))
      go_ret
      exact ⟨_, rfl, by rw [hrE.out, if_neg (by simp)]; exact own_nil _ _ _ _, by rw [hrT.out, if_neg (by simp)]; exact hT2.out, hG2.out⟩
  · have hab : ((ac : Int) == 0) = false := by simp [hac]
    go_wp2
    go_ret
    exact ⟨_, rfl, by rw [hrE.out, if_neg (by simp [hac])]; exact own_nil _ _ _ _, by rw [hrT.out, if_neg (by simp [hac])]; exact hT2.out, hG2.out⟩

/-- The nexus wants the reservation. -/
def Tb.reserveR (t : Tb) (n ty : Int) : Int × Int := if isTy ty = false then (2, 9216) else if t.kd = 0 then (0, 0) else if t.holds n = true ∧ t.kd = ty then (0, 0) else (24, 0)
def Tb.reserve (t : Tb) (n ty : Int) : Tb := if isTy ty = true ∧ t.kd = 0 then { t with kd := ty, ho := n } else t
set_option maxRecDepth 100000 in
set_option maxHeartbeats 2000000 in
theorem reserve_any (B : Nat) (t : Tb) (n ty : Int) (w : World) (h : Tab w B t) :
    Calls Try.prog 39 #[.pointer (some ⟨B, 0, none⟩), .int .i64 n, .int .u8 ty] w fun e w' => e = .returned (.tuple #[.int .u8 (t.reserveR n ty).1, .int .u16 (t.reserveR n ty).2, .slice none 0 0]) ∧ Tab w' B (t.reserve n ty) ∧ w.grownBy w' (some B) := by
  have HT := Kpt.mk (types_any ty w)
  have HH := Kpt.mk (holds_any B t n w h)
  have hR : Kpt (t.reserveR n ty = if isTy ty = false then (2, 9216) else if t.kd = 0 then (0, 0) else if t.holds n = true ∧ t.kd = ty then (0, 0) else (24, 0)) := ⟨rfl⟩
  have hS : Kpt (t.reserve n ty = if isTy ty = true ∧ t.kd = 0 then { t with kd := ty, ho := n } else t) := ⟨rfl⟩
  have hK := Kpt.mk h
  have hlt := h.lt
  have h8 := h.c8
  have h9 := h.c9
  have f8 := h.free 8
  have f9 := h.free 9
  have hN := Kpt.mk ((h.setKd ty).setHo n)
  generalize t.reserveR n ty = RR at *
  generalize t.reserve n ty = RT at *
  generalize isTy ty = it at *
  generalize t.holds n = hd at *
  obtain ⟨R1, R2⟩ := RR
  generalize hkd : t.kd = kd at *
  replace hkd := Kpt.mk hkd
  generalize t.ho = ho at *
  clear h
  cases it with
  | false =>
    go_enter Try.func39, Try.ntmps39
    go_wp2_with (go_at_call 25; go_must (refine HT.out.mono ?_; rintro e w ⟨rfl, rfl⟩))
    go_ret3
    have := hR.out
    simp at this
    obtain ⟨rfl, rfl⟩ := this
    exact ⟨rfl, by rw [hS.out]; simpa using hK.out, grown_refl _ _⟩
  | true =>
    by_cases hk : kd = 0
    · subst hk
      go_enter Try.func39, Try.ntmps39
      go_wp2_with (go_at_call 25; go_must (refine HT.out.mono ?_; rintro e w ⟨rfl, rfl⟩))
      go_ret3
      have := hR.out
      simp at this
      obtain ⟨rfl, rfl⟩ := this
      exact ⟨rfl, by rw [hS.out]; simpa using hN.out, grown_trans (grown_setCell w ⟨B, 8, none⟩ _) (grown_setCell _ ⟨B, 9, none⟩ _)⟩
    · have hb : ((kd : Int) == 0) = false := by simp [hk]
      cases hd with
      | true =>
        by_cases he : kd = ty
        · subst he
          go_enter Try.func39, Try.ntmps39
          go_wp2_with (first
            | (go_at_call 22; go_must (refine HH.out.mono ?_; rintro e w ⟨rfl, rfl⟩))
            | (go_at_call 25; go_must (refine HT.out.mono ?_; rintro e w ⟨rfl, rfl⟩)))
          go_ret3
          have := hR.out
          simp [hk] at this
          obtain ⟨rfl, rfl⟩ := this
          exact ⟨rfl, by rw [hS.out]; simpa [hk] using hK.out, grown_refl _ _⟩
        · have heb : ((kd : Int) == ty) = false := by simp [he]
          go_enter Try.func39, Try.ntmps39
          go_wp2_with (first
            | (go_at_call 22; go_must (refine HH.out.mono ?_; rintro e w ⟨rfl, rfl⟩))
            | (go_at_call 25; go_must (refine HT.out.mono ?_; rintro e w ⟨rfl, rfl⟩)))
          go_ret3
          have := hR.out
          simp [hk, he] at this
          obtain ⟨rfl, rfl⟩ := this
          exact ⟨rfl, by rw [hS.out]; simpa [hk] using hK.out, grown_refl _ _⟩
      | false =>
        go_enter Try.func39, Try.ntmps39
        go_wp2_with (first
          | (go_at_call 22; go_must (refine HH.out.mono ?_; rintro e w ⟨rfl, rfl⟩))
          | (go_at_call 25; go_must (refine HT.out.mono ?_; rintro e w ⟨rfl, rfl⟩)))
        go_ret3
        have := hR.out
        simp [hk] at this
        obtain ⟨rfl, rfl⟩ := this
        exact ⟨rfl, by rw [hS.out]; simpa [hk] using hK.out, grown_refl _ _⟩

/-- The nexus lets go of the reservation. -/
def Tb.releaseR (t : Tb) (n ty : Int) : Int × Int := if t.holds n = true ∧ t.kd ≠ ty then (2, 9216) else (0, 0)
def Tb.release (t : Tb) (n ty : Int) : Tb := if t.holds n = true ∧ t.kd = ty then { t with kd := 0 } else t
def Tb.releaseE (t : Tb) (n ty : Int) : List (Int × Int) := if t.holds n = true ∧ t.kd = ty then t.endE n else []
set_option maxRecDepth 100000 in
set_option maxHeartbeats 2000000 in
theorem release_any (B : Nat) (t : Tb) (n ty : Int) (w : World) (h : Tab w B t) (hkd0 : 0 ≤ t.kd) :
    Calls Try.prog 40 #[.pointer (some ⟨B, 0, none⟩), .int .i64 n, .int .u8 ty] w fun e w' => ∃ v, e = .returned (.tuple #[.int .u8 (t.releaseR n ty).1, .int .u16 (t.releaseR n ty).2, v]) ∧ Own .u16 55 w.heap.size w' v (t.releaseE n ty) ∧ Tab w' B (t.release n ty) ∧ w.grownBy w' (some B) := by
  have HH := Kpt.mk (holds_any B t n w h)
  have HE := Kpt.mk (end_any B t n w h hkd0)
  have hR : Kpt (t.releaseR n ty = if t.holds n = true ∧ t.kd ≠ ty then (2, 9216) else (0, 0)) := ⟨rfl⟩
  have hS : Kpt (t.release n ty = if t.holds n = true ∧ t.kd = ty then { t with kd := 0 } else t) := ⟨rfl⟩
  have hE : Kpt (t.releaseE n ty = if t.holds n = true ∧ t.kd = ty then t.endE n else []) := ⟨rfl⟩
  have hK := Kpt.mk h
  have hlt := h.lt
  have h8 := h.c8
  generalize t.releaseR n ty = RR at *
  generalize t.release n ty = RT at *
  generalize t.releaseE n ty = RE at *
  generalize t.holds n = hd at *
  obtain ⟨R1, R2⟩ := RR
  generalize hkd : t.kd = kd at *
  replace hkd := Kpt.mk hkd
  clear h
  cases hd with
  | false =>
    go_enter Try.func40, Try.ntmps40
    go_wp2_with (go_at_call 22; go_must (refine HH.out.mono ?_; rintro e w ⟨rfl, rfl⟩))
    go_ret3
    have := hR.out
    simp at this
    obtain ⟨rfl, rfl⟩ := this
    exact ⟨_, rfl, by rw [hE.out]; simpa using own_nil _ _ _ _, by rw [hS.out]; simpa using hK.out, grown_refl _ _⟩
  | true =>
    by_cases he : kd = ty
    · subst he
      go_enter Try.func40, Try.ntmps40
      go_wp2_with (first
        | (go_at_call 54; go_must (refine HE.out.mono ?_; rintro e w1 ⟨v, rfl, hO1, hT1, hG1⟩; replace hO1 := Kpt.mk hO1; replace hT1 := Kpt.mk hT1; replace hG1 := Kpt.mk hG1))
        | (go_at_call 22; go_must (refine HH.out.mono ?_; rintro e w ⟨rfl, rfl⟩)))
      go_ret3
      have := hR.out
      simp at this
      obtain ⟨rfl, rfl⟩ := this
      exact ⟨v, rfl, by rw [hE.out]; simpa using hO1.out, by rw [hS.out]; simpa using hT1.out, hG1.out⟩
    · have heb : ((kd : Int) != ty) = true := by simp [he]
      go_enter Try.func40, Try.ntmps40
      go_wp2_with (go_at_call 22; go_must (refine HH.out.mono ?_; rintro e w ⟨rfl, rfl⟩))
      go_ret3
      have := hR.out
      simp [he] at this
      obtain ⟨rfl, rfl⟩ := this
      exact ⟨_, rfl, by rw [hE.out]; simpa [he] using own_nil _ _ _ _, by rw [hS.out]; simpa [he] using hK.out, grown_refl _ _⟩

end Go.Proofs.Ytmnoolcffkjmhaa
