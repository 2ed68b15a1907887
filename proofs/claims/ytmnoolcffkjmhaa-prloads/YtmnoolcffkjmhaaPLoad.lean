/-
  The contracts of framed, takeRegs, takeReservation.
-/
import Derived.Test.YtmnoolcffkjmhaaPGood
import Derived.Test.YtmnoolcffkjmhaaBGet
import Derived.Test.YtmnoolcffkjmhaaBRow
namespace Go.Proofs.Ytmnoolcffkjmhaa
open Go.RowKit
set_option linter.unusedVariables false
set_option linter.unusedSimpArgs false

/-- Bytes that can be read. -/
structure Rd (w : World) (a : Option Addr) (len c : Nat) (Z : List Int) : Prop where
  row : Go.Proofs.Ytmnoolcffkjmhaa.B.RowAt w a len Z
  byt : Go.Proofs.Ytmnoolcffkjmhaa.B.Bytes Z
  len : len ≤ c ∧ c ≤ maxLen
theorem Rd.below {w w' : World} {a : Option Addr} {len c : Nat} {Z : List Int} (h : Rd w a len c Z) (hb : Below w.heap.size w w') : Rd w' a len c Z := ⟨h.row.below hb, h.byt, h.len⟩
theorem Rd.drewN {w : World} {a : Option Addr} {len c : Nat} {Z : List Int} (h : Rd w a len c Z) (n : Nat) : Rd (w.drewN n) a len c Z := h.below (below_drewN (Below.refl _ _) n)
theorem Rd.at {w : World} {a : Option Addr} {len c : Nat} {Z : List Int} (h : Rd w a len c Z) (h0 : 0 < len) : ∃ b off, a = some ⟨b, off, none⟩ ∧ b < w.heap.size ∧ ∀ j, j < len → w.cell? ⟨b, off + j, none⟩ = some (.int .u8 (Z.getD j 0)) := by
  rcases h.row with e | ⟨b, off, h1, h2⟩
  · omega
  · exact ⟨b, off, h1, World.block_lt_of_cell? w ⟨b, off + 0, none⟩ (h2 0 h0), h2⟩

theorem own_len' {κ : IntKind} {ty : TypeId} {base : Nat} {w : World} {v : Value} {ts : List (Int × Int)} (h : Own κ ty base w v ts) : ∃ a c, v = .slice a ts.length c := by
  obtain ⟨a, c, hv, _⟩ := h.shape
  exact ⟨a, c, hv⟩
/-- Do the bytes begin as a table's do, and are they as many as it needs? -/
def framedB (len : Nat) (Z : List Int) : Bool := decide (5 ≤ len ∧ Z.getD 0 0 = 80 ∧ Z.getD 1 0 = 82 ∧ (len : Int) = 5 + 9 * Z.getD 4 0)

set_option maxRecDepth 100000 in
set_option maxHeartbeats 1000000 in
theorem framed_any (a : Option Addr) (len c : Nat) (Z : List Int) (w : World) (h : Rd w a len c Z) :
    Calls Try.prog 26 #[.slice a len c] w fun e w' => e = .returned (.bool (framedB len Z)) ∧ w' = w := by
  have hc1 := h.len.1
  have hc2 := h.len.2
  have hr : Kpt (framedB len Z = decide (5 ≤ len ∧ Z.getD 0 0 = 80 ∧ Z.getD 1 0 = 82 ∧ (len : Int) = 5 + 9 * Z.getD 4 0)) := ⟨rfl⟩
  by_cases h5 : 5 ≤ len
  · obtain ⟨b, off, rfl, hb, hc⟩ := h.at (by omega)
    have k0 := hc 0 (by omega)
    have k1 := hc 1 (by omega)
    have k4 := hc 4 (by omega)
    have y4 := h.byt 4
    have y0 := h.byt 0
    have y1 := h.byt 1
    generalize Z.getD 0 0 = z0 at *
    generalize Z.getD 1 0 = z1 at *
    generalize Z.getD 4 0 = z4 at *
    generalize framedB len Z = R at *
    have l5 : (5 : Int) ≤ len := by omega
    have hlm : (len : Int) ≤ 9223372036854775807 := by unfold maxLen at hc2; omega
    rw [Nat.add_zero] at k0
    clear hc h
    by_cases e0 : z0 = 80
    · subst e0
      by_cases e1 : z1 = 82
      · subst e1
        go_enter Try.func26, Try.ntmps26
        go_wp2
        go_ret
        exact ⟨ret_bool (by rw [hr.out]; simp [h5, beq_d]), rfl⟩
      · have b1 : ((z1 : Int) == 82) = false := by simp [e1]
        go_enter Try.func26, Try.ntmps26
        go_wp2
        go_ret
        exact ⟨ret_bool (by rw [hr.out]; simp [e1]), rfl⟩
    · have b0 : ((z0 : Int) == 80) = false := by simp [e0]
      go_enter Try.func26, Try.ntmps26
      go_wp2
      go_ret
      exact ⟨ret_bool (by rw [hr.out]; simp [e0]), rfl⟩
  · have l5 : ¬ (5 : Int) ≤ len := by omega
    have l5' : (len : Int) < 5 := by omega
    generalize framedB len Z = R at *
    clear h
    go_enter Try.func26, Try.ntmps26
    go_wp2
    go_ret
    exact ⟨ret_bool (by rw [hr.out]; simp; omega), rfl⟩

/-- The registrations that the first k entries tell, and the last nexus; none: one of them is none. -/
def tkS (Z : List Int) : Nat → Option ((Nat → Int) × Int)
  | 0 => some (fun _ => 0, -1)
  | k + 1 => match tkS Z k with
    | none => none
    | some (f, l) => if Z.getD (9 * k) 0 ≤ l ∨ ¬ Z.getD (9 * k) 0 < 8 ∨ B.num Z (9 * k + 1) 8 = 0 then none else some (upd f (Z.getD (9 * k) 0).toNat (B.num Z (9 * k + 1) 8), Z.getD (9 * k) 0)
theorem tkS_none (Z : List Int) (k : Nat) (h : tkS Z k = none) : ∀ j, k ≤ j → tkS Z j = none := by
  intro j hj
  induction j with
  | zero => have : k = 0 := by omega
            subst this; exact h
  | succ j ih =>
    by_cases e : k = j + 1
    · subst e; exact h
    · have := ih (by omega)
      unfold tkS
      rw [this]
set_option maxRecDepth 100000 in
set_option maxHeartbeats 2000000 in
theorem takeRegs_any (B : Nat) (t : Tb) (a : Option Addr) (m c : Nat) (Z : List Int) (w : World) (h : Tab w B t) (hz : ∀ j, j < 8 → t.ks j = 0) (hR : Rd w a (9 * m) c Z) (hn : ∀ b off, a = some ⟨b, off, none⟩ → b ≠ B) :
    Calls Try.prog 27 #[.pointer (some ⟨B, 0, none⟩), .slice a (9 * m : Nat) c] w fun e w' => e = .returned (.bool (tkS Z m).isSome) ∧ w.grownBy w' (some B) ∧ (∀ f l, tkS Z m = some (f, l) → Tab w' B { t with ks := f }) := by
  have hc1 := hR.len.1
  have hc2 := hR.len.2
  have hmi : (9 * m : Int) ≤ 9223372036854775807 := by unfold maxLen at hc2; omega
  have HN := fun n W => Kpt.mk (isNexus_any n W)
  have hT0 : Kpt (Tab w B { t with ks := fun _ => 0 }) := ⟨h.congr (fun j hj => (hz j hj).symm) rfl rfl rfl rfl⟩
  have hlt := h.lt
  have hRK := Kpt.mk hR
  have hnK := Kpt.mk hn
  have hcast : ((9 * m : Nat) : Int) = 9 * (m : Int) := by omega
  clear h hz hR hn
  go_enter Try.func27, Try.ntmps27
  go_wp2_with fail
  go_loopw [5, 6] (fun r i wr => ∃ (k : Nat) (f : Nat → Int) (l : Int), k ≤ m ∧ r = .int .i64 l ∧ i = .int .i64 (9 * k) ∧ Kpt (tkS Z k = some (f, l)) ∧ Kpt (Tab wr B { t with ks := f }) ∧ Kpt (w.grownBy wr (some B))) (fun _ i _ => 9 * m - (intOf i).toNat)
  case atStart => exact ⟨0, _, _, Nat.zero_le _, rfl, rfl, ⟨rfl⟩, hT0, ⟨grown_refl _ _⟩⟩
  case round =>
    obtain ⟨k, f, l, hk, rfl, rfl, htk, hT, hG⟩ := hrel
    by_cases hlt2 : k < m
    · have e1 : (9 * k : Int) < 9 * m := by omega
      obtain ⟨b, off, rfl, hb, hc⟩ := hRK.out.at (by omega)
      have hbB := hnK.out b off rfl
      have hcr : ∀ j, j < 9 * m → wr.cell? ⟨b, off + j, none⟩ = some (.int .u8 (Z.getD j 0)) := fun j hj => (World.cell?_of_block (w := w) (w' := wr) (a := ⟨b, off + j, none⟩) (hG.out.block b hb (fun e => hbB (by simpa using e)))).trans (hc j hj)
      have k0 := hcr (9 * k) (by omega)
      have hbl : b < wr.heap.size := Nat.lt_of_lt_of_le hb hG.out.size
      have y0 := hRK.out.byt (9 * k)
      have hnb := Go.Proofs.Ytmnoolcffkjmhaa.B.num_bd Z (9 * k + 1) hRK.out.byt 8
      have HGt := Kpt.mk (Go.Proofs.Ytmnoolcffkjmhaa.B.get_ok b off (9 * m) c (9 * k + 1) 8 Z wr (by omega) (by omega) (by omega) (by omega) hRK.out.byt hcr)
      have hstep : Kpt (tkS Z (k + 1) = if Z.getD (9 * k) 0 ≤ l ∨ ¬ Z.getD (9 * k) 0 < 8 ∨ Go.Proofs.Ytmnoolcffkjmhaa.B.num Z (9 * k + 1) 8 = 0 then none else some (upd f (Z.getD (9 * k) 0).toNat (Go.Proofs.Ytmnoolcffkjmhaa.B.num Z (9 * k + 1) 8), Z.getD (9 * k) 0)) := ⟨by
        show (match tkS Z k with
          | none => none
          | some (f, l) => _) = _
        rw [htk.out]⟩
      have hfail : Kpt (tkS Z (k + 1) = none → tkS Z m = none) := ⟨fun h => tkS_none Z (k + 1) h m (by omega)⟩
      have hkey := hT.out.key
      have hfr := hT.out.free
      have hltB := hT.out.lt
      generalize Z.getD (9 * k) 0 = n at *
      generalize Go.Proofs.Ytmnoolcffkjmhaa.B.num Z (9 * k + 1) 8 = x at *
      clear hc hcr
      have hcg : ((9 * k + 1 : Nat) : Int) = 9 * (k : Int) + 1 := by omega
      rw [hcg] at HGt
      clear hcg
      go_wp2_with fail
      refine HGt.out.mono ?_
      rintro e wr ⟨rfl, rfl⟩
      clear HGt
      by_cases c1 : n ≤ l
      · have hno := hstep.out
        rw [if_pos (.inl c1)] at hno
        have hno2 := Kpt.mk (hfail.out hno)
        clear hno hstep hfail
        go_wp2
        go_ret
        exact ⟨by rw [hno2.out]; rfl, hG.out, fun f l h => by rw [hno2.out] at h; cases h⟩
      · have c1' : l < n := by omega
        by_cases c2 : n < 8
        · have hnx : Kpt (Calls Try.prog 37 #[.int .i64 n] wr fun e w' => e = .returned (.bool true) ∧ w' = wr) := ⟨by have := (HN n wr).out; rw [show decide (0 ≤ n ∧ n < 8) = true from by simp; omega] at this; exact this⟩
          by_cases c3 : x = 0
          · have hno := hstep.out
            rw [if_pos (.inr (.inr c3))] at hno
            have hno2 := Kpt.mk (hfail.out hno)
            subst c3
            clear hno hstep hfail
            go_wp2_with (go_at_call 37; go_must (refine hnx.out.mono ?_; rintro e wr ⟨rfl, rfl⟩))
            go_ret
            exact ⟨by rw [hno2.out]; rfl, hG.out, fun f l h => by rw [hno2.out] at h; cases h⟩
          · have hye := hstep.out
            rw [if_neg (by omega)] at hye
            have hye2 := Kpt.mk hye
            have b3 : ((x : Int) == 0) = false := by simp [c3]
            obtain ⟨p, rfl⟩ : ∃ p : Nat, n = p := ⟨n.toNat, by omega⟩
            have hp : p < 8 := by omega
            have kp := hkey p hp
            have fp := hfr p
            have hT2 := Kpt.mk (hT.out.setKey p hp x)
            have hG2 : Kpt (w.grownBy (wr.setCell ⟨B, p, none⟩ (.int .u64 x)) (some B)) := ⟨grown_trans hG.out (grown_setCell wr ⟨B, p, none⟩ _)⟩
            clear hye hstep hfail hkey hfr
            go_wp2_with (go_at_call 37; go_must (refine hnx.out.mono ?_; rintro e wr ⟨rfl, rfl⟩))
            go_roundw
            case rel => exact ⟨k + 1, _, _, by omega, rfl, by go_num, ⟨by first | exact hye2.out | (rw [hye2.out]; rfl)⟩, ⟨by simpa using hT2.out⟩, hG2⟩
            case measure => simp [intOf] <;> omega
        · have hno := hstep.out
          rw [if_pos (by omega)] at hno
          have hno2 := Kpt.mk (hfail.out hno)
          have hnx : Kpt (Calls Try.prog 37 #[.int .i64 n] wr fun e w' => e = .returned (.bool false) ∧ w' = wr) := ⟨by have := (HN n wr).out; rw [show decide (0 ≤ n ∧ n < 8) = false from by simp; omega] at this; exact this⟩
          clear hno hstep hfail
          go_wp2_with (go_at_call 37; go_must (refine hnx.out.mono ?_; rintro e wr ⟨rfl, rfl⟩))
          go_ret
          exact ⟨by rw [hno2.out]; rfl, hG.out, fun f l h => by rw [hno2.out] at h; cases h⟩
    · have e1 : ¬ (9 * k : Int) < 9 * m := by omega
      have ek : k = m := by omega
      go_wp2
      go_ret
      exact ⟨by rw [← ek, htk.out]; rfl, hG.out, fun f' l' h => by rw [← ek, htk.out] at h; cases h; exact hT.out⟩

/-- Is it a reservation that a table with these registrations can have? -/
def Tb.rsvOk (t : Tb) (kd ho : Int) : Bool := if kd = 0 then decide (ho = 255) else if isAll kd = true then decide (ho = 255 ∧ 0 < t.regs.length) else isTy kd && t.reg ho
set_option maxRecDepth 100000 in
set_option maxHeartbeats 2000000 in
theorem takeRes_any (B : Nat) (t : Tb) (kd ho : Int) (w : World) (h : Tab w B t) (hk : 0 ≤ kd ∧ kd ≤ 255) (hh : 0 ≤ ho ∧ ho ≤ 255) :
    Calls Try.prog 28 #[.pointer (some ⟨B, 0, none⟩), .int .u8 kd, .int .u8 ho] w fun e w' => e = .returned (.bool (t.rsvOk kd ho)) ∧ w.grownBy w' (some B) ∧ Tab w' B { t with kd := kd, ho := ho } := by
  have hT := (h.setKd kd).setHo ho
  have hTK := Kpt.mk hT
  have hG : Kpt (w.grownBy ((w.setCell ⟨B, 8, none⟩ (.int .u8 kd)).setCell ⟨B, 9, none⟩ (.int .i64 ho)) (some B)) := ⟨grown_trans (grown_setCell w ⟨B, 8, none⟩ _) (grown_setCell _ ⟨B, 9, none⟩ _)⟩
  have HA := fun W => Kpt.mk (all_any kd W)
  have HY := fun W => Kpt.mk (types_any kd W)
  have HRg := Kpt.mk (registered_any B _ ho _ hT)
  have HRs := Kpt.mk (regs_any B _ _ hT)
  have hr : Kpt (t.rsvOk kd ho = if kd = 0 then decide (ho = 255) else if isAll kd = true then decide (ho = 255 ∧ 0 < t.regs.length) else isTy kd && t.reg ho) := ⟨rfl⟩
  have hrg : Kpt (Tb.reg { t with kd := kd, ho := ho } ho = t.reg ho) := ⟨rfl⟩
  have hrs : Kpt (Tb.regs { t with kd := kd, ho := ho } = t.regs) := ⟨rfl⟩
  have h8 := h.c8
  have h9 := h.c9
  have f8 := h.free 8
  have f9 := h.free 9
  have hlt := h.lt
  rw [hrg.out] at HRg
  rw [hrs.out] at HRs
  generalize t.rsvOk kd ho = R at *
  generalize isAll kd = al at *
  generalize isTy kd = it at *
  generalize t.reg ho = rg at *
  generalize t.kd = tk at *
  generalize t.ho = th at *
  clear hT h hrg hrs
  by_cases hk0 : kd = 0
  · subst hk0
    go_enter Try.func28, Try.ntmps28
    go_wp2
    go_ret
    exact ⟨ret_bool (by rw [hr.out]; simp [beq_d]), hG.out, hTK.out⟩
  · have b0 : ((kd : Int) == 0) = false := by simp [hk0]
    cases al with
    | true =>
      by_cases h255 : ho = 255
      · subst h255
        go_enter Try.func28, Try.ntmps28
        go_wp2_with (first
          | (go_at_call 19; go_must (refine HRs.out.mono ?_; rintro e w2 ⟨v, rfl, hO, hB⟩; obtain ⟨a2, c2, hv2⟩ := own_len' hO; subst hv2; replace hB := Kpt.mk hB; clear hO))
          | (go_at_call 24; go_must (refine (HA _).out.mono ?_; rintro e w1 ⟨rfl, rfl⟩)))
        go_ret
        exact ⟨ret_bool (by rw [hr.out]; simp [hk0]), grown_trans hG.out (grown_below hB.out), hTK.out.below' hB.out⟩
      · have bb : ((ho : Int) == 255) = false := by simp [h255]
        go_enter Try.func28, Try.ntmps28
        go_wp2_with (go_at_call 24; go_must (refine (HA _).out.mono ?_; rintro e w1 ⟨rfl, rfl⟩))
        go_ret
        exact ⟨ret_bool (by rw [hr.out]; simp [hk0, h255]), hG.out, hTK.out⟩
    | false =>
      cases it with
      | true =>
        go_enter Try.func28, Try.ntmps28
        go_wp2_with (first
          | (go_at_call 49; go_must (refine HRg.out.mono ?_; rintro e w2 ⟨rfl, rfl⟩))
          | (go_at_call 25; go_must (refine (HY _).out.mono ?_; rintro e w1 ⟨rfl, rfl⟩))
          | (go_at_call 24; go_must (refine (HA _).out.mono ?_; rintro e w1 ⟨rfl, rfl⟩)))
        go_ret
        exact ⟨ret_bool (by rw [hr.out]; simp [hk0]), hG.out, hTK.out⟩
      | false =>
        go_enter Try.func28, Try.ntmps28
        go_wp2_with (first
          | (go_at_call 25; go_must (refine (HY _).out.mono ?_; rintro e w1 ⟨rfl, rfl⟩))
          | (go_at_call 24; go_must (refine (HA _).out.mono ?_; rintro e w1 ⟨rfl, rfl⟩)))
        go_ret
        exact ⟨ret_bool (by rw [hr.out]; simp [hk0]), hG.out, hTK.out⟩
end Go.Proofs.Ytmnoolcffkjmhaa
