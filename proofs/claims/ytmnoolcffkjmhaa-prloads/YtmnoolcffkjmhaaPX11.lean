/-
  The document's Conflict, Reserved, Big, Save.
-/
import Derived.Test.YtmnoolcffkjmhaaPX1
import Derived.Test.YtmnoolcffkjmhaaPSave
namespace Go.Proofs.Ytmnoolcffkjmhaa
open Go.RowKit
set_option linter.unusedVariables false
set_option linter.unusedSimpArgs false

set_option maxHeartbeats 2000000 in
theorem rconf_any (B : Nat) (t : Tb) (x n c : Int) (w : World) (h : RTab w B t x) (hg : t.good) : Calls Try.prog 48 #[.pointer (some ⟨B, 0, none⟩), .int .i64 n, .int .i64 c] w fun e w' => e = .returned (.bool (t.conf n c)) ∧ w' = w := by
  have HH := Kpt.mk (rholds_any B t x n w h hg.ok.fit)
  have hlt := h.lt
  have h8 := h.c8
  have hkey := Kpt.mk h.key
  have hr : Kpt (t.conf n c = if c = 0 ∨ t.holds n = true then false else if t.kd = 1 then decide (c ≠ 1) else if t.kd = 3 then true else if t.kd = 5 ∨ t.kd = 7 then decide (c ≠ 1) && !t.reg n else if t.kd = 6 ∨ t.kd = 8 then !t.reg n else false) := ⟨rfl⟩
  have hty := hg.ty
  by_cases hc : c = 0
  · subst hc
    generalize t.conf n 0 = R at *
    clear h hg
    go_enter Try.func48, Try.ntmps48
    go_wp2
    go_ret
    exact ⟨ret_bool (by rw [hr.out]; simp), rfl⟩
  have hcb : ((c : Int) == 0) = false := by simp [hc]
  by_cases hk : t.kd = 0
  · have hre : Kpt (t.conf n c = false) := ⟨by rw [hr.out, hk]; simp⟩
    rw [hk] at h8
    generalize t.conf n c = R at *
    clear h hg hr hty
    go_enter Try.func48, Try.ntmps48
    go_wp2
    go_ret
    exact ⟨ret_bool hre.out.symm, rfl⟩
  have hkb : ((t.kd : Int) == 0) = false := by simp [hk]
  cases hd : t.holds n with
  | true =>
    have hre : Kpt (t.conf n c = false) := ⟨by rw [hr.out, hd]; simp⟩
    rw [hd] at HH
    generalize t.conf n c = R at *
    generalize t.kd = k at *
    clear h hg hr hty hd
    go_enter Try.func48, Try.ntmps48
    go_wp2_with (go_at_call 45; go_must (refine HH.out.mono ?_; rintro e w ⟨rfl, rfl⟩))
    go_ret
    exact ⟨ret_bool hre.out.symm, rfl⟩
  | false =>
    have hr2 : Kpt (t.conf n c = if t.kd = 1 then decide (c ≠ 1) else if t.kd = 3 then true else if t.kd = 5 ∨ t.kd = 7 then decide (c ≠ 1) && !t.reg n else if t.kd = 6 ∨ t.kd = 8 then !t.reg n else false) := ⟨by rw [hr.out, hd]; simp [hc]⟩
    have hk6 : t.kd = 1 ∨ t.kd = 3 ∨ t.kd = 5 ∨ t.kd = 7 ∨ t.kd = 6 ∨ t.kd = 8 := by
      rcases hty with e | e
      · exact absurd e hk
      · simp [isTy] at e; omega
    rw [hd] at HH
    have hrg : (n < 0 ∧ t.reg n = false) ∨ (¬ n < 0 ∧ 8 ≤ n ∧ t.reg n = false) ∨ ∃ m : Nat, n = m ∧ m < 8 ∧ t.reg n = decide (t.ks m ≠ 0) := by
      by_cases h1 : n < 0
      · exact .inl ⟨h1, by unfold Tb.reg; simp; omega⟩
      · by_cases h2 : 8 ≤ n
        · exact .inr (.inl ⟨h1, h2, by unfold Tb.reg; simp; omega⟩)
        · exact .inr (.inr ⟨n.toNat, by omega, by omega, by unfold Tb.reg; have h3 : 0 ≤ n ∧ n < 8 := (by omega); simp [h3.1, h3.2]⟩)
    generalize t.conf n c = R at *
    generalize t.kd = k at *
    clear h hg hr hty hd
    rcases hrg with ⟨h1, e⟩ | ⟨h1, h2, e⟩ | ⟨m, rfl, hm, e⟩
    case inl =>
      rw [e] at hr2
      clear e hkey
      rcases hk6 with rfl | rfl | rfl | rfl | rfl | rfl
      all_goals
        by_cases hc1 : c = 1
        · subst hc1
          go_enter Try.func48, Try.ntmps48
          go_wp2_with (go_at_call 45; go_must (refine HH.out.mono ?_; rintro e w ⟨rfl, rfl⟩))
          go_ret
          exact ⟨ret_bool (by rw [hr2.out]; simp [bne_d]), rfl⟩
        · have hc1b : ((c : Int) != 1) = true := by simp [hc1]
          go_enter Try.func48, Try.ntmps48
          go_wp2_with (go_at_call 45; go_must (refine HH.out.mono ?_; rintro e w ⟨rfl, rfl⟩))
          go_ret
          exact ⟨ret_bool (by rw [hr2.out]; simp [hc1]), rfl⟩
    case inr.inl =>
      rw [e] at hr2
      have h1' : (0 : Int) ≤ n := by omega
      clear e hkey
      rcases hk6 with rfl | rfl | rfl | rfl | rfl | rfl
      all_goals
        by_cases hc1 : c = 1
        · subst hc1
          go_enter Try.func48, Try.ntmps48
          go_wp2_with (go_at_call 45; go_must (refine HH.out.mono ?_; rintro e w ⟨rfl, rfl⟩))
          go_ret
          exact ⟨ret_bool (by rw [hr2.out]; simp [bne_d]), rfl⟩
        · have hc1b : ((c : Int) != 1) = true := by simp [hc1]
          go_enter Try.func48, Try.ntmps48
          go_wp2_with (go_at_call 45; go_must (refine HH.out.mono ?_; rintro e w ⟨rfl, rfl⟩))
          go_ret
          exact ⟨ret_bool (by rw [hr2.out]; simp [hc1]), rfl⟩
    case inr.inr =>
      rw [e] at hr2
      have hkm := hkey.out m hm
      generalize t.ks m = y at *
      have hm8 : (m : Int) < 8 := by omega
      clear e hkey
      by_cases hy : y = 0
      · subst hy
        rcases hk6 with rfl | rfl | rfl | rfl | rfl | rfl
        all_goals
          by_cases hc1 : c = 1
          · subst hc1
            go_enter Try.func48, Try.ntmps48
            go_wp2_with (go_at_call 45; go_must (refine HH.out.mono ?_; rintro e w ⟨rfl, rfl⟩))
            go_ret
            exact ⟨ret_bool (by rw [hr2.out]; simp [bne_d]), rfl⟩
          · have hc1b : ((c : Int) != 1) = true := by simp [hc1]
            go_enter Try.func48, Try.ntmps48
            go_wp2_with (go_at_call 45; go_must (refine HH.out.mono ?_; rintro e w ⟨rfl, rfl⟩))
            go_ret
            exact ⟨ret_bool (by rw [hr2.out]; simp [hc1]), rfl⟩
      · have hyb : ((y : Int) != 0) = true := by simp [hy]
        rcases hk6 with rfl | rfl | rfl | rfl | rfl | rfl
        all_goals
          by_cases hc1 : c = 1
          · subst hc1
            go_enter Try.func48, Try.ntmps48
            go_wp2_with (go_at_call 45; go_must (refine HH.out.mono ?_; rintro e w ⟨rfl, rfl⟩))
            go_ret
            exact ⟨ret_bool (by rw [hr2.out]; simp [hy]), rfl⟩
          · have hc1b : ((c : Int) != 1) = true := by simp [hc1]
            go_enter Try.func48, Try.ntmps48
            go_wp2_with (go_at_call 45; go_must (refine HH.out.mono ?_; rintro e w ⟨rfl, rfl⟩))
            go_ret
            exact ⟨ret_bool (by rw [hr2.out]; simp [hc1, hy]), rfl⟩

set_option maxHeartbeats 1000000 in
theorem rres_any (B : Nat) (t : Tb) (x : Int) (w : World) (h : RTab w B t x) : Calls Try.prog 35 #[.pointer (some ⟨B, 0, none⟩)] w fun e w' => e = .returned (.tuple #[.int .i64 t.res.1, .int .i64 t.res.2]) ∧ ∃ q, w' = w.drewN q := by
  have HA := Kpt.mk (risAll_any t.kd w)
  have hlt := h.lt
  have h8 := h.c8
  have h9 := h.c9
  have hxo := h.hold
  by_cases hk : t.kd = 0
  · rw [show t.res = (0, -1) from by unfold Tb.res; rw [if_pos hk]]
    rw [hk] at h8
    clear h hxo
    go_enter Try.func35, Try.ntmps35
    go_wp2
    go_ret2
    exact ⟨rfl, 0, rfl⟩
  · have hb : ((t.kd : Int) == 0) = false := by simp [hk]
    cases hal : isAll t.kd with
    | true =>
      rw [show t.res = (t.kd, -1) from by unfold Tb.res; rw [if_neg hk, if_pos hal]]
      rw [hal] at HA
      generalize t.kd = k at *
      clear h hxo hal
      go_enter Try.func35, Try.ntmps35
      go_wp2_with (go_at_call 33; go_must (refine HA.out.mono ?_; rintro e w ⟨rfl, rfl⟩))
      go_ret2
      exact ⟨rfl, 0, rfl⟩
    | false =>
      rw [show t.res = (t.kd, x) from by unfold Tb.res; rw [if_neg hk, if_neg (by simp [hal]), hxo hk hal]]
      rw [hal] at HA
      generalize t.kd = k at *
      clear h hxo hal
      go_enter Try.func35, Try.ntmps35
      go_wp2_with (go_at_call 33; go_must (refine HA.out.mono ?_; rintro e w ⟨rfl, rfl⟩))
      go_quiet (fail)
      go_wp2
      go_ret2
      exact ⟨rfl, _, rfl⟩

abbrev Z8 : List Int := [0, 0, 0, 0, 0, 0, 0, 0]
set_option maxRecDepth 100000 in
set_option maxHeartbeats 1000000 in
theorem big8 (v : Int) (w : World) (hv : 0 ≤ v ∧ v < 18446744073709551616) :
    Calls Try.prog 36 #[.int .u64 v, .int .i64 8] w fun e w' => ∃ g, e = .returned (.slice (some ⟨g, 0, none⟩) 8 8) ∧ OwnB w.heap.size w' (.slice (some ⟨g, 0, none⟩) 8 8) (be8 v) ∧ Below w.heap.size w w' := by
  have hbe : Kpt (be8 v = B.desc Z8 0 8 v 8) := ⟨by unfold be8; rw [B.desc_asc Z8 0 8 v (by simp)]⟩
  have hmk := make8
  go_enter Try.func36, Try.ntmps36
  go_wp2
  go_loopw [0, 6] (fun x t wr => ∃ m : Nat, m ≤ 8 ∧ x = .int .u64 (v / 2 ^ (8 * m)) ∧ t = .int .i64 (7 - (m : Int)) ∧ Kpt (wr.ownsRow w.heap.size 5 1 (.slice (some ⟨w.heap.size, 0, none⟩) 8 8) 8 ((B.desc Z8 0 8 v m).map (Value.int .u8))) ∧ Kpt (Below w.heap.size w wr)) (fun _ t _ => ((intOf t) + 1).toNat)
  case atStart => exact ⟨0, by omega, by simp, by go_num, ⟨ownB_new w Z8 rfl⟩, ⟨(Below.refl _ _).alloc (Nat.le_refl _) _⟩⟩
  case round =>
    obtain ⟨m, hm, rfl, rfl, hown, hb⟩ := hrel
    clear hmk
    by_cases hlt : m < 8
    · obtain ⟨d, hd⟩ : ∃ d, d = 7 - m := ⟨_, rfl⟩
      have hdk : 7 - (m : Int) = (d : Int) := by omega
      have h1 : d < 8 := by omega
      obtain ⟨u, hx⟩ : ∃ u, wr.cell? ⟨w.heap.size, d, none⟩ = some u := by
        rw [World.ownsRow.cellAt hown.out d (by omega)]
        exact ⟨_, List.getElem?_eq_getElem (by simp [B.desc_len]; omega)⟩
      have hfr := World.ownsRow.frozenAt hown.out d
      have h0 := B.div_nonneg v hv.1 m
      have h9 := B.div_le v hv.1 m
      have hstep := Kpt.mk (B.div_step v m)
      have HD := Kpt.mk hd
      rw [hdk]
      clear hd hdk
      obtain ⟨y, hy⟩ : ∃ y, y = v / 2 ^ (8 * m) := ⟨_, rfl⟩
      rw [← hy] at h0 h9 hstep ⊢
      replace hy := Kpt.mk hy
      go_wp2
      go_roundw
      case rel =>
        refine ⟨m + 1, by omega, ?_, ?_, ⟨?_⟩, ⟨hb.out.setCell (Nat.le_refl _) _⟩⟩
        · rw [← hstep.out]
        · have := HD.out; go_num
        · rw [show B.desc Z8 0 8 v (m + 1) = (B.desc Z8 0 8 v m).set d (y % 256) from by rw [B.desc, HD.out, hy.out]; simp, List.map_set]
          exact (World.ownsRow.stored hown.out d _).1
      case measure => have := HD.out; first | (simp [intOf]; done) | (simp [intOf]; omega)
    · obtain rfl : m = 8 := by omega
      go_wp2
      go_ret
      exact ⟨_, rfl, by unfold OwnB; rw [be8_len, hbe.out]; exact hown.out, hb.out⟩
end Go.Proofs.Ytmnoolcffkjmhaa
