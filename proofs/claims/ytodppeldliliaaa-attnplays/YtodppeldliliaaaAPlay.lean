/-
  AttnPlays.
-/
import Derived.Test.YtodppeldliliaaaATwo
import Derived.Test.YtodppeldliliaaaAScr
namespace Go.Proofs.Ytodppeldliliaaa.attnPlays
open Go.Proofs.Ytodppeldliliaaa
open Go.RowKit
set_option linter.unusedVariables false
set_option linter.unusedSimpArgs false

theorem ret_pk {zs : List Int} : ∃ (x : Int) (ok : Bool), pkI zs = .tuple #[.int .u16 x, .bool ok] := by
  unfold pkI
  split
  · exact ⟨_, _, rfl⟩
  · exact ⟨_, _, rfl⟩
theorem allL_on (L : Nat → List Int) (but c : Int) (i : Nat) (h : (i : Int) ≠ but) (hi : i < 8) : onI (allL L but c i) i (addL · c) = allL L but c (i + 1) := by
  rw [onI_in _ _ _ hi]; exact allL_step L but c i h

set_option maxRecDepth 100000 in
set_option maxHeartbeats 4000000 in
theorem play_walk (a0 : Option Addr) (l0 c0 : Nat) (w : World) (h0 : Acts w a0 l0) :
    Calls Try.prog 3 #[.slice a0 l0 c0] w fun e w' => e = .returned (.bool true) ∧ Below w.heap.size w w' := by
  have HW := Kpt.mk (awake_any w)
  have hm0 := h0.1
  unfold maxLen at hm0
  replace h0 := Kpt.mk h0.2
  go_enter Try.func3, Try.ntmps3
  go_wp2_with (first
    | (go_at_call 7; refine HW.out.mono ?_; rintro e w0 ⟨rfl, hb0⟩; have HN := Kpt.mk (new_any w0); replace hb0 := Kpt.mk hb0)
    | (go_at_call 8; refine HN.out.mono ?_; rintro e w1 ⟨rfl, rfl⟩))
  have hq0 := two_new w w0 hb0.out
  have hsz : (newW w0).heap.size = w0.heap.size + 1 := by simp
  rw [hsz] at hq0
  obtain ⟨B, hB⟩ : ∃ B, B = w0.heap.size := ⟨_, rfl⟩
  rw [← hB] at hq0 ⊢
  obtain ⟨X, hX⟩ : ∃ X, X = B + 1 := ⟨_, rfl⟩
  rw [← hX] at hq0 ⊢
  obtain ⟨wq, hwq⟩ : ∃ wq, wq = newX (newW w0) := ⟨_, rfl⟩
  rw [← hwq] at hq0
  rw [show ((w0.alloc (.cells #[.slice none 0 0, .slice none 0 0, .slice none 0 0, .slice none 0 0, .slice none 0 0, .slice none 0 0, .slice none 0 0, .slice none 0 0] 46)).alloc (.cells #[.slice none 0 0, .slice none 0 0, .slice none 0 0, .slice none 0 0, .slice none 0 0, .slice none 0 0, .slice none 0 0, .slice none 0 0] 30)) = wq from hwq.symm]
  replace hq0 : Kpt (∃ L, Two w wq B X L L) := ⟨_, hq0⟩
  clear hB hX hwq hsz hb0 HW HN
  go_loopw [5] (fun t wr => ∃ (k : Nat), k ≤ l0 ∧ k ≤ 300 ∧ t = .int .i64 k ∧ Kpt (∃ L, Two w wr B X L L)) (fun t _ => 300 - (intOf t).toNat)
  case atStart => exact ⟨0, Nat.zero_le _, Nat.zero_le _, rfl, hq0⟩
  case round =>
    obtain ⟨k, hk, hk300, rfl, hQ⟩ := hrel
    clear hq0
    by_cases hlt : k < l0 ∧ k < 300
    · obtain ⟨L, hL⟩ := hQ.out
      obtain ⟨b, off, rfl, K, n, c, cK, cn, cc, rK, rn, rc⟩ := h0.out wr hL.below k hlt.1
      have e1 : (k : Int) < l0 := by omega
      have e2 : (k : Int) < 300 := by omega
      replace hL := Kpt.mk hL
      clear hlt hQ
      have hkind : K % 6 = 0 ∨ K % 6 = 1 ∨ K % 6 = 2 ∨ K % 6 = 3 ∨ K % 6 = 4 ∨ K % 6 = 5 := by omega
      rcases hkind with eK | eK | eK | eK | eK | eK
      · have HA := Kpt.mk (tw_add n c hL.out rc)
        go_wp2_with (first
          | (go_at_call 10; go_must (refine HB.out.mono ?_; rintro e w3 ⟨rfl, hq3⟩; replace hq3 : Kpt (∃ L, Two w w3 B X L L) := ⟨_, hq3⟩))
          | (go_at_call 9; go_must (refine HA.out.mono ?_; rintro e w2 ⟨rfl, hq2⟩; have HB := Kpt.mk (tw_radd n c hq2 rc); clear hq2)))
        go_roundw
        case rel => exact ⟨k + 1, by omega, by omega, by go_num, hq3⟩
        case measure => simp [intOf]; omega
      · have HA := Kpt.mk (tw_all n c hL.out rc rn)
        go_wp2_with (go_at_call 11; go_must (refine HA.out.mono ?_; rintro e w2 ⟨rfl, hq2⟩))
        replace hq2 : Kpt (Two w w2 B X (allL L n c 8) (allL L n c 0)) := ⟨by rw [allL_zero]; exact hq2⟩
        clear HA
        go_loopw [8] (fun t wr => ∃ (j : Nat), j ≤ 8 ∧ t = .int .i64 j ∧ Kpt (Two w wr B X (allL L n c 8) (allL L n c j))) (fun t _ => 8 - (intOf t).toNat)
        case atStart => exact ⟨0, Nat.zero_le _, rfl, hq2⟩
        case round =>
          obtain ⟨j, hj, rfl, hJ⟩ := hrel
          clear hq2
          by_cases hj8 : j < 8
          · have e3 : (j : Int) < 8 := by omega
            by_cases hjn : (j : Int) = n
            · have hJ2 : Kpt (Two w wr B X (allL L n c 8) (allL L n c (j + 1))) := ⟨by rw [← allL_skip L n c j hjn]; exact hJ.out⟩
              clear hJ hL
              replace cn := Kpt.mk cn
              obtain ⟨n0, hn0⟩ : ∃ n0, n0 = n := ⟨_, rfl⟩
              rw [← hn0] at hJ2
              replace hn0 := Kpt.mk hn0
              subst hjn
              go_wp2
              go_roundw
              case rel => exact ⟨j + 1, by omega, by go_num, by first | exact hJ2 | (rw [hn0.out] at hJ2; exact hJ2)⟩
              case measure => simp [intOf]; omega
            · have HB : Kpt (Calls Try.prog 10 #[.pointer (some ⟨X, 0, none⟩), .int .i64 j, .int .u16 c] wr fun e w' => e = .returned (.tuple #[]) ∧ Two w w' B X (allL L n c 8) (allL L n c (j + 1))) := ⟨by
                have := tw_radd (j : Int) c hJ.out rc
                rw [allL_on L n c j hjn hj8] at this
                exact this⟩
              clear hJ
              go_wp2_with (go_at_call 10; go_must (refine HB.out.mono ?_; rintro e w3 ⟨rfl, hq3⟩; replace hq3 := Kpt.mk hq3))
              go_roundw
              case rel => exact ⟨j + 1, by omega, by go_num, hq3⟩
              case measure => simp [intOf]; omega
          · have e3 : j = 8 := by omega
            subst e3
            have hq4 : Kpt (∃ L, Two w wr B X L L) := ⟨_, hJ.out⟩
            clear hJ
            go_wp2
            go_roundw
            case rel => exact ⟨k + 1, by omega, by omega, by go_num, hq4⟩
            case measure => simp [intOf]; omega
      · have HA := Kpt.mk (tw_peek n hL.out)
        obtain ⟨x, ok, hp⟩ := ret_pk (zs := getI L n)
        rw [hp] at HA
        replace hp := Kpt.mk hp
        go_wp2_with (first
          | (go_at_call 13; go_must (refine HB.out.mono ?_; rintro e w3 ⟨rfl, hq3⟩; replace hq3 : Kpt (∃ L, Two w w3 B X L L) := ⟨_, hq3⟩))
          | (go_at_call 12; go_must (refine HA.out.mono ?_; rintro e w2 ⟨rfl, hq2⟩; have HB := Kpt.mk (tw_rpeek n hq2); rw [hp.out] at HB; clear hq2)))
        go_roundw
        case rel => exact ⟨k + 1, by omega, by omega, by go_num, hq3⟩
        case measure => simp [intOf]; omega
      · have HA := Kpt.mk (tw_next n hL.out)
        obtain ⟨x, ok, hp⟩ := ret_pk (zs := getI L n)
        rw [hp] at HA
        replace hp := Kpt.mk hp
        go_wp2_with (first
          | (go_at_call 13; go_must (refine HB.out.mono ?_; rintro e w3 ⟨rfl, hq3⟩; replace hq3 : Kpt (∃ L, Two w w3 B X L L) := ⟨_, hq3⟩))
          | (go_at_call 14; go_must (refine HA.out.mono ?_; rintro e w2 ⟨rfl, hq2⟩; have HB := Kpt.mk (tw_rnext n hq2); rw [hp.out] at HB; clear hq2)))
        go_roundw
        case rel => exact ⟨k + 1, by omega, by omega, by go_num, hq3⟩
        case measure => simp [intOf]; omega
      · have HA := Kpt.mk (tw_list n hL.out)
        rcases int_cases n with ⟨j, hj, rfl⟩ | hn
        · rw [getI_in _ _ hj] at HA
          have e3 : (j : Int) < 8 := by omega
          have e4 : (0 : Int) ≤ (j : Int) := by omega
          obtain ⟨ax, cx, hcx, hfx, hltx, hfew, hrow⟩ := two_row j hj hL.out
          obtain ⟨zs, hzs⟩ : ∃ zs, zs = L j := ⟨_, rfl⟩
          rw [← hzs] at HA hcx hfew hrow
          obtain ⟨m, hm⟩ : ∃ m, m = zs.length := ⟨_, rfl⟩
          rw [← hm] at hcx hfew hrow
          replace hm := Kpt.mk hm
          replace hrow := Kpt.mk hrow
          replace hcx := Kpt.mk hcx
          clear hzs hfx
          go_wp2_with (go_at_call 15; go_must (refine HA.out.mono ?_; rintro e w2 ⟨v, rfl, hO, hb⟩; obtain ⟨al, cl, hv, hs⟩ := hO.shape; rw [← hm.out] at hv hs; subst hv; have hcx2 : w2.cell? ⟨X, j, none⟩ = some (.slice ax m cx) := (hb.cell (p := ⟨X, j, none⟩) hltx).trans hcx.out; replace hs := Kpt.mk hs; replace hb := Kpt.mk hb; clear hO))
          obtain ⟨W0, hW0⟩ : ∃ W0 : World, W0 = wr := ⟨_, rfl⟩
          rw [← hW0] at hb hs hL hrow
          clear HA hcx hcx2 hltx cK cn cc hW0
          go_loopw [19] (fun t wq => ∃ (i : Nat), i ≤ m ∧ t = .int .i64 i ∧ Kpt (0 < m → ∃ g, al = some ⟨g, 0, none⟩ ∧ W0.heap.size ≤ g ∧ ∀ q, i ≤ q → q < m → wq.cell? ⟨g, q, none⟩ = some (.int .u16 (zs.getD q 0)) ∧ wq.frozen? ⟨g, q, none⟩ = false) ∧ Kpt (Below W0.heap.size W0 wq)) (fun t _ => m - (intOf t).toNat)
          case atStart => exact ⟨0, Nat.zero_le _, rfl, ⟨fun h => by obtain ⟨g, h1, h2, _, h3⟩ := hs.out h; exact ⟨g, h1, h2, fun q _ hq => h3 q hq⟩⟩, hb⟩
          case round =>
            obtain ⟨i, hi, rfl, hC, hBl⟩ := hrel
            clear hs hb
            by_cases him : i < m
            · obtain ⟨g, rfl, hgs, hcs⟩ := hC.out (by omega)
              obtain ⟨g2, rfl, hg2, hc2⟩ := hrow.out (by omega)
              have k1 := (hcs i (Nat.le_refl _) him).1
              have k2 := (hcs i (Nat.le_refl _) him).2
              have k3 : wr.cell? ⟨g2, i, none⟩ = some (.int .u16 (zs.getD i 0)) := (hBl.out.cell (p := ⟨g2, i, none⟩) hg2).trans (hc2 i him)
              have e5 : (i : Int) < m := by omega
              have hglt : g < wr.heap.size := World.block_lt_of_cell? wr _ k1
              obtain ⟨x, hx⟩ : ∃ x, x = zs.getD i 0 := ⟨_, rfl⟩
              rw [← hx] at k1 k3
              replace hcs := Kpt.mk hcs
              clear hx hC hc2 hrow
              go_wp2
              go_quiet (fail)
              go_wp2
              go_roundw
              case rel =>
                refine ⟨i + 1, by omega, by go_num, ⟨fun _ => ⟨g, rfl, hgs, fun q hq1 hq2 => ?_⟩⟩, ⟨?_⟩⟩
                · have h1 := hcs.out q (by omega) hq2
                  have hne : (⟨g, i, none⟩ : Addr) ≠ ⟨g, q, none⟩ := fun e => by injection e with _ h; omega
                  constructor
                  · exact (by first | exact World.cell?_setCell_other _ _ _ _ hne | exact World.cell?_setCell_other _ _ _ hne : _ = _).trans h1.1
                  · simpa using h1.2
                · first | exact (below_drewN hBl.out _).setCell (p := ⟨g, i, none⟩) hgs _ | exact hBl.out.drew.setCell (p := ⟨g, i, none⟩) hgs _ | exact hBl.out.setCell (p := ⟨g, i, none⟩) hgs _
              case measure => simp [intOf]; omega
            · have e5 : i = m := by omega
              have hq4 : Kpt (∃ L, Two w wr B X L L) := ⟨_, hL.out.grow hBl.out⟩
              subst e5
              clear hC hrow
              go_wp2
              go_roundw
              case rel => exact ⟨k + 1, by omega, by omega, by go_num, hq4⟩
              case measure => simp [intOf]; omega
        · rw [getI_out _ _ hn] at HA
          have hor : ¬ 0 ≤ n ∨ (0 ≤ n ∧ ¬ n < 8) := by omega
          clear hn
          rcases hor with e3 | ⟨e3, e4⟩
          all_goals
            go_wp2_with (go_at_call 15; go_must (refine HA.out.mono ?_; rintro e w2 ⟨v, rfl, hO, hb⟩; obtain ⟨al, cl, hv, hs⟩ := hO.shape; simp only [List.length_nil] at hv; subst hv; have hq4 : Kpt (∃ L, Two w w2 B X L L) := ⟨_, hL.out.grow hb⟩; clear hO hs hb))
            go_loopw [19] (fun t wq => t = .int .i64 0 ∧ wq = w2) (fun t _ => 0)
            case atStart => exact ⟨rfl, rfl⟩
            case round =>
              obtain ⟨rfl, rfl⟩ := hrel
              go_wp2
              go_roundw
              case rel => exact ⟨k + 1, by omega, by omega, by go_num, hq4⟩
              case measure => simp [intOf]; omega
      · have HA := Kpt.mk (tw_clear n hL.out)
        rcases int_cases n with ⟨j, hj, rfl⟩ | hn
        · rw [onI_in _ _ _ hj] at HA
          have e3 : (j : Int) < 8 := by omega
          have e4 : (0 : Int) ≤ (j : Int) := by omega
          go_wp2_with (go_at_call 16; go_must (refine HA.out.mono ?_; rintro e w2 ⟨rfl, hq2⟩; obtain ⟨ax, cx, hcx, hfx, hltx, _⟩ := two_row j hj hq2; have hq3 : Kpt (∃ L, Two w (w2.setCell ⟨X, j, none⟩ (.slice none 0 0)) B X L L) := ⟨_, two_none j hj hq2⟩; clear hq2))
          go_roundw
          case rel => exact ⟨k + 1, by omega, by omega, by go_num, hq3⟩
          case measure => simp [intOf]; omega
        · rw [onI_out _ _ _ hn] at HA
          have hor : ¬ 0 ≤ n ∨ (0 ≤ n ∧ ¬ n < 8) := by omega
          clear hn
          rcases hor with e3 | ⟨e3, e4⟩
          all_goals
            go_wp2_with (go_at_call 16; go_must (refine HA.out.mono ?_; rintro e w2 ⟨rfl, hq2⟩; replace hq2 : Kpt (∃ L, Two w w2 B X L L) := ⟨_, hq2⟩))
            go_roundw
            case rel => exact ⟨k + 1, by omega, by omega, by go_num, hq2⟩
            case measure => simp [intOf]; omega
    · have hbe : Kpt (Below w.heap.size w wr) := ⟨by obtain ⟨L, hL⟩ := hQ.out; exact hL.below⟩
      have hor : ¬ (k : Int) < l0 ∨ ((k : Int) < l0 ∧ ¬ (k : Int) < 300) := by omega
      clear hQ hlt
      rcases hor with e2 | ⟨e2, e3⟩
      all_goals
        go_wp2
        go_ret
        exact ⟨rfl, hbe.out⟩
end Go.Proofs.Ytodppeldliliaaa.attnPlays
