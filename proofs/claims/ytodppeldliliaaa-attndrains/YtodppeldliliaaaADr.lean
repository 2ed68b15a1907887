/-
  AttnDrains.
-/
import Derived.Test.YtodppeldliliaaaAQs
namespace Go.Proofs.Ytodppeldliliaaa.attnDrains
open Go.Proofs.Ytodppeldliliaaa
open Go.RowKit
set_option linter.unusedVariables false
set_option linter.unusedSimpArgs false

theorem addL_nodup (zs : List Int) (c : Int) (h : zs.Nodup) : (addL zs c).Nodup := by
  unfold addL
  split
  · simp
  · split
    · exact h
    · rename_i h1
      rw [List.nodup_append]
      refine ⟨h, by simp, ?_⟩
      intro a ha b hb e
      simp at hb
      exact h1 (.inr (by rw [← hb, ← e]; exact ha))

theorem best_min (zs : List Int) : ∀ (f i b : Nat), i + f = zs.length → rnk (zs.getD (bestFrom zs f i b) 0) ≤ rnk (zs.getD b 0) ∧ ∀ j, i ≤ j → j < zs.length → rnk (zs.getD (bestFrom zs f i b) 0) ≤ rnk (zs.getD j 0)
  | 0, i, b, h => ⟨Int.le_refl _, fun j h1 h2 => by omega⟩
  | f + 1, i, b, h => by
    unfold bestFrom
    obtain ⟨h1, h2⟩ := best_min zs f (i + 1) (if rnk (zs.getD i 0) < rnk (zs.getD b 0) then i else b) (by omega)
    refine ⟨?_, fun j hj hl => ?_⟩
    · split at h1 <;> rename_i hc
      · rw [if_pos hc]; omega
      · rw [if_neg hc]; exact h1
    · by_cases e : j = i
      · subst e
        split at h1 <;> rename_i hc
        · rw [if_pos hc]; exact h1
        · rw [if_neg hc]; omega
      · exact h2 j (by omega) hl

theorem bestC_mem (zs : List Int) (h : 0 < zs.length) : bestC zs ∈ zs := by
  have hlt := best_lt zs zs.length 0 0 (by omega) h
  unfold bestC
  rw [List.getD_eq_getElem?_getD, List.getElem?_eq_getElem hlt]
  exact List.getElem_mem hlt
theorem bestC_min (zs : List Int) (y : Int) (h : y ∈ zs) : rnk (bestC zs) ≤ rnk y := by
  obtain ⟨j, hj, rfl⟩ := List.mem_iff_getElem.1 h
  have := (best_min zs zs.length 0 0 (by omega)).2 j (Nat.zero_le _) hj
  rw [List.getD_eq_getElem?_getD (l := zs) (i := j), List.getElem?_eq_getElem hj] at this
  exact this
theorem erase_len (zs : List Int) (h : 0 < zs.length) : (zs.eraseIdx (bestAt zs)).length = zs.length - 1 :=
  List.length_eraseIdx_of_lt (best_lt zs zs.length 0 0 (by omega) h)

/-- All that waits is the nexus' own, no code twice. -/
def D0 (N : Nat) (L : Nat → List Int) : Prop := (L N).Nodup ∧ ∀ m, m < 8 → m ≠ N → L m = []
/-- Behind k that were told, the last with the rank r. -/
def Dk (N : Nat) (ys : List Int) (k : Nat) (r : Int) (L : Nat → List Int) : Prop :=
  (L N).length + k = ys.length ∧ (∀ y ∈ L N, y ∈ ys ∧ r ≤ rnk y) ∧ ∀ m, m < 8 → m ≠ N → L m = []
/-- The nexus' list itself. -/
def Dz (N : Nat) (zs : List Int) (L : Nat → List Int) : Prop := L N = zs ∧ ∀ m, m < 8 → m ≠ N → L m = []

theorem D0_add {N : Nat} {L : Nat → List Int} (c : Int) (h : D0 N L) : D0 N (upd L N (addL (L N) c)) :=
  ⟨by rw [upd_at]; exact addL_nodup _ _ h.1, fun m hm hn => by rw [upd_ne _ _ _ _ hn]; exact h.2 m hm hn⟩
theorem Dk_open {w W : World} {B N k : Nat} {ys : List Int} {r : Int} {a : Option Addr} (h : Qs w W B (Dk N ys k r) a ys) :
    ∃ zs, zs.length + k = ys.length ∧ (∀ y ∈ zs, y ∈ ys ∧ r ≤ rnk y) ∧ Qs w W B (Dz N zs) a ys := by
  obtain ⟨L, S, h1, ⟨p1, p2, p3⟩, h3, h4⟩ := h
  exact ⟨L N, p1, p2, L, S, h1, ⟨rfl, p3⟩, h3, h4⟩
theorem Dz_next {N k : Nat} {ys zs : List Int} {r : Int} (hl : zs.length + k = ys.length) (h0 : 0 < zs.length) (hm : ∀ y ∈ zs, y ∈ ys ∧ r ≤ rnk y) (L : Nat → List Int) (h : Dz N zs L) :
    0 < (L N).length ∧ bestC (L N) = bestC zs ∧ Dk N ys (k + 1) (rnk (bestC zs)) (upd L N ((L N).eraseIdx (bestAt (L N)))) := by
  obtain ⟨rfl, h2⟩ := h
  refine ⟨h0, rfl, ?_, fun y hy => ?_, fun m hm hn => by rw [upd_ne _ _ _ _ hn]; exact h2 m hm hn⟩
  · rw [upd_at, erase_len _ h0]; omega
  · rw [upd_at] at hy
    have := List.mem_of_mem_eraseIdx hy
    exact ⟨(hm y this).1, bestC_min _ _ this⟩
theorem count_step (ys : List Int) (x : Int) (j : Nat) (h : j < ys.length) : (ys.take (j + 1)).count x = (ys.take j).count x + if ys.getD j 0 = x then 1 else 0 := by
  rw [List.take_add_one, List.count_append, List.getElem?_eq_getElem h, List.getD_eq_getElem?_getD, List.getElem?_eq_getElem h]
  simp only [Option.toList_some, Option.getD_some, List.count_cons, List.count_nil]
  simp

set_option maxHeartbeats 2000000 in
set_option maxRecDepth 100000 in
theorem drain_walk (a : Int) (a1 : Option Addr) (l1 c1 : Nat) (z1 : List Int) (w : World) (ha : 0 ≤ a ∧ a ≤ 255) (h1 : Came w a1 l1 z1) :
    Calls Try.prog 4 #[.int .u8 a, .slice a1 l1 c1] w fun e w' => e = .returned (.bool true) ∧ Below w.heap.size w w' := by
  have HW := Kpt.mk (awake_any w)
  have hm1 := h1.1
  unfold maxLen at hm1
  replace h1 := Kpt.mk h1.2
  obtain ⟨N, hN⟩ : ∃ N : Nat, (N : Int) = a % 8 := ⟨(a % 8).toNat, by omega⟩
  have hN8 : N < 8 := by omega
  obtain ⟨M, hM⟩ : ∃ M : Nat, M = (N + 1) % 8 := ⟨_, rfl⟩
  have hM8 : M < 8 := by omega
  have hMN : M ≠ N := by omega
  have eM : ((N : Int) + 1) % 8 = (M : Int) := by omega
  go_enter Try.func4, Try.ntmps4
  go_wp2_with (first
    | (go_at_call 7; refine HW.out.mono ?_; rintro e w0 ⟨rfl, hb0⟩; have HN := Kpt.mk (new_any w0); replace hb0 := Kpt.mk hb0)
    | (go_at_call 8; refine HN.out.mono ?_; rintro e w1 ⟨rfl, rfl⟩))
  have hq0 := qs_new w w0 hb0.out (D0 N) ⟨by simp, fun _ _ _ => rfl⟩
  obtain ⟨B, hB⟩ : ∃ B, B = w0.heap.size := ⟨_, rfl⟩
  rw [← hB] at hq0 ⊢
  have hsB : w.heap.size ≤ B := by rw [hB]; exact hb0.out.size
  obtain ⟨wq, hwq⟩ : ∃ wq, wq = newW w0 := ⟨_, rfl⟩
  rw [← hwq] at hq0
  rw [show (w0.alloc (.cells #[.slice none 0 0, .slice none 0 0, .slice none 0 0, .slice none 0 0, .slice none 0 0, .slice none 0 0, .slice none 0 0, .slice none 0 0] 46)) = wq from hwq.symm]
  rw [← hN]
  replace hq0 := Kpt.mk hq0
  replace hM := Kpt.mk hM
  replace hN := Kpt.mk hN
  clear hB hwq hb0 HW HN
  go_loopw [8] (fun t wr => ∃ (k : Nat), k ≤ l1 ∧ k ≤ 50 ∧ t = .int .i64 k ∧ Kpt (Qs w wr B (D0 N) none [])) (fun t _ => 50 - (intOf t).toNat)
  case atStart => exact ⟨0, Nat.zero_le _, Nat.zero_le _, rfl, hq0⟩
  case round =>
    obtain ⟨k, hk, hk50, rfl, hQ⟩ := hrel
    clear hq0
    by_cases hlt : k < l1 ∧ k < 50
    · obtain ⟨b, off, rfl, hc, hr⟩ := h1.out wr hQ.out.below k hlt.1
      have e1 : (k : Int) < l1 := by omega
      have e2 : (k : Int) < 50 := by omega
      obtain ⟨x, hx⟩ : ∃ x, x = z1.getD k 0 := ⟨_, rfl⟩
      rw [← hx] at hc hr
      have HA := Kpt.mk (qs_add (n := N) (D0 N) x hQ.out hsB hN8 hr (fun _ h => D0_add x h))
      clear hx hlt
      go_wp2_with (go_at_call 9; go_must (refine HA.out.mono ?_; rintro e w2 ⟨rfl, hq2⟩; replace hq2 := Kpt.mk hq2))
      go_roundw
      case rel => exact ⟨k + 1, by omega, by omega, by go_num, hq2⟩
      case measure => simp [intOf]; omega
    · have HL := Kpt.mk (qs_list (n := N) hQ.out hN8)
      have hor : ¬ (k : Int) < l1 ∨ ((k : Int) < l1 ∧ ¬ (k : Int) < 50) := by omega
      clear hQ hlt
      rcases hor with e2 | ⟨e2, e3⟩
      all_goals
        go_wp2_with (go_at_call 15; go_must (refine HL.out.mono ?_; rintro e w2 ⟨ay, cy, ys, rfl, hy8, hyg, hq2⟩))
        have hnd : Kpt ys.Nodup := ⟨by obtain ⟨L, S, _, ⟨h, h'⟩, _⟩ := hq2; rw [← h']; exact h.1⟩
        have hq3 : Kpt (Qs w w2 B (Dk N ys 0 (-1)) ay ys) := ⟨hq2.weak (fun L ⟨h, h'⟩ => ⟨by rw [h']; rfl, fun y hy => ⟨by rw [← h']; exact hy, by unfold rnk; split; decide; split; decide; split <;> decide⟩, h.2⟩)⟩
        replace hyg := Kpt.mk hyg
        obtain ⟨m, hm⟩ : ∃ m, m = ys.length := ⟨_, rfl⟩
        rw [← hm] at hy8 ⊢
        replace hm := Kpt.mk hm
        clear hq2 HL e2
        go_loopw [10, 11] (fun r t wr => ∃ (k : Nat) (r' : Int), k ≤ m ∧ r = .int .i64 r' ∧ t = .int .i64 k ∧ Kpt (Qs w wr B (Dk N ys k r') ay ys)) (fun _ t _ => m - (intOf t).toNat)
        case atStart => exact ⟨0, -1, Nat.zero_le _, rfl, rfl, hq3⟩
        case round =>
          obtain ⟨k, r, hk, rfl, rfl, hQ⟩ := hrel
          clear hq3
          by_cases hlt : k < m
          · have e1 : (k : Int) < m := by omega
            obtain ⟨zs, z1, z2, z3⟩ := Dk_open hQ.out
            have z0 : 0 < zs.length := by have := hm.out; omega
            have hxm := z2 _ (bestC_mem zs z0)
            have HP := Kpt.mk (qs_peek (n := N) (bestC zs) z3 hN8 (fun L h => by rw [h.1]; exact ⟨z0, rfl⟩))
            have HX : Kpt (∀ W, Qs w W B (Dz N zs) ay ys → Calls Try.prog 14 #[.pointer (some ⟨B, 0, none⟩), .int .i64 N] W fun e w' => e = .returned (.tuple #[.int .u16 (bestC zs), .bool true]) ∧ Qs w w' B (Dk N ys (k + 1) (rnk (bestC zs))) ay ys) := ⟨fun W hW => qs_next (n := N) _ _ hW hsB hN8 (Dz_next z1 z0 z2)⟩
            have hcnt : ys.count (bestC zs) = 1 := by
              have h1 := List.nodup_iff_count.1 hnd.out (bestC zs)
              have h2 := List.count_pos_iff.2 hxm.1
              omega
            have hxg := hyg.out _ hxm.1
            have hrk := hxm.2
            have HR : Kpt (∀ W, Calls Try.prog 17 #[.int .u16 (bestC zs)] W fun e w' => e = .returned (.int .i64 (rnk (bestC zs))) ∧ w' = W) := ⟨fun W => rrank_any _ W hxg⟩
            have hx3 : 0 ≤ rnk (bestC zs) ∧ rnk (bestC zs) ≤ 3 := by unfold rnk; split; decide; split; decide; split <;> decide
            clear hQ z1 z2 z3 hxm z0
            generalize bestC zs = x at *
            generalize rnk x = rx at *
            have e4 : ¬ rx < r := by omega
            replace hcnt := Kpt.mk hcnt
            go_wp2_with (first
              | (go_at_call 17; go_must (refine (HR.out _).mono ?_; rintro e w5 ⟨rfl, rfl⟩))
              | (go_at_call 14; go_must (refine (HX.out _ hq3.out).mono ?_; rintro e w4 ⟨rfl, hq4⟩; replace hq4 := Kpt.mk hq4))
              | (go_at_call 12; go_must (refine HP.out.mono ?_; rintro e w3 ⟨rfl, hq3⟩; replace hq3 := Kpt.mk hq3)))
            clear HR HX HP
            go_loopw [16, 17] (fun c t wr => ∃ (j : Nat), j ≤ m ∧ c = .int .i64 ((ys.take j).count x : Nat) ∧ t = .int .i64 j ∧ wr = w5) (fun _ t _ => m - (intOf t).toNat)
            case atStart => exact ⟨0, Nat.zero_le _, by simp, rfl, rfl⟩
            case round =>
              obtain ⟨j, hj, rfl, rfl, rfl⟩ := hrel
              by_cases hjm : j < m
              · have hjy : j < ys.length := by rw [← hm.out]; exact hjm
                obtain ⟨g, rfl, hcell⟩ := hq4.out.cell hjy
                have e5 : (j : Int) < m := by omega
                have hst := count_step ys x j hjy
                have hle : (ys.take j).count x ≤ 8 := by
                  have h1 := List.count_le_length (a := x) (l := ys.take j)
                  rw [List.length_take] at h1; omega
                obtain ⟨y, hy⟩ : ∃ y, y = ys.getD j 0 := ⟨_, rfl⟩
                obtain ⟨n0, hn0⟩ : ∃ n0, n0 = (ys.take j).count x := ⟨_, rfl⟩
                rw [← hy] at hcell hst
                rw [← hn0] at hst hle ⊢
                replace hy := Kpt.mk hy
                replace hn0 := Kpt.mk hn0
                by_cases hxy : y = x
                · rw [if_pos hxy] at hst
                  replace hst := Kpt.mk hst
                  subst hxy
                  go_wp2
                  go_roundw
                  case rel => exact ⟨j + 1, by omega, by rw [hst.out]; go_num, by go_num, by first | rfl | trivial⟩
                  case measure => simp [intOf]; omega
                · rw [if_neg hxy] at hst
                  replace hst := Kpt.mk hst
                  go_wp2
                  go_roundw
                  case rel => exact ⟨j + 1, by omega, by rw [hst.out, Nat.add_zero], by go_num, by first | rfl | trivial⟩
                  case measure => simp [intOf]; omega
              · have e6 : (ys.take j).count x = 1 := by rw [List.take_of_length_le (by rw [← hm.out]; omega)]; exact hcnt.out
                have e7 : ¬ (j : Int) < m := by omega
                rw [e6]
                clear e6
                go_wp2
                go_roundw
                case rel => exact ⟨k + 1, rx, by omega, rfl, by go_num, hq4⟩
                case measure => simp [intOf]; omega
          · have e1 : ¬ (k : Int) < m := by omega
            have hQ0 : Kpt (Qs w wr B (fun L => ∀ n, n < 8 → L n = []) ay ys) := ⟨hQ.out.weak (fun L h n hn => by
              by_cases e : n = N
              · subst e
                refine List.eq_nil_of_length_eq_zero ?_
                have h1 := h.1
                have h2 := hm.out
                omega
              · exact h.2.2 n hn e)⟩
            have HX := Kpt.mk (qs_none (n := N) hQ0.out hN8 (fun L h => h N hN8))
            have HY := Kpt.mk (qs_none (n := M) hQ0.out hM8 (fun L h => h M hM8))
            have HZ := Kpt.mk (next_void none 0 wr (void_nil 0))
            have HV := Kpt.mk (list_void none 0 wr (void_nil 0))
            have e8 : (m : Int) ≤ 8 := by omega
            clear hQ
            go_wp2_with (first
              | (go_at_call 15; go_must (refine HV.out.mono ?_; rintro e w6 ⟨v6, rfl, hO6, hb6⟩; obtain ⟨a6, c6, rfl, _⟩ := hO6.shape; have hb7 := Kpt.mk (hQ0.out.below.trans (hb6.mono hQ0.out.below.size)); clear hO6 hb6))
              | (go_at_call 14; have hm := m2; go_must (refine HZ.out.mono ?_; rintro e w5 ⟨rfl, rfl⟩))
              | (go_at_call 14; have hm := m1; go_must (refine HY.out.mono ?_; rintro e w4 ⟨rfl, rfl⟩; have m2 : Kpt True := ⟨trivial⟩))
              | (go_at_call 14; go_must (refine HX.out.mono ?_; rintro e w3 ⟨rfl, rfl⟩; have m1 : Kpt True := ⟨trivial⟩)))
            go_ret
            exact ⟨rfl, hb7.out⟩
end Go.Proofs.Ytodppeldliliaaa.attnDrains
