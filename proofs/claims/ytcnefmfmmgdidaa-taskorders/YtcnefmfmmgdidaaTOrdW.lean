/-
  TaskOrders: the walk.
-/
import Derived.Test.YtcnefmfmmgdidaaTOrdP
namespace Go.Proofs.Ytcnefmfmmgdidaa.taskOrders
open Go.Proofs.Ytcnefmfmmgdidaa
open Go.Proofs.Ytcnefmfmmgdidaa.taskEnds
open Go.RowKit
set_option linter.unusedVariables false
set_option linter.unusedSimpArgs false

theorem at_ok (x : Int) (q : Nat) (h : 0 < q) : 0 ≤ x / 3 % (q : Int) ∧ x / 3 % (q : Int) < q ∧ (x / 3 % (q : Int)).toNat < q := by
  have h1 := Int.emod_lt_of_pos (x / 3) (b := (q : Int)) (by omega)
  have h2 := Int.emod_nonneg (x / 3) (b := (q : Int)) (by omega)
  refine ⟨h2, h1, ?_⟩
  omega

section
variable {w0 W : World} {B : Nat} {ts : List Tk} {st : Int} {x : Value} {us : List Tk}
theorem ss_bare (h : Ss w0 W B ts st x us) : Ss w0 W B ts st (.slice none 0 0) [] := by
  obtain ⟨v, h1, h2, h3⟩ := h
  exact ⟨v, h1, h2, row_none _ _ _⟩
/-- Ready: the row that was beside the set stays, and the new one can be read. -/
theorem ss_ready3 (h : Ss w0 W B ts st x us) : Calls Try.prog 15 #[.pointer (some ⟨B, 0, none⟩)] W fun e w' => ∃ y, e = .returned y ∧ Rd w' y (rdyL ts st ts.length) ∧ Ss w0 w' B ts st x us := by
  have hS := h
  obtain ⟨v, h1, h2, h3⟩ := h
  refine (ready_any _ B ts st v W h1).mono ?_
  rintro e w' ⟨y, he, ho, hb⟩
  exact ⟨y, he, ho.rd, hS.grow hb⟩
theorem ss_rd (h : Ss w0 W B ts st x us) : Rd W x us := by
  obtain ⟨v, h1, h2, ⟨b, h3⟩, _⟩ := h
  exact h3.rd
end

set_option maxRecDepth 100000 in
set_option maxHeartbeats 4000000 in
theorem orders_walk (a0 : Option Addr) (l0 c0 : Nat) (z0 : List Int) (a1 : Option Addr) (l1 c1 : Nat) (z1 : List Int) (w : World) (h0 : Came w a0 l0 z0) (h1 : Came w a1 l1 z1) :
    Calls Try.prog 4 #[.slice a0 l0 c0, .slice a1 l1 c1] w fun e w' => e = .returned (.bool true) ∧ Below w.heap.size w w' := by
  have hm0 := h0.1
  have hm1 := h1.1
  unfold maxLen at hm0 hm1
  replace h0 := Kpt.mk h0.2
  replace h1 := Kpt.mk h1.2
  have HW := Kpt.mk (awake_any w)
  go_enter Try.func4, Try.ntmps4
  go_wp2_with (first
    | (go_at_call 9; refine HW.out.mono ?_; rintro e wB ⟨rfl, hbB⟩; have HN := Kpt.mk (new_any wB); replace hbB := Kpt.mk hbB)
    | (go_at_call 10; refine HN.out.mono ?_; rintro e w1 ⟨rfl, rfl⟩))
  have hq0 : Kpt (Ss w (newS wB) wB.heap.size [] (-1) (.slice none 0 0) []) := ⟨ss_new w wB hbB.out⟩
  obtain ⟨B, hB⟩ : ∃ B, B = wB.heap.size := ⟨_, rfl⟩
  obtain ⟨wq, hwq⟩ : ∃ wq, wq = newS wB := ⟨_, rfl⟩
  rw [← hwq, ← hB] at hq0
  rw [← hwq, ← hB]
  clear hwq HN hB HW
  go_loopw [6, 7] (fun c t wr => ∃ (n k : Nat) (ts : List Tk), n ≤ l0 ∧ n ≤ k ∧ k ≤ l1 ∧ k ≤ 200 ∧ c = .int .i64 n ∧ t = .int .i64 k ∧ Kpt (Ss w wr B ts (-1) (.slice none 0 0) []) ∧ Kpt (Ord ts n)) (fun _ t _ => 200 - (intOf t).toNat)
  case atStart => exact ⟨0, 0, [], Nat.zero_le _, Nat.zero_le _, Nat.zero_le _, Nat.zero_le _, rfl, rfl, hq0, ⟨by simp [Ord]⟩⟩
  case round =>
    obtain ⟨n, k, ts, hn0, hnk, hk, hk200, rfl, rfl, hQ, hG⟩ := hrel
    clear hq0
    by_cases hlt : k < l1 ∧ k < 200
    · obtain ⟨b, off, rfl, hbl, hc, hr⟩ := h1.out wr hQ.out.below k hlt.1
      have e1 : (k : Int) < l1 := by omega
      have e2 : (k : Int) < 200 := by omega
      obtain ⟨x, hx⟩ : ∃ x, x = z1.getD k 0 := ⟨_, rfl⟩
      rw [← hx] at hc hr
      have hx' := Kpt.mk hx
      clear hx hlt
      by_cases hA : x % 3 = 0 ∧ n < l0
      · obtain ⟨b2, off2, rfl, hbl2, hc2, hr2⟩ := h0.out wr hQ.out.below n hA.2
        have e3 : (n : Int) < l0 := by omega
        have e4 := hA.1
        obtain ⟨y, hy⟩ : ∃ y, y = z0.getD n 0 := ⟨_, rfl⟩
        rw [← hy] at hc2 hr2
        clear hy hA hx'
        obtain ⟨g1, g2⟩ := ent_ord y hr2 hG.out
        have HE := Kpt.mk (ss_enter ⟨(n : Int) % 8, (n : Int), y % 3, false⟩ hQ.out)
        replace g2 := Kpt.mk g2
        obtain ⟨us, hus⟩ : ∃ us, us = entL ts (-1) ⟨(n : Int) % 8, (n : Int), y % 3, false⟩ := ⟨_, rfl⟩
        rw [← hus] at HE g2
        clear hus
        rcases g1 with g1 | g1
        all_goals
          rw [g1] at HE
          clear g1
          go_wp2_with (go_at_call 18; go_must (refine HE.out.mono ?_; rintro e w2 ⟨rfl, hq2⟩; replace hq2 := Kpt.mk hq2))
          go_roundw
          case rel => exact ⟨n + 1, k + 1, us, by omega, by omega, by omega, by omega, by go_num, by go_num, hq2, g2⟩
          case measure => simp [intOf]; omega
      · have hfew := Kpt.mk hQ.out.few
        have hgo : Kpt (∀ W, Below w.heap.size w W → W.cell? ⟨b, off + k, none⟩ = some (.int .u8 x)) := ⟨fun W hW => (hW.cell (p := ⟨b, off + k, none⟩) hbl).trans ((hQ.out.below.cell (p := ⟨b, off + k, none⟩) hbl).symm.trans hc)⟩
        by_cases h31 : x % 3 = 1
        · clear hA hx'
          go_wp2_with fail
          refine (ss_tasks hQ.out).mono ?_
          rintro e w2 ⟨y2, rfl, ho2, hs2, _⟩
          obtain ⟨x2, d2, hy2, _⟩ := ho2.shape
          obtain ⟨m, hm⟩ : ∃ m, m = ts.length := ⟨_, rfl⟩
          rw [← hm] at hy2 hfew
          subst hy2
          have hm16 := hfew.out
          replace hm := Kpt.mk hm
          have hc2 := hgo.out w2 hs2.below
          replace hs2 := Kpt.mk hs2
          clear ho2 hQ hc hfew
          go_wp2_with fail
          refine (ss_ready3 hs2.out).mono ?_
          rintro e w3 ⟨y3, rfl, hr3, hs3⟩
          obtain ⟨a3, c3, hy3, hr3⟩ := hr3
          have hrl := rdy_len ts (-1) ts.length
          have hmem := fun u => (mem_rdy ts (-1) u ts.length).1
          obtain ⟨r, hr⟩ : ∃ r, r = rdyL ts (-1) ts.length := ⟨_, rfl⟩
          rw [← hr, ← hm.out] at hrl
          rw [← hr] at hy3 hr3
          obtain ⟨q, hq⟩ : ∃ q, q = r.length := ⟨_, rfl⟩
          rw [← hq] at hrl hy3 hr3
          subst hy3
          have hc3 := hgo.out w3 hs3.below
          replace hs3 := Kpt.mk hs3
          clear hc2 hs2
          by_cases hq0 : q = 0
          · replace hq := Kpt.mk hq
            replace hr := Kpt.mk hr
            replace hr3 := Kpt.mk hr3
            replace hmem := Kpt.mk hmem
            subst hq0
            go_wp2
            go_roundw
            case rel => exact ⟨n, k + 1, ts, by omega, by omega, by omega, by omega, rfl, by go_num, ⟨ss_bare hs3.out⟩, hG⟩
            case measure => simp [intOf]; omega
          · obtain ⟨g3, rfl, hg3, hqc, hcm, hr3⟩ := hr3 (Nat.pos_of_ne_zero hq0)
            obtain ⟨i, hi⟩ : ∃ i : Nat, i = (x / 3 % (q : Int)).toNat := ⟨_, rfl⟩
            obtain ⟨hi0, hi1, hiq⟩ := at_ok x q (Nat.pos_of_ne_zero hq0)
            rw [← hi] at hiq
            obtain ⟨t, ht⟩ : ∃ t, r[i]? = some t := ⟨_, List.getElem?_eq_getElem (by rw [← hq]; exact hiq)⟩
            obtain ⟨kt, hkt1, hkt2, hkt3⟩ := hmem t (by rw [← hr]; exact List.mem_of_getElem? ht)
            obtain ⟨r0, r1, r2, r3⟩ := range4 (hr3 i t ht)
            have eq0 : ¬ (q : Int) = 0 := fun e => hq0 (Int.ofNat_eq_zero.1 e)
            rw [hi] at r0 r1 r2 r3
            clear hi hiq
            replace hq := Kpt.mk hq
            replace hr := Kpt.mk hr
            replace hr3 := Kpt.mk hr3
            replace hkt2 := Kpt.mk hkt2
            replace hkt3 := Kpt.mk hkt3
            clear hmem ht hkt1
            unfold maxLen at hcm
            go_wp2_with fail
            obtain ⟨w4, hw4⟩ : ∃ w4, w4 = w3.alloc (.cells #[.int .i64 t.nx, .int .u32 t.tg, .int .u8 t.ar, .bool t.st] 48) := ⟨_, rfl⟩
            obtain ⟨T, hT⟩ : ∃ T, T = w3.heap.size := ⟨_, rfl⟩
            rw [← hw4, ← hT]
            obtain ⟨t0, t1, t2, t3⟩ := range4 (show w4.rangeAt T 0 t.vals.toList by rw [hw4, hT]; exact range_new w3 t 48)
            have hTl : T < w4.heap.size := by rw [hw4, hT]; simp
            have hs4 : Kpt (Ss w w4 B ts (-1) (.slice x2 m d2) ts) := ⟨by rw [hw4]; exact hs3.out.grow ((Below.refl _ _).alloc (Nat.le_refl _) _)⟩
            clear hw4 hT hs3 r0 r1 r2 r3 hc3 hg3 hr3 hi0 hi1 eq0
            go_loopw [13] (fun t wr => ∃ (j : Nat), j ≤ m ∧ t = .int .i64 j ∧ Kpt (Below w4.heap.size w4 wr)) (fun t _ => m - (intOf t).toNat)
            case atStart => exact ⟨0, Nat.zero_le _, rfl, ⟨Below.refl _ _⟩⟩
            case round =>
              obtain ⟨j, hj, rfl, hb⟩ := hrel
              by_cases hjm : j < m
              · have ejm : (j : Int) < m := by omega
                have hS := hs4.out.grow hb.out
                obtain ⟨a2, c2, hv2, hrd⟩ := ss_rd hS
                rw [← hm.out] at hv2 hrd
                simp only [Value.slice.injEq] at hv2
                obtain ⟨rfl, _, rfl⟩ := hv2
                obtain ⟨g2, rfl, hg2, hd2, hdm, hrd⟩ := hrd (by omega)
                obtain ⟨u, hu⟩ : ∃ u, ts[j]? = some u := ⟨_, List.getElem?_eq_getElem (by rw [← hm.out]; exact hjm)⟩
                obtain ⟨r0, r1, r2, r3⟩ := range4 (hrd j u hu)
                obtain ⟨o1, o2⟩ := order_ok hG.out hkt2.out hkt3.out hu
                have q1 := (hb.out.cell (p := ⟨T, 1, none⟩) hTl).trans t1
                have q2 := (hb.out.cell (p := ⟨T, 2, none⟩) hTl).trans t2
                have hTr := Nat.lt_of_lt_of_le hTl hb.out.size
                unfold maxLen at hdm
                clear hrd hu hS
                have hcs : (t.ar = 2) ∨ (¬ t.ar = 2 ∧ ¬ u.ar = 2 ∧ (u.tg < t.tg) ∧ ¬ t.ar = 1 ∧ ¬ u.ar = 1) ∨ (¬ t.ar = 2 ∧ ¬ u.ar = 2 ∧ ¬ (u.tg < t.tg) ∧ t.ar = 1) ∨ (¬ t.ar = 2 ∧ ¬ u.ar = 2 ∧ ¬ (u.tg < t.tg) ∧ ¬ t.ar = 1) := by
                  by_cases c1 : t.ar = 2
                  · exact .inl c1
                  · have o3 := o2 c1
                    by_cases c2 : u.tg < t.tg
                    · exact .inr (.inl ⟨c1, o3.1, c2, fun e => o1 e c2, o3.2 c2⟩)
                    · by_cases c3 : t.ar = 1
                      · exact .inr (.inr (.inl ⟨c1, o3.1, c2, c3⟩))
                      · exact .inr (.inr (.inr ⟨c1, o3.1, c2, c3⟩))
                clear o1 o2
                have hb5 : Kpt (Below w4.heap.size w4 (wr.alloc (.cells #[.int .i64 u.nx, .int .u32 u.tg, .int .u8 u.ar, .bool u.st] 48))) := ⟨hb.out.alloc hb.out.size _⟩
                rcases hcs with d1 | ⟨d1, d2, d3, d4, d5⟩ | ⟨d1, d2, d3, d4⟩ | ⟨d1, d2, d3, d4⟩
                all_goals
                  try have f2 : (u.ar == 2) = false := by simpa using d2
                  try have f5 : (u.ar == 1) = false := by simpa using d5
                  try have f1 : (t.ar != 2) = true := by simpa using d1
                  go_wp2_with fail
                  go_roundw
                  all_goals first
                    | exact ⟨j + 1, by omega, by go_num, hb5⟩
                    | exact ⟨j + 1, by omega, by omega⟩
                    | exact ⟨⟨j + 1, by omega, by omega⟩, by simp [intOf]; omega⟩
                    | (simp [intOf]; omega; done)
              · have ejm : ¬ (j : Int) < m := by omega
                have q0 := (hb.out.cell (p := ⟨T, 0, none⟩) hTl).trans t0
                have q1 := (hb.out.cell (p := ⟨T, 1, none⟩) hTl).trans t1
                have hTr := Nat.lt_of_lt_of_le hTl hb.out.size
                obtain ⟨p1, p2⟩ := start_ord hG.out hkt2.out hkt3.out
                have H1 := Kpt.mk (ss_start t.nx t.tg (hs4.out.grow hb.out))
                rw [p1] at H1
                replace p2 := Kpt.mk p2
                go_wp2_with (go_at_call 19; go_must (refine H1.out.mono ?_; rintro e w5 ⟨rfl, hs5⟩; replace hs5 := Kpt.mk (ss_bare hs5)))
                go_roundw
                case rel => exact ⟨n, k + 1, _, by omega, by omega, by omega, by omega, rfl, by go_num, hs5, p2⟩
                case measure => simp [intOf]; omega
        · have hor2 : (x % 3 = 0 ∧ ¬ (n : Int) < l0) ∨ (¬ x % 3 = 0 ∧ ¬ x % 3 = 1) := by
            by_cases e : x % 3 = 0
            · exact .inl ⟨e, fun h => hA ⟨e, by omega⟩⟩
            · exact .inr ⟨e, h31⟩
          clear hA hx' h31
          rcases hor2 with ⟨e3, e4⟩ | ⟨e3, e4⟩
          all_goals
            go_wp2_with fail
            refine (ss_tasks hQ.out).mono ?_
            rintro e w2 ⟨y2, rfl, ho2, hs2, _⟩
            obtain ⟨x2, d2, hy2, _⟩ := ho2.shape
            obtain ⟨m, hm⟩ : ∃ m, m = ts.length := ⟨_, rfl⟩
            rw [← hm] at hy2 hfew
            subst hy2
            have hm16 := hfew.out
            replace hm := Kpt.mk hm
            have hc2 := hgo.out w2 hs2.below
            replace hs2 := Kpt.mk hs2
            clear ho2 hQ hc hfew
            go_wp2_with fail
            go_loopw [16] (fun t wr => ∃ (j : Nat), j ≤ m ∧ t = .int .i64 j ∧ Kpt (wr = w2)) (fun t _ => m - (intOf t).toNat)
            case atStart => exact ⟨0, Nat.zero_le _, rfl, ⟨rfl⟩⟩
            case round =>
              obtain ⟨j, hj, rfl, hb⟩ := hrel
              obtain rfl := hb.out
              by_cases hjm : j < m
              · have ejm : (j : Int) < m := by omega
                obtain ⟨a2, c2, hv2, hrd⟩ := ss_rd hs2.out
                rw [← hm.out] at hv2 hrd
                simp only [Value.slice.injEq] at hv2
                obtain ⟨rfl, _, rfl⟩ := hv2
                obtain ⟨g2, rfl, hg2, hd2, hdm, hrd⟩ := hrd (by omega)
                obtain ⟨u, hu⟩ : ∃ u, ts[j]? = some u := ⟨_, List.getElem?_eq_getElem (by rw [← hm.out]; exact hjm)⟩
                obtain ⟨r0, r1, r2, r3⟩ := range4 (hrd j u hu)
                unfold maxLen at hdm
                clear hrd
                cases hst : u.st with
                | false =>
                  rw [hst] at r3
                  clear hu hst
                  go_wp2_with fail
                  go_roundw
                  all_goals first
                    | exact ⟨j + 1, by omega, by go_num, ⟨trivial⟩⟩
                    | exact ⟨j + 1, by omega, by omega⟩
                    | (simp [intOf]; omega; done)
                | true =>
                  rw [hst] at r3
                  obtain ⟨p1, p2⟩ := end_ord hG.out hu hst
                  replace p2 := Kpt.mk p2
                  replace hu := Kpt.mk hu
                  clear hst
                  have HE : Kpt (∀ W, Ss w W B ts (-1) (.slice (some ⟨g2, 0, none⟩) m d2) ts → Calls Try.prog 20 #[.pointer (some ⟨B, 0, none⟩), .int .i64 u.nx, .int .u32 u.tg] W fun e w' => e = .returned (.int .i64 0) ∧ Ss w w' B (endL ts u.nx u.tg) (-1) (.slice (some ⟨g2, 0, none⟩) m d2) ts) := ⟨fun W hW => by have := ss_end u.nx u.tg hW; rw [p1] at this; exact this⟩
                  clear p1
                  go_wp2_with fail
                  refine wp_region_any (by kernel_rfl) ?_
                  refine wpAny_of_C (C := fun W => W.cell? ⟨g2, j * 4, none⟩ = some (.int .i64 u.nx) ∧ W.cell? ⟨g2, j * 4 + 1, none⟩ = some (.int .u32 u.tg)) _ _ _ _ ?_
                  refine wpAnyC_take 0 (.pointer (some ⟨B, 0, none⟩)) rfl (by kernel_rfl) (by kernel_rfl) (by kernel_rfl) (fun _ _ _ h => h) (wanted_free rfl _) (fun W hW => by have h0 := hW.1; have h1 := hW.2; go_simp) ?_
                  simp only [Act.put, List.setIfInBounds_toArray, List.set_cons_succ, List.set_cons_zero]
                  refine wpAnyC_take 1 (.slice (some ⟨g2, 0, none⟩) m d2) rfl (by kernel_rfl) (by kernel_rfl) (by kernel_rfl) (fun _ _ _ h => h) (wanted_free rfl _) (fun W hW => by have h0 := hW.1; have h1 := hW.2; go_simp) ?_
                  simp only [Act.put, List.setIfInBounds_toArray, List.set_cons_succ, List.set_cons_zero]
                  refine wpAnyC_take 2 (.int .i64 j) rfl (by kernel_rfl) (by kernel_rfl) (by kernel_rfl) (fun _ _ _ h => h) (wanted_free rfl _) (fun W hW => by have h0 := hW.1; have h1 := hW.2; go_simp) ?_
                  simp only [Act.put, List.setIfInBounds_toArray, List.set_cons_succ, List.set_cons_zero]
                  refine wpAnyC_take 3 (.pointer (some ⟨g2, j * 4, none⟩)) rfl (by kernel_rfl) (by kernel_rfl) (by kernel_rfl) (fun _ _ _ h => h) (wanted_free rfl _) (fun W hW => by have h0 := hW.1; have h1 := hW.2; go_simp) ?_
                  simp only [Act.put, List.setIfInBounds_toArray, List.set_cons_succ, List.set_cons_zero]
                  refine wpAnyC_take 4 (.pointer (some ⟨g2, j * 4, none⟩)) rfl (by kernel_rfl) (by kernel_rfl) (by kernel_rfl) (fun _ _ _ h => h) (wanted_free rfl _) (fun W hW => by have h0 := hW.1; have h1 := hW.2; go_simp) ?_
                  simp only [Act.put, List.setIfInBounds_toArray, List.set_cons_succ, List.set_cons_zero]
                  refine wpAnyC_take 5 (.int .i64 u.nx) rfl (by kernel_rfl) (by kernel_rfl) (by kernel_rfl) (fun _ _ _ h => h) (wanted_free rfl _) (fun W hW => by have h0 := hW.1; have h1 := hW.2; go_simp) ?_
                  simp only [Act.put, List.setIfInBounds_toArray, List.set_cons_succ, List.set_cons_zero]
                  refine wpAnyC_take 6 (.slice (some ⟨g2, 0, none⟩) m d2) rfl (by kernel_rfl) (by kernel_rfl) (by kernel_rfl) (fun _ _ _ h => h) (wanted_free rfl _) (fun W hW => by have h0 := hW.1; have h1 := hW.2; go_simp) ?_
                  simp only [Act.put, List.setIfInBounds_toArray, List.set_cons_succ, List.set_cons_zero]
                  refine wpAnyC_take 7 (.int .i64 j) rfl (by kernel_rfl) (by kernel_rfl) (by kernel_rfl) (fun _ _ _ h => h) (wanted_free rfl _) (fun W hW => by have h0 := hW.1; have h1 := hW.2; go_simp) ?_
                  simp only [Act.put, List.setIfInBounds_toArray, List.set_cons_succ, List.set_cons_zero]
                  refine wpAnyC_take 8 (.pointer (some ⟨g2, j * 4, none⟩)) rfl (by kernel_rfl) (by kernel_rfl) (by kernel_rfl) (fun _ _ _ h => h) (wanted_free rfl _) (fun W hW => by have h0 := hW.1; have h1 := hW.2; go_simp) ?_
                  simp only [Act.put, List.setIfInBounds_toArray, List.set_cons_succ, List.set_cons_zero]
                  refine wpAnyC_take 9 (.pointer (some ⟨g2, j * 4 + 1, none⟩)) rfl (by kernel_rfl) (by kernel_rfl) (by kernel_rfl) (fun _ _ _ h => h) (wanted_free rfl _) (fun W hW => by have h0 := hW.1; have h1 := hW.2; go_simp) ?_
                  simp only [Act.put, List.setIfInBounds_toArray, List.set_cons_succ, List.set_cons_zero]
                  refine wpAnyC_take 10 (.int .u32 u.tg) rfl (by kernel_rfl) (by kernel_rfl) (by kernel_rfl) (fun _ _ _ h => h) (wanted_free rfl _) (fun W hW => by have h0 := hW.1; have h1 := hW.2; go_simp) ?_
                  simp only [Act.put, List.setIfInBounds_toArray, List.set_cons_succ, List.set_cons_zero]
                  refine wpAnyC_one 11 ⟨r0, r1⟩ rfl (by kernel_rfl) (wanted_free rfl _) (fun KA hKA => ?_)
                  go_simp
                  refine (HE.out _ (hs2.out.grow (below_drewN (Below.refl _ _) 1))).mono ?_
                  rintro e w5 ⟨rfl, hs5⟩
                  refine hKA _ _ ?_
                  clear hKA KA
                  obtain ⟨a5, c5, hv5, hrd5⟩ := ss_rd hs5
                  rw [← hm.out] at hv5 hrd5
                  simp only [Value.slice.injEq] at hv5
                  obtain ⟨rfl, _, rfl⟩ := hv5
                  obtain ⟨g5, hg5, _, _, _, hrd5⟩ := hrd5 (by omega)
                  injection hg5 with hg5
                  injection hg5 with hg5
                  subst hg5
                  obtain ⟨s0, s1, s2, s3⟩ := range4 (hrd5 j u hu.out)
                  replace hs5 := Kpt.mk (ss_bare hs5)
                  clear hrd5
                  refine wpAnyC_take 12 (.bool false) rfl (by kernel_rfl) (by kernel_rfl) (by kernel_rfl) (fun _ _ _ h => h) (wanted_free rfl _) (fun W hW => by have h0 := hW.1; have h1 := hW.2; go_simp) ?_
                  simp only [Act.put, List.setIfInBounds_toArray, List.set_cons_succ, List.set_cons_zero]
                  refine wpAnyC_done ⟨s0, s1⟩ (by kernel_rfl) ?_
                  clear HE r0 r1 r2 r3
                  go_wp2
                  go_roundw
                  case rel => exact ⟨n, k + 1, _, by omega, by omega, by omega, by omega, rfl, by go_num, hs5, p2⟩
                  case measure => simp [intOf]; omega
              · have ejm : ¬ (j : Int) < m := by omega
                go_wp2
                go_roundw
                case rel => exact ⟨n, k + 1, ts, by omega, by omega, by omega, by omega, rfl, by go_num, ⟨ss_bare hs2.out⟩, hG⟩
                case measure => simp [intOf]; omega
    · have hor : ¬ (k : Int) < l1 ∨ ((k : Int) < l1 ∧ ¬ (k : Int) < 200) := by omega
      have hbe := Kpt.mk hQ.out.below
      clear hlt hG hQ
      rcases hor with e2 | ⟨e2, e3⟩
      all_goals
        go_wp2
        go_ret
        exact ⟨rfl, hbe.out⟩
end Go.Proofs.Ytcnefmfmmgdidaa.taskOrders
