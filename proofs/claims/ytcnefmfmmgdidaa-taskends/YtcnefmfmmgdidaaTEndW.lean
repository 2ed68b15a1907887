/-
  TaskEnds: the walk.
-/
import Derived.Test.YtcnefmfmmgdidaaTEnds
namespace Go.Proofs.Ytcnefmfmmgdidaa.taskEnds
open Go.Proofs.Ytcnefmfmmgdidaa
open Go.RowKit
set_option linter.unusedVariables false
set_option linter.unusedSimpArgs false

set_option maxRecDepth 100000 in
set_option maxHeartbeats 2000000 in
theorem ends_walk (a0 : Option Addr) (l0 c0 : Nat) (z0 : List Int) (w : World) (h0 : Came w a0 l0 z0) :
    Calls Try.prog 5 #[.slice a0 l0 c0] w fun e w' => e = .returned (.bool true) ∧ Below w.heap.size w w' := by
  have hm0 := h0.1
  unfold maxLen at hm0
  replace h0 := Kpt.mk h0.2
  have HW := Kpt.mk (awake_any w)
  go_enter Try.func5, Try.ntmps5
  go_wp2_with (first
    | (go_at_call 9; refine HW.out.mono ?_; rintro e wB ⟨rfl, hbB⟩; have HN := Kpt.mk (new_any wB); replace hbB := Kpt.mk hbB)
    | (go_at_call 10; refine HN.out.mono ?_; rintro e w1 ⟨rfl, rfl⟩))
  have hq0 : Kpt (Ss w (newS wB) wB.heap.size [] (-1) (.slice none 0 0) []) := ⟨ss_new w wB hbB.out⟩
  obtain ⟨B, hB⟩ : ∃ B, B = wB.heap.size := ⟨_, rfl⟩
  obtain ⟨wq, hwq⟩ : ∃ wq, wq = newS wB := ⟨_, rfl⟩
  rw [← hwq, ← hB] at hq0
  rw [← hwq, ← hB]
  clear hwq HN hB HW
  go_loopw [4, 5] (fun c t wr => ∃ (k : Nat) (ts : List Tk), k ≤ l0 ∧ k ≤ 40 ∧ c = .int .i64 (ts.length : Nat) ∧ t = .int .i64 k ∧ Kpt (Ss w wr B ts (-1) (.slice none 0 0) []) ∧ Kpt (Came1 ts k)) (fun _ t _ => 40 - (intOf t).toNat)
  case atStart => exact ⟨0, [], Nat.zero_le _, Nat.zero_le _, rfl, rfl, hq0, ⟨by simp [Came1, Ok]⟩⟩
  case round =>
    obtain ⟨k, ts, hk, hk40, rfl, rfl, hQ, hG⟩ := hrel
    clear hq0
    by_cases hlt : k < l0 ∧ k < 40
    · obtain ⟨b, off, rfl, hbl, hc, hr⟩ := h0.out wr hQ.out.below k hlt.1
      have e1 : (k : Int) < l0 := by omega
      have e2 : (k : Int) < 40 := by omega
      obtain ⟨x, hx⟩ : ∃ x, x = z0.getD k 0 := ⟨_, rfl⟩
      rw [← hx] at hc hr
      clear hx hlt
      obtain ⟨g1, g2, g3⟩ := ent_first x hr hG.out
      have HE := Kpt.mk (ss_enter ⟨0, (k : Int), x % 3, false⟩ hQ.out)
      rw [g1] at HE
      have hl16 : ts.length ≤ 16 := by have := hG.out.1; omega
      obtain ⟨us, hus⟩ : ∃ us, us = entL ts (-1) ⟨0, (k : Int), x % 3, false⟩ := ⟨_, rfl⟩
      rw [← hus] at HE g2 g3
      obtain ⟨m, hm⟩ : ∃ m, m = ts.length := ⟨_, rfl⟩
      rw [← hm] at g3 hl16 ⊢
      replace g2 := Kpt.mk g2
      clear hus g1
      by_cases hk16 : k < 16
      · rw [if_pos hk16] at HE g3
        have e3 : (k : Int) < 16 := by omega
        replace g3 := Kpt.mk g3
        clear hm hk16
        go_wp2_with (go_at_call 18; go_must (refine HE.out.mono ?_; rintro e w2 ⟨rfl, hq2⟩; replace hq2 := Kpt.mk hq2))
        go_roundw
        case rel => exact ⟨k + 1, us, by omega, by omega, by rw [g3.out]; go_num, by go_num, hq2, g2⟩
        case measure => simp [intOf]; omega
      · rw [if_neg hk16] at HE g3
        have e3 : ¬ (k : Int) < 16 := by omega
        replace g3 := Kpt.mk g3
        clear hm hk16
        go_wp2_with (go_at_call 18; go_must (refine HE.out.mono ?_; rintro e w2 ⟨rfl, hq2⟩; replace hq2 := Kpt.mk hq2))
        go_roundw
        case rel => exact ⟨k + 1, us, by omega, by omega, by rw [g3.out], by go_num, hq2, g2⟩
        case measure => simp [intOf]; omega
    · have hor : ¬ (k : Int) < l0 ∨ ((k : Int) < l0 ∧ ¬ (k : Int) < 40) := by omega
      have hok : Kpt (Ok ts) := ⟨hG.out.2.1⟩
      have hl16 : ts.length ≤ 16 := by have := hG.out.1; omega
      have hQ' : Kpt (∃ x us, Ss w wr B ts (-1) x us) := ⟨_, _, hQ.out⟩
      clear hlt hG hQ
      rcases hor with e2 | ⟨e2, e3⟩
      all_goals
        go_wp2_with fail
        go_loopw [4] (fun c wq => ∃ (ts : List Tk), ts.length ≤ 16 ∧ c = .int .i64 (ts.length : Nat) ∧ Kpt (∃ x us, Ss w wq B ts (-1) x us) ∧ Kpt (Ok ts)) (fun c _ => (intOf c).toNat)
        case atStart => exact ⟨ts, hl16, rfl, hQ', hok⟩
        case round =>
          clear hQ' hok hl16
          obtain ⟨ts, hl16, rfl, hS, hok⟩ := hrel
          obtain ⟨x, us, hS⟩ := hS.out
          obtain ⟨m, hm⟩ : ∃ m, m = ts.length := ⟨_, rfl⟩
          rw [← hm] at hl16 ⊢
          replace hm := Kpt.mk hm
          go_wp2_with fail
          refine (ss_tasks hS).mono ?_
          rintro e w2 ⟨y2, rfl, ho2, _, hs2⟩
          obtain ⟨x2, d2, hy2, _⟩ := ho2.shape
          rw [← hm.out] at hy2
          subst hy2
          replace hs2 := Kpt.mk hs2
          clear ho2 hS
          by_cases h0 : m = 0
          · have e5 : (m : Int) = 0 := by omega
            have hbe := Kpt.mk hs2.out.below
            clear hs2
            subst h0
            go_wp2
            go_ret
            exact ⟨rfl, hbe.out⟩
          · have e5 : (0 : Int) < m := by omega
            obtain ⟨k1, u1, hk1, hk2, hk3⟩ := may_one ts (by rw [← hm.out]; omega) (fun t ht => (hok.out.1 t ht).2)
            go_wp2_with fail
            refine (ss_ready2 hs2.out).mono ?_
            rintro e w3 ⟨y3, rfl, hs3⟩
            have hmem : u1 ∈ rdyL ts (-1) ts.length := (mem_rdy ts (-1) u1 ts.length).2 ⟨k1, hk1, hk2, hk3⟩
            obtain ⟨u, r, hur⟩ : ∃ u r, rdyL ts (-1) ts.length = u :: r := by
              cases e : rdyL ts (-1) ts.length with
              | nil => rw [e] at hmem; simp at hmem
              | cons u r => exact ⟨u, r, rfl⟩
            obtain ⟨k, hkl, hku, hkm⟩ := (mem_rdy ts (-1) u ts.length).1 (by rw [hur]; simp)
            rw [hur] at hs3
            have hrl := rdy_len ts (-1) ts.length
            rw [hur, ← hm.out, List.length_cons] at hrl
            obtain ⟨p1, p2, p3, p4, p5, p6, p7, p8⟩ := round_facts hok.out hku hkm
            obtain ⟨g3, c3, m3, hy3, hm3⟩ : ∃ g3 c3 m3, y3 = .slice (some ⟨g3, 0, none⟩) (m3 + 1) c3 ∧ m3 = r.length := by
              obtain ⟨v, _, _, ⟨b, ho⟩, _⟩ := hs3
              obtain ⟨a, c', hv, hs⟩ := ho.shape
              rcases hs with ⟨_, _, hz⟩ | ⟨g', e, _⟩
              · simp at hz
              · exact ⟨g', c', r.length, by rw [hv, e]; rfl, rfl⟩
            subst hy3
            rw [← hm3] at hrl
            clear hmem hk1 hk2 hk3 hur hkl hku hkm hs2 hm3
            obtain ⟨q1, q1'⟩ := ss_first hs3
            have hs3K := Kpt.mk hs3
            clear hs3
            go_wp2_with fail
            have H1 := Kpt.mk (ss_start 0 u.tg hs3K.out)
            rw [p1, p2] at H1
            refine H1.out.mono ?_
            rintro e w4 ⟨rfl, hs4⟩
            obtain ⟨q2, q2'⟩ := ss_first hs4
            have hs4K := Kpt.mk hs4
            clear hs4 q1 q1' H1 hs3K
            go_wp2_with fail
            have H2 := Kpt.mk (ss_start 0 u.tg hs4K.out)
            rw [p3, p4] at H2
            refine H2.out.mono ?_
            rintro e w5 ⟨rfl, hs5⟩
            obtain ⟨q3, q3'⟩ := ss_first hs5
            have hs5K := Kpt.mk hs5
            clear hs5 q2 q2' H2 hs4K
            go_wp2_with fail
            have H3 := Kpt.mk (ss_end 0 u.tg hs5K.out)
            rw [p5, p6] at H3
            refine H3.out.mono ?_
            rintro e w6 ⟨rfl, hs6⟩
            replace hs6 : Kpt (∃ x us, Ss w w6 B (ts.eraseIdx k) (-1) x us) := ⟨_, _, hs6⟩
            rw [← hm.out] at p8
            replace p8 := Kpt.mk p8
            replace p7 := Kpt.mk p7
            clear q3 q3' H3 hs5K p1 p2 p3 p4 p5 p6
            go_wp2
            go_roundw
            case rel => exact ⟨ts.eraseIdx k, by have := p8.out; omega, by have := p8.out; rw [show m = (ts.eraseIdx k).length + 1 from this.symm]; go_num, hs6, p7⟩
            case measure => simp [intOf]; omega
end Go.Proofs.Ytcnefmfmmgdidaa.taskEnds
