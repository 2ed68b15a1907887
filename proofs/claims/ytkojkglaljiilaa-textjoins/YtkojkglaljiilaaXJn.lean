/-
  text: two texts, one behind the other.
-/
import Derived.Test.YtkojkglaljiilaaXJp
namespace Go.Proofs.Ytkojkglaljiilaa
open Go.RowKit
set_option linter.unusedVariables false
set_option linter.unusedSimpArgs false

set_option maxRecDepth 100000 in
set_option maxHeartbeats 1000000 in
theorem joins_bad1 (a1 : Option Addr) (n1 c1 : Nat) (l : List (ByteArray × ByteArray)) (a2 : Option Addr) (n2 c2 : Nat) (m : List (ByteArray × ByteArray)) (w : World) (h1 : PsAt w (.slice a1 n1 c1) l) (hc1 : c1 ≤ maxLen) (hs1 : ∀ p ∈ l, p.1.size ≤ maxLen ∧ p.2.size ≤ maxLen) (h2 : PsAt w (.slice a2 n2 c2) m) (hc2 : c2 ≤ maxLen) (hs2 : ∀ p ∈ m, p.1.size ≤ maxLen ∧ p.2.size ≤ maxLen) (hE : ¬ wrE l = 0) :
    Calls Try.prog 5 #[.slice a1 n1 c1, .slice a2 n2 c2] w fun e w' => e = .returned (.bool true) ∧ Below w.heap.size w w' := by
  have hW1 := Kpt.mk (fun W (h : Below w.heap.size w W) => write_all a1 n1 c1 l W (h1.bel h) hc1 hs1)
  have hW2 := Kpt.mk (fun W (h : Below w.heap.size w W) => write_all a2 n2 c2 m W (h2.bel h) hc2 hs2)
  obtain ⟨L1, hL1⟩ : ∃ L, L = wrO l := ⟨_, rfl⟩
  obtain ⟨L2, hL2⟩ : ∃ L, L = wrO m := ⟨_, rfl⟩
  obtain ⟨N1, hN1⟩ : ∃ N, N = L1.length := ⟨_, rfl⟩
  obtain ⟨N2, hN2⟩ : ∃ N, N = L2.length := ⟨_, rfl⟩
  rw [← hL1, ← hN1] at hW1
  rw [← hL2, ← hN2] at hW2
  replace hN1 : Kpt (L1.length = N1) := ⟨hN1.symm⟩
  replace hN2 : Kpt (L2.length = N2) := ⟨hN2.symm⟩
  obtain ⟨E1, hE1⟩ : ∃ E, E = wrE l := ⟨_, rfl⟩
  obtain ⟨E2, hE2⟩ : ∃ E, E = wrE m := ⟨_, rfl⟩
  rw [← hE1] at hW1 hE
  rw [← hE2] at hW2
  clear hE1 hE2
  clear h1 h2 hs1 hs2 hc1 hc2 hL1 hL2
  go_enter Try.func5, Try.ntmps5
  go_wp2_with (first
      | (go_at_call 10; have hmm := m2; go_must (refine (hW2.out _ hbw.out).mono ?_; rintro e w3 ⟨v2, rfl, hr2, hbe3⟩; obtain ⟨⟨va2, vc2, rfl⟩⟩ := own_slice hr2; replace hr2 := Kpt.mk (own_row hr2 hN2.out); replace hr1 := Kpt.mk (hr1.out.bel hbe3); replace hbw : Kpt (Below w.heap.size w w3) := ⟨hbw.out.trans (hbe3.mono hbw.out.size)⟩; clear hbe3 hmm m2))
      | (go_at_call 10; have hmm := m1; go_must (refine (hW1.out _ hbw.out).mono ?_; rintro e w2 ⟨v1, rfl, hr1, hbe2⟩; obtain ⟨⟨va1, vc1, rfl⟩⟩ := own_slice hr1; replace hr1 := Kpt.mk (own_row hr1 hN1.out); replace hbw : Kpt (Below w.heap.size w w2) := ⟨hbw.out.trans (hbe2.mono hbw.out.size)⟩; have m2 : Kpt True := ⟨trivial⟩; clear hbe2 hmm m1))
      | (go_at_call 6; go_must (refine (awake_any _).mono ?_; rintro e w1 ⟨rfl, hbe1⟩; have hbw : Kpt (Below w.heap.size w w1) := ⟨hbe1⟩; have m1 : Kpt True := ⟨trivial⟩; clear hbe1)))
  go_ret
  exact ⟨rfl, hbw.out⟩

set_option maxRecDepth 100000 in
set_option maxHeartbeats 1000000 in
theorem joins_bad2 (a1 : Option Addr) (n1 c1 : Nat) (l : List (ByteArray × ByteArray)) (a2 : Option Addr) (n2 c2 : Nat) (m : List (ByteArray × ByteArray)) (w : World) (h1 : PsAt w (.slice a1 n1 c1) l) (hc1 : c1 ≤ maxLen) (hs1 : ∀ p ∈ l, p.1.size ≤ maxLen ∧ p.2.size ≤ maxLen) (h2 : PsAt w (.slice a2 n2 c2) m) (hc2 : c2 ≤ maxLen) (hs2 : ∀ p ∈ m, p.1.size ≤ maxLen ∧ p.2.size ≤ maxLen) (hE : wrE l = 0) (hF : ¬ wrE m = 0) :
    Calls Try.prog 5 #[.slice a1 n1 c1, .slice a2 n2 c2] w fun e w' => e = .returned (.bool true) ∧ Below w.heap.size w w' := by
  have hW1 := Kpt.mk (fun W (h : Below w.heap.size w W) => write_all a1 n1 c1 l W (h1.bel h) hc1 hs1)
  have hW2 := Kpt.mk (fun W (h : Below w.heap.size w W) => write_all a2 n2 c2 m W (h2.bel h) hc2 hs2)
  obtain ⟨L1, hL1⟩ : ∃ L, L = wrO l := ⟨_, rfl⟩
  obtain ⟨L2, hL2⟩ : ∃ L, L = wrO m := ⟨_, rfl⟩
  obtain ⟨N1, hN1⟩ : ∃ N, N = L1.length := ⟨_, rfl⟩
  obtain ⟨N2, hN2⟩ : ∃ N, N = L2.length := ⟨_, rfl⟩
  rw [← hL1, ← hN1] at hW1
  rw [← hL2, ← hN2] at hW2
  replace hN1 : Kpt (L1.length = N1) := ⟨hN1.symm⟩
  replace hN2 : Kpt (L2.length = N2) := ⟨hN2.symm⟩
  obtain ⟨E2, hE2⟩ : ∃ E, E = wrE m := ⟨_, rfl⟩
  rw [hE] at hW1
  rw [← hE2] at hW2 hF
  clear hE hE2
  clear h1 h2 hs1 hs2 hc1 hc2 hL1 hL2
  go_enter Try.func5, Try.ntmps5
  go_wp2_with (first
      | (go_at_call 10; have hmm := m2; go_must (refine (hW2.out _ hbw.out).mono ?_; rintro e w3 ⟨v2, rfl, hr2, hbe3⟩; obtain ⟨⟨va2, vc2, rfl⟩⟩ := own_slice hr2; replace hr2 := Kpt.mk (own_row hr2 hN2.out); replace hr1 := Kpt.mk (hr1.out.bel hbe3); replace hbw : Kpt (Below w.heap.size w w3) := ⟨hbw.out.trans (hbe3.mono hbw.out.size)⟩; clear hbe3 hmm m2))
      | (go_at_call 10; have hmm := m1; go_must (refine (hW1.out _ hbw.out).mono ?_; rintro e w2 ⟨v1, rfl, hr1, hbe2⟩; obtain ⟨⟨va1, vc1, rfl⟩⟩ := own_slice hr1; replace hr1 := Kpt.mk (own_row hr1 hN1.out); replace hbw : Kpt (Below w.heap.size w w2) := ⟨hbw.out.trans (hbe2.mono hbw.out.size)⟩; have m2 : Kpt True := ⟨trivial⟩; clear hbe2 hmm m1))
      | (go_at_call 6; go_must (refine (awake_any _).mono ?_; rintro e w1 ⟨rfl, hbe1⟩; have hbw : Kpt (Below w.heap.size w w1) := ⟨hbe1⟩; have m1 : Kpt True := ⟨trivial⟩; clear hbe1)))
  go_ret
  exact ⟨rfl, hbw.out⟩

set_option maxRecDepth 100000 in
set_option maxHeartbeats 4000000 in
theorem joins_ok (a1 : Option Addr) (n1 c1 : Nat) (l : List (ByteArray × ByteArray)) (a2 : Option Addr) (n2 c2 : Nat) (m : List (ByteArray × ByteArray)) (w : World) (h1 : PsAt w (.slice a1 n1 c1) l) (hc1 : c1 ≤ maxLen) (hs1 : ∀ p ∈ l, p.1.size ≤ maxLen ∧ p.2.size ≤ maxLen) (h2 : PsAt w (.slice a2 n2 c2) m) (hc2 : c2 ≤ maxLen) (hs2 : ∀ p ∈ m, p.1.size ≤ maxLen ∧ p.2.size ≤ maxLen) (hE : wrE l = 0) (hF0 : wrE m = 0) :
    Calls Try.prog 5 #[.slice a1 n1 c1, .slice a2 n2 c2] w fun e w' => e = .returned (.bool true) ∧ Below w.heap.size w w' := by
  have l1 : l.length = n1 := by obtain ⟨a', c', hv, _⟩ := h1; simp only [Value.slice.injEq] at hv; exact hv.2.1.symm
  have l2 : m.length = n2 := by obtain ⟨a', c', hv, _⟩ := h2; simp only [Value.slice.injEq] at hv; exact hv.2.1.symm
  have hn1 : n1 ≤ 64 := by have := (all_ok hE).2.1; omega
  have hn2 : n2 ≤ 64 := by have := (all_ok hF0).2.1; omega
  have hW1 := Kpt.mk (fun W (h : Below w.heap.size w W) => write_all a1 n1 c1 l W (h1.bel h) hc1 hs1)
  have hW2 := Kpt.mk (fun W (h : Below w.heap.size w W) => write_all a2 n2 c2 m W (h2.bel h) hc2 hs2)
  rw [hE, show wrO l = rowsL l from if_pos hE] at hW1
  rw [hF0, show wrO m = rowsL m from if_pos hF0] at hW2
  have hq1 : Kpt (∀ W, Below w.heap.size w W → PsAt W (.slice a1 n1 c1) l) := ⟨fun W h => h1.bel h⟩
  have hq2 : Kpt (∀ W, Below w.heap.size w W → PsAt W (.slice a2 n2 c2) m) := ⟨fun W h => h2.bel h⟩
  have hF := Kpt.mk (fun W x (h : Below w.heap.size w W) => find_any a1 n1 c1 l x W (h1.bel h) (by unfold maxLen; omega))
  have hM := Kpt.mk (fun va N vc W h3 h4 h5 => join_many hE hF0 va N vc W h3 h4 h5)
  have hB := Kpt.mk (fun va N vc W h3 h4 h5 => join_both hE hF0 va N vc W h3 h4 h5)
  have hK := Kpt.mk (fun va N vc k W h3 h4 h5 => join_ok hE hF0 va N vc k W h3 h4 h5)
  obtain ⟨L1, hL1⟩ : ∃ L, L = rowsL l := ⟨_, rfl⟩
  obtain ⟨L2, hL2⟩ : ∃ L, L = rowsL m := ⟨_, rfl⟩
  obtain ⟨N1, hN1⟩ : ∃ N, N = L1.length := ⟨_, rfl⟩
  obtain ⟨N2, hN2⟩ : ∃ N, N = L2.length := ⟨_, rfl⟩
  have hN1m : N1 ≤ 4096 := by rw [hN1, hL1]; exact (all_ok hE).2.2.1
  have hN2m : N2 ≤ 4096 := by rw [hN2, hL2]; exact (all_ok hF0).2.2.1
  rw [← hL1, ← hN1] at hW1
  rw [← hL2, ← hN2] at hW2
  rw [← hL1, ← hL2] at hM hB hK
  replace hN1 : Kpt (L1.length = N1) := ⟨hN1.symm⟩
  replace hN2 : Kpt (L2.length = N2) := ⟨hN2.symm⟩
  obtain ⟨N, hN⟩ : ∃ N, N1 + N2 = N := ⟨_, rfl⟩
  have hNm : N ≤ 8192 := by omega
  replace hN := Kpt.mk hN
  obtain ⟨kk, hkk⟩ : ∃ k, n1 + n2 = k := ⟨_, rfl⟩
  have hkm : Kpt (kk ≤ maxLen) := ⟨by unfold maxLen; omega⟩
  replace hkk := Kpt.mk hkk
  replace l1 := Kpt.mk l1
  replace l2 := Kpt.mk l2
  clear h1 h2 hs1 hs2 hc1 hc2 hL1 hL2 hE hF0
  go_enter Try.func5, Try.ntmps5
  go_wp2_with (first
      | (go_at_call 10; have hmm := m2; go_must (refine (hW2.out _ hbw.out).mono ?_; rintro e w3 ⟨v2, rfl, hr2, hbe3⟩; obtain ⟨⟨va2, vc2, rfl⟩⟩ := own_slice hr2; replace hr2 := Kpt.mk (own_row hr2 hN2.out); replace hr1 := Kpt.mk (hr1.out.bel hbe3); replace hbw : Kpt (Below w.heap.size w w3) := ⟨hbw.out.trans (hbe3.mono hbw.out.size)⟩; clear hbe3 hmm m2))
      | (go_at_call 10; have hmm := m1; go_must (refine (hW1.out _ hbw.out).mono ?_; rintro e w2 ⟨v1, rfl, hr1, hbe2⟩; obtain ⟨⟨va1, vc1, rfl⟩⟩ := own_slice hr1; replace hr1 := Kpt.mk (own_row hr1 hN1.out); replace hbw : Kpt (Below w.heap.size w w2) := ⟨hbw.out.trans (hbe2.mono hbw.out.size)⟩; have m2 : Kpt True := ⟨trivial⟩; clear hbe2 hmm m1))
      | (go_at_call 6; go_must (refine (awake_any _).mono ?_; rintro e w1 ⟨rfl, hbe1⟩; have hbw : Kpt (Below w.heap.size w w1) := ⟨hbe1⟩; have m1 : Kpt True := ⟨trivial⟩; clear hbe1)))
  go_loopw [9, 10] (fun t9 t wr => ∃ k : Nat, k ≤ n2 ∧ t = .int .i64 k ∧ t9 = .bool (bothP l (m.take k)) ∧ Kpt (RdAt wr (.slice va1 N1 vc1) L1) ∧ Kpt (RdAt wr (.slice va2 N2 vc2) L2) ∧ Kpt (Below w.heap.size w wr)) (fun _ t _ => n2 - (intOf t).toNat)
  case atStart => exact ⟨0, by omega, rfl, rfl, hr1, hr2, hbw⟩
  case round =>
    clear hr1 hr2 hbw hW1 hW2
    obtain ⟨k, hk, rfl, rfl, hr1, hr2, hbk⟩ := hrel
    by_cases hlt : k < n2
    · have hltI : (k : Int) < n2 := by omega
      clear hM hB hK
      obtain ⟨p, hp⟩ : ∃ p, m[k]? = some p := ⟨_, List.getElem?_eq_getElem (by rw [l2.out]; exact hlt)⟩
      obtain ⟨b, off, rfl, kc, -⟩ := ps_cells (hq2.out wr hbk.out) k hlt p hp
      obtain ⟨x, y⟩ := p
      have hbo : Kpt (bothP l (m.take (k + 1)) = (bothP l (m.take k) || (findP l x).isSome)) := ⟨by
        obtain ⟨h9, e9⟩ := List.getElem?_eq_some_iff.1 hp
        rw [List.take_succ_eq_append_getElem h9, e9]
        simp [bothP, List.any_append]⟩
      simp only at kc
      obtain ⟨F, hFF⟩ : ∃ f, f = (findP l x).isSome := ⟨_, rfl⟩
      have hF2 := Kpt.mk (fun W h => hF.out W x h)
      obtain ⟨fv, hfv⟩ : ∃ f, f = findV (findP l x) := ⟨_, rfl⟩
      rw [← hFF, ← hfv] at hF2
      rw [← hFF] at hbo
      obtain ⟨G, hG⟩ : ∃ g, g = bothP l (m.take k) := ⟨_, rfl⟩
      rw [← hG] at hbo ⊢
      clear hFF hfv hp hG hF
      cases G with
      | true =>
        go_wp2_with (go_at_call 12; go_must (refine (hF2.out _ hbk.out).mono ?_; rintro e w5 ⟨rfl, hbe5⟩; replace hr1 := Kpt.mk (hr1.out.bel hbe5); replace hr2 := Kpt.mk (hr2.out.bel hbe5); replace hbk : Kpt (Below w.heap.size w w5) := ⟨hbk.out.trans (hbe5.mono hbk.out.size)⟩; clear hbe5))
        go_roundw
        case rel => exact ⟨k + 1, by omega, by go_num, by rw [hbo.out]; rfl, hr1, hr2, hbk⟩
        case measure => simp [intOf]; omega
      | false =>
        go_wp2_with (go_at_call 12; go_must (refine (hF2.out _ hbk.out).mono ?_; rintro e w5 ⟨rfl, hbe5⟩; replace hr1 := Kpt.mk (hr1.out.bel hbe5); replace hr2 := Kpt.mk (hr2.out.bel hbe5); replace hbk : Kpt (Below w.heap.size w w5) := ⟨hbk.out.trans (hbe5.mono hbk.out.size)⟩; clear hbe5))
        go_roundw
        case rel => exact ⟨k + 1, by omega, by go_num, by rw [hbo.out]; rfl, hr1, hr2, hbk⟩
        case measure => simp [intOf]; omega
    · have hltI : ¬ (k : Int) < n2 := by omega
      obtain rfl : k = n2 := by omega
      have htt : m.take k = m := List.take_of_length_le (Nat.le_of_eq l2.out)
      rw [htt]
      clear htt hF
      by_cases h4 : 4096 < N
      · have h4I : (4096 : Int) < N := by omega
        have hP := Kpt.mk (fun va vc W => parse_long va N vc W h4 (by unfold maxLen; omega))
        clear hM hB hK hq1 hq2
        generalize bothP l m = G
        go_wp2_with (first
        | (go_at_call 7; go_must (refine (hP.out va6 vc6 _).mono ?_; rintro e w8 ⟨rfl, rfl⟩))
        | (refine (?_ : wpList _ _ _ (Oper.mk (some 60) _ _ _ _ _ :: _) _ _); go_must (refine wpList_append_gen rfl (.tmp 58) (.tmp 59) rfl wr.heap.size _ _ L1 L2 N1 rfl rfl ho5.out (hr2.out.bel hb5.out) hN1.out (by have := hN2.out; omega) hb5.out.size ?_; intro v6 w6 ho6 hg6; have hb6 : Kpt (Below wr.heap.size wr w6) := ⟨hb5.out.grown hg6.out hb5.out.size (fun k h => (World.ownsRow.lt ho5.out k h).1)⟩; replace ho6 : Kpt (w6.ownsRow wr.heap.size 5 1 v6 N (cels (L1 ++ L2))) := ⟨by have h := ho6.out; rw [hN2.out, hN.out] at h; exact h⟩; obtain ⟨⟨va6, vc6, rfl⟩⟩ := own_slice ho6.out; have hb7 : Kpt (Below w.heap.size w w6) := ⟨hbk.out.trans (hb6.out.mono hbk.out.size)⟩; clear hg6))
        | (refine (?_ : wpList _ _ _ (Oper.mk (some 57) _ _ _ _ _ :: _) _ _); go_must (refine wpList_append_gen rfl (.tmp 55) (.tmp 56) rfl wr.heap.size _ _ [] L1 0 rfl rfl (World.ownsRow_nil _ _ 5 1) hr1.out rfl (by have := hN1.out; omega) (Nat.le_refl _) ?_; intro v5 w5 ho5 hg5; have hb5 : Kpt (Below wr.heap.size wr w5) := ⟨(Below.refl _ _).grown hg5.out (Nat.le_refl _) (fun k h => by cases h)⟩; replace ho5 : Kpt (w5.ownsRow wr.heap.size 5 1 v5 N1 (cels L1)) := ⟨by have h := ho5.out; rw [hN1.out, Nat.zero_add] at h; exact h⟩; obtain ⟨⟨va5, vc5, rfl⟩⟩ := own_slice ho5.out; clear hg5)))
        go_ret
        exact ⟨rfl, hb7.out⟩
      · have h4I : ¬ (4096 : Int) < N := by omega
        by_cases h6 : 64 < n1 + k
        · have h6I : (64 : Int) < n1 + k := by omega
          have hP := Kpt.mk (fun va vc W h3 h5 => hM.out va N vc W h3 (by omega) h5 (by rw [l1.out, l2.out]; exact h6))
          clear hM hB hK hq1 hq2
          generalize bothP l m = G
          go_wp2_with (first
        | (go_at_call 7; go_must (refine (hP.out va6 vc6 _ (own_row ho6.out (by rw [List.length_append, hN1.out, hN2.out]; exact hN.out)) (own_cap ho6.out)).mono ?_; rintro e w8 ⟨pa, pc, rfl, hbe8⟩; have hb8 : Kpt (Below w.heap.size w w8) := ⟨hb7.out.trans (hbe8.mono hb7.out.size)⟩; clear hbe8))
        | (refine (?_ : wpList _ _ _ (Oper.mk (some 60) _ _ _ _ _ :: _) _ _); go_must (refine wpList_append_gen rfl (.tmp 58) (.tmp 59) rfl wr.heap.size _ _ L1 L2 N1 rfl rfl ho5.out (hr2.out.bel hb5.out) hN1.out (by have := hN2.out; omega) hb5.out.size ?_; intro v6 w6 ho6 hg6; have hb6 : Kpt (Below wr.heap.size wr w6) := ⟨hb5.out.grown hg6.out hb5.out.size (fun k h => (World.ownsRow.lt ho5.out k h).1)⟩; replace ho6 : Kpt (w6.ownsRow wr.heap.size 5 1 v6 N (cels (L1 ++ L2))) := ⟨by have h := ho6.out; rw [hN2.out, hN.out] at h; exact h⟩; obtain ⟨⟨va6, vc6, rfl⟩⟩ := own_slice ho6.out; have hb7 : Kpt (Below w.heap.size w w6) := ⟨hbk.out.trans (hb6.out.mono hbk.out.size)⟩; clear hg6))
        | (refine (?_ : wpList _ _ _ (Oper.mk (some 57) _ _ _ _ _ :: _) _ _); go_must (refine wpList_append_gen rfl (.tmp 55) (.tmp 56) rfl wr.heap.size _ _ [] L1 0 rfl rfl (World.ownsRow_nil _ _ 5 1) hr1.out rfl (by have := hN1.out; omega) (Nat.le_refl _) ?_; intro v5 w5 ho5 hg5; have hb5 : Kpt (Below wr.heap.size wr w5) := ⟨(Below.refl _ _).grown hg5.out (Nat.le_refl _) (fun k h => by cases h)⟩; replace ho5 : Kpt (w5.ownsRow wr.heap.size 5 1 v5 N1 (cels L1)) := ⟨by have h := ho5.out; rw [hN1.out, Nat.zero_add] at h; exact h⟩; obtain ⟨⟨va5, vc5, rfl⟩⟩ := own_slice ho5.out; clear hg5)))
          go_ret
          exact ⟨rfl, hb8.out⟩
        · have h6I : ¬ (64 : Int) < n1 + k := by omega
          cases hG : bothP l m with
          | true =>
            have hP := Kpt.mk (fun va vc W h3 h5 => hB.out va N vc W h3 (by omega) h5 (by rw [l1.out, l2.out]; exact h6) hG)
            clear hM hB hK hq1 hq2 hG
            go_wp2_with (first
        | (go_at_call 7; go_must (refine (hP.out va6 vc6 _ (own_row ho6.out (by rw [List.length_append, hN1.out, hN2.out]; exact hN.out)) (own_cap ho6.out)).mono ?_; rintro e w8 ⟨pa, pc, rfl, hbe8⟩; have hb8 : Kpt (Below w.heap.size w w8) := ⟨hb7.out.trans (hbe8.mono hb7.out.size)⟩; clear hbe8))
        | (refine (?_ : wpList _ _ _ (Oper.mk (some 60) _ _ _ _ _ :: _) _ _); go_must (refine wpList_append_gen rfl (.tmp 58) (.tmp 59) rfl wr.heap.size _ _ L1 L2 N1 rfl rfl ho5.out (hr2.out.bel hb5.out) hN1.out (by have := hN2.out; omega) hb5.out.size ?_; intro v6 w6 ho6 hg6; have hb6 : Kpt (Below wr.heap.size wr w6) := ⟨hb5.out.grown hg6.out hb5.out.size (fun k h => (World.ownsRow.lt ho5.out k h).1)⟩; replace ho6 : Kpt (w6.ownsRow wr.heap.size 5 1 v6 N (cels (L1 ++ L2))) := ⟨by have h := ho6.out; rw [hN2.out, hN.out] at h; exact h⟩; obtain ⟨⟨va6, vc6, rfl⟩⟩ := own_slice ho6.out; have hb7 : Kpt (Below w.heap.size w w6) := ⟨hbk.out.trans (hb6.out.mono hbk.out.size)⟩; clear hg6))
        | (refine (?_ : wpList _ _ _ (Oper.mk (some 57) _ _ _ _ _ :: _) _ _); go_must (refine wpList_append_gen rfl (.tmp 55) (.tmp 56) rfl wr.heap.size _ _ [] L1 0 rfl rfl (World.ownsRow_nil _ _ 5 1) hr1.out rfl (by have := hN1.out; omega) (Nat.le_refl _) ?_; intro v5 w5 ho5 hg5; have hb5 : Kpt (Below wr.heap.size wr w5) := ⟨(Below.refl _ _).grown hg5.out (Nat.le_refl _) (fun k h => by cases h)⟩; replace ho5 : Kpt (w5.ownsRow wr.heap.size 5 1 v5 N1 (cels L1)) := ⟨by have h := ho5.out; rw [hN1.out, Nat.zero_add] at h; exact h⟩; obtain ⟨⟨va5, vc5, rfl⟩⟩ := own_slice ho5.out; clear hg5)))
            go_ret
            exact ⟨rfl, hb8.out⟩
          | false =>
            have hP := Kpt.mk (fun va vc W h3 h5 => hK.out va N vc kk W h3 (by omega) h5 (by rw [l1.out, l2.out]; exact h6) hG (by rw [l1.out, l2.out]; exact hkk.out))
            clear hM hB hK hG
            go_wp2_with (first
        | (go_at_call 9; go_must (refine (same_any _ _ kk _ _ (l ++ m) _ hp8.out hpw.out hkm.out).mono ?_; rintro e w13 ⟨rfl, hs13⟩; have hb13 : Kpt (Below w.heap.size w w13) := ⟨hb12.out.trans (hs13.bel.mono hb12.out.size)⟩; clear hs13))
        | (refine (?_ : wpList _ _ _ (Oper.mk (some 92) _ _ _ _ _ :: _) _ _); go_must (refine wpList_append_prs rfl (.tmp 90) (.tmp 91) rfl w8.heap.size _ l m n1 a2 k c2 rfl rfl ho9.out (hq2.out _ hb10.out) (by omega) (by omega) hb9.out.size ?_; intro v11 w11 ho11 hg11; have hb11 : Kpt (Below w8.heap.size w8 w11) := ⟨hb9.out.grown hg11.out hb9.out.size (fun k h => (World.ownsRow.lt ho9.out k h).1)⟩; replace ho11 : Kpt (w11.ownsRow w8.heap.size 40 2 v11 kk (cellsP ((l ++ m).map numP))) := ⟨by have h := ho11.out; rw [hkk.out] at h; exact h⟩; have hb12 : Kpt (Below w.heap.size w w11) := ⟨hb8.out.trans (hb11.out.mono hb8.out.size)⟩; obtain ⟨hpw, va11, vc11, rfl, _, _⟩ := prs_of ho11.out; rw [prS_num] at hpw; replace hpw := Kpt.mk hpw; replace hp8 := Kpt.mk (hp8.out.bel hb11.out); clear hg11))
        | (refine (?_ : wpList _ _ _ (Oper.mk (some 89) _ _ _ _ _ :: _) _ _); go_must (refine wpList_append_prs rfl (.tmp 87) (.tmp 88) rfl w8.heap.size _ [] l 0 a1 n1 c1 rfl rfl (World.ownsRow_nil _ _ 40 2) (hq1.out _ hb8.out) (by omega) (by omega) (Nat.le_refl _) ?_; intro v9 w9 ho9 hg9; have hb9 : Kpt (Below w8.heap.size w8 w9) := ⟨(Below.refl _ _).grown hg9.out (Nat.le_refl _) (fun k h => by cases h)⟩; replace ho9 : Kpt (w9.ownsRow w8.heap.size 40 2 v9 n1 (cellsP (l.map numP))) := ⟨by have h := ho9.out; rw [Nat.zero_add] at h; exact h⟩; have hb10 : Kpt (Below w.heap.size w w9) := ⟨hb8.out.trans (hb9.out.mono hb8.out.size)⟩; obtain ⟨_, va9, vc9, rfl, _, _⟩ := prs_of ho9.out; clear hg9))
        | (go_at_call 7; go_must (refine (hP.out va6 vc6 _ (own_row ho6.out (by rw [List.length_append, hN1.out, hN2.out]; exact hN.out)) (own_cap ho6.out)).mono ?_; rintro e w8 ⟨pa, pc, rfl, hp8, hbe8⟩; have hb8 : Kpt (Below w.heap.size w w8) := ⟨hb7.out.trans (hbe8.mono hb7.out.size)⟩; replace hp8 := Kpt.mk hp8; clear hbe8))
        | (refine (?_ : wpList _ _ _ (Oper.mk (some 60) _ _ _ _ _ :: _) _ _); go_must (refine wpList_append_gen rfl (.tmp 58) (.tmp 59) rfl wr.heap.size _ _ L1 L2 N1 rfl rfl ho5.out (hr2.out.bel hb5.out) hN1.out (by have := hN2.out; omega) hb5.out.size ?_; intro v6 w6 ho6 hg6; have hb6 : Kpt (Below wr.heap.size wr w6) := ⟨hb5.out.grown hg6.out hb5.out.size (fun k h => (World.ownsRow.lt ho5.out k h).1)⟩; replace ho6 : Kpt (w6.ownsRow wr.heap.size 5 1 v6 N (cels (L1 ++ L2))) := ⟨by have h := ho6.out; rw [hN2.out, hN.out] at h; exact h⟩; obtain ⟨⟨va6, vc6, rfl⟩⟩ := own_slice ho6.out; have hb7 : Kpt (Below w.heap.size w w6) := ⟨hbk.out.trans (hb6.out.mono hbk.out.size)⟩; clear hg6))
        | (refine (?_ : wpList _ _ _ (Oper.mk (some 57) _ _ _ _ _ :: _) _ _); go_must (refine wpList_append_gen rfl (.tmp 55) (.tmp 56) rfl wr.heap.size _ _ [] L1 0 rfl rfl (World.ownsRow_nil _ _ 5 1) hr1.out rfl (by have := hN1.out; omega) (Nat.le_refl _) ?_; intro v5 w5 ho5 hg5; have hb5 : Kpt (Below wr.heap.size wr w5) := ⟨(Below.refl _ _).grown hg5.out (Nat.le_refl _) (fun k h => by cases h)⟩; replace ho5 : Kpt (w5.ownsRow wr.heap.size 5 1 v5 N1 (cels L1)) := ⟨by have h := ho5.out; rw [hN1.out, Nat.zero_add] at h; exact h⟩; obtain ⟨⟨va5, vc5, rfl⟩⟩ := own_slice ho5.out; clear hg5)))
            go_ret
            exact ⟨rfl, hb13.out⟩

theorem joins_any (a1 : Option Addr) (n1 c1 : Nat) (l : List (ByteArray × ByteArray)) (a2 : Option Addr) (n2 c2 : Nat) (m : List (ByteArray × ByteArray)) (w : World) (h1 : PsAt w (.slice a1 n1 c1) l) (hc1 : c1 ≤ maxLen) (hs1 : ∀ p ∈ l, p.1.size ≤ maxLen ∧ p.2.size ≤ maxLen) (h2 : PsAt w (.slice a2 n2 c2) m) (hc2 : c2 ≤ maxLen) (hs2 : ∀ p ∈ m, p.1.size ≤ maxLen ∧ p.2.size ≤ maxLen) :
    Calls Try.prog 5 #[.slice a1 n1 c1, .slice a2 n2 c2] w fun e w' => e = .returned (.bool true) ∧ Below w.heap.size w w' := by
  by_cases hE : wrE l = 0
  · by_cases hF : wrE m = 0
    · exact joins_ok a1 n1 c1 l a2 n2 c2 m w h1 hc1 hs1 h2 hc2 hs2 hE hF
    · exact joins_bad2 a1 n1 c1 l a2 n2 c2 m w h1 hc1 hs1 h2 hc2 hs2 hE hF
  · exact joins_bad1 a1 n1 c1 l a2 n2 c2 m w h1 hc1 hs1 h2 hc2 hs2 hE
end Go.Proofs.Ytkojkglaljiilaa
