/-
  A text of digits as bytes: the contract of the document's function.
-/
import Derived.Test.YtaedkofljmonjaaDoorQUnh
namespace Go.Proofs.YtaedkofljmonjaaDoor
open Go.RowKit
set_option linter.unusedVariables false
set_option linter.unusedSimpArgs false

set_option maxRecDepth 100000 in
set_option maxHeartbeats 2000000 in
theorem runhex_any (ss : List Int) (w : World) (hb : Bytes ss) (hm : ss.length ≤ 140737488355328) :
    Calls Tryd.prog 11 #[.string (strOfNums ss)] w fun e w' => ∃ v er, e = .returned (.tuple #[v, .int .i64 er]) ∧ UnO w w' (unx ss) v er ∧ Below w.heap.size w w' := by
  have hsz := str_size ss
  have hat : ∀ k (h : k < (strOfNums ss).size), ((strOfNums ss)[k].toNat : Int) = ss.getD k 0 := fun k h => by rw [← nums_at _ _ h, nums_str ss hb]
  generalize strOfNums ss = S at hsz hat  ⊢
  obtain ⟨n, hn⟩ : ∃ n, n = ss.length := ⟨_, rfl⟩
  rw [← hn] at hsz hm
  replace hn := Kpt.mk hn
  replace hat := Kpt.mk hat
  obtain ⟨c0, hc0⟩ : ∃ c, ss.getD 0 0 = c := ⟨_, rfl⟩
  obtain ⟨c1, hc1⟩ : ∃ c, ss.getD 1 0 = c := ⟨_, rfl⟩
  have hux : Kpt (unx ss = if 2 ≤ n ∧ c0 = 48 ∧ (c1 = 120 ∨ c1 = 88) ∧ n % 2 = 0 then unL (ss.drop 2) else none) := ⟨by unfold unx; rw [← hn.out, hc0, hc1]⟩
  replace hc0 := Kpt.mk hc0
  replace hc1 := Kpt.mk hc1
  replace hb := Kpt.mk hb
  by_cases g2 : 2 ≤ n
  · have x0 := hat.out 0 (by omega)
    have x1 := hat.out 1 (by omega)
    rw [hc0.out] at x0
    rw [hc1.out] at x1
    by_cases p0 : c0 = 48
    · by_cases p1 : c1 = 120
      · by_cases pe : n % 2 = 0
        · have hcond : Kpt (2 ≤ n ∧ c0 = 48 ∧ (c1 = 120 ∨ c1 = 88) ∧ n % 2 = 0) := ⟨g2, p0, .inl p1, pe⟩
          have pe2 : (n : Int) % 2 = 0 := by omega
          rw [p0] at x0
          rw [p1] at x1
          have n2 := g2
          clear pe p0 p1
          go_enter Tryd.func11, Tryd.ntmps11
          go_wp2
          clear pe2
          replace x0 := Kpt.mk x0
          replace x1 := Kpt.mk x1
          go_loopw [4, 5] (fun x t wr => ∃ (k i : Nat) (out : List Int), i ≤ n ∧ t = .int .i64 (i : Int) ∧ Kpt (i = 2 + 2 * k) ∧ Kpt (wr.ownsRow w.heap.size 5 1 x k (cels out)) ∧ Kpt (out.length = k) ∧ Kpt (unL (ss.drop 2) = (unL (ss.drop (2 + 2 * k))).map (out ++ ·)) ∧ Kpt (Below w.heap.size w wr)) (fun _ t _ => n - (intOf t).toNat)
          case atStart => exact ⟨0, 2, [], by omega, rfl, ⟨rfl⟩, ⟨World.ownsRow_nil _ _ 5 1⟩, ⟨rfl⟩, ⟨by simp⟩, ⟨Below.refl _ _⟩⟩
          case round =>
            obtain ⟨k, i, out, hk, rfl, hi, ho, hol, hu, hbe⟩ := hrel
            by_cases hlt : i < n
            · have hlt1 : i + 1 < n := by have := hi.out; have := hcond.out.2.2.2; omega
              have hd1 := hb.out (2 + 2 * k)
              have hd2 := hb.out (2 + 2 * k + 1)
              have hx1 := hat.out i (by omega)
              have hx2 := hat.out (i + 1) (by omega)
              rw [show ss.getD i 0 = ss.getD (2 + 2 * k) 0 by rw [hi.out]] at hx1
              rw [show ss.getD (i + 1) 0 = ss.getD (2 + 2 * k + 1) 0 by rw [hi.out]] at hx2
              have hlt1' := Kpt.mk (show 2 + 2 * k + 1 < ss.length by have := hn.out; have := hi.out; omega)
              have hno := Kpt.mk (unL_no hlt1'.out hu.out)
              have hyes := Kpt.mk (unL_yes hlt1'.out hu.out)
              generalize ss.getD (2 + 2 * k) 0 = y1 at hd1 hx1 hno hyes
              generalize ss.getD (2 + 2 * k + 1) 0 = y2 at hd2 hx2 hno hyes
              have q1 := Kpt.mk (fun w => value_any y1 w hd1.1 hd1.2)
              have q2 := Kpt.mk (fun w => value_any y2 w hd2.1 hd2.2)
              have l1 := digI_le y1
              have l2 := digI_le y2
              have hor := Kpt.mk (or_dig (digI y1) (digI y2))
              generalize digI y1 = d1 at q1 l1 hor hno hyes
              generalize digI y2 = d2 at q2 l2 hor hno hyes
              by_cases hn1 : d1 < 0
              · have hN := Kpt.mk (hno.out (.inl hn1))
                clear hor hyes hno
                go_wp2_with (first | (go_at_call_of 25 (Value.int .u8 y1); go_must (refine (q1.out _).mono ?_; rintro e wr ⟨rfl, rfl⟩)) | (go_at_call_of 25 (Value.int .u8 y2); go_must (refine (q2.out _).mono ?_; rintro e wr ⟨rfl, rfl⟩)))
                go_ret2
                exact ⟨_, _, rfl, by rw [hux.out, if_pos hcond.out, hN.out]; exact ⟨rfl, rfl⟩, hbe.out⟩
              · by_cases hn2 : d2 < 0
                · have hN := Kpt.mk (hno.out (.inr hn2))
                  clear hor hyes hno
                  go_wp2_with (first | (go_at_call_of 25 (Value.int .u8 y1); go_must (refine (q1.out _).mono ?_; rintro e wr ⟨rfl, rfl⟩)) | (go_at_call_of 25 (Value.int .u8 y2); go_must (refine (q2.out _).mono ?_; rintro e wr ⟨rfl, rfl⟩)))
                  go_ret2
                  exact ⟨_, _, rfl, by rw [hux.out, if_pos hcond.out, hN.out]; exact ⟨rfl, rfl⟩, hbe.out⟩
                · have hY := Kpt.mk (hyes.out (by omega))
                  have hor' := hor.out ⟨by omega, l1.2⟩ ⟨by omega, l2.2⟩
                  clear hor hyes hno
                  go_wp2_with (first
                    | (go_at_call_of 25 (Value.int .u8 y1); go_must (refine (q1.out _).mono ?_; rintro e wr ⟨rfl, rfl⟩)) | (go_at_call_of 25 (Value.int .u8 y2); go_must (refine (q2.out _).mono ?_; rintro e wr ⟨rfl, rfl⟩))
                    | (refine (?_ : wpList _ _ _ (Oper.mk (some 60) _ _ _ _ _ :: _) _ _); go_must (refine wpList_append_new rfl (.tmp 53) (.tmp 59) rfl w.heap.size u4 (.slice (some ⟨g5, 0, none⟩) 1 1) out [16 * d1 + d2] k (k + 1) rfl rfl ho5b.out (own_rd ho5.out) (by simp) hol.out (by simp) (by have := hi.out; omega) (by have := hb5.out.size; omega) ?_; intro g6 cap6 w6 ho6 hg6 hgr6; have hb6 : Kpt (Below w.heap.size w w6) := ⟨hb5.out.grown hgr6.out hb5.out.size (fun q e => (World.ownsRow.lt ho5b.out q e).1)⟩; clear hgr6 ho5b ho5 hb5))
                    | (refine (?_ : wpList _ _ _ (Oper.mk (some 59) _ _ _ _ _ :: _) _ _); go_must (refine wpList_built rfl 1 [16 * d1 + d2] (by kernel_rfl) rfl (by decide) ?_; intro g5 w5 hg5 ho5 hbe5; have ho5b : Kpt (w5.ownsRow w.heap.size 5 1 u4 k (cels out)) := ⟨own_of_block ho.out (fun q e => (hbe5).block q (World.ownsRow.lt ho.out q e).2)⟩; have hb5 : Kpt (Below w.heap.size w w5) := ⟨hbe.out.trans ((hbe5).mono hbe.out.size)⟩; replace ho5 := Kpt.mk ho5; clear hbe5 hg5)))
                  go_roundw
                  case rel => exact ⟨k + 1, i + 2, out ++ [16 * d1 + d2], by omega, by simp, ⟨by have := hi.out; omega⟩, ⟨ho6.out⟩, ⟨by simp [hol.out]⟩, hY, hb6⟩
                  case measure => simp [intOf]; omega
            · have hkn : Kpt (2 + 2 * k = n) := ⟨by have := hi.out; have := hcond.out.2.2.2; omega⟩
              obtain rfl : i = n := by omega
              have hfin : Kpt (unx ss = some out) := ⟨by rw [hux.out, if_pos hcond.out, hu.out, List.drop_eq_nil_of_le (by have := hn.out; have := hkn.out; omega)]; simp [unL]⟩
              go_wp2
              go_ret2
              exact ⟨_, _, rfl, by rw [hfin.out]; exact ⟨by rw [hol.out]; exact ho.out, rfl⟩, hbe.out⟩
        · have pe2 : (n : Int) % 2 = 1 := by omega
          rw [p0] at x0
          rw [p1] at x1
          go_enter Tryd.func11, Tryd.ntmps11
          go_wp2
          go_ret2
          exact ⟨_, _, rfl, by rw [hux.out, if_neg (by omega)]; exact ⟨rfl, rfl⟩, Below.refl _ _⟩
      · have p2 := p1
        clear p1
        by_cases p1 : c1 = 88
        · by_cases pe : n % 2 = 0
          · have hcond : Kpt (2 ≤ n ∧ c0 = 48 ∧ (c1 = 120 ∨ c1 = 88) ∧ n % 2 = 0) := ⟨g2, p0, .inr p1, pe⟩
            have pe2 : (n : Int) % 2 = 0 := by omega
            rw [p0] at x0
            rw [p1] at x1
            have n2 := g2
            clear pe p0 p1 p2
            go_enter Tryd.func11, Tryd.ntmps11
            go_wp2
            clear pe2
            replace x0 := Kpt.mk x0
            replace x1 := Kpt.mk x1
            go_loopw [4, 5] (fun x t wr => ∃ (k i : Nat) (out : List Int), i ≤ n ∧ t = .int .i64 (i : Int) ∧ Kpt (i = 2 + 2 * k) ∧ Kpt (wr.ownsRow w.heap.size 5 1 x k (cels out)) ∧ Kpt (out.length = k) ∧ Kpt (unL (ss.drop 2) = (unL (ss.drop (2 + 2 * k))).map (out ++ ·)) ∧ Kpt (Below w.heap.size w wr)) (fun _ t _ => n - (intOf t).toNat)
            case atStart => exact ⟨0, 2, [], by omega, rfl, ⟨rfl⟩, ⟨World.ownsRow_nil _ _ 5 1⟩, ⟨rfl⟩, ⟨by simp⟩, ⟨Below.refl _ _⟩⟩
            case round =>
              obtain ⟨k, i, out, hk, rfl, hi, ho, hol, hu, hbe⟩ := hrel
              by_cases hlt : i < n
              · have hlt1 : i + 1 < n := by have := hi.out; have := hcond.out.2.2.2; omega
                have hd1 := hb.out (2 + 2 * k)
                have hd2 := hb.out (2 + 2 * k + 1)
                have hx1 := hat.out i (by omega)
                have hx2 := hat.out (i + 1) (by omega)
                rw [show ss.getD i 0 = ss.getD (2 + 2 * k) 0 by rw [hi.out]] at hx1
                rw [show ss.getD (i + 1) 0 = ss.getD (2 + 2 * k + 1) 0 by rw [hi.out]] at hx2
                have hlt1' := Kpt.mk (show 2 + 2 * k + 1 < ss.length by have := hn.out; have := hi.out; omega)
                have hno := Kpt.mk (unL_no hlt1'.out hu.out)
                have hyes := Kpt.mk (unL_yes hlt1'.out hu.out)
                generalize ss.getD (2 + 2 * k) 0 = y1 at hd1 hx1 hno hyes
                generalize ss.getD (2 + 2 * k + 1) 0 = y2 at hd2 hx2 hno hyes
                have q1 := Kpt.mk (fun w => value_any y1 w hd1.1 hd1.2)
                have q2 := Kpt.mk (fun w => value_any y2 w hd2.1 hd2.2)
                have l1 := digI_le y1
                have l2 := digI_le y2
                have hor := Kpt.mk (or_dig (digI y1) (digI y2))
                generalize digI y1 = d1 at q1 l1 hor hno hyes
                generalize digI y2 = d2 at q2 l2 hor hno hyes
                by_cases hn1 : d1 < 0
                · have hN := Kpt.mk (hno.out (.inl hn1))
                  clear hor hyes hno
                  go_wp2_with (first | (go_at_call_of 25 (Value.int .u8 y1); go_must (refine (q1.out _).mono ?_; rintro e wr ⟨rfl, rfl⟩)) | (go_at_call_of 25 (Value.int .u8 y2); go_must (refine (q2.out _).mono ?_; rintro e wr ⟨rfl, rfl⟩)))
                  go_ret2
                  exact ⟨_, _, rfl, by rw [hux.out, if_pos hcond.out, hN.out]; exact ⟨rfl, rfl⟩, hbe.out⟩
                · by_cases hn2 : d2 < 0
                  · have hN := Kpt.mk (hno.out (.inr hn2))
                    clear hor hyes hno
                    go_wp2_with (first | (go_at_call_of 25 (Value.int .u8 y1); go_must (refine (q1.out _).mono ?_; rintro e wr ⟨rfl, rfl⟩)) | (go_at_call_of 25 (Value.int .u8 y2); go_must (refine (q2.out _).mono ?_; rintro e wr ⟨rfl, rfl⟩)))
                    go_ret2
                    exact ⟨_, _, rfl, by rw [hux.out, if_pos hcond.out, hN.out]; exact ⟨rfl, rfl⟩, hbe.out⟩
                  · have hY := Kpt.mk (hyes.out (by omega))
                    have hor' := hor.out ⟨by omega, l1.2⟩ ⟨by omega, l2.2⟩
                    clear hor hyes hno
                    go_wp2_with (first
                      | (go_at_call_of 25 (Value.int .u8 y1); go_must (refine (q1.out _).mono ?_; rintro e wr ⟨rfl, rfl⟩)) | (go_at_call_of 25 (Value.int .u8 y2); go_must (refine (q2.out _).mono ?_; rintro e wr ⟨rfl, rfl⟩))
                      | (refine (?_ : wpList _ _ _ (Oper.mk (some 60) _ _ _ _ _ :: _) _ _); go_must (refine wpList_append_new rfl (.tmp 53) (.tmp 59) rfl w.heap.size u4 (.slice (some ⟨g5, 0, none⟩) 1 1) out [16 * d1 + d2] k (k + 1) rfl rfl ho5b.out (own_rd ho5.out) (by simp) hol.out (by simp) (by have := hi.out; omega) (by have := hb5.out.size; omega) ?_; intro g6 cap6 w6 ho6 hg6 hgr6; have hb6 : Kpt (Below w.heap.size w w6) := ⟨hb5.out.grown hgr6.out hb5.out.size (fun q e => (World.ownsRow.lt ho5b.out q e).1)⟩; clear hgr6 ho5b ho5 hb5))
                      | (refine (?_ : wpList _ _ _ (Oper.mk (some 59) _ _ _ _ _ :: _) _ _); go_must (refine wpList_built rfl 1 [16 * d1 + d2] (by kernel_rfl) rfl (by decide) ?_; intro g5 w5 hg5 ho5 hbe5; have ho5b : Kpt (w5.ownsRow w.heap.size 5 1 u4 k (cels out)) := ⟨own_of_block ho.out (fun q e => (hbe5).block q (World.ownsRow.lt ho.out q e).2)⟩; have hb5 : Kpt (Below w.heap.size w w5) := ⟨hbe.out.trans ((hbe5).mono hbe.out.size)⟩; replace ho5 := Kpt.mk ho5; clear hbe5 hg5)))
                    go_roundw
                    case rel => exact ⟨k + 1, i + 2, out ++ [16 * d1 + d2], by omega, by simp, ⟨by have := hi.out; omega⟩, ⟨ho6.out⟩, ⟨by simp [hol.out]⟩, hY, hb6⟩
                    case measure => simp [intOf]; omega
              · have hkn : Kpt (2 + 2 * k = n) := ⟨by have := hi.out; have := hcond.out.2.2.2; omega⟩
                obtain rfl : i = n := by omega
                have hfin : Kpt (unx ss = some out) := ⟨by rw [hux.out, if_pos hcond.out, hu.out, List.drop_eq_nil_of_le (by have := hn.out; have := hkn.out; omega)]; simp [unL]⟩
                go_wp2
                go_ret2
                exact ⟨_, _, rfl, by rw [hfin.out]; exact ⟨by rw [hol.out]; exact ho.out, rfl⟩, hbe.out⟩
          · have pe2 : (n : Int) % 2 = 1 := by omega
            rw [p0] at x0
            rw [p1] at x1
            go_enter Tryd.func11, Tryd.ntmps11
            go_wp2
            go_ret2
            exact ⟨_, _, rfl, by rw [hux.out, if_neg (by omega)]; exact ⟨rfl, rfl⟩, Below.refl _ _⟩
        · rw [p0] at x0
          go_enter Tryd.func11, Tryd.ntmps11
          go_wp2
          go_ret2
          exact ⟨_, _, rfl, by rw [hux.out, if_neg (by omega)]; exact ⟨rfl, rfl⟩, Below.refl _ _⟩
    · go_enter Tryd.func11, Tryd.ntmps11
      go_wp2
      go_ret2
      exact ⟨_, _, rfl, by rw [hux.out, if_neg (by omega)]; exact ⟨rfl, rfl⟩, Below.refl _ _⟩
  · go_enter Tryd.func11, Tryd.ntmps11
    go_wp2
    go_ret2
    exact ⟨_, _, rfl, by rw [hux.out, if_neg (by omega)]; exact ⟨rfl, rfl⟩, Below.refl _ _⟩

end Go.Proofs.YtaedkofljmonjaaDoor
