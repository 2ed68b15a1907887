/-
  InqKeeps: the walk.
-/
import Derived.Test.YteoaadpilaljnaaICut
namespace Go.Proofs.Yteoaadpilaljnaa
open Go.RowKit
set_option linter.unusedVariables false
set_option linter.unusedSimpArgs false

set_option maxRecDepth 100000 in
set_option maxHeartbeats 4000000 in
theorem keeps_page (i : In) (p : Int) (w : World) (hi : i.wf) (hf : i.form = true) (hp : isVit p) : Calls Try.prog 6 #[.agg i.vals, .int .u8 p] w fun e w' => e = .returned (.bool true) ∧ Below w.heap.size w w' := by
  have HA := Kpt.mk awake_any
  have HP := Kpt.mk (fun W => page_some i p W hi hf hp)
  have hvl := vitL_len (p := p) hf
  obtain ⟨L, hL⟩ : ∃ L, L = pageL i p := ⟨_, rfl⟩
  have hLl : L.length = 4 + (vitL i p).length := by rw [hL]; unfold pageL; rw [List.length_append]; rfl
  rw [← hL] at HP
  obtain ⟨n, hn⟩ : ∃ n, n = L.length := ⟨_, rfl⟩
  rw [← hn] at HP hLl
  have hn0 : 0 < n ∧ n ≤ 64 := by omega
  obtain ⟨hn1, hn2⟩ := hn0
  replace hn := Kpt.mk hn
  obtain ⟨S, hS⟩ : ∃ S, S = strOfNums L := ⟨_, rfl⟩
  have HC : Kpt (∀ W v, RdAt W v L → (convert 25 9 v).run Try.prog W = .ok (.string S) W) := ⟨fun W v h => by rw [hS]; exact conv_rd h⟩
  obtain ⟨ve, pr, re, se, pt⟩ := i
  simp only [In.vals] at HP ⊢
  clear hL hLl hvl hf hi hS
  go_enter Try.func6, Try.ntmps6
  go_wp2_with fail
  refine (HA.out _).mono ?_
  rintro e w1 ⟨rfl, hb1⟩
  have hs0 : (w.alloc (.cells #[.string ve, .string pr, .string re, .string se, .int .u8 pt] 23)).heap.size = w.heap.size + 1 := by simp
  have hl1 : w.heap.size < w1.heap.size := by have := hb1.size; omega
  have zA0 : w1.cell? ⟨w.heap.size, 0, none⟩ = some (.string ve) := (hb1.cell (p := ⟨w.heap.size, 0, none⟩) (by show w.heap.size < _; omega)).trans (by simp)
  have zA1 : w1.cell? ⟨w.heap.size, 1, none⟩ = some (.string pr) := (hb1.cell (p := ⟨w.heap.size, 1, none⟩) (by show w.heap.size < _; omega)).trans (by simp)
  have zA2 : w1.cell? ⟨w.heap.size, 2, none⟩ = some (.string re) := (hb1.cell (p := ⟨w.heap.size, 2, none⟩) (by show w.heap.size < _; omega)).trans (by simp)
  have zA3 : w1.cell? ⟨w.heap.size, 3, none⟩ = some (.string se) := (hb1.cell (p := ⟨w.heap.size, 3, none⟩) (by show w.heap.size < _; omega)).trans (by simp)
  have zA4 : w1.cell? ⟨w.heap.size, 4, none⟩ = some (.int .u8 pt) := (hb1.cell (p := ⟨w.heap.size, 4, none⟩) (by show w.heap.size < _; omega)).trans (by simp)
  have hB1 : Kpt (Below w.heap.size w w1) := ⟨((Below.refl _ _).alloc (Nat.le_refl _) _).trans (hb1.mono (by omega))⟩
  clear hb1 hs0 HA
  go_wp2_with fail
  refine (HP.out w1).mono ?_
  rintro e w2 ⟨g, k, rfl, ho2, hb2⟩
  have zB0 : w2.cell? ⟨w.heap.size, 0, none⟩ = some (.string ve) := (hb2.cell (p := ⟨w.heap.size, 0, none⟩) (by show w.heap.size < _; omega)).trans zA0
  have zB1 : w2.cell? ⟨w.heap.size, 1, none⟩ = some (.string pr) := (hb2.cell (p := ⟨w.heap.size, 1, none⟩) (by show w.heap.size < _; omega)).trans zA1
  have zB2 : w2.cell? ⟨w.heap.size, 2, none⟩ = some (.string re) := (hb2.cell (p := ⟨w.heap.size, 2, none⟩) (by show w.heap.size < _; omega)).trans zA2
  have zB3 : w2.cell? ⟨w.heap.size, 3, none⟩ = some (.string se) := (hb2.cell (p := ⟨w.heap.size, 3, none⟩) (by show w.heap.size < _; omega)).trans zA3
  have zB4 : w2.cell? ⟨w.heap.size, 4, none⟩ = some (.int .u8 pt) := (hb2.cell (p := ⟨w.heap.size, 4, none⟩) (by show w.heap.size < _; omega)).trans zA4
  have hB2 : Kpt (Below w.heap.size w w2) := ⟨hB1.out.trans (hb2.mono hB1.out.size)⟩
  have hgl := (World.ownsRow.lt ho2 g rfl).2
  have hl2 : w.heap.size < w2.heap.size := Nat.lt_of_lt_of_le hl1 hb2.size
  have hrd2 := Kpt.mk (own_rd ho2)
  have HCut := Kpt.mk (cut_all g n k L w2 hn.out.symm hn1 (by omega) hrd2.out hgl)
  clear zA0 zA1 zA2 zA3 zA4 hb2 hB1 hl1 ho2
  go_wp2_with fail
  refine HCut.out.mono ?_
  rintro e w3 ⟨g2, rfl, ho3, hb3⟩
  have hrd3 := rd_below hrd2.out hb3
  have hcv3 := HC.out w3 _ hrd3
  have hg2b := (World.ownsRow.lt ho3 g2 rfl).1
  replace ho3 := Kpt.mk ho3
  replace hb3 := Kpt.mk hb3
  clear HCut
  go_wp2_with fail
  go_loopw [9] (fun t wr => ∃ (j : Nat) (Q : List Int), j ≤ n ∧ t = .int .i64 j ∧ Kpt (wr.ownsRow w2.heap.size 5 1 (.slice (some ⟨g2, 0, none⟩) n n) n (cels Q)) ∧ Kpt (Below w2.heap.size w2 wr)) (fun t _ => n - (intOf t).toNat)
  case atStart => exact ⟨0, L, by omega, rfl, ho3, hb3⟩
  case round =>
    obtain ⟨j, Q, hj, rfl, hoQ, hbQ⟩ := hrel
    clear ho3 hb3 hcv3 hrd3
    by_cases hlt : j < n
    · have e1 : (j : Int) < n := by omega
      have cq := own_facts hoQ.out j hlt
      have fq := hoQ.out.frozenAt j
      obtain ⟨x, hx⟩ : ∃ x, x = Q.getD j 0 := ⟨_, rfl⟩
      rw [← hx] at cq
      clear hx zB0 zB1 zB2 zB3 zB4
      go_wp2
      go_roundw
      case rel => exact ⟨j + 1, Q.set j (IntKind.u8.wrap (x + 1)), by omega, by go_num, ⟨by first | exact own_set hoQ.out j _ | (rw [IntKind.wrap_u8]; exact own_set hoQ.out j _)⟩, ⟨hbQ.out.setCell (p := ⟨g2, j, none⟩) hg2b _⟩⟩
      case measure => simp [intOf]; omega
    · have e1 : ¬ (j : Int) < n := by omega
      have hbq := hbQ.out
      have hlr : w.heap.size < wr.heap.size := Nat.lt_of_lt_of_le hl2 hbq.size
      have zC0 : wr.cell? ⟨w.heap.size, 0, none⟩ = some (.string ve) := (hbq.cell (p := ⟨w.heap.size, 0, none⟩) (by show w.heap.size < _; omega)).trans zB0
      have zC1 : wr.cell? ⟨w.heap.size, 1, none⟩ = some (.string pr) := (hbq.cell (p := ⟨w.heap.size, 1, none⟩) (by show w.heap.size < _; omega)).trans zB1
      have zC2 : wr.cell? ⟨w.heap.size, 2, none⟩ = some (.string re) := (hbq.cell (p := ⟨w.heap.size, 2, none⟩) (by show w.heap.size < _; omega)).trans zB2
      have zC3 : wr.cell? ⟨w.heap.size, 3, none⟩ = some (.string se) := (hbq.cell (p := ⟨w.heap.size, 3, none⟩) (by show w.heap.size < _; omega)).trans zB3
      have zC4 : wr.cell? ⟨w.heap.size, 4, none⟩ = some (.int .u8 pt) := (hbq.cell (p := ⟨w.heap.size, 4, none⟩) (by show w.heap.size < _; omega)).trans zB4
      have hrdr := rd_below hrd2.out hbq
      have hBr : Kpt (Below w.heap.size w wr) := ⟨hB2.out.trans (hbq.mono hB2.out.size)⟩
      replace hrdr := Kpt.mk hrdr
      clear hoQ hbQ hbq zB0 zB1 zB2 zB3 zB4 hB2 hrd2
      go_wp2_with fail
      refine (HP.out wr).mono ?_
      rintro e w5 ⟨g5, k5, rfl, ho5, hb5⟩
      have hc1 := HC.out w5 _ (rd_below hrdr.out hb5)
      have hc2 := HC.out w5 _ (own_rd ho5)
      have hB5 : Kpt (Below w.heap.size w w5) := ⟨hBr.out.trans (hb5.mono hBr.out.size)⟩
      clear zC0 zC1 zC2 zC3 zC4 ho5 hb5 hrdr hBr HP HC
      go_wp2_with fail
      go_ret
      exact ⟨by first | rfl | simp, hB5.out⟩

set_option maxRecDepth 100000 in
set_option maxHeartbeats 4000000 in
theorem keeps_none (i : In) (p : Int) (w : World) (HP0 : ∀ W, Calls Try.prog 10 #[.agg i.vals, .int .u8 p] W fun e w' => e = .returned (.tuple #[.slice none 0 0, .bool false]) ∧ Below W.heap.size W w') : Calls Try.prog 6 #[.agg i.vals, .int .u8 p] w fun e w' => e = .returned (.bool true) ∧ Below w.heap.size w w' := by
  have HA := Kpt.mk awake_any
  have HP := Kpt.mk HP0
  have hcn : ∀ W, (convert 25 9 (.slice none 0 0)).run Try.prog W = .ok (.string ⟨#[]⟩) W := fun W => (conv_rd (rd_nil W)).trans rfl
  replace hcn := Kpt.mk hcn
  obtain ⟨ve, pr, re, se, pt⟩ := i
  simp only [In.vals] at HP ⊢
  clear HP0
  go_enter Try.func6, Try.ntmps6
  go_wp2_with fail
  refine (HA.out _).mono ?_
  rintro e w1 ⟨rfl, hb1⟩
  have hs0 : (w.alloc (.cells #[.string ve, .string pr, .string re, .string se, .int .u8 pt] 23)).heap.size = w.heap.size + 1 := by simp
  have hl1 : w.heap.size < w1.heap.size := by have := hb1.size; omega
  have zA0 : w1.cell? ⟨w.heap.size, 0, none⟩ = some (.string ve) := (hb1.cell (p := ⟨w.heap.size, 0, none⟩) (by show w.heap.size < _; omega)).trans (by simp)
  have zA1 : w1.cell? ⟨w.heap.size, 1, none⟩ = some (.string pr) := (hb1.cell (p := ⟨w.heap.size, 1, none⟩) (by show w.heap.size < _; omega)).trans (by simp)
  have zA2 : w1.cell? ⟨w.heap.size, 2, none⟩ = some (.string re) := (hb1.cell (p := ⟨w.heap.size, 2, none⟩) (by show w.heap.size < _; omega)).trans (by simp)
  have zA3 : w1.cell? ⟨w.heap.size, 3, none⟩ = some (.string se) := (hb1.cell (p := ⟨w.heap.size, 3, none⟩) (by show w.heap.size < _; omega)).trans (by simp)
  have zA4 : w1.cell? ⟨w.heap.size, 4, none⟩ = some (.int .u8 pt) := (hb1.cell (p := ⟨w.heap.size, 4, none⟩) (by show w.heap.size < _; omega)).trans (by simp)
  have hB1 : Kpt (Below w.heap.size w w1) := ⟨((Below.refl _ _).alloc (Nat.le_refl _) _).trans (hb1.mono (by omega))⟩
  clear hb1 hs0 HA
  go_wp2_with fail
  refine (HP.out w1).mono ?_
  rintro e w2 ⟨rfl, hb2⟩
  have zB0 : w2.cell? ⟨w.heap.size, 0, none⟩ = some (.string ve) := (hb2.cell (p := ⟨w.heap.size, 0, none⟩) (by show w.heap.size < _; omega)).trans zA0
  have zB1 : w2.cell? ⟨w.heap.size, 1, none⟩ = some (.string pr) := (hb2.cell (p := ⟨w.heap.size, 1, none⟩) (by show w.heap.size < _; omega)).trans zA1
  have zB2 : w2.cell? ⟨w.heap.size, 2, none⟩ = some (.string re) := (hb2.cell (p := ⟨w.heap.size, 2, none⟩) (by show w.heap.size < _; omega)).trans zA2
  have zB3 : w2.cell? ⟨w.heap.size, 3, none⟩ = some (.string se) := (hb2.cell (p := ⟨w.heap.size, 3, none⟩) (by show w.heap.size < _; omega)).trans zA3
  have zB4 : w2.cell? ⟨w.heap.size, 4, none⟩ = some (.int .u8 pt) := (hb2.cell (p := ⟨w.heap.size, 4, none⟩) (by show w.heap.size < _; omega)).trans zA4
  have hB2 : Kpt (Below w.heap.size w w2) := ⟨hB1.out.trans (hb2.mono hB1.out.size)⟩
  have hl2 : w.heap.size < w2.heap.size := Nat.lt_of_lt_of_le hl1 hb2.size
  clear zA0 zA1 zA2 zA3 zA4 hb2 hB1 hl1
  go_wp2_with fail
  refine (cut_nil w2).mono ?_
  rintro e w3 ⟨a, k, rfl, hb3⟩
  have zC0 : w3.cell? ⟨w.heap.size, 0, none⟩ = some (.string ve) := (hb3.cell (p := ⟨w.heap.size, 0, none⟩) (by show w.heap.size < _; omega)).trans zB0
  have zC1 : w3.cell? ⟨w.heap.size, 1, none⟩ = some (.string pr) := (hb3.cell (p := ⟨w.heap.size, 1, none⟩) (by show w.heap.size < _; omega)).trans zB1
  have zC2 : w3.cell? ⟨w.heap.size, 2, none⟩ = some (.string re) := (hb3.cell (p := ⟨w.heap.size, 2, none⟩) (by show w.heap.size < _; omega)).trans zB2
  have zC3 : w3.cell? ⟨w.heap.size, 3, none⟩ = some (.string se) := (hb3.cell (p := ⟨w.heap.size, 3, none⟩) (by show w.heap.size < _; omega)).trans zB3
  have zC4 : w3.cell? ⟨w.heap.size, 4, none⟩ = some (.int .u8 pt) := (hb3.cell (p := ⟨w.heap.size, 4, none⟩) (by show w.heap.size < _; omega)).trans zB4
  have hB3 : Kpt (Below w.heap.size w w3) := ⟨hB2.out.trans (hb3.mono hB2.out.size)⟩
  have hl3 : w.heap.size < w3.heap.size := Nat.lt_of_lt_of_le hl2 hb3.size
  have hc3 := hcn.out w3
  clear zB0 zB1 zB2 zB3 zB4 hb3 hB2 hl2
  go_wp2_with fail
  go_loopw [9] (fun t wr => t = .int .i64 0 ∧ Kpt (wr = w3)) (fun _ _ => 0)
  case atStart => exact ⟨rfl, ⟨rfl⟩⟩
  case round =>
    obtain ⟨rfl, hw⟩ := hrel
    have := hw.out
    subst this
    go_wp2_with fail
    refine (HP.out _).mono ?_
    rintro e w5 ⟨rfl, hb5⟩
    have hc1 := hcn.out w5
    have hB5 : Kpt (Below w.heap.size w w5) := ⟨hB3.out.trans (hb5.mono hB3.out.size)⟩
    clear hb5 hB3 HP zC0 zC1 zC2 zC3 zC4
    go_wp2_with fail
    go_ret
    exact ⟨by first | rfl | simp, hB5.out⟩

theorem keeps_any (i : In) (p : Int) (w : World) (hi : i.wf) : Calls Try.prog 6 #[.agg i.vals, .int .u8 p] w fun e w' => e = .returned (.bool true) ∧ Below w.heap.size w w' := by
  cases hf : i.form
  · exact keeps_none i p w (fun W => page_bad i p W hi hf)
  · by_cases hp : isVit p
    · exact keeps_page i p w hi hf hp
    · exact keeps_none i p w (fun W => page_no i p W hi hf hp)
end Go.Proofs.Yteoaadpilaljnaa
