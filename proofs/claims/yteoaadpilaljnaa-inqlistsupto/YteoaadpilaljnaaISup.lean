/-
  InqSupports: the walk.
-/
import Derived.Test.YteoaadpilaljnaaIStd
namespace Go.Proofs.Yteoaadpilaljnaa
open Go.RowKit
set_option linter.unusedVariables false
set_option linter.unusedSimpArgs false

theorem wanted_at (b : Bool) {o oj : Oper} {ops : Array Oper} {tmps : Array Value} {j d : Nat} (hg : o.guard = some (j, b)) (hj : ops[j]? = some oj) (hd : oj.dst = some d) (ht : tmps[d]? = some (.bool b)) : Region.wanted o (yielded ops tmps) = true := by
  unfold Region.wanted yielded
  rw [hg]
  simp [hj, hd, ht]

theorem wpAnyC_skip {P : Program} {md : Region.Mode} {ops : Array Oper} {C : World → Prop} {Q : Exit → Act → World → Prop} (i : Nat) {oi : Oper} {fuel : Nat} {listed : Array Bool} {a : Act} {w : World} (hi : ops[i]? = some oi)
    (hs : Region.noSelect ops = true) (hf : Region.free md ops listed i = true) (hr : (Region.ready md ops listed).contains i = true)
    (hQ : ∀ c a w, Q (.panic c) (a.put oi.dst undef) w → Q (.panic c) a w) (hw : Region.wanted oi (yielded ops a.tmps) = false)
    (h : wpAnyC P md ops C Q fuel (listed.setIfInBounds i true) (a.put oi.dst undef) w) : wpAnyC P md ops C Q (fuel + 1) listed a w :=
  wpAnyC_first hi (Region.noSelect_spec hs) hQ fuel listed a w (Region.free_spec hi hf) (by simpa using hr) (.inr ⟨hw, rfl⟩) h
theorem wanted_no (b : Bool) {o oj : Oper} {ops : Array Oper} {tmps : Array Value} {j d : Nat} (hg : o.guard = some (j, b)) (hj : ops[j]? = some oj) (hd : oj.dst = some d) (ht : tmps[d]? = some (.bool !b)) : Region.wanted o (yielded ops tmps) = false := by
  unfold Region.wanted yielded
  rw [hg]
  cases b <;> simp [hj, hd, ht]
theorem wanted_undef (b : Bool) {o oj : Oper} {ops : Array Oper} {tmps : Array Value} {j d : Nat} (hg : o.guard = some (j, b)) (hj : ops[j]? = some oj) (hd : oj.dst = some d) (ht : tmps[d]? = some undef) : Region.wanted o (yielded ops tmps) = false := by
  unfold Region.wanted yielded
  rw [hg]
  simp [hj, hd, ht, undef]

/-- Is it named among the first ones of the list? -/
def nm (k : Int) (j : Nat) : Bool := (decide (4 < j) && decide (k = 0)) || (decide (5 < j) && decide (k = 128)) || (decide (6 < j) && decide (k = 131)) || (decide (7 < j) && decide (k = 176)) || (decide (8 < j) && decide (k = 178))
theorem nm_vit {k : Int} (h : isVit k) : nm k 9 = true := by rcases h with rfl | rfl | rfl | rfl | rfl <;> decide
theorem nm_no {k : Int} (h : ¬ isVit k) : nm k 9 = false := by
  unfold isVit at h
  unfold nm
  simp
  omega
theorem page0 (i : In) : pageL i 0 = [0, 0, 0, 5, 0, 128, 131, 176, 178] := rfl

set_option maxRecDepth 100000 in
set_option maxHeartbeats 2000000 in
theorem sup_bad (i : In) (w : World) (hi : i.wf) (hf : i.form = false) : Calls Try.prog 5 #[.agg i.vals] w fun e w' => e = .returned (.bool true) ∧ Below w.heap.size w w' := by
  have HA := Kpt.mk awake_any
  have HP := Kpt.mk (fun W => page_bad i 0 W hi hf)
  have HF := Kpt.mk (fun W => form_any i W hi)
  rw [hf] at HF
  have HS := Kpt.mk (fun W => std_bad i W hi hf)
  obtain ⟨ve, pr, re, se, pt⟩ := i
  simp only [In.vals] at HP HF HS ⊢
  clear hi hf
  go_enter Try.func5, Try.ntmps5
  go_wp2_with fail
  refine (HA.out _).mono ?_
  rintro e w1 ⟨rfl, hb1⟩
  have hs0 : (w.alloc (.cells #[.string ve, .string pr, .string re, .string se, .int .u8 pt] 23)).heap.size = w.heap.size + 1 := by simp
  have hl1 : w.heap.size < w1.heap.size := by have := hb1.size; omega
  have zA0 : w1.cell? ⟨w.heap.size, 0, none⟩ = some (.string ve) := (hb1.cell (p := ⟨w.heap.size, 0, none⟩) (by show w.heap.size < _; omega)).trans (by simp)
  have zA1 : w1.cell? ⟨w.heap.size, 1, none⟩ = some (.string pr) := (hb1.cell (p := ⟨w.heap.size, 1, none⟩) (by show w.heap.size < _; omega)).trans (by simp)
  have zA2 : w1.cell? ⟨w.heap.size, 2, none⟩ = some (.string re) := (hb1.cell (p := ⟨w.heap.size, 2, none⟩) (by show w.heap.size < _; omega)).trans (by simp)
  have zA3 : w1.cell? ⟨w.heap.size, 3, none⟩ = some (.string se) := (hb1.cell (p := ⟨w.heap.size, 3, none⟩) (by show w.heap.size < _; omega)).trans (by simp)
  have zA4 : w1.cell? ⟨w.heap.size, 4, none⟩ = some (.int .u8 pt) := (hb1.cell (p := ⟨w.heap.size, 4, none⟩) (by show w.heap.size < _; omega)).trans (by simp)
  have hB1 : Kpt (Below w.heap.size w w1) := ⟨((Below.refl _ _).alloc (Nat.le_refl _) _).trans (hb1.mono (by omega))⟩
  clear hb1 hs0 HA
  go_wp2_with fail
  refine (HP.out w1).mono ?_
  rintro e w2 ⟨rfl, hb2⟩
  have zB0 : w2.cell? ⟨w.heap.size, 0, none⟩ = some (.string ve) := (hb2.cell (p := ⟨w.heap.size, 0, none⟩) (by show w.heap.size < _; omega)).trans zA0
  have zB1 : w2.cell? ⟨w.heap.size, 1, none⟩ = some (.string pr) := (hb2.cell (p := ⟨w.heap.size, 1, none⟩) (by show w.heap.size < _; omega)).trans zA1
  have zB2 : w2.cell? ⟨w.heap.size, 2, none⟩ = some (.string re) := (hb2.cell (p := ⟨w.heap.size, 2, none⟩) (by show w.heap.size < _; omega)).trans zA2
  have zB3 : w2.cell? ⟨w.heap.size, 3, none⟩ = some (.string se) := (hb2.cell (p := ⟨w.heap.size, 3, none⟩) (by show w.heap.size < _; omega)).trans zA3
  have zB4 : w2.cell? ⟨w.heap.size, 4, none⟩ = some (.int .u8 pt) := (hb2.cell (p := ⟨w.heap.size, 4, none⟩) (by show w.heap.size < _; omega)).trans zA4
  have hB2 : Kpt (Below w.heap.size w w2) := ⟨hB1.out.trans (hb2.mono hB1.out.size)⟩
  have hl2 : w.heap.size < w2.heap.size := Nat.lt_of_lt_of_le hl1 hb2.size
  clear zA0 zA1 zA2 zA3 zA4 hb2 hB1 hl1
  go_wp2_with fail
  refine (HF.out w2).mono ?_
  rintro e w3 ⟨rfl, hb3⟩
  have zC0 : w3.cell? ⟨w.heap.size, 0, none⟩ = some (.string ve) := (hb3.cell (p := ⟨w.heap.size, 0, none⟩) (by show w.heap.size < _; omega)).trans zB0
  have zC1 : w3.cell? ⟨w.heap.size, 1, none⟩ = some (.string pr) := (hb3.cell (p := ⟨w.heap.size, 1, none⟩) (by show w.heap.size < _; omega)).trans zB1
  have zC2 : w3.cell? ⟨w.heap.size, 2, none⟩ = some (.string re) := (hb3.cell (p := ⟨w.heap.size, 2, none⟩) (by show w.heap.size < _; omega)).trans zB2
  have zC3 : w3.cell? ⟨w.heap.size, 3, none⟩ = some (.string se) := (hb3.cell (p := ⟨w.heap.size, 3, none⟩) (by show w.heap.size < _; omega)).trans zB3
  have zC4 : w3.cell? ⟨w.heap.size, 4, none⟩ = some (.int .u8 pt) := (hb3.cell (p := ⟨w.heap.size, 4, none⟩) (by show w.heap.size < _; omega)).trans zB4
  have hB3 : Kpt (Below w.heap.size w w3) := ⟨hB2.out.trans (hb3.mono hB2.out.size)⟩
  have hl3 : w.heap.size < w3.heap.size := Nat.lt_of_lt_of_le hl2 hb3.size
  clear zB0 zB1 zB2 zB3 zB4 hb3 hB2 hl2
  go_wp2_with fail
  refine (HS.out w3).mono ?_
  rintro e w4 ⟨rfl, hb4⟩
  have hB4 : Kpt (Below w.heap.size w w4) := ⟨hB3.out.trans (hb4.mono hB3.out.size)⟩
  clear zC0 zC1 zC2 zC3 zC4 hb4 hB3 hl3
  go_wp2_with fail
  go_ret
  exact ⟨rfl, hB4.out⟩

set_option maxRecDepth 100000 in
set_option maxHeartbeats 8000000 in
theorem sup_good (i : In) (w : World) (hi : i.wf) (hf : i.form = true) : Calls Try.prog 5 #[.agg i.vals] w fun e w' => e = .returned (.bool true) ∧ Below w.heap.size w w' := by
  have HA := Kpt.mk awake_any
  have HP0 := Kpt.mk (fun W => page_some i 0 W hi hf (.inl rfl))
  rw [page0, show ([0, 0, 0, 5, 0, 128, 131, 176, 178] : List Int).length = 9 from rfl] at HP0
  have HF := Kpt.mk (fun W => form_any i W hi)
  rw [hf] at HF
  have HS := Kpt.mk (fun W => std_some i W hi hf)
  have HPv := Kpt.mk (fun (p : Int) (hp : isVit p) W => page_some i p W hi hf hp)
  have HPn := Kpt.mk (fun (p : Int) (hp : ¬ isVit p) W => page_no i p W hi hf hp)
  have hvl := Kpt.mk (fun p : Int => vitL_len (i := i) (p := p) hf)
  have hpl : Kpt (∀ p : Int, (pageL i p).length = 4 + (vitL i p).length ∧ (pageL i p).getD 1 0 = p ∧ (pageL i p).getD 2 0 = 0 ∧ (pageL i p).getD 3 0 = ((vitL i p).length : Int)) := ⟨fun p => ⟨by unfold pageL; rw [List.length_append]; rfl, rfl, rfl, rfl⟩⟩
  have hs4 : Kpt ((stdL i).getD 4 0 = 31) := ⟨rfl⟩
  obtain ⟨LS, hLS⟩ : ∃ L, L = stdL i := ⟨_, rfl⟩
  rw [← hLS] at HS hs4
  generalize hPL : pageL i = PL at *
  generalize hVL : vitL i = VL at *
  obtain ⟨ve, pr, re, se, pt⟩ := i
  simp only [In.vals] at HP0 HF HS HPv HPn ⊢
  clear hi hf hLS hPL hVL
  go_enter Try.func5, Try.ntmps5
  go_wp2_with fail
  refine (HA.out _).mono ?_
  rintro e w1 ⟨rfl, hb1⟩
  have hs0 : (w.alloc (.cells #[.string ve, .string pr, .string re, .string se, .int .u8 pt] 23)).heap.size = w.heap.size + 1 := by simp
  have hl1 : w.heap.size < w1.heap.size := by have := hb1.size; omega
  have zA0 : w1.cell? ⟨w.heap.size, 0, none⟩ = some (.string ve) := (hb1.cell (p := ⟨w.heap.size, 0, none⟩) (by show w.heap.size < _; omega)).trans (by simp)
  have zA1 : w1.cell? ⟨w.heap.size, 1, none⟩ = some (.string pr) := (hb1.cell (p := ⟨w.heap.size, 1, none⟩) (by show w.heap.size < _; omega)).trans (by simp)
  have zA2 : w1.cell? ⟨w.heap.size, 2, none⟩ = some (.string re) := (hb1.cell (p := ⟨w.heap.size, 2, none⟩) (by show w.heap.size < _; omega)).trans (by simp)
  have zA3 : w1.cell? ⟨w.heap.size, 3, none⟩ = some (.string se) := (hb1.cell (p := ⟨w.heap.size, 3, none⟩) (by show w.heap.size < _; omega)).trans (by simp)
  have zA4 : w1.cell? ⟨w.heap.size, 4, none⟩ = some (.int .u8 pt) := (hb1.cell (p := ⟨w.heap.size, 4, none⟩) (by show w.heap.size < _; omega)).trans (by simp)
  have hB1 : Kpt (Below w.heap.size w w1) := ⟨((Below.refl _ _).alloc (Nat.le_refl _) _).trans (hb1.mono (by omega))⟩
  clear hb1 hs0 HA
  go_wp2_with fail
  refine (HP0.out w1).mono ?_
  rintro e w2 ⟨g0, k0, rfl, ho2, hb2⟩
  have zB0 : w2.cell? ⟨w.heap.size, 0, none⟩ = some (.string ve) := (hb2.cell (p := ⟨w.heap.size, 0, none⟩) (by show w.heap.size < _; omega)).trans zA0
  have zB1 : w2.cell? ⟨w.heap.size, 1, none⟩ = some (.string pr) := (hb2.cell (p := ⟨w.heap.size, 1, none⟩) (by show w.heap.size < _; omega)).trans zA1
  have zB2 : w2.cell? ⟨w.heap.size, 2, none⟩ = some (.string re) := (hb2.cell (p := ⟨w.heap.size, 2, none⟩) (by show w.heap.size < _; omega)).trans zA2
  have zB3 : w2.cell? ⟨w.heap.size, 3, none⟩ = some (.string se) := (hb2.cell (p := ⟨w.heap.size, 3, none⟩) (by show w.heap.size < _; omega)).trans zA3
  have zB4 : w2.cell? ⟨w.heap.size, 4, none⟩ = some (.int .u8 pt) := (hb2.cell (p := ⟨w.heap.size, 4, none⟩) (by show w.heap.size < _; omega)).trans zA4
  have hB2 : Kpt (Below w.heap.size w w2) := ⟨hB1.out.trans (hb2.mono hB1.out.size)⟩
  have hl2 : w.heap.size < w2.heap.size := Nat.lt_of_lt_of_le hl1 hb2.size
  have hg0 := (World.ownsRow.lt ho2 g0 rfl).2
  replace ho2 := Kpt.mk ho2
  clear zA0 zA1 zA2 zA3 zA4 hb2 hB1 hl1
  go_wp2_with fail
  refine (HF.out w2).mono ?_
  rintro e w3 ⟨rfl, hb3⟩
  have zC0 : w3.cell? ⟨w.heap.size, 0, none⟩ = some (.string ve) := (hb3.cell (p := ⟨w.heap.size, 0, none⟩) (by show w.heap.size < _; omega)).trans zB0
  have zC1 : w3.cell? ⟨w.heap.size, 1, none⟩ = some (.string pr) := (hb3.cell (p := ⟨w.heap.size, 1, none⟩) (by show w.heap.size < _; omega)).trans zB1
  have zC2 : w3.cell? ⟨w.heap.size, 2, none⟩ = some (.string re) := (hb3.cell (p := ⟨w.heap.size, 2, none⟩) (by show w.heap.size < _; omega)).trans zB2
  have zC3 : w3.cell? ⟨w.heap.size, 3, none⟩ = some (.string se) := (hb3.cell (p := ⟨w.heap.size, 3, none⟩) (by show w.heap.size < _; omega)).trans zB3
  have zC4 : w3.cell? ⟨w.heap.size, 4, none⟩ = some (.int .u8 pt) := (hb3.cell (p := ⟨w.heap.size, 4, none⟩) (by show w.heap.size < _; omega)).trans zB4
  have hB3 : Kpt (Below w.heap.size w w3) := ⟨hB2.out.trans (hb3.mono hB2.out.size)⟩
  have hl3 : w.heap.size < w3.heap.size := Nat.lt_of_lt_of_le hl2 hb3.size
  have ho3 : Kpt (∀ W, Below w3.heap.size w3 W → ∀ j, j < 9 → W.cell? ⟨g0, j, none⟩ = some (.int .u8 (([0, 0, 0, 5, 0, 128, 131, 176, 178] : List Int).getD j 0))) := ⟨fun W hW j hj => (hW.cell (p := ⟨g0, j, none⟩) (Nat.lt_of_lt_of_le hg0 hb3.size)).trans ((hb3.cell (p := ⟨g0, j, none⟩) hg0).trans (own_facts ho2.out j hj))⟩
  clear zB0 zB1 zB2 zB3 zB4 hb3 hB2 hl2 ho2 HP0 HF
  go_wp2_with fail
  go_loopw [5] (fun t wr => ∃ k : Nat, k ≤ 256 ∧ t = .int .i64 k ∧ Kpt (Below w3.heap.size w3 wr)) (fun t _ => 256 - (intOf t).toNat)
  case atStart => exact ⟨0, by omega, rfl, ⟨Below.refl _ _⟩⟩
  case round =>
    obtain ⟨k, hk, rfl, hbk⟩ := hrel
    have hbq := hbk.out
    have hlr : w.heap.size < wr.heap.size := Nat.lt_of_lt_of_le hl3 hbq.size
    have zD0 : wr.cell? ⟨w.heap.size, 0, none⟩ = some (.string ve) := (hbq.cell (p := ⟨w.heap.size, 0, none⟩) (by show w.heap.size < _; omega)).trans zC0
    have zD1 : wr.cell? ⟨w.heap.size, 1, none⟩ = some (.string pr) := (hbq.cell (p := ⟨w.heap.size, 1, none⟩) (by show w.heap.size < _; omega)).trans zC1
    have zD2 : wr.cell? ⟨w.heap.size, 2, none⟩ = some (.string re) := (hbq.cell (p := ⟨w.heap.size, 2, none⟩) (by show w.heap.size < _; omega)).trans zC2
    have zD3 : wr.cell? ⟨w.heap.size, 3, none⟩ = some (.string se) := (hbq.cell (p := ⟨w.heap.size, 3, none⟩) (by show w.heap.size < _; omega)).trans zC3
    have zD4 : wr.cell? ⟨w.heap.size, 4, none⟩ = some (.int .u8 pt) := (hbq.cell (p := ⟨w.heap.size, 4, none⟩) (by show w.heap.size < _; omega)).trans zC4
    by_cases hlt : k < 256
    · have e1 : (k : Int) < 256 := by omega
      have v1 : IntKind.u8.wrap (k : Int) = k := by rw [IntKind.wrap_u8]; omega
      by_cases hv : isVit (k : Int)
      · have H := Kpt.mk (HPv.out k hv wr)
        have hnm := nm_vit hv
        have hq := hpl.out (k : Int)
        have hvm := hvl.out (k : Int)
        generalize PL (k : Int) = P at *
        obtain ⟨m, hm⟩ : ∃ m, m = (VL (k : Int)).length := ⟨_, rfl⟩
        rw [← hm] at hq hvm
        obtain ⟨hq0, hq1, hq2, hq3⟩ := hq
        rw [hq0] at H
        clear hm hbq
        go_wp2_with fail
        refine H.out.mono ?_
        rintro e w5 ⟨g6, k6, rfl, ho5, hb5⟩
        have hw35 : Kpt (Below w3.heap.size w3 w5) := ⟨hbk.out.trans (hb5.mono hbk.out.size)⟩
        have hL5 := Kpt.mk (ho3.out w5 hw35.out)
        have c1 := own_facts ho5 1 (by omega)
        have c2 := own_facts ho5 2 (by omega)
        have c3 := own_facts ho5 3 (by omega)
        rw [hq1] at c1
        rw [hq2] at c2
        rw [hq3] at c3
        have cK := Kpt.mk (And.intro c1 (And.intro c2 c3))
        clear H hb5 ho5 zD0 zD1 zD2 zD3 zD4 hbk c1 c2 c3 hq0 hq1 hq2 hq3
        go_wp2_with fail
        go_loopw [8, 9] (fun b t wq => ∃ j : Nat, 4 ≤ j ∧ j ≤ 9 ∧ b = .bool (nm k j) ∧ t = .int .i64 j ∧ Kpt (wq = w5)) (fun _ t _ => 9 - (intOf t).toNat)
        case atStart => exact ⟨4, by omega, by omega, by simp [nm], rfl, ⟨rfl⟩⟩
        case round =>
          obtain ⟨j, hj4, hj9, rfl, rfl, hwq⟩ := hrel
          have := hwq.out
          subst this
          by_cases hjl : j < 9
          · have cj := hL5.out j hjl
            have h5 : j = 4 ∨ j = 5 ∨ j = 6 ∨ j = 7 ∨ j = 8 := by omega
            rcases h5 with rfl | rfl | rfl | rfl | rfl
            · have cj' : wr.cell? ⟨g0, 4, none⟩ = some (.int .u8 0) := cj
              clear cj
              by_cases hkx : (k : Int) = 0
              · have hkx' : (0 : Int) = k := hkx.symm
                have hN : nm k 5 = true := by rw [hkx]; decide
                have hb : (((0 : Int) == (k : Int)) = true) := by rw [hkx]; decide
                clear hkx hkx'
                go_wp2_with fail
                go_roundw
                case rel => exact ⟨5, by omega, by omega, by rw [hN], by go_num, ⟨by trivial⟩⟩
                case measure => simp [intOf]
              · have hN : nm k 5 = nm k 4 := by unfold nm; rw [decide_eq_false hkx]; simp
                have hb : (((0 : Int) == (k : Int)) = false) := by simp; omega
                go_wp2_with fail
                go_roundw
                case rel => exact ⟨5, by omega, by omega, by rw [hN], by go_num, ⟨by trivial⟩⟩
                case measure => simp [intOf]
            · have cj' : wr.cell? ⟨g0, 5, none⟩ = some (.int .u8 128) := cj
              clear cj
              by_cases hkx : (k : Int) = 128
              · have hkx' : (128 : Int) = k := hkx.symm
                have hN : nm k 6 = true := by rw [hkx]; decide
                have hb : (((128 : Int) == (k : Int)) = true) := by rw [hkx]; decide
                clear hkx hkx'
                go_wp2_with fail
                go_roundw
                case rel => exact ⟨6, by omega, by omega, by rw [hN], by go_num, ⟨by trivial⟩⟩
                case measure => simp [intOf]
              · have hN : nm k 6 = nm k 5 := by unfold nm; rw [decide_eq_false hkx]; simp
                have hb : (((128 : Int) == (k : Int)) = false) := by simp; omega
                go_wp2_with fail
                go_roundw
                case rel => exact ⟨6, by omega, by omega, by rw [hN], by go_num, ⟨by trivial⟩⟩
                case measure => simp [intOf]
            · have cj' : wr.cell? ⟨g0, 6, none⟩ = some (.int .u8 131) := cj
              clear cj
              by_cases hkx : (k : Int) = 131
              · have hkx' : (131 : Int) = k := hkx.symm
                have hN : nm k 7 = true := by rw [hkx]; decide
                have hb : (((131 : Int) == (k : Int)) = true) := by rw [hkx]; decide
                clear hkx hkx'
                go_wp2_with fail
                go_roundw
                case rel => exact ⟨7, by omega, by omega, by rw [hN], by go_num, ⟨by trivial⟩⟩
                case measure => simp [intOf]
              · have hN : nm k 7 = nm k 6 := by unfold nm; rw [decide_eq_false hkx]; simp
                have hb : (((131 : Int) == (k : Int)) = false) := by simp; omega
                go_wp2_with fail
                go_roundw
                case rel => exact ⟨7, by omega, by omega, by rw [hN], by go_num, ⟨by trivial⟩⟩
                case measure => simp [intOf]
            · have cj' : wr.cell? ⟨g0, 7, none⟩ = some (.int .u8 176) := cj
              clear cj
              by_cases hkx : (k : Int) = 176
              · have hkx' : (176 : Int) = k := hkx.symm
                have hN : nm k 8 = true := by rw [hkx]; decide
                have hb : (((176 : Int) == (k : Int)) = true) := by rw [hkx]; decide
                clear hkx hkx'
                go_wp2_with fail
                go_roundw
                case rel => exact ⟨8, by omega, by omega, by rw [hN], by go_num, ⟨by trivial⟩⟩
                case measure => simp [intOf]
              · have hN : nm k 8 = nm k 7 := by unfold nm; rw [decide_eq_false hkx]; simp
                have hb : (((176 : Int) == (k : Int)) = false) := by simp; omega
                go_wp2_with fail
                go_roundw
                case rel => exact ⟨8, by omega, by omega, by rw [hN], by go_num, ⟨by trivial⟩⟩
                case measure => simp [intOf]
            · have cj' : wr.cell? ⟨g0, 8, none⟩ = some (.int .u8 178) := cj
              clear cj
              by_cases hkx : (k : Int) = 178
              · have hkx' : (178 : Int) = k := hkx.symm
                have hN : nm k 9 = true := by rw [hkx]; decide
                have hb : (((178 : Int) == (k : Int)) = true) := by rw [hkx]; decide
                clear hkx hkx'
                go_wp2_with fail
                go_roundw
                case rel => exact ⟨9, by omega, by omega, by rw [hN], by go_num, ⟨by trivial⟩⟩
                case measure => simp [intOf]
              · have hN : nm k 9 = nm k 8 := by unfold nm; rw [decide_eq_false hkx]; simp
                have hb : (((178 : Int) == (k : Int)) = false) := by simp; omega
                go_wp2_with fail
                go_roundw
                case rel => exact ⟨9, by omega, by omega, by rw [hN], by go_num, ⟨by trivial⟩⟩
                case measure => simp [intOf]
          · obtain rfl : j = 9 := by omega
            rw [hnm]
            clear hL5
            go_wp2_with fail
            have v0 : IntKind.i64.wrap 0 = 0 := by decide
            have v2 : IntKind.i64.wrap (m : Int) = m := by rw [IntKind.wrap_i64]; omega
            have v3 : ¬ ((4 + m : Nat) : Int) < 4 := by omega
            refine wp_region_any (by kernel_rfl) ?_
            refine wpAny_of_C (C := fun W => (W.cell? ⟨g6, 1, none⟩ = some (.int .u8 k) ∧ W.cell? ⟨g6, 2, none⟩ = some (.int .u8 0) ∧ W.cell? ⟨g6, 3, none⟩ = some (.int .u8 m))) _ _ _ _ ?_
            refine wpAnyC_take 0 (.bool true) rfl (by kernel_rfl) (by kernel_rfl) (by kernel_rfl) (fun _ _ _ h => h) (wanted_free rfl _) (fun W hW => by go_simp) ?_
            simp only [Act.put, List.getElem_toArray, List.getElem_cons_succ, List.getElem_cons_zero, List.setIfInBounds_toArray, List.set_cons_succ, List.set_cons_zero]
            refine wpAnyC_take 1 (.bool true) rfl (by kernel_rfl) (by kernel_rfl) (by kernel_rfl) (fun _ _ _ h => h) (wanted_free rfl _) (fun W hW => by go_simp) ?_
            simp only [Act.put, List.getElem_toArray, List.getElem_cons_succ, List.getElem_cons_zero, List.setIfInBounds_toArray, List.set_cons_succ, List.set_cons_zero]
            refine wpAnyC_take 2 (.bool false) rfl (by kernel_rfl) (by kernel_rfl) (by kernel_rfl) (fun _ _ _ h => h) (wanted_free rfl _) (fun W hW => by go_simp) ?_
            simp only [Act.put, List.getElem_toArray, List.getElem_cons_succ, List.getElem_cons_zero, List.setIfInBounds_toArray, List.set_cons_succ, List.set_cons_zero]
            refine wpAnyC_take 3 (.bool false) rfl (by kernel_rfl) (by kernel_rfl) (by kernel_rfl) (fun _ _ _ h => h) (wanted_free rfl _) (fun W hW => by go_simp) ?_
            simp only [Act.put, List.getElem_toArray, List.getElem_cons_succ, List.getElem_cons_zero, List.setIfInBounds_toArray, List.set_cons_succ, List.set_cons_zero]
            refine wpAnyC_take 4 (.bool true) rfl (by kernel_rfl) (by kernel_rfl) (by kernel_rfl) (fun _ _ _ h => h) (wanted_at false rfl rfl rfl rfl) (fun W hW => by go_simp) ?_
            simp only [Act.put, List.getElem_toArray, List.getElem_cons_succ, List.getElem_cons_zero, List.setIfInBounds_toArray, List.set_cons_succ, List.set_cons_zero]
            refine wpAnyC_take 5 (.bool true) rfl (by kernel_rfl) (by kernel_rfl) (by kernel_rfl) (fun _ _ _ h => h) (wanted_at false rfl rfl rfl rfl) (fun W hW => by go_simp) ?_
            simp only [Act.put, List.getElem_toArray, List.getElem_cons_succ, List.getElem_cons_zero, List.setIfInBounds_toArray, List.set_cons_succ, List.set_cons_zero]
            refine wpAnyC_take 6 (.slice (some ⟨g6, 0, none⟩) (4 + m) k6) rfl (by kernel_rfl) (by kernel_rfl) (by kernel_rfl) (fun _ _ _ h => h) (wanted_at true rfl rfl rfl rfl) (fun W hW => by go_simp) ?_
            simp only [Act.put, List.getElem_toArray, List.getElem_cons_succ, List.getElem_cons_zero, List.setIfInBounds_toArray, List.set_cons_succ, List.set_cons_zero]
            refine wpAnyC_take 7 (.int .i64 ((4 + m : Nat) : Int)) rfl (by kernel_rfl) (by kernel_rfl) (by kernel_rfl) (fun _ _ _ h => h) (wanted_at true rfl rfl rfl rfl) (fun W hW => by go_simp) ?_
            simp only [Act.put, List.getElem_toArray, List.getElem_cons_succ, List.getElem_cons_zero, List.setIfInBounds_toArray, List.set_cons_succ, List.set_cons_zero]
            refine wpAnyC_take 8 (.bool false) rfl (by kernel_rfl) (by kernel_rfl) (by kernel_rfl) (fun _ _ _ h => h) (wanted_at true rfl rfl rfl rfl) (fun W hW => by go_simp; first | done | omega | (simp; omega)) ?_
            simp only [Act.put, List.getElem_toArray, List.getElem_cons_succ, List.getElem_cons_zero, List.setIfInBounds_toArray, List.set_cons_succ, List.set_cons_zero]
            refine wpAnyC_take 9 (.bool false) rfl (by kernel_rfl) (by kernel_rfl) (by kernel_rfl) (fun _ _ _ h => h) (wanted_at true rfl rfl rfl rfl) (fun W hW => by go_simp) ?_
            simp only [Act.put, List.getElem_toArray, List.getElem_cons_succ, List.getElem_cons_zero, List.setIfInBounds_toArray, List.set_cons_succ, List.set_cons_zero]
            refine wpAnyC_take 10 (.slice (some ⟨g6, 0, none⟩) (4 + m) k6) rfl (by kernel_rfl) (by kernel_rfl) (by kernel_rfl) (fun _ _ _ h => h) (wanted_at false rfl rfl rfl rfl) (fun W hW => by go_simp) ?_
            simp only [Act.put, List.getElem_toArray, List.getElem_cons_succ, List.getElem_cons_zero, List.setIfInBounds_toArray, List.set_cons_succ, List.set_cons_zero]
            refine wpAnyC_take 11 (.pointer (some ⟨g6, 1, none⟩)) rfl (by kernel_rfl) (by kernel_rfl) (by kernel_rfl) (fun _ _ _ h => h) (wanted_at false rfl rfl rfl rfl) (fun W hW => by go_simp; first | done | omega) ?_
            simp only [Act.put, List.getElem_toArray, List.getElem_cons_succ, List.getElem_cons_zero, List.setIfInBounds_toArray, List.set_cons_succ, List.set_cons_zero]
            refine wpAnyC_take 12 (.int .u8 k) rfl (by kernel_rfl) (by kernel_rfl) (by kernel_rfl) (fun _ _ _ h => h) (wanted_at false rfl rfl rfl rfl) (fun W hW => by obtain ⟨y1, y2, y3⟩ := hW; go_simp) ?_
            simp only [Act.put, List.getElem_toArray, List.getElem_cons_succ, List.getElem_cons_zero, List.setIfInBounds_toArray, List.set_cons_succ, List.set_cons_zero]
            refine wpAnyC_take 13 (.int .i64 k) rfl (by kernel_rfl) (by kernel_rfl) (by kernel_rfl) (fun _ _ _ h => h) (wanted_at false rfl rfl rfl rfl) (fun W hW => by go_simp) ?_
            simp only [Act.put, List.getElem_toArray, List.getElem_cons_succ, List.getElem_cons_zero, List.setIfInBounds_toArray, List.set_cons_succ, List.set_cons_zero]
            refine wpAnyC_take 14 (.int .u8 k) rfl (by kernel_rfl) (by kernel_rfl) (by kernel_rfl) (fun _ _ _ h => h) (wanted_at false rfl rfl rfl rfl) (fun W hW => by go_simp) ?_
            simp only [Act.put, List.getElem_toArray, List.getElem_cons_succ, List.getElem_cons_zero, List.setIfInBounds_toArray, List.set_cons_succ, List.set_cons_zero]
            refine wpAnyC_take 15 (.bool false) rfl (by kernel_rfl) (by kernel_rfl) (by kernel_rfl) (fun _ _ _ h => h) (wanted_at false rfl rfl rfl rfl) (fun W hW => by go_simp) ?_
            simp only [Act.put, List.getElem_toArray, List.getElem_cons_succ, List.getElem_cons_zero, List.setIfInBounds_toArray, List.set_cons_succ, List.set_cons_zero]
            refine wpAnyC_take 16 (.bool false) rfl (by kernel_rfl) (by kernel_rfl) (by kernel_rfl) (fun _ _ _ h => h) (wanted_at true rfl rfl rfl rfl) (fun W hW => by go_simp) ?_
            simp only [Act.put, List.getElem_toArray, List.getElem_cons_succ, List.getElem_cons_zero, List.setIfInBounds_toArray, List.set_cons_succ, List.set_cons_zero]
            refine wpAnyC_take 17 (.bool false) rfl (by kernel_rfl) (by kernel_rfl) (by kernel_rfl) (fun _ _ _ h => h) (wanted_at true rfl rfl rfl rfl) (fun W hW => by go_simp) ?_
            simp only [Act.put, List.getElem_toArray, List.getElem_cons_succ, List.getElem_cons_zero, List.setIfInBounds_toArray, List.set_cons_succ, List.set_cons_zero]
            refine wpAnyC_take 18 (.slice (some ⟨g6, 0, none⟩) (4 + m) k6) rfl (by kernel_rfl) (by kernel_rfl) (by kernel_rfl) (fun _ _ _ h => h) (wanted_at false rfl rfl rfl rfl) (fun W hW => by go_simp) ?_
            simp only [Act.put, List.getElem_toArray, List.getElem_cons_succ, List.getElem_cons_zero, List.setIfInBounds_toArray, List.set_cons_succ, List.set_cons_zero]
            refine wpAnyC_take 19 (.pointer (some ⟨g6, 2, none⟩)) rfl (by kernel_rfl) (by kernel_rfl) (by kernel_rfl) (fun _ _ _ h => h) (wanted_at false rfl rfl rfl rfl) (fun W hW => by go_simp; first | done | omega) ?_
            simp only [Act.put, List.getElem_toArray, List.getElem_cons_succ, List.getElem_cons_zero, List.setIfInBounds_toArray, List.set_cons_succ, List.set_cons_zero]
            refine wpAnyC_take 20 (.int .u8 0) rfl (by kernel_rfl) (by kernel_rfl) (by kernel_rfl) (fun _ _ _ h => h) (wanted_at false rfl rfl rfl rfl) (fun W hW => by obtain ⟨y1, y2, y3⟩ := hW; go_simp) ?_
            simp only [Act.put, List.getElem_toArray, List.getElem_cons_succ, List.getElem_cons_zero, List.setIfInBounds_toArray, List.set_cons_succ, List.set_cons_zero]
            refine wpAnyC_take 21 (.int .i64 0) rfl (by kernel_rfl) (by kernel_rfl) (by kernel_rfl) (fun _ _ _ h => h) (wanted_at false rfl rfl rfl rfl) (fun W hW => by go_simp) ?_
            simp only [Act.put, List.getElem_toArray, List.getElem_cons_succ, List.getElem_cons_zero, List.setIfInBounds_toArray, List.set_cons_succ, List.set_cons_zero]
            refine wpAnyC_take 22 (.int .i64 0) rfl (by kernel_rfl) (by kernel_rfl) (by kernel_rfl) (fun _ _ _ h => h) (wanted_at false rfl rfl rfl rfl) (fun W hW => by go_simp) ?_
            simp only [Act.put, List.getElem_toArray, List.getElem_cons_succ, List.getElem_cons_zero, List.setIfInBounds_toArray, List.set_cons_succ, List.set_cons_zero]
            refine wpAnyC_take 23 (.slice (some ⟨g6, 0, none⟩) (4 + m) k6) rfl (by kernel_rfl) (by kernel_rfl) (by kernel_rfl) (fun _ _ _ h => h) (wanted_at false rfl rfl rfl rfl) (fun W hW => by go_simp) ?_
            simp only [Act.put, List.getElem_toArray, List.getElem_cons_succ, List.getElem_cons_zero, List.setIfInBounds_toArray, List.set_cons_succ, List.set_cons_zero]
            refine wpAnyC_take 24 (.pointer (some ⟨g6, 3, none⟩)) rfl (by kernel_rfl) (by kernel_rfl) (by kernel_rfl) (fun _ _ _ h => h) (wanted_at false rfl rfl rfl rfl) (fun W hW => by go_simp; first | done | omega) ?_
            simp only [Act.put, List.getElem_toArray, List.getElem_cons_succ, List.getElem_cons_zero, List.setIfInBounds_toArray, List.set_cons_succ, List.set_cons_zero]
            refine wpAnyC_take 25 (.int .u8 m) rfl (by kernel_rfl) (by kernel_rfl) (by kernel_rfl) (fun _ _ _ h => h) (wanted_at false rfl rfl rfl rfl) (fun W hW => by obtain ⟨y1, y2, y3⟩ := hW; go_simp) ?_
            simp only [Act.put, List.getElem_toArray, List.getElem_cons_succ, List.getElem_cons_zero, List.setIfInBounds_toArray, List.set_cons_succ, List.set_cons_zero]
            refine wpAnyC_take 26 (.int .i64 m) rfl (by kernel_rfl) (by kernel_rfl) (by kernel_rfl) (fun _ _ _ h => h) (wanted_at false rfl rfl rfl rfl) (fun W hW => by go_simp) ?_
            simp only [Act.put, List.getElem_toArray, List.getElem_cons_succ, List.getElem_cons_zero, List.setIfInBounds_toArray, List.set_cons_succ, List.set_cons_zero]
            refine wpAnyC_take 27 (.int .i64 m) rfl (by kernel_rfl) (by kernel_rfl) (by kernel_rfl) (fun _ _ _ h => h) (wanted_at false rfl rfl rfl rfl) (fun W hW => by go_simp; first | done | omega) ?_
            simp only [Act.put, List.getElem_toArray, List.getElem_cons_succ, List.getElem_cons_zero, List.setIfInBounds_toArray, List.set_cons_succ, List.set_cons_zero]
            refine wpAnyC_take 28 (.slice (some ⟨g6, 0, none⟩) (4 + m) k6) rfl (by kernel_rfl) (by kernel_rfl) (by kernel_rfl) (fun _ _ _ h => h) (wanted_at false rfl rfl rfl rfl) (fun W hW => by go_simp) ?_
            simp only [Act.put, List.getElem_toArray, List.getElem_cons_succ, List.getElem_cons_zero, List.setIfInBounds_toArray, List.set_cons_succ, List.set_cons_zero]
            refine wpAnyC_take 29 (.int .i64 ((4 + m : Nat) : Int)) rfl (by kernel_rfl) (by kernel_rfl) (by kernel_rfl) (fun _ _ _ h => h) (wanted_at false rfl rfl rfl rfl) (fun W hW => by go_simp) ?_
            simp only [Act.put, List.getElem_toArray, List.getElem_cons_succ, List.getElem_cons_zero, List.setIfInBounds_toArray, List.set_cons_succ, List.set_cons_zero]
            refine wpAnyC_take 30 (.int .i64 m) rfl (by kernel_rfl) (by kernel_rfl) (by kernel_rfl) (fun _ _ _ h => h) (wanted_at false rfl rfl rfl rfl) (fun W hW => by go_simp; first | done | (rw [IntKind.wrap_i64]; omega) | omega) ?_
            simp only [Act.put, List.getElem_toArray, List.getElem_cons_succ, List.getElem_cons_zero, List.setIfInBounds_toArray, List.set_cons_succ, List.set_cons_zero]
            refine wpAnyC_take 31 (.bool false) rfl (by kernel_rfl) (by kernel_rfl) (by kernel_rfl) (fun _ _ _ h => h) (wanted_at false rfl rfl rfl rfl) (fun W hW => by go_simp) ?_
            simp only [Act.put, List.getElem_toArray, List.getElem_cons_succ, List.getElem_cons_zero, List.setIfInBounds_toArray, List.set_cons_succ, List.set_cons_zero]
            refine wpAnyC_take 32 (.bool false) rfl (by kernel_rfl) (by kernel_rfl) (by kernel_rfl) (fun _ _ _ h => h) (wanted_at true rfl rfl rfl rfl) (fun W hW => by go_simp) ?_
            simp only [Act.put, List.getElem_toArray, List.getElem_cons_succ, List.getElem_cons_zero, List.setIfInBounds_toArray, List.set_cons_succ, List.set_cons_zero]
            refine wpAnyC_take 33 (.bool false) rfl (by kernel_rfl) (by kernel_rfl) (by kernel_rfl) (fun _ _ _ h => h) (wanted_at false rfl rfl rfl rfl) (fun W hW => by go_simp) ?_
            simp only [Act.put, List.getElem_toArray, List.getElem_cons_succ, List.getElem_cons_zero, List.setIfInBounds_toArray, List.set_cons_succ, List.set_cons_zero]
            refine wpAnyC_take 34 (.bool false) rfl (by kernel_rfl) (by kernel_rfl) (by kernel_rfl) (fun _ _ _ h => h) (wanted_free rfl _) (fun W hW => by go_simp) ?_
            simp only [Act.put, List.getElem_toArray, List.getElem_cons_succ, List.getElem_cons_zero, List.setIfInBounds_toArray, List.set_cons_succ, List.set_cons_zero]
            refine wpAnyC_done cK.out (by kernel_rfl) ?_
            have hwG : Kpt (Below w3.heap.size w3 wr.drew) := ⟨hw35.out.drew⟩
            clear cK
            go_wp2_with fail
            go_roundw
            case rel => exact ⟨k + 1, by omega, by go_num, hwG⟩
            case measure => simp [intOf]; omega
      · have H := Kpt.mk (HPn.out k hv wr)
        have hnm := nm_no hv
        clear hbq
        go_wp2_with fail
        refine H.out.mono ?_
        rintro e w5 ⟨rfl, hb5⟩
        have hw35 : Kpt (Below w3.heap.size w3 w5) := ⟨hbk.out.trans (hb5.mono hbk.out.size)⟩
        have hL5 := Kpt.mk (ho3.out w5 hw35.out)
        clear H hb5 zD0 zD1 zD2 zD3 zD4 hbk
        go_wp2_with fail
        go_loopw [8, 9] (fun b t wq => ∃ j : Nat, 4 ≤ j ∧ j ≤ 9 ∧ b = .bool (nm k j) ∧ t = .int .i64 j ∧ Kpt (wq = w5)) (fun _ t _ => 9 - (intOf t).toNat)
        case atStart => exact ⟨4, by omega, by omega, by simp [nm], rfl, ⟨rfl⟩⟩
        case round =>
          obtain ⟨j, hj4, hj9, rfl, rfl, hwq⟩ := hrel
          have := hwq.out
          subst this
          by_cases hjl : j < 9
          · have cj := hL5.out j hjl
            have h5 : j = 4 ∨ j = 5 ∨ j = 6 ∨ j = 7 ∨ j = 8 := by omega
            rcases h5 with rfl | rfl | rfl | rfl | rfl
            · have cj' : wr.cell? ⟨g0, 4, none⟩ = some (.int .u8 0) := cj
              clear cj
              by_cases hkx : (k : Int) = 0
              · have hkx' : (0 : Int) = k := hkx.symm
                have hN : nm k 5 = true := by rw [hkx]; decide
                have hb : (((0 : Int) == (k : Int)) = true) := by rw [hkx]; decide
                clear hkx hkx'
                go_wp2_with fail
                go_roundw
                case rel => exact ⟨5, by omega, by omega, by rw [hN], by go_num, ⟨by trivial⟩⟩
                case measure => simp [intOf]
              · have hN : nm k 5 = nm k 4 := by unfold nm; rw [decide_eq_false hkx]; simp
                have hb : (((0 : Int) == (k : Int)) = false) := by simp; omega
                go_wp2_with fail
                go_roundw
                case rel => exact ⟨5, by omega, by omega, by rw [hN], by go_num, ⟨by trivial⟩⟩
                case measure => simp [intOf]
            · have cj' : wr.cell? ⟨g0, 5, none⟩ = some (.int .u8 128) := cj
              clear cj
              by_cases hkx : (k : Int) = 128
              · have hkx' : (128 : Int) = k := hkx.symm
                have hN : nm k 6 = true := by rw [hkx]; decide
                have hb : (((128 : Int) == (k : Int)) = true) := by rw [hkx]; decide
                clear hkx hkx'
                go_wp2_with fail
                go_roundw
                case rel => exact ⟨6, by omega, by omega, by rw [hN], by go_num, ⟨by trivial⟩⟩
                case measure => simp [intOf]
              · have hN : nm k 6 = nm k 5 := by unfold nm; rw [decide_eq_false hkx]; simp
                have hb : (((128 : Int) == (k : Int)) = false) := by simp; omega
                go_wp2_with fail
                go_roundw
                case rel => exact ⟨6, by omega, by omega, by rw [hN], by go_num, ⟨by trivial⟩⟩
                case measure => simp [intOf]
            · have cj' : wr.cell? ⟨g0, 6, none⟩ = some (.int .u8 131) := cj
              clear cj
              by_cases hkx : (k : Int) = 131
              · have hkx' : (131 : Int) = k := hkx.symm
                have hN : nm k 7 = true := by rw [hkx]; decide
                have hb : (((131 : Int) == (k : Int)) = true) := by rw [hkx]; decide
                clear hkx hkx'
                go_wp2_with fail
                go_roundw
                case rel => exact ⟨7, by omega, by omega, by rw [hN], by go_num, ⟨by trivial⟩⟩
                case measure => simp [intOf]
              · have hN : nm k 7 = nm k 6 := by unfold nm; rw [decide_eq_false hkx]; simp
                have hb : (((131 : Int) == (k : Int)) = false) := by simp; omega
                go_wp2_with fail
                go_roundw
                case rel => exact ⟨7, by omega, by omega, by rw [hN], by go_num, ⟨by trivial⟩⟩
                case measure => simp [intOf]
            · have cj' : wr.cell? ⟨g0, 7, none⟩ = some (.int .u8 176) := cj
              clear cj
              by_cases hkx : (k : Int) = 176
              · have hkx' : (176 : Int) = k := hkx.symm
                have hN : nm k 8 = true := by rw [hkx]; decide
                have hb : (((176 : Int) == (k : Int)) = true) := by rw [hkx]; decide
                clear hkx hkx'
                go_wp2_with fail
                go_roundw
                case rel => exact ⟨8, by omega, by omega, by rw [hN], by go_num, ⟨by trivial⟩⟩
                case measure => simp [intOf]
              · have hN : nm k 8 = nm k 7 := by unfold nm; rw [decide_eq_false hkx]; simp
                have hb : (((176 : Int) == (k : Int)) = false) := by simp; omega
                go_wp2_with fail
                go_roundw
                case rel => exact ⟨8, by omega, by omega, by rw [hN], by go_num, ⟨by trivial⟩⟩
                case measure => simp [intOf]
            · have cj' : wr.cell? ⟨g0, 8, none⟩ = some (.int .u8 178) := cj
              clear cj
              by_cases hkx : (k : Int) = 178
              · have hkx' : (178 : Int) = k := hkx.symm
                have hN : nm k 9 = true := by rw [hkx]; decide
                have hb : (((178 : Int) == (k : Int)) = true) := by rw [hkx]; decide
                clear hkx hkx'
                go_wp2_with fail
                go_roundw
                case rel => exact ⟨9, by omega, by omega, by rw [hN], by go_num, ⟨by trivial⟩⟩
                case measure => simp [intOf]
              · have hN : nm k 9 = nm k 8 := by unfold nm; rw [decide_eq_false hkx]; simp
                have hb : (((178 : Int) == (k : Int)) = false) := by simp; omega
                go_wp2_with fail
                go_roundw
                case rel => exact ⟨9, by omega, by omega, by rw [hN], by go_num, ⟨by trivial⟩⟩
                case measure => simp [intOf]
          · obtain rfl : j = 9 := by omega
            rw [hnm]
            clear hL5
            go_wp2_with fail
            refine wp_region_any (by kernel_rfl) ?_
            refine wpAny_of_C (C := fun _ => True) _ _ _ _ ?_
            refine wpAnyC_take 0 (.bool false) rfl (by kernel_rfl) (by kernel_rfl) (by kernel_rfl) (fun _ _ _ h => h) (wanted_free rfl _) (fun W hW => by go_simp) ?_
            simp only [Act.put, List.getElem_toArray, List.getElem_cons_succ, List.getElem_cons_zero, List.setIfInBounds_toArray, List.set_cons_succ, List.set_cons_zero]
            refine wpAnyC_take 1 (.bool false) rfl (by kernel_rfl) (by kernel_rfl) (by kernel_rfl) (fun _ _ _ h => h) (wanted_free rfl _) (fun W hW => by go_simp) ?_
            simp only [Act.put, List.getElem_toArray, List.getElem_cons_succ, List.getElem_cons_zero, List.setIfInBounds_toArray, List.set_cons_succ, List.set_cons_zero]
            refine wpAnyC_take 2 (.bool false) rfl (by kernel_rfl) (by kernel_rfl) (by kernel_rfl) (fun _ _ _ h => h) (wanted_free rfl _) (fun W hW => by go_simp) ?_
            simp only [Act.put, List.getElem_toArray, List.getElem_cons_succ, List.getElem_cons_zero, List.setIfInBounds_toArray, List.set_cons_succ, List.set_cons_zero]
            refine wpAnyC_take 3 (.bool false) rfl (by kernel_rfl) (by kernel_rfl) (by kernel_rfl) (fun _ _ _ h => h) (wanted_free rfl _) (fun W hW => by go_simp) ?_
            simp only [Act.put, List.getElem_toArray, List.getElem_cons_succ, List.getElem_cons_zero, List.setIfInBounds_toArray, List.set_cons_succ, List.set_cons_zero]
            refine wpAnyC_take 4 (.bool false) rfl (by kernel_rfl) (by kernel_rfl) (by kernel_rfl) (fun _ _ _ h => h) (wanted_at false rfl rfl rfl rfl) (fun W hW => by go_simp) ?_
            simp only [Act.put, List.getElem_toArray, List.getElem_cons_succ, List.getElem_cons_zero, List.setIfInBounds_toArray, List.set_cons_succ, List.set_cons_zero]
            refine wpAnyC_take 5 (.bool false) rfl (by kernel_rfl) (by kernel_rfl) (by kernel_rfl) (fun _ _ _ h => h) (wanted_at false rfl rfl rfl rfl) (fun W hW => by go_simp) ?_
            simp only [Act.put, List.getElem_toArray, List.getElem_cons_succ, List.getElem_cons_zero, List.setIfInBounds_toArray, List.set_cons_succ, List.set_cons_zero]
            refine wpAnyC_skip 6 rfl (by kernel_rfl) (by kernel_rfl) (by kernel_rfl) (fun _ _ _ h => h) (wanted_no true rfl rfl rfl rfl) ?_
            simp only [Act.put, List.getElem_toArray, List.getElem_cons_succ, List.getElem_cons_zero, List.setIfInBounds_toArray, List.set_cons_succ, List.set_cons_zero]
            refine wpAnyC_skip 7 rfl (by kernel_rfl) (by kernel_rfl) (by kernel_rfl) (fun _ _ _ h => h) (wanted_no true rfl rfl rfl rfl) ?_
            simp only [Act.put, List.getElem_toArray, List.getElem_cons_succ, List.getElem_cons_zero, List.setIfInBounds_toArray, List.set_cons_succ, List.set_cons_zero]
            refine wpAnyC_skip 8 rfl (by kernel_rfl) (by kernel_rfl) (by kernel_rfl) (fun _ _ _ h => h) (wanted_no true rfl rfl rfl rfl) ?_
            simp only [Act.put, List.getElem_toArray, List.getElem_cons_succ, List.getElem_cons_zero, List.setIfInBounds_toArray, List.set_cons_succ, List.set_cons_zero]
            refine wpAnyC_skip 9 rfl (by kernel_rfl) (by kernel_rfl) (by kernel_rfl) (fun _ _ _ h => h) (wanted_no true rfl rfl rfl rfl) ?_
            simp only [Act.put, List.getElem_toArray, List.getElem_cons_succ, List.getElem_cons_zero, List.setIfInBounds_toArray, List.set_cons_succ, List.set_cons_zero]
            refine wpAnyC_skip 10 rfl (by kernel_rfl) (by kernel_rfl) (by kernel_rfl) (fun _ _ _ h => h) (wanted_undef false rfl rfl rfl rfl) ?_
            simp only [Act.put, List.getElem_toArray, List.getElem_cons_succ, List.getElem_cons_zero, List.setIfInBounds_toArray, List.set_cons_succ, List.set_cons_zero]
            refine wpAnyC_skip 11 rfl (by kernel_rfl) (by kernel_rfl) (by kernel_rfl) (fun _ _ _ h => h) (wanted_undef false rfl rfl rfl rfl) ?_
            simp only [Act.put, List.getElem_toArray, List.getElem_cons_succ, List.getElem_cons_zero, List.setIfInBounds_toArray, List.set_cons_succ, List.set_cons_zero]
            refine wpAnyC_skip 12 rfl (by kernel_rfl) (by kernel_rfl) (by kernel_rfl) (fun _ _ _ h => h) (wanted_undef false rfl rfl rfl rfl) ?_
            simp only [Act.put, List.getElem_toArray, List.getElem_cons_succ, List.getElem_cons_zero, List.setIfInBounds_toArray, List.set_cons_succ, List.set_cons_zero]
            refine wpAnyC_skip 13 rfl (by kernel_rfl) (by kernel_rfl) (by kernel_rfl) (fun _ _ _ h => h) (wanted_undef false rfl rfl rfl rfl) ?_
            simp only [Act.put, List.getElem_toArray, List.getElem_cons_succ, List.getElem_cons_zero, List.setIfInBounds_toArray, List.set_cons_succ, List.set_cons_zero]
            refine wpAnyC_skip 14 rfl (by kernel_rfl) (by kernel_rfl) (by kernel_rfl) (fun _ _ _ h => h) (wanted_undef false rfl rfl rfl rfl) ?_
            simp only [Act.put, List.getElem_toArray, List.getElem_cons_succ, List.getElem_cons_zero, List.setIfInBounds_toArray, List.set_cons_succ, List.set_cons_zero]
            refine wpAnyC_skip 15 rfl (by kernel_rfl) (by kernel_rfl) (by kernel_rfl) (fun _ _ _ h => h) (wanted_undef false rfl rfl rfl rfl) ?_
            simp only [Act.put, List.getElem_toArray, List.getElem_cons_succ, List.getElem_cons_zero, List.setIfInBounds_toArray, List.set_cons_succ, List.set_cons_zero]
            refine wpAnyC_skip 16 rfl (by kernel_rfl) (by kernel_rfl) (by kernel_rfl) (fun _ _ _ h => h) (wanted_no true rfl rfl rfl rfl) ?_
            simp only [Act.put, List.getElem_toArray, List.getElem_cons_succ, List.getElem_cons_zero, List.setIfInBounds_toArray, List.set_cons_succ, List.set_cons_zero]
            refine wpAnyC_skip 17 rfl (by kernel_rfl) (by kernel_rfl) (by kernel_rfl) (fun _ _ _ h => h) (wanted_no true rfl rfl rfl rfl) ?_
            simp only [Act.put, List.getElem_toArray, List.getElem_cons_succ, List.getElem_cons_zero, List.setIfInBounds_toArray, List.set_cons_succ, List.set_cons_zero]
            refine wpAnyC_skip 18 rfl (by kernel_rfl) (by kernel_rfl) (by kernel_rfl) (fun _ _ _ h => h) (wanted_undef false rfl rfl rfl rfl) ?_
            simp only [Act.put, List.getElem_toArray, List.getElem_cons_succ, List.getElem_cons_zero, List.setIfInBounds_toArray, List.set_cons_succ, List.set_cons_zero]
            refine wpAnyC_skip 19 rfl (by kernel_rfl) (by kernel_rfl) (by kernel_rfl) (fun _ _ _ h => h) (wanted_undef false rfl rfl rfl rfl) ?_
            simp only [Act.put, List.getElem_toArray, List.getElem_cons_succ, List.getElem_cons_zero, List.setIfInBounds_toArray, List.set_cons_succ, List.set_cons_zero]
            refine wpAnyC_skip 20 rfl (by kernel_rfl) (by kernel_rfl) (by kernel_rfl) (fun _ _ _ h => h) (wanted_undef false rfl rfl rfl rfl) ?_
            simp only [Act.put, List.getElem_toArray, List.getElem_cons_succ, List.getElem_cons_zero, List.setIfInBounds_toArray, List.set_cons_succ, List.set_cons_zero]
            refine wpAnyC_skip 21 rfl (by kernel_rfl) (by kernel_rfl) (by kernel_rfl) (fun _ _ _ h => h) (wanted_undef false rfl rfl rfl rfl) ?_
            simp only [Act.put, List.getElem_toArray, List.getElem_cons_succ, List.getElem_cons_zero, List.setIfInBounds_toArray, List.set_cons_succ, List.set_cons_zero]
            refine wpAnyC_skip 22 rfl (by kernel_rfl) (by kernel_rfl) (by kernel_rfl) (fun _ _ _ h => h) (wanted_undef false rfl rfl rfl rfl) ?_
            simp only [Act.put, List.getElem_toArray, List.getElem_cons_succ, List.getElem_cons_zero, List.setIfInBounds_toArray, List.set_cons_succ, List.set_cons_zero]
            refine wpAnyC_skip 23 rfl (by kernel_rfl) (by kernel_rfl) (by kernel_rfl) (fun _ _ _ h => h) (wanted_undef false rfl rfl rfl rfl) ?_
            simp only [Act.put, List.getElem_toArray, List.getElem_cons_succ, List.getElem_cons_zero, List.setIfInBounds_toArray, List.set_cons_succ, List.set_cons_zero]
            refine wpAnyC_skip 24 rfl (by kernel_rfl) (by kernel_rfl) (by kernel_rfl) (fun _ _ _ h => h) (wanted_undef false rfl rfl rfl rfl) ?_
            simp only [Act.put, List.getElem_toArray, List.getElem_cons_succ, List.getElem_cons_zero, List.setIfInBounds_toArray, List.set_cons_succ, List.set_cons_zero]
            refine wpAnyC_skip 25 rfl (by kernel_rfl) (by kernel_rfl) (by kernel_rfl) (fun _ _ _ h => h) (wanted_undef false rfl rfl rfl rfl) ?_
            simp only [Act.put, List.getElem_toArray, List.getElem_cons_succ, List.getElem_cons_zero, List.setIfInBounds_toArray, List.set_cons_succ, List.set_cons_zero]
            refine wpAnyC_skip 26 rfl (by kernel_rfl) (by kernel_rfl) (by kernel_rfl) (fun _ _ _ h => h) (wanted_undef false rfl rfl rfl rfl) ?_
            simp only [Act.put, List.getElem_toArray, List.getElem_cons_succ, List.getElem_cons_zero, List.setIfInBounds_toArray, List.set_cons_succ, List.set_cons_zero]
            refine wpAnyC_skip 27 rfl (by kernel_rfl) (by kernel_rfl) (by kernel_rfl) (fun _ _ _ h => h) (wanted_undef false rfl rfl rfl rfl) ?_
            simp only [Act.put, List.getElem_toArray, List.getElem_cons_succ, List.getElem_cons_zero, List.setIfInBounds_toArray, List.set_cons_succ, List.set_cons_zero]
            refine wpAnyC_skip 28 rfl (by kernel_rfl) (by kernel_rfl) (by kernel_rfl) (fun _ _ _ h => h) (wanted_undef false rfl rfl rfl rfl) ?_
            simp only [Act.put, List.getElem_toArray, List.getElem_cons_succ, List.getElem_cons_zero, List.setIfInBounds_toArray, List.set_cons_succ, List.set_cons_zero]
            refine wpAnyC_skip 29 rfl (by kernel_rfl) (by kernel_rfl) (by kernel_rfl) (fun _ _ _ h => h) (wanted_undef false rfl rfl rfl rfl) ?_
            simp only [Act.put, List.getElem_toArray, List.getElem_cons_succ, List.getElem_cons_zero, List.setIfInBounds_toArray, List.set_cons_succ, List.set_cons_zero]
            refine wpAnyC_skip 30 rfl (by kernel_rfl) (by kernel_rfl) (by kernel_rfl) (fun _ _ _ h => h) (wanted_undef false rfl rfl rfl rfl) ?_
            simp only [Act.put, List.getElem_toArray, List.getElem_cons_succ, List.getElem_cons_zero, List.setIfInBounds_toArray, List.set_cons_succ, List.set_cons_zero]
            refine wpAnyC_skip 31 rfl (by kernel_rfl) (by kernel_rfl) (by kernel_rfl) (fun _ _ _ h => h) (wanted_undef false rfl rfl rfl rfl) ?_
            simp only [Act.put, List.getElem_toArray, List.getElem_cons_succ, List.getElem_cons_zero, List.setIfInBounds_toArray, List.set_cons_succ, List.set_cons_zero]
            refine wpAnyC_skip 32 rfl (by kernel_rfl) (by kernel_rfl) (by kernel_rfl) (fun _ _ _ h => h) (wanted_no true rfl rfl rfl rfl) ?_
            simp only [Act.put, List.getElem_toArray, List.getElem_cons_succ, List.getElem_cons_zero, List.setIfInBounds_toArray, List.set_cons_succ, List.set_cons_zero]
            refine wpAnyC_take 33 (.bool false) rfl (by kernel_rfl) (by kernel_rfl) (by kernel_rfl) (fun _ _ _ h => h) (wanted_at false rfl rfl rfl rfl) (fun W hW => by go_simp) ?_
            simp only [Act.put, List.getElem_toArray, List.getElem_cons_succ, List.getElem_cons_zero, List.setIfInBounds_toArray, List.set_cons_succ, List.set_cons_zero]
            refine wpAnyC_take 34 (.bool false) rfl (by kernel_rfl) (by kernel_rfl) (by kernel_rfl) (fun _ _ _ h => h) (wanted_free rfl _) (fun W hW => by go_simp) ?_
            simp only [Act.put, List.getElem_toArray, List.getElem_cons_succ, List.getElem_cons_zero, List.setIfInBounds_toArray, List.set_cons_succ, List.set_cons_zero]
            refine wpAnyC_done trivial (by kernel_rfl) ?_
            have hwG : Kpt (Below w3.heap.size w3 wr.drew) := ⟨hw35.out.drew⟩
            go_wp2_with fail
            go_roundw
            case rel => exact ⟨k + 1, by omega, by go_num, hwG⟩
            case measure => simp [intOf]; omega
    · obtain rfl : k = 256 := by omega
      have hBr : Kpt (Below w.heap.size w wr) := ⟨hB3.out.trans (hbq.mono hB3.out.size)⟩
      clear hbq hbk
      go_wp2_with fail
      refine (HS.out wr).mono ?_
      rintro e w6 ⟨g6, k6, rfl, ho6, hb6⟩
      have c4 := own_facts ho6 4 (by decide)
      rw [hs4.out] at c4
      have hB6 : Kpt (Below w.heap.size w w6) := ⟨hBr.out.trans (hb6.mono hBr.out.size)⟩
      clear ho6 hb6 zD0 zD1 zD2 zD3 zD4 hBr
      go_wp2_with fail
      go_ret
      exact ⟨rfl, hB6.out⟩

theorem sup_any (i : In) (w : World) (hi : i.wf) : Calls Try.prog 5 #[.agg i.vals] w fun e w' => e = .returned (.bool true) ∧ Below w.heap.size w w' := by
  cases hf : i.form
  · exact sup_bad i w hi hf
  · exact sup_good i w hi hf
end Go.Proofs.Yteoaadpilaljnaa
