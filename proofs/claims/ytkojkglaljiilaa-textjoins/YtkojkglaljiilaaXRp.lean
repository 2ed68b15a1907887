/-
  text: the document's Parse, the walk.
-/
import Derived.Test.YtkojkglaljiilaaXRp0
namespace Go.Proofs.Ytkojkglaljiilaa
open Go.RowKit
set_option linter.unusedVariables false
set_option linter.unusedSimpArgs false

set_option maxRecDepth 100000 in
theorem rparse_long (a : Option Addr) (n c : Nat) (w : World) (hn : 4096 < n) (hm : n ≤ maxLen) :
    Calls Try.prog 8 #[.slice a n c] w fun e w' => e = .returned (.tuple #[.slice none 0 0, .int .i64 2]) ∧ w' = w := by
  have h1 : (4096 : Int) < n := by omega
  unfold maxLen at hm
  go_enter Try.func8, Try.ntmps8
  go_wp2
  go_ret2
  exact ⟨rfl, rfl⟩

set_option maxRecDepth 100000 in
set_option maxHeartbeats 4000000 in
theorem rparse_any (a : Option Addr) (n c : Nat) (zs : List Int) (w : World) (hr : RdAt w (.slice a n c) zs) (hn : n ≤ 4096) (hc : c ≤ maxLen) (hb : Bytes zs) :
    Calls Try.prog 8 #[.slice a n c] w fun e w' => ∃ v, e = .returned (.tuple #[v, .int .i64 (parE zs)]) ∧ w'.ownsRow w.heap.size 40 2 v (parO zs).length (cellsP (parO zs)) ∧ Below w.heap.size w w' := by
  have hzl : Kpt (zs.length = n) := ⟨by obtain ⟨a', c', hv, _⟩ := hr; simp only [Value.slice.injEq] at hv; exact hv.2.1.symm⟩
  have hcn : n ≤ c := by obtain ⟨a', c', hv, h1, h2, h3⟩ := hr; simp only [Value.slice.injEq] at hv; omega
  have hrB : Kpt (∀ W, Below w.heap.size w W → RdAt W (.slice a n c) zs) := ⟨fun W h => hr.bel h⟩
  have hbz := Kpt.mk hb
  have h1 : ¬ (4096 : Int) < n := by omega
  have hpz : Kpt (par zs = (par (zs.drop 0)).map ([] ++ ·)) := ⟨by rw [List.drop_zero]; cases par zs <;> simp⟩
  unfold maxLen at hc
  clear hr hb
  go_enter Try.func8, Try.ntmps8
  go_wp2
  go_loopw [4, 5] (fun t4 t5 wr => ∃ (f k : Nat) (acc : List (List Int × List Int)), t5 = .int .i64 f ∧ f ≤ n ∧ k ≤ f ∧ Kpt (wr.ownsRow w.heap.size 40 2 t4 k (cellsP acc)) ∧ Kpt (par zs = (par (zs.drop f)).map (acc ++ ·)) ∧ Kpt (Below w.heap.size w wr)) (fun _ t5 _ => n - (intOf t5).toNat)
  case atStart => exact ⟨0, 0, [], rfl, by omega, by omega, ⟨World.ownsRow_nil _ _ 40 2⟩, hpz, ⟨Below.refl _ _⟩⟩
  case round =>
    obtain ⟨f, k, acc, rfl, hf, hkf, hown, hpar, hbe⟩ := hrel
    obtain ⟨⟨va, vc, rfl⟩⟩ : Nonempty (∃ va vc, u4 = .slice va k vc) := by
      obtain ⟨_, a', c', e, _⟩ := prs_of hown.out
      exact ⟨⟨a', c', e⟩⟩
    clear hpz
    by_cases h0 : f < n
    · have h0I : (f : Int) < n := by omega
      obtain ⟨b, off, rfl⟩ : ∃ b off, a = some ⟨b, off, none⟩ := by
        obtain ⟨a', c', hv, h1, h2, h3⟩ := hrB.out _ hbe.out
        simp only [Value.slice.injEq] at hv
        obtain ⟨rfl, -, -⟩ := hv
        rcases h3 with h3 | ⟨b, off, rfl, -⟩
        · have := hzl.out; omega
        · exact ⟨b, off, rfl⟩
      have hcell : Kpt (∀ j, j < n → wr.cell? ⟨b, off + j, none⟩ = some (.int .u8 (zs.getD j 0))) := ⟨(rd_cells (hrB.out _ hbe.out)).2⟩
      have hdl : Kpt ((zs.drop f).length = n - f) := ⟨by rw [List.length_drop, hzl.out]⟩
      have hpc := Kpt.mk (par_cons (zs.drop f) (fun e => by have := hdl.out; rw [e] at this; simp at this; omega))
      go_wp2
      go_loop [6] (fun t => ∃ E : Nat, t = .int .i64 E ∧ f ≤ E ∧ E ≤ n ∧ Kpt (∀ m, f ≤ m → m < E → zs.getD m 0 ≠ 0)) (fun t => n - (intOf t).toNat)
      case atStart => exact ⟨f, rfl, by omega, by omega, ⟨fun m h1 h2 => by omega⟩⟩
      case round =>
        obtain ⟨E, rfl, hfE, hEn, hnz⟩ := hrel
        by_cases hEz : E < n ∧ zs.getD E 0 ≠ 0
        · have hEI : (E : Int) < n := by omega
          have hcE := hcell.out E hEz.1
          obtain ⟨y, hy⟩ : ∃ y, y = zs.getD E 0 := ⟨_, rfl⟩
          rw [← hy] at hcE
          have hy0 : (y != 0) = true := by rw [hy]; simpa using hEz.2
          have hnz2 : Kpt (∀ m, f ≤ m → m < E + 1 → zs.getD m 0 ≠ 0) := ⟨fun m h1 h2 => by
            by_cases hmE : m < E
            · exact hnz.out m h1 hmE
            · obtain rfl : m = E := by omega
              exact hEz.2⟩
          replace hEz := Kpt.mk hEz
          clear hy
          go_wp2
          go_round
          case rel => exact ⟨E + 1, by go_num, by omega, by have := hEz.out.1; omega, hnz2⟩
          case measure => simp [intOf]; have := hEz.out.1; omega
        · -- the end is found
          have hend : E = n ∨ (E < n ∧ zs.getD E 0 = 0) := by
            by_cases h9 : E < n
            · exact .inr ⟨h9, Classical.byContradiction fun h8 => hEz ⟨h9, h8⟩⟩
            · exact .inl (by omega)
          clear hEz
          have hidx : Kpt (idxL (zs.drop f) 0 = if E = n then none else some (E - f)) := ⟨by
            rcases hend with rfl | ⟨h9, h8⟩
            · rw [if_pos rfl]
              refine idx_none_of _ _ (fun m hm => ?_)
              rw [drop_getD]
              exact hnz.out (f + m) (by omega) (by have := hdl.out; omega)
            · rw [if_neg (by omega)]
              refine idx_some_of _ _ _ (by have := hdl.out; omega) (by rw [drop_getD, show f + (E - f) = E by omega]; exact h8) (fun m hm => ?_)
              rw [drop_getD]
              exact hnz.out (f + m) (by omega) (by omega)⟩
          have hgo : Kpt (E = n ∨ (E < n ∧ zs.getD E 0 = 0)) := ⟨hend⟩
          by_cases hEn2 : E = n
          · subst hEn2
            clear hend
            have hnI : ¬ (E : Int) < (E : Int) := by omega
            have hno : Kpt (parE zs = 13 ∧ parO zs = []) := ⟨by
              have e1 : par zs = none := by rw [hpar.out, hpc.out, hidx.out, if_pos rfl]; rfl
              unfold parE parO; rw [e1]; exact ⟨rfl, rfl⟩⟩
            go_wp2
            go_loop [7] (fun t => ∃ Q : Nat, t = .int .i64 Q ∧ f ≤ Q ∧ Q ≤ E) (fun t => E - (intOf t).toNat)
            case atStart => exact ⟨f, rfl, by omega, by omega⟩
            case round =>
              obtain ⟨Q, rfl, hfQ, hQE⟩ := hrel
              by_cases hQ1 : Q < E
              · have hQI : (Q : Int) < E := by omega
                have hcQ := hcell.out Q (by omega)
                obtain ⟨y, hy⟩ : ∃ y, y = zs.getD Q 0 := ⟨_, rfl⟩
                rw [← hy] at hcQ
                clear hy
                by_cases hy1 : y = 61
                · subst hy1
                  go_wp2
                  go_ret2
                  exact ⟨.slice none 0 0, by rw [hno.out.1]; rfl, by rw [hno.out.2]; exact World.ownsRow_nil _ _ 40 2, hbe.out⟩
                · have hy2 : (y != 61) = true := by simpa using hy1
                  clear hy1
                  go_wp2
                  go_round
                  case rel => exact ⟨Q + 1, by go_num, by omega, by omega⟩
                  case measure => simp [intOf]; omega
              · have hQI : ¬ (Q : Int) < E := by omega
                go_wp2
                go_ret2
                exact ⟨.slice none 0 0, by rw [hno.out.1]; rfl, by rw [hno.out.2]; exact World.ownsRow_nil _ _ 40 2, hbe.out⟩
          · have hEz0 : E < n ∧ zs.getD E 0 = 0 := by rcases hend with h9 | h9; exact absurd h9 hEn2; exact h9
            clear hend
            have hEI : (E : Int) < n := by omega
            have hcE := hcell.out E hEz0.1
            rw [hEz0.2] at hcE
            rw [if_neg hEn2] at hidx
            go_wp2
            go_loop [7] (fun t => ∃ Q : Nat, t = .int .i64 Q ∧ f ≤ Q ∧ Q ≤ E ∧ Kpt (∀ m, f ≤ m → m < Q → zs.getD m 0 ≠ 61)) (fun t => E - (intOf t).toNat)
            case atStart => exact ⟨f, rfl, by omega, by omega, ⟨fun m h1 h2 => by omega⟩⟩
            case round =>
              obtain ⟨Q, rfl, hfQ, hQE, hnq⟩ := hrel
              have hlg : Kpt (∀ m, m < E - f → ((zs.drop f).take (E - f)).getD m 0 = zs.getD (f + m) 0) := ⟨fun m hm => by rw [take_getD _ _ _ hm, drop_getD]⟩
              have hll : Kpt (((zs.drop f).take (E - f)).length = E - f) := ⟨by rw [List.length_take, hdl.out]; omega⟩
              by_cases hQ1 : Q < E
              · have hQI : (Q : Int) < E := by omega
                have hQn : (Q : Int) < n := by omega
                have hcQ := hcell.out Q (by omega)
                obtain ⟨y, hy⟩ : ∃ y, y = zs.getD Q 0 := ⟨_, rfl⟩
                rw [← hy] at hcQ
                by_cases hy1 : y = 61
                · subst hy1
                  have hi2 : idxL ((zs.drop f).take (E - f)) 61 = some (Q - f) := idx_some_of _ _ _ (by have := hll.out; omega) (by rw [hlg.out _ (by omega), show f + (Q - f) = Q by omega]; exact hy.symm) (fun m hm => by rw [hlg.out _ (by omega)]; exact hnq.out _ (by omega) (by omega))
                  obtain ⟨KL, hKL⟩ : ∃ K, K = (zs.drop f).take (Q - f) := ⟨_, rfl⟩
                  obtain ⟨VL, hVL⟩ : ∃ K, K = (zs.drop (Q + 1)).take (E - (Q + 1)) := ⟨_, rfl⟩
                  have eK : cutA ((zs.drop f).take (E - f)) 61 = KL := by unfold cutA; rw [hi2, hKL]; simp only; rw [List.take_take, Nat.min_eq_left (by omega)]
                  have eV : cutB ((zs.drop f).take (E - f)) 61 = VL := by unfold cutB; rw [hi2, hVL]; simp only; rw [List.drop_take, List.drop_drop, show f + (Q - f + 1) = Q + 1 by omega, show E - f - (Q - f + 1) = E - (Q + 1) by omega]
                  have eF : cutF ((zs.drop f).take (E - f)) 61 = true := by unfold cutF; rw [hi2]; rfl
                  have hpc2 : Kpt (par (zs.drop f) = if keyB KL && valB VL then (par (zs.drop (E + 1))).map ((KL, VL) :: ·) else none) := ⟨by
                    rw [hpc.out, hidx.out]
                    simp only
                    rw [eF, eK, eV, Bool.true_and, List.drop_drop, show f + (E - f + 1) = E + 1 by omega]⟩
                  have hKbl : Bytes KL ∧ Bytes VL ∧ KL.length ≤ 4096 ∧ VL.length ≤ 4096 := by rw [hKL, hVL]; exact ⟨(hbz.out.drop _).take _, (hbz.out.drop _).take _, by rw [List.length_take]; omega, by rw [List.length_take]; omega⟩
                  have hcvK : Kpt (∀ W, Below w.heap.size w W → (convert 22 9 (.slice (some ⟨b, off + f, none⟩) (Q - f) (c - f))).run Try.prog W = .ok (.string (strOfNums KL)) W) := ⟨fun W h => by rw [hKL]; exact conv_rd (rd_cut (hrB.out W h) f (Q - f) (by omega) (by omega))⟩
                  have hcvV : Kpt (∀ W, Below w.heap.size w W → (convert 22 9 (.slice (some ⟨b, off + (Q + 1), none⟩) (E - (Q + 1)) (c - (Q + 1)))).run Try.prog W = .ok (.string (strOfNums VL)) W) := ⟨fun W h => by rw [hVL]; exact conv_rd (rd_cut (hrB.out W h) (Q + 1) (E - (Q + 1)) (by omega) (by omega))⟩
                  have hik : Kpt (∀ W, Calls Try.prog 18 #[.string (strOfNums KL)] W fun e w' => e = .returned (.bool (keyB KL)) ∧ w' = W) := ⟨fun W => by
                    have := rkey_any (strOfNums KL) W (by rw [str_size]; have := hKbl.2.2.1; unfold maxLen; omega)
                    rw [nums_str KL hKbl.1] at this
                    exact this⟩
                  have hiv : Kpt (∀ W, Calls Try.prog 19 #[.string (strOfNums VL)] W fun e w' => e = .returned (.bool (valB VL)) ∧ w' = W) := ⟨fun W => by
                    have := rval_any (strOfNums VL) W (by rw [str_size]; have := hKbl.2.2.2; unfold maxLen; omega)
                    rw [nums_str VL hKbl.2.1] at this
                    exact this⟩
                  obtain ⟨sK, hsK⟩ : ∃ s, s = strOfNums KL := ⟨_, rfl⟩
                  obtain ⟨sV, hsV⟩ : ∃ s, s = strOfNums VL := ⟨_, rfl⟩
                  rw [← hsK] at hcvK hik
                  rw [← hsV] at hcvV hiv
                  replace hsK := Kpt.mk hsK
                  replace hsV := Kpt.mk hsV
                  obtain ⟨f2, hf2⟩ : ∃ f, f = keyB KL := ⟨_, rfl⟩
                  obtain ⟨f3, hf3⟩ : ∃ f, f = valB VL := ⟨_, rfl⟩
                  rw [← hf2] at hik hpc2
                  rw [← hf3] at hiv hpc2
                  have kE1 : ¬ (E : Int) = (n : Int) := by omega
                  have kE2 : ((E : Int) == (n : Int)) = false := by simp; omega
                  have kQ1 : ¬ (Q : Int) = (E : Int) := by omega
                  have kQ2 : ((Q : Int) == (E : Int)) = false := by simp; omega
                  have kc1 : ¬ (c : Int) < (Q : Int) := by omega
                  have kc2 : (f : Int) ≤ (Q : Int) := by omega
                  have kc3 : ¬ c = f := by omega
                  have kc4 : ¬ (c : Int) < (E : Int) := by omega
                  have kc5 : (Q : Int) + 1 ≤ (E : Int) := by omega
                  have kc6 : ¬ c = Q + 1 := by omega
                  have kc7 : ¬ (Q : Int) + 1 < 0 := by omega
                  have hwQ : Kpt (IntKind.i64.wrap ((Q : Int) + 1) = (Q : Int) + 1) := ⟨by simp only [IntKind.wrap, IntKind.bits, IntKind.signed]; simp; omega⟩
                  have hcv1 := hcvK.out _ hbe.out
                  have hcv2 := hcvV.out _ hbe.out
                  clear hKL hVL eK eV eF hi2 hy hf2 hf3 hKbl
                  by_cases hall : (f2 && f3) = true
                  · simp only [Bool.and_eq_true] at hall
                    obtain ⟨rfl, rfl⟩ := hall
                    have hnext : Kpt (par zs = (par (zs.drop (E + 1))).map ((acc ++ [(KL, VL)]) ++ ·)) := ⟨by
                      rw [hpar.out, hpc2.out]
                      cases par (zs.drop (E + 1)) <;> simp⟩
                    go_wp2_with (first
                      | (go_at_call 19; go_must (refine (hiv.out _).mono ?_; rintro e w4 ⟨rfl, rfl⟩))
                      | (go_at_call 18; go_must (refine (hik.out _).mono ?_; rintro e w4 ⟨rfl, rfl⟩)))
                    clear hcv1 hcv2
                    refine wp_region_any (by kernel_rfl) ?_
                    refine wpAny_of_C (C := fun W => Below w.heap.size w W) _ _ _ _ ?_
                    refine wpAnyC_take 0 (.slice va k vc) rfl (by kernel_rfl) (by kernel_rfl) (by kernel_rfl) (fun _ _ _ h => h) (wanted_free rfl _) (fun W hW => by go_simp) ?_
                    try simp only [Act.put, List.getElem_toArray, List.getElem_cons_succ, List.getElem_cons_zero, List.setIfInBounds_toArray, List.set_cons_succ, List.set_cons_zero]
                    refine wpAnyC_take 1 (.slice (some ⟨b, off, none⟩) n c) rfl (by kernel_rfl) (by kernel_rfl) (by kernel_rfl) (fun _ _ _ h => h) (wanted_free rfl _) (fun W hW => by go_simp) ?_
                    try simp only [Act.put, List.getElem_toArray, List.getElem_cons_succ, List.getElem_cons_zero, List.setIfInBounds_toArray, List.set_cons_succ, List.set_cons_zero]
                    refine wpAnyC_take 2 (.int .i64 f) rfl (by kernel_rfl) (by kernel_rfl) (by kernel_rfl) (fun _ _ _ h => h) (wanted_free rfl _) (fun W hW => by go_simp) ?_
                    try simp only [Act.put, List.getElem_toArray, List.getElem_cons_succ, List.getElem_cons_zero, List.setIfInBounds_toArray, List.set_cons_succ, List.set_cons_zero]
                    refine wpAnyC_take 3 (.int .i64 Q) rfl (by kernel_rfl) (by kernel_rfl) (by kernel_rfl) (fun _ _ _ h => h) (wanted_free rfl _) (fun W hW => by go_simp) ?_
                    try simp only [Act.put, List.getElem_toArray, List.getElem_cons_succ, List.getElem_cons_zero, List.setIfInBounds_toArray, List.set_cons_succ, List.set_cons_zero]
                    refine wpAnyC_take 4 (.slice (some ⟨b, off + f, none⟩) (Q - f) (c - f)) rfl (by kernel_rfl) (by kernel_rfl) (by kernel_rfl) (fun _ _ _ h => h) (wanted_free rfl _) (fun W hW => by go_simp) ?_
                    try simp only [Act.put, List.getElem_toArray, List.getElem_cons_succ, List.getElem_cons_zero, List.setIfInBounds_toArray, List.set_cons_succ, List.set_cons_zero]
                    refine wpAnyC_take 5 (.string sK) rfl (by kernel_rfl) (by kernel_rfl) (by kernel_rfl) (fun _ _ _ h => h) (wanted_free rfl _) (fun W hW => by have hq1 := hcvK.out W hW; go_simp) ?_
                    try simp only [Act.put, List.getElem_toArray, List.getElem_cons_succ, List.getElem_cons_zero, List.setIfInBounds_toArray, List.set_cons_succ, List.set_cons_zero]
                    refine wpAnyC_take 6 (.slice (some ⟨b, off, none⟩) n c) rfl (by kernel_rfl) (by kernel_rfl) (by kernel_rfl) (fun _ _ _ h => h) (wanted_free rfl _) (fun W hW => by go_simp) ?_
                    try simp only [Act.put, List.getElem_toArray, List.getElem_cons_succ, List.getElem_cons_zero, List.setIfInBounds_toArray, List.set_cons_succ, List.set_cons_zero]
                    refine wpAnyC_take 7 (.int .i64 Q) rfl (by kernel_rfl) (by kernel_rfl) (by kernel_rfl) (fun _ _ _ h => h) (wanted_free rfl _) (fun W hW => by go_simp) ?_
                    try simp only [Act.put, List.getElem_toArray, List.getElem_cons_succ, List.getElem_cons_zero, List.setIfInBounds_toArray, List.set_cons_succ, List.set_cons_zero]
                    refine wpAnyC_take 8 (.int .i64 (Q + 1)) rfl (by kernel_rfl) (by kernel_rfl) (by kernel_rfl) (fun _ _ _ h => h) (wanted_free rfl _) (fun W hW => by have hq1 := hwQ.out; go_simp) ?_
                    try simp only [Act.put, List.getElem_toArray, List.getElem_cons_succ, List.getElem_cons_zero, List.setIfInBounds_toArray, List.set_cons_succ, List.set_cons_zero]
                    refine wpAnyC_take 9 (.int .i64 E) rfl (by kernel_rfl) (by kernel_rfl) (by kernel_rfl) (fun _ _ _ h => h) (wanted_free rfl _) (fun W hW => by go_simp) ?_
                    try simp only [Act.put, List.getElem_toArray, List.getElem_cons_succ, List.getElem_cons_zero, List.setIfInBounds_toArray, List.set_cons_succ, List.set_cons_zero]
                    refine wpAnyC_take 10 (.slice (some ⟨b, off + (Q + 1), none⟩) (E - (Q + 1)) (c - (Q + 1))) rfl (by kernel_rfl) (by kernel_rfl) (by kernel_rfl) (fun _ _ _ h => h) (wanted_free rfl _) (fun W hW => by go_simp) ?_
                    try simp only [Act.put, List.getElem_toArray, List.getElem_cons_succ, List.getElem_cons_zero, List.setIfInBounds_toArray, List.set_cons_succ, List.set_cons_zero]
                    refine wpAnyC_take 11 (.string sV) rfl (by kernel_rfl) (by kernel_rfl) (by kernel_rfl) (fun _ _ _ h => h) (wanted_free rfl _) (fun W hW => by have hq1 := hcvV.out W hW; go_simp) ?_
                    try simp only [Act.put, List.getElem_toArray, List.getElem_cons_succ, List.getElem_cons_zero, List.setIfInBounds_toArray, List.set_cons_succ, List.set_cons_zero]
                    refine wpAnyC_take 12 (.agg #[.string sK, .string sV]) rfl (by kernel_rfl) (by kernel_rfl) (by kernel_rfl) (fun _ _ _ h => h) (wanted_free rfl _) (fun W hW => by kernel_rfl) ?_
                    try simp only [Act.put, List.getElem_toArray, List.getElem_cons_succ, List.getElem_cons_zero, List.setIfInBounds_toArray, List.set_cons_succ, List.set_cons_zero]
                    refine wpAnyC_one 13 (hbe.out.drew) rfl (by kernel_rfl) (wanted_free rfl _) (fun KA hKA => ?_)
                    refine wp_built_pr sK sV (by kernel_rfl) ?_
                    intro g5 w5 hcell5 hbe5
                    replace hbe5 := below_undrew hbe5
                    have hb5 : Kpt (Below w.heap.size w w5) := ⟨hbe.out.trans (hbe5.mono hbe.out.size)⟩
                    have ho5 : Kpt (w5.ownsRow w.heap.size 40 2 (.slice va k vc) k (cellsP acc)) := ⟨own_ofb hown.out fun g hg => hbe5.block g (World.ownsRow.lt hown.out g hg).2⟩
                    have hcp : Kpt (w5.cell? ⟨g5, 0, none⟩ = some (.string (strOfNums KL)) ∧ w5.cell? ⟨g5, 1, none⟩ = some (.string (strOfNums VL))) := ⟨by rw [← hsK.out, ← hsV.out]; exact hcell5⟩
                    refine hKA _ _ ?_
                    clear hKA KA hbe5 hcell5
                    try simp only [Act.put, List.getElem_toArray, List.getElem_cons_succ, List.getElem_cons_zero, List.setIfInBounds_toArray, List.set_cons_succ, List.set_cons_zero]
                    refine wpAnyC_one 14 (hb5.out) rfl (by kernel_rfl) (wanted_free rfl _) (fun KA hKA => ?_)
                    refine wp_append_pr (.tmp 70) (.tmp 83) rfl w.heap.size _ acc (KL, VL) k rfl ho5.out g5 rfl hcp.out.1 hcp.out.2 (by omega) hb5.out.size ?_
                    intro v6 w6 ho6 hg6
                    obtain ⟨_, va6, vc6, rfl, _, _⟩ := prs_of ho6
                    have hb6 : Kpt (Below w.heap.size w w6) := ⟨hb5.out.grown hg6 hb5.out.size (fun k h => (World.ownsRow.lt ho5.out k h).1)⟩
                    replace ho6 := Kpt.mk ho6
                    refine hKA _ _ ?_
                    clear hKA KA hg6
                    try simp only [Act.put, List.getElem_toArray, List.getElem_cons_succ, List.getElem_cons_zero, List.setIfInBounds_toArray, List.set_cons_succ, List.set_cons_zero]
                    refine wpAnyC_take 15 (.slice va6 (k + 1) vc6) rfl (by kernel_rfl) (by kernel_rfl) (by kernel_rfl) (fun _ _ _ h => h) (wanted_free rfl _) (fun W hW => by go_simp) ?_
                    try simp only [Act.put, List.getElem_toArray, List.getElem_cons_succ, List.getElem_cons_zero, List.setIfInBounds_toArray, List.set_cons_succ, List.set_cons_zero]
                    refine wpAnyC_done hb6.out (by kernel_rfl) ?_
                    go_wp2
                    go_roundw
                    case rel => exact ⟨E + 1, k + 1, acc ++ [(KL, VL)], by go_num, by omega, by omega, ho6, hnext, hb6⟩
                    case measure => simp [intOf]; omega
                  · have hno : Kpt (parE zs = 13 ∧ parO zs = []) := ⟨by
                      have e1 : par zs = none := by rw [hpar.out, hpc2.out, if_neg hall]; rfl
                      unfold parE parO; rw [e1]; exact ⟨rfl, rfl⟩⟩
                    cases f2 with
                    | false =>
                      go_wp2_with (go_at_call 18; go_must (refine (hik.out _).mono ?_; rintro e w4 ⟨rfl, rfl⟩))
                      go_ret2
                      exact ⟨.slice none 0 0, by rw [hno.out.1]; rfl, by rw [hno.out.2]; exact World.ownsRow_nil _ _ 40 2, hbe.out⟩
                    | true =>
                      cases f3 with
                      | true => exact absurd rfl hall
                      | false =>
                        go_wp2_with (first
                          | (go_at_call 19; go_must (refine (hiv.out _).mono ?_; rintro e w4 ⟨rfl, rfl⟩))
                          | (go_at_call 18; go_must (refine (hik.out _).mono ?_; rintro e w4 ⟨rfl, rfl⟩)))
                        go_ret2
                        exact ⟨.slice none 0 0, by rw [hno.out.1]; rfl, by rw [hno.out.2]; exact World.ownsRow_nil _ _ 40 2, hbe.out⟩
                · have hy2 : (y != 61) = true := by simpa using hy1
                  have hnq2 : Kpt (∀ m, f ≤ m → m < Q + 1 → zs.getD m 0 ≠ 61) := ⟨fun m h1 h2 => by
                    by_cases hmQ : m < Q
                    · exact hnq.out m h1 hmQ
                    · obtain rfl : m = Q := by omega
                      rw [← hy]; exact hy1⟩
                  clear hy1 hy
                  go_wp2
                  go_round
                  case rel => exact ⟨Q + 1, by go_num, by omega, by omega, hnq2⟩
                  case measure => simp [intOf]; omega
              · have hQI : ¬ (Q : Int) < E := by omega
                obtain rfl : Q = E := by omega
                have hi2 : idxL ((zs.drop f).take (Q - f)) 61 = none := idx_none_of _ _ (fun m hm => by rw [hlg.out _ (by have := hll.out; omega)]; exact hnq.out _ (by omega) (by have := hll.out; omega))
                have eF : cutF ((zs.drop f).take (Q - f)) 61 = false := by unfold cutF; rw [hi2]; rfl
                have hno : Kpt (parE zs = 13 ∧ parO zs = []) := ⟨by
                  have e1 : par zs = none := by rw [hpar.out, hpc.out, hidx.out]; simp only; rw [eF]; rfl
                  unfold parE parO; rw [e1]; exact ⟨rfl, rfl⟩⟩
                have kE1 : ¬ (Q : Int) = (n : Int) := by omega
                have kE2 : ((Q : Int) == (n : Int)) = false := by simp; omega
                clear hi2 eF
                go_wp2
                go_ret2
                exact ⟨.slice none 0 0, by rw [hno.out.1]; rfl, by rw [hno.out.2]; exact World.ownsRow_nil _ _ 40 2, hbe.out⟩
    · have h0I : ¬ (f : Int) < n := by omega
      obtain rfl : f = n := by omega
      have hps : par zs = some acc := by rw [hpar.out, List.drop_of_length_le (by rw [hzl.out]; omega), par_nil]; simp
      obtain ⟨hpa, a', c', hv, hcx, hal⟩ := prs_of hown.out
      simp only [Value.slice.injEq] at hv
      obtain ⟨rfl, -, rfl⟩ := hv
      have htw := Kpt.mk (fun W (h : PsAt W (.slice va k vc) (acc.map prS)) => rtwice_any va k vc (acc.map prS) W h (by unfold maxLen; omega))
      have hpa' := Kpt.mk hpa
      have hal' := Kpt.mk hal
      clear hpar hpa hal hcx
      by_cases h64 : 64 < k
      · have hE : Kpt (parE zs = 2 ∧ parO zs = []) := ⟨by unfold parE parO; rw [hps]; have := hal'.out; exact ⟨if_pos (by omega), if_pos (by omega)⟩⟩
        have h64I : (64 : Int) < k := by omega
        clear hps
        go_wp2
        go_ret2
        exact ⟨.slice none 0 0, by rw [hE.out.1]; rfl, by rw [hE.out.2]; exact World.ownsRow_nil _ _ 40 2, hbe.out⟩
      · have h64I : ¬ (64 : Int) < k := by omega
        cases htv : twP (acc.map prS) with
        | true =>
          have hE : Kpt (parE zs = 9 ∧ parO zs = []) := ⟨by unfold parE parO; rw [hps]; have h64' : ¬ 64 < acc.length := (by have := hal'.out; omega); simp only; rw [if_neg h64', if_neg h64', if_pos htv, if_pos htv]; exact ⟨rfl, rfl⟩⟩
          rw [htv] at htw
          clear hps htv
          go_wp2_with (go_at_call 20; go_must (refine (htw.out _ hpa'.out).mono ?_; rintro e w2 ⟨rfl, hs2⟩; replace hbe : Kpt (Below w.heap.size w w2) := ⟨hbe.out.trans (hs2.bel.mono hbe.out.size)⟩; clear hs2))
          go_ret2
          exact ⟨.slice none 0 0, by rw [hE.out.1]; rfl, by rw [hE.out.2]; exact World.ownsRow_nil _ _ 40 2, hbe.out⟩
        | false =>
          have hE : Kpt (parE zs = 0 ∧ parO zs = acc) := ⟨by unfold parE parO; rw [hps]; have h64' : ¬ 64 < acc.length := (by have := hal'.out; omega); have h65 : ¬ twP (acc.map prS) = true := (by rw [htv]; simp); simp only; rw [if_neg h64', if_neg h64', if_neg h65, if_neg h65]; exact ⟨rfl, rfl⟩⟩
          rw [htv] at htw
          clear hps htv
          go_wp2_with (go_at_call 20; go_must (refine (htw.out _ hpa'.out).mono ?_; rintro e w2 ⟨rfl, hs2⟩; replace hown : Kpt (w2.ownsRow w.heap.size 40 2 (.slice va k vc) k (cellsP acc)) := ⟨own_ofb hown.out fun g hg => by rw [hs2.heap]⟩; replace hbe : Kpt (Below w.heap.size w w2) := ⟨hbe.out.trans (hs2.bel.mono hbe.out.size)⟩; clear hs2))
          go_ret2
          exact ⟨.slice va k vc, by rw [hE.out.1]; rfl, by rw [hE.out.2, hal'.out]; exact hown.out, hbe.out⟩
end Go.Proofs.Ytkojkglaljiilaa
