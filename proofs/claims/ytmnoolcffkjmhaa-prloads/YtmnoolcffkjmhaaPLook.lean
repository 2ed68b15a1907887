/-
  What both tables look like is the same.
-/
import Derived.Test.YtmnoolcffkjmhaaPLdV
import Derived.Test.YtmnoolcffkjmhaaPX11
namespace Go.Proofs.Ytmnoolcffkjmhaa
open Go.RowKit
set_option linter.unusedVariables false
set_option linter.unusedSimpArgs false

theorem regsTo_at (f : Nat → Int) (k : Nat) (hf : f k ≠ 0) : ∀ n, k < n → (regsTo f n)[(regsTo f k).length]? = some ((k : Int), f k)
  | 0, h => absurd h (Nat.not_lt_zero _)
  | n + 1, h => by
    by_cases e : k = n
    · subst e
      show (regsTo f k ++ if f k ≠ 0 then [((k : Int), f k)] else [])[(regsTo f k).length]? = _
      rw [if_pos hf, List.getElem?_append_right (Nat.le_refl _)]
      simp
    · have h2 := regsTo_at f k hf n (by omega)
      show (regsTo f n ++ if f n ≠ 0 then [((n : Int), f n)] else [])[(regsTo f k).length]? = _
      rw [List.getElem?_append_left (List.getElem?_eq_some_iff.1 h2).1]
      exact h2
theorem regsTo_succ (f : Nat → Int) (k : Nat) : (regsTo f (k + 1)).length = (regsTo f k).length + if f k ≠ 0 then 1 else 0 := by
  show (regsTo f k ++ if f k ≠ 0 then [((k : Int), f k)] else []).length = _
  split <;> simp
set_option maxRecDepth 100000 in
set_option maxHeartbeats 4000000 in
theorem looks_any (B C : Nat) (t : Tb) (x : Int) (w : World) (hB : Tab w B t) (hC : RTab w C t x) (hg : t.good) :
    Calls Try.prog 17 #[.pointer (some ⟨B, 0, none⟩), .pointer (some ⟨C, 0, none⟩)] w fun e w' => e = .returned (.bool true) ∧ Below w.heap.size w w' := by
  have HR := Kpt.mk (regs_any B t w hB)
  have hK := Kpt.mk hB
  have hKC := Kpt.mk hC
  replace hg := Kpt.mk hg
  have hBl := hB.lt
  have hCl := hC.lt
  clear hB hC
  go_enter Try.func17, Try.ntmps17
  go_wp2_with (go_at_call 19; go_must (refine HR.out.mono ?_; rintro e w1 ⟨v, rfl, hO1, hB1⟩; obtain ⟨a, cp, hv, hs⟩ := hO1.shape; subst hv; replace hs := Kpt.mk hs; replace hB1 := Kpt.mk hB1; obtain ⟨m, hm⟩ : ∃ m, Kpt (m = t.regs.length) := ⟨_, ⟨rfl⟩⟩; rw [← hm.out]; clear hO1 HR))
  have hm8 : m ≤ 8 := by rw [hm.out]; exact regs_len t
  go_loopw [6, 7] (fun i j wr => ∃ k : Nat, k ≤ 8 ∧ j = .int .i64 k ∧ i = .int .i64 (regsTo t.ks k).length ∧ Kpt (∃ q, wr = w1.drewN q)) (fun _ j _ => 8 - (intOf j).toNat)
  case atStart => exact ⟨0, by omega, rfl, rfl, ⟨0, rfl⟩⟩
  case round =>
    obtain ⟨k, hk, rfl, rfl, hq⟩ := hrel
    obtain ⟨q, hq'⟩ := hq.out
    by_cases hlt : k < 8
    · have e1 : (k : Int) < 8 := by omega
      have e7 : (k : Int) ≤ 7 := by omega
      have hT : RTab wr C t x := by rw [hq']; exact (hKC.out.below' hB1.out).drewN q
      have hky := hT.key k hlt
      have hCr := hT.lt
      have hss := Kpt.mk (regsTo_succ t.ks k)
      by_cases hz : t.ks k = 0
      · have hsz : Kpt ((regsTo t.ks (k + 1)).length = (regsTo t.ks k).length) := ⟨by rw [hss.out]; simp [hz]⟩
        rw [hz] at hky
        generalize (regsTo t.ks k).length = i at *
        clear hT hq' hs hm hss hz
        go_wp2
        go_roundw
        case rel => exact ⟨k + 1, by omega, by go_num, by rw [hsz.out], hq⟩
        case measure => simp [intOf]; omega
      · have hsz : Kpt ((regsTo t.ks (k + 1)).length = (regsTo t.ks k).length + 1) := ⟨by rw [hss.out]; simp [hz]⟩
        have hr : t.regs[(regsTo t.ks k).length]? = some ((k : Int), t.ks k) := regsTo_at t.ks k hz 8 hlt
        have hlm : (regsTo t.ks k).length < m := by rw [hm.out]; exact (List.getElem?_eq_some_iff.1 hr).1
        rcases hs.out with ⟨_, _, hz0⟩ | ⟨g, rfl, hg1, hg2, hc1, hc2, hr1⟩
        · rw [← hm.out] at hz0; omega
        obtain ⟨p0, p1⟩ := range2 (κ := .u64) (t := ((k : Int), t.ks k)) (fun j v hv => (by rw [hq']; exact hr1 _ _ hr j v hv : wr.cell? ⟨g, (regsTo t.ks k).length * 2 + j, none⟩ = some v))
        have hgl : g < wr.heap.size := by rw [hq']; exact hg2
        simp only at p0 p1
        rw [← hm.out] at hc1
        generalize (regsTo t.ks k).length = i at *
        generalize t.ks k = y at *
        have eim : (i : Int) < m := by omega
        have eim2 : ¬ (m : Int) ≤ i := by omega
        have hyb : (y == 0) = false := by simp [hz]
        clear hr1 hr hq' hs hT hss hg1 hg2
        go_wp2_with fail
        go_quiet (fail)
        go_wp2
        go_roundw
        case rel => exact ⟨k + 1, by omega, by go_num, by rw [hsz.out]; go_num, ⟨by obtain ⟨q, hq⟩ := hq.out; exact ⟨_, by rw [hq, World.drewN_drewN]⟩⟩⟩
        case measure => simp [intOf]; omega
    · have ek : k = 8 := by omega
      subst ek
      have e8 : Kpt ((regsTo t.ks 8).length = m) := ⟨hm.out.symm⟩
      have hT := (hK.out.below' hB1.out).drewN q
      have hR := (hKC.out.below' hB1.out).drewN q
      have hBw := Kpt.mk (below_drewN hB1.out q)
      rw [← hq'] at hT hR hBw
      have HR20 := Kpt.mk (reserved_any B t wr hT)
      have HR35 := Kpt.mk (fun q => rres_any C t x (wr.drewN q) (hR.drewN q))
      have hTK := Kpt.mk hT
      have hRK := Kpt.mk hR
      have hu := res_u8 t hg.out
      generalize t.res.1 = r1 at *
      generalize t.res.2 = r2 at *
      have e8' := e8.out
      generalize (regsTo t.ks 8).length = i at *
      subst e8'
      clear hq' hq hs hm hT hR hlt hk e8 hK hKC
      go_wp2_with fail
      refine HR20.out.mono ?_
      rintro e w2 ⟨rfl, q2, rfl⟩
      go_wp2_with fail
      refine (HR35.out q2).mono ?_
      rintro e w3 ⟨rfl, q3, hw3⟩
      have hT3 := (hTK.out.drewN q2).drewN q3
      have hR3 := (hRK.out.drewN q2).drewN q3
      have hB3 := Kpt.mk (below_drewN (below_drewN hBw.out q2) q3)
      rw [← hw3] at hT3 hR3 hB3
      replace hT3 := Kpt.mk hT3
      replace hR3 := Kpt.mk hR3
      clear hw3 HR20 HR35 hTK hRK hBw
      go_wp2_with fail
      have hcl : ∀ W, Below w3.heap.size w3 W → Tab W B t ∧ RTab W C t x := fun W h => ⟨hT3.out.below' h, hR3.out.below' h⟩
      have hb0 : Kpt (Below w3.heap.size w3 (w3.drewN 1)) := ⟨below_drewN (Below.refl _ _) 1⟩
      have HG := Kpt.mk (gen_any B t (w3.drewN 1) (hcl _ hb0.out).1)
      have HL := Kpt.mk (lasts_any B t (w3.drewN 1) (hcl _ hb0.out).1)
      have HS := Kpt.mk (save_any B t (w3.drewN 1) (hcl _ hb0.out).1 hg.out)
      have HRS := Kpt.mk (fun W (h : Below w3.heap.size w3 W) => rsave_any C t x W (hcl W h).2 hg.out)
      have HC10 := Kpt.mk (fun W (h : Below w3.heap.size w3 W) => (hcl W h).2.c10)
      have HC11 := Kpt.mk (fun W (h : Below w3.heap.size w3 W) => (hcl W h).2.c11)
      have HCl := Kpt.mk (fun W (h : Below w3.heap.size w3 W) => (hcl W h).2.lt)
      clear hcl
      generalize t.gn = gn at *
      generalize t.la = la at *
      generalize t.saved = sv at *
      refine wp_region_any (by kernel_rfl) ?_
      refine wpAny_of_C (C := fun W => Below w3.heap.size w3 W) _ _ _ _ ?_
      refine wpAnyC_take 0 (.int .i64 i) rfl (by kernel_rfl) (by kernel_rfl) (by kernel_rfl) (fun _ _ _ h => h) (wanted_free rfl _) (fun W hW => by go_simp) ?_
      simp only [Act.put, List.getElem_toArray, List.getElem_cons_succ, List.getElem_cons_zero, List.setIfInBounds_toArray, List.set_cons_succ, List.set_cons_zero]
      refine wpAnyC_take 1 (.slice a i cp) rfl (by kernel_rfl) (by kernel_rfl) (by kernel_rfl) (fun _ _ _ h => h) (wanted_free rfl _) (fun W hW => by go_simp) ?_
      simp only [Act.put, List.getElem_toArray, List.getElem_cons_succ, List.getElem_cons_zero, List.setIfInBounds_toArray, List.set_cons_succ, List.set_cons_zero]
      refine wpAnyC_take 2 (.int .i64 i) rfl (by kernel_rfl) (by kernel_rfl) (by kernel_rfl) (fun _ _ _ h => h) (wanted_free rfl _) (fun W hW => by go_simp) ?_
      simp only [Act.put, List.getElem_toArray, List.getElem_cons_succ, List.getElem_cons_zero, List.setIfInBounds_toArray, List.set_cons_succ, List.set_cons_zero]
      refine wpAnyC_take 3 (.bool false) rfl (by kernel_rfl) (by kernel_rfl) (by kernel_rfl) (fun _ _ _ h => h) (wanted_free rfl _) (fun W hW => by go_simp) ?_
      simp only [Act.put, List.getElem_toArray, List.getElem_cons_succ, List.getElem_cons_zero, List.setIfInBounds_toArray, List.set_cons_succ, List.set_cons_zero]
      refine wpAnyC_take 4 (.bool false) rfl (by kernel_rfl) (by kernel_rfl) (by kernel_rfl) (fun _ _ _ h => h) (wanted_free rfl _) (fun W hW => by go_simp) ?_
      simp only [Act.put, List.getElem_toArray, List.getElem_cons_succ, List.getElem_cons_zero, List.setIfInBounds_toArray, List.set_cons_succ, List.set_cons_zero]
      refine wpAnyC_take 5 (.int .u8 r1) rfl (by kernel_rfl) (by kernel_rfl) (by kernel_rfl) (fun _ _ _ h => h) (wanted_at false rfl rfl rfl rfl) (fun W hW => by go_simp) ?_
      simp only [Act.put, List.getElem_toArray, List.getElem_cons_succ, List.getElem_cons_zero, List.setIfInBounds_toArray, List.set_cons_succ, List.set_cons_zero]
      refine wpAnyC_take 6 (.int .i64 r1) rfl (by kernel_rfl) (by kernel_rfl) (by kernel_rfl) (fun _ _ _ h => h) (wanted_at false rfl rfl rfl rfl) (fun W hW => by go_simp; rw [IntKind.wrap_i64]; omega) ?_
      simp only [Act.put, List.getElem_toArray, List.getElem_cons_succ, List.getElem_cons_zero, List.setIfInBounds_toArray, List.set_cons_succ, List.set_cons_zero]
      refine wpAnyC_take 7 (.int .i64 r1) rfl (by kernel_rfl) (by kernel_rfl) (by kernel_rfl) (fun _ _ _ h => h) (wanted_at false rfl rfl rfl rfl) (fun W hW => by go_simp) ?_
      simp only [Act.put, List.getElem_toArray, List.getElem_cons_succ, List.getElem_cons_zero, List.setIfInBounds_toArray, List.set_cons_succ, List.set_cons_zero]
      refine wpAnyC_take 8 (.bool false) rfl (by kernel_rfl) (by kernel_rfl) (by kernel_rfl) (fun _ _ _ h => h) (wanted_at false rfl rfl rfl rfl) (fun W hW => by go_simp) ?_
      simp only [Act.put, List.getElem_toArray, List.getElem_cons_succ, List.getElem_cons_zero, List.setIfInBounds_toArray, List.set_cons_succ, List.set_cons_zero]
      refine wpAnyC_take 9 (.bool false) rfl (by kernel_rfl) (by kernel_rfl) (by kernel_rfl) (fun _ _ _ h => h) (wanted_free rfl _) (fun W hW => by go_simp) ?_
      simp only [Act.put, List.getElem_toArray, List.getElem_cons_succ, List.getElem_cons_zero, List.setIfInBounds_toArray, List.set_cons_succ, List.set_cons_zero]
      refine wpAnyC_take 10 (.bool false) rfl (by kernel_rfl) (by kernel_rfl) (by kernel_rfl) (fun _ _ _ h => h) (wanted_free rfl _) (fun W hW => by go_simp) ?_
      simp only [Act.put, List.getElem_toArray, List.getElem_cons_succ, List.getElem_cons_zero, List.setIfInBounds_toArray, List.set_cons_succ, List.set_cons_zero]
      refine wpAnyC_take 11 (.int .i64 r2) rfl (by kernel_rfl) (by kernel_rfl) (by kernel_rfl) (fun _ _ _ h => h) (wanted_at false rfl rfl rfl rfl) (fun W hW => by go_simp) ?_
      simp only [Act.put, List.getElem_toArray, List.getElem_cons_succ, List.getElem_cons_zero, List.setIfInBounds_toArray, List.set_cons_succ, List.set_cons_zero]
      refine wpAnyC_take 12 (.int .i64 r2) rfl (by kernel_rfl) (by kernel_rfl) (by kernel_rfl) (fun _ _ _ h => h) (wanted_at false rfl rfl rfl rfl) (fun W hW => by go_simp) ?_
      simp only [Act.put, List.getElem_toArray, List.getElem_cons_succ, List.getElem_cons_zero, List.setIfInBounds_toArray, List.set_cons_succ, List.set_cons_zero]
      refine wpAnyC_take 13 (.bool false) rfl (by kernel_rfl) (by kernel_rfl) (by kernel_rfl) (fun _ _ _ h => h) (wanted_at false rfl rfl rfl rfl) (fun W hW => by go_simp) ?_
      simp only [Act.put, List.getElem_toArray, List.getElem_cons_succ, List.getElem_cons_zero, List.setIfInBounds_toArray, List.set_cons_succ, List.set_cons_zero]
      refine wpAnyC_take 14 (.bool false) rfl (by kernel_rfl) (by kernel_rfl) (by kernel_rfl) (fun _ _ _ h => h) (wanted_free rfl _) (fun W hW => by go_simp) ?_
      simp only [Act.put, List.getElem_toArray, List.getElem_cons_succ, List.getElem_cons_zero, List.setIfInBounds_toArray, List.set_cons_succ, List.set_cons_zero]
      refine wpAnyC_take 15 (.bool false) rfl (by kernel_rfl) (by kernel_rfl) (by kernel_rfl) (fun _ _ _ h => h) (wanted_free rfl _) (fun W hW => by go_simp) ?_
      simp only [Act.put, List.getElem_toArray, List.getElem_cons_succ, List.getElem_cons_zero, List.setIfInBounds_toArray, List.set_cons_succ, List.set_cons_zero]
      refine wpAnyC_take 16 (.pointer (some ⟨B, 0, none⟩)) rfl (by kernel_rfl) (by kernel_rfl) (by kernel_rfl) (fun _ _ _ h => h) (wanted_at false rfl rfl rfl rfl) (fun W hW => by go_simp) ?_
      simp only [Act.put, List.getElem_toArray, List.getElem_cons_succ, List.getElem_cons_zero, List.setIfInBounds_toArray, List.set_cons_succ, List.set_cons_zero]
      refine wpAnyC_take 18 (.pointer (some ⟨C, 0, none⟩)) rfl (by kernel_rfl) (by kernel_rfl) (by kernel_rfl) (fun _ _ _ h => h) (wanted_at false rfl rfl rfl rfl) (fun W hW => by go_simp) ?_
      simp only [Act.put, List.getElem_toArray, List.getElem_cons_succ, List.getElem_cons_zero, List.setIfInBounds_toArray, List.set_cons_succ, List.set_cons_zero]
      refine wpAnyC_take 19 (.pointer (some ⟨C, 0, none⟩)) rfl (by kernel_rfl) (by kernel_rfl) (by kernel_rfl) (fun _ _ _ h => h) (wanted_at false rfl rfl rfl rfl) (fun W hW => by go_simp) ?_
      simp only [Act.put, List.getElem_toArray, List.getElem_cons_succ, List.getElem_cons_zero, List.setIfInBounds_toArray, List.set_cons_succ, List.set_cons_zero]
      refine wpAnyC_take 20 (.pointer (some ⟨C, 10, none⟩)) rfl (by kernel_rfl) (by kernel_rfl) (by kernel_rfl) (fun _ _ _ h => h) (wanted_at false rfl rfl rfl rfl) (fun W hW => by go_simp) ?_
      simp only [Act.put, List.getElem_toArray, List.getElem_cons_succ, List.getElem_cons_zero, List.setIfInBounds_toArray, List.set_cons_succ, List.set_cons_zero]
      refine wpAnyC_take 21 (.int .u32 gn) rfl (by kernel_rfl) (by kernel_rfl) (by kernel_rfl) (fun _ _ _ h => h) (wanted_at false rfl rfl rfl rfl) (fun W hW => by have h10 := HC10.out W hW; have hl := HCl.out W hW; go_simp) ?_
      simp only [Act.put, List.getElem_toArray, List.getElem_cons_succ, List.getElem_cons_zero, List.setIfInBounds_toArray, List.set_cons_succ, List.set_cons_zero]
      refine wpAnyC_one 17 hb0.out rfl (by kernel_rfl) (wanted_at false rfl rfl rfl rfl) (fun KA hKA => ?_)
      go_simp
      refine (HG.out).mono ?_
      rintro e wx ⟨rfl, rfl⟩
      refine hKA _ _ ?_
      try simp only [Act.put, List.getElem_toArray, List.getElem_cons_succ, List.getElem_cons_zero, List.setIfInBounds_toArray, List.set_cons_succ, List.set_cons_zero]
      clear hKA KA
      refine wpAnyC_take 22 (.bool false) rfl (by kernel_rfl) (by kernel_rfl) (by kernel_rfl) (fun _ _ _ h => h) (wanted_at false rfl rfl rfl rfl) (fun W hW => by go_simp) ?_
      simp only [Act.put, List.getElem_toArray, List.getElem_cons_succ, List.getElem_cons_zero, List.setIfInBounds_toArray, List.set_cons_succ, List.set_cons_zero]
      refine wpAnyC_take 23 (.bool false) rfl (by kernel_rfl) (by kernel_rfl) (by kernel_rfl) (fun _ _ _ h => h) (wanted_free rfl _) (fun W hW => by go_simp) ?_
      simp only [Act.put, List.getElem_toArray, List.getElem_cons_succ, List.getElem_cons_zero, List.setIfInBounds_toArray, List.set_cons_succ, List.set_cons_zero]
      refine wpAnyC_take 24 (.bool false) rfl (by kernel_rfl) (by kernel_rfl) (by kernel_rfl) (fun _ _ _ h => h) (wanted_free rfl _) (fun W hW => by go_simp) ?_
      simp only [Act.put, List.getElem_toArray, List.getElem_cons_succ, List.getElem_cons_zero, List.setIfInBounds_toArray, List.set_cons_succ, List.set_cons_zero]
      refine wpAnyC_take 25 (.pointer (some ⟨B, 0, none⟩)) rfl (by kernel_rfl) (by kernel_rfl) (by kernel_rfl) (fun _ _ _ h => h) (wanted_at false rfl rfl rfl rfl) (fun W hW => by go_simp) ?_
      simp only [Act.put, List.getElem_toArray, List.getElem_cons_succ, List.getElem_cons_zero, List.setIfInBounds_toArray, List.set_cons_succ, List.set_cons_zero]
      refine wpAnyC_take 27 (.pointer (some ⟨C, 0, none⟩)) rfl (by kernel_rfl) (by kernel_rfl) (by kernel_rfl) (fun _ _ _ h => h) (wanted_at false rfl rfl rfl rfl) (fun W hW => by go_simp) ?_
      simp only [Act.put, List.getElem_toArray, List.getElem_cons_succ, List.getElem_cons_zero, List.setIfInBounds_toArray, List.set_cons_succ, List.set_cons_zero]
      refine wpAnyC_take 28 (.pointer (some ⟨C, 0, none⟩)) rfl (by kernel_rfl) (by kernel_rfl) (by kernel_rfl) (fun _ _ _ h => h) (wanted_at false rfl rfl rfl rfl) (fun W hW => by go_simp) ?_
      simp only [Act.put, List.getElem_toArray, List.getElem_cons_succ, List.getElem_cons_zero, List.setIfInBounds_toArray, List.set_cons_succ, List.set_cons_zero]
      refine wpAnyC_take 29 (.pointer (some ⟨C, 11, none⟩)) rfl (by kernel_rfl) (by kernel_rfl) (by kernel_rfl) (fun _ _ _ h => h) (wanted_at false rfl rfl rfl rfl) (fun W hW => by go_simp) ?_
      simp only [Act.put, List.getElem_toArray, List.getElem_cons_succ, List.getElem_cons_zero, List.setIfInBounds_toArray, List.set_cons_succ, List.set_cons_zero]
      refine wpAnyC_take 30 (.bool la) rfl (by kernel_rfl) (by kernel_rfl) (by kernel_rfl) (fun _ _ _ h => h) (wanted_at false rfl rfl rfl rfl) (fun W hW => by have h11 := HC11.out W hW; have hl := HCl.out W hW; go_simp) ?_
      simp only [Act.put, List.getElem_toArray, List.getElem_cons_succ, List.getElem_cons_zero, List.setIfInBounds_toArray, List.set_cons_succ, List.set_cons_zero]
      refine wpAnyC_one 26 hb0.out rfl (by kernel_rfl) (wanted_at false rfl rfl rfl rfl) (fun KA hKA => ?_)
      go_simp
      refine (HL.out).mono ?_
      rintro e wx ⟨rfl, rfl⟩
      refine hKA _ _ ?_
      try simp only [Act.put, List.getElem_toArray, List.getElem_cons_succ, List.getElem_cons_zero, List.setIfInBounds_toArray, List.set_cons_succ, List.set_cons_zero]
      clear hKA KA
      refine wpAnyC_take 31 (.bool false) rfl (by kernel_rfl) (by kernel_rfl) (by kernel_rfl) (fun _ _ _ h => h) (wanted_at false rfl rfl rfl rfl) (fun W hW => by go_simp) ?_
      simp only [Act.put, List.getElem_toArray, List.getElem_cons_succ, List.getElem_cons_zero, List.setIfInBounds_toArray, List.set_cons_succ, List.set_cons_zero]
      refine wpAnyC_take 32 (.bool false) rfl (by kernel_rfl) (by kernel_rfl) (by kernel_rfl) (fun _ _ _ h => h) (wanted_free rfl _) (fun W hW => by go_simp) ?_
      simp only [Act.put, List.getElem_toArray, List.getElem_cons_succ, List.getElem_cons_zero, List.setIfInBounds_toArray, List.set_cons_succ, List.set_cons_zero]
      refine wpAnyC_take 33 (.bool false) rfl (by kernel_rfl) (by kernel_rfl) (by kernel_rfl) (fun _ _ _ h => h) (wanted_free rfl _) (fun W hW => by go_simp) ?_
      simp only [Act.put, List.getElem_toArray, List.getElem_cons_succ, List.getElem_cons_zero, List.setIfInBounds_toArray, List.set_cons_succ, List.set_cons_zero]
      refine wpAnyC_take 34 (.pointer (some ⟨B, 0, none⟩)) rfl (by kernel_rfl) (by kernel_rfl) (by kernel_rfl) (fun _ _ _ h => h) (wanted_at false rfl rfl rfl rfl) (fun W hW => by go_simp) ?_
      simp only [Act.put, List.getElem_toArray, List.getElem_cons_succ, List.getElem_cons_zero, List.setIfInBounds_toArray, List.set_cons_succ, List.set_cons_zero]
      refine wpAnyC_take 37 (.pointer (some ⟨C, 0, none⟩)) rfl (by kernel_rfl) (by kernel_rfl) (by kernel_rfl) (fun _ _ _ h => h) (wanted_at false rfl rfl rfl rfl) (fun W hW => by go_simp) ?_
      simp only [Act.put, List.getElem_toArray, List.getElem_cons_succ, List.getElem_cons_zero, List.setIfInBounds_toArray, List.set_cons_succ, List.set_cons_zero]
      refine wpAnyC_one 35 hb0.out rfl (by kernel_rfl) (wanted_at false rfl rfl rfl rfl) (fun KA hKA => ?_)
      go_simp
      refine (HS.out).mono ?_
      rintro e w5 ⟨a5, n5, c5, rfl, hn5, hR5, hB5, _, hc5, _⟩
      have hb5 : Kpt (Below w3.heap.size w3 w5) := ⟨hb0.out.trans (hB5.mono hb0.out.size)⟩
      have HCV : Kpt (∀ W, Below w5.heap.size w5 W → (convert 39 9 (.slice a5 n5 c5)).run Try.prog W = .ok (.string (strOfNums sv)) W) := ⟨fun W hW => Go.Proofs.Ytmnoolcffkjmhaa.B.conv_any W a5 n5 c5 sv hn5 (hR5.below hW)⟩
      clear hR5 hB5 hn5
      refine hKA _ _ ?_
      try simp only [Act.put, List.getElem_toArray, List.getElem_cons_succ, List.getElem_cons_zero, List.setIfInBounds_toArray, List.set_cons_succ, List.set_cons_zero]
      clear hKA KA
      refine wpAnyC_mono (C' := fun W => Below w5.heap.size w5 W) (fun W h => hb5.out.trans (h.mono hb5.out.size)) _ _ _ _ ?_
      refine wpAnyC_take 36 (.string (strOfNums sv)) rfl (by kernel_rfl) (by kernel_rfl) (by kernel_rfl) (fun _ _ _ h => h) (wanted_at false rfl rfl rfl rfl) (fun W hW => by have hcv := HCV.out W hW; go_simp) ?_
      simp only [Act.put, List.getElem_toArray, List.getElem_cons_succ, List.getElem_cons_zero, List.setIfInBounds_toArray, List.set_cons_succ, List.set_cons_zero]
      refine wpAnyC_one 38 (Below.refl _ _) rfl (by kernel_rfl) (wanted_at false rfl rfl rfl rfl) (fun KA hKA => ?_)
      go_simp
      refine (HRS.out w5 hb5.out).mono ?_
      rintro e w6 ⟨a6, n6, c6, rfl, hn6, hR6, hB6, _, hc6, _⟩
      have hb6 : Kpt (Below w3.heap.size w3 w6) := ⟨hb5.out.trans (hB6.mono hb5.out.size)⟩
      have hcv6 : (convert 39 9 (.slice a6 n6 c6)).run Try.prog w6 = .ok (.string (strOfNums sv)) w6 := Go.Proofs.Ytmnoolcffkjmhaa.B.conv_any w6 a6 n6 c6 sv hn6 hR6
      replace hB6 := Kpt.mk hB6
      clear hR6 hn6
      refine hKA _ _ ?_
      try simp only [Act.put, List.getElem_toArray, List.getElem_cons_succ, List.getElem_cons_zero, List.setIfInBounds_toArray, List.set_cons_succ, List.set_cons_zero]
      clear hKA KA
      refine wpAnyC_one 39 hB6.out rfl (by kernel_rfl) (wanted_at false rfl rfl rfl rfl) (fun KA hKA => ?_)
      go_simp
      refine hKA _ _ ?_
      try simp only [Act.put, List.getElem_toArray, List.getElem_cons_succ, List.getElem_cons_zero, List.setIfInBounds_toArray, List.set_cons_succ, List.set_cons_zero]
      clear hKA KA
      refine wpAnyC_take 40 (.bool false) rfl (by kernel_rfl) (by kernel_rfl) (by kernel_rfl) (fun _ _ _ h => h) (wanted_at false rfl rfl rfl rfl) (fun W hW => by go_simp) ?_
      simp only [Act.put, List.getElem_toArray, List.getElem_cons_succ, List.getElem_cons_zero, List.setIfInBounds_toArray, List.set_cons_succ, List.set_cons_zero]
      refine wpAnyC_take 41 (.bool false) rfl (by kernel_rfl) (by kernel_rfl) (by kernel_rfl) (fun _ _ _ h => h) (wanted_free rfl _) (fun W hW => by go_simp) ?_
      simp only [Act.put, List.getElem_toArray, List.getElem_cons_succ, List.getElem_cons_zero, List.setIfInBounds_toArray, List.set_cons_succ, List.set_cons_zero]
      refine wpAnyC_done hB6.out (by kernel_rfl) ?_
      clear hcv6 HCV HG HL HS HRS HC10 HC11 HCl hc5 hc6
      have hTf := hT3.out.below' hb6.out
      have hRf := hR3.out.below' hb6.out
      have hBf := Kpt.mk (hB3.out.trans (hb6.out.mono hB3.out.size))
      have H22 := Kpt.mk (fun n => holds_any B t n w6 hTf)
      have H45 := Kpt.mk (fun n => rholds_any C t x n w6 hRf (fun a b => ⟨(hg.out.one a b).1, (hg.out.one a b).2.1⟩))
      have H23 := Kpt.mk (fun n c => conflict_any B t n c w6 hTf)
      have H48 := Kpt.mk (fun n c => rconf_any C t x n c w6 hRf hg.out)
      clear hTf hRf hb6 hB6 hb5 hb0 hT3 hR3 hB3 hB1
      go_wp2_with fail
      go_loopw [12] (fun n wq => ∃ k : Nat, k ≤ 10 ∧ n = .int .i64 ((k : Int) - 1) ∧ wq = w6) (fun n _ => 10 - (intOf n + 1).toNat)
      case atStart => exact ⟨0, by omega, by simp, rfl⟩
      case round =>
        obtain ⟨k, hk, rfl, rfl⟩ := hrel
        by_cases hlt : k < 10
        · have e1 : (k : Int) - 1 < 9 := by omega
          have hh := H22.out ((k : Int) - 1)
          have hr := H45.out ((k : Int) - 1)
          generalize t.holds ((k : Int) - 1) = hd at *
          replace hh := Kpt.mk hh
          replace hr := Kpt.mk hr
          go_wp2_with fail
          refine hh.out.mono ?_
          rintro e wr ⟨rfl, rfl⟩
          go_wp2_with fail
          refine hr.out.mono ?_
          rintro e wr ⟨rfl, rfl⟩
          clear hh hr
          go_wp2_with fail
          go_loopw [13] (fun c wq => ∃ j : Nat, j ≤ 4 ∧ c = .int .i64 j ∧ wq = wr) (fun c _ => 4 - (intOf c).toNat)
          case atStart => exact ⟨0, by omega, rfl, rfl⟩
          case round =>
            obtain ⟨j, hj, rfl, rfl⟩ := hrel
            by_cases hjl : j < 4
            · have e4 : (j : Int) < 4 := by omega
              have hw8 : IntKind.u8.wrap (j : Int) = j := by rw [IntKind.wrap_u8]; omega
              have h1 := H23.out ((k : Int) - 1) j
              have h2 := H48.out ((k : Int) - 1) j
              generalize t.conf ((k : Int) - 1) j = cf at *
              replace h1 := Kpt.mk h1
              replace h2 := Kpt.mk h2
              go_wp2_with fail
              refine h1.out.mono ?_
              rintro e wr ⟨rfl, rfl⟩
              go_wp2_with fail
              refine h2.out.mono ?_
              rintro e wr ⟨rfl, rfl⟩
              clear h1 h2
              go_wp2
              go_roundw
              case rel => exact ⟨j + 1, by omega, by go_num, by trivial⟩
              case measure => simp [intOf]; omega
            · have e4 : ¬ (j : Int) < 4 := by omega
              go_wp2
              go_roundw
              case rel => exact ⟨k + 1, by omega, by go_num, by trivial⟩
              case measure => simp [intOf]; omega
        · have e1 : ¬ (k : Int) - 1 < 9 := by omega
          go_wp2
          go_ret
          exact ⟨rfl, hBf.out⟩
end Go.Proofs.Ytmnoolcffkjmhaa
