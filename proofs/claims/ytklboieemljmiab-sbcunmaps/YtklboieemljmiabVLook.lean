/-
  The contract of look.
-/
import Derived.Test.YtklboieemljmiabVSml
namespace Go.Proofs.Ytklboieemljmiab
open Go.RowKit
set_option linter.unusedVariables false
set_option linter.unusedSimpArgs false

/-- A function's world behind its command's box and its result's. -/
def eW (w : World) (c : Cm) : World := (w.alloc (.cells c.vals 38)).alloc (.cells zeroS 32)
theorem eW_size (w : World) (c : Cm) : (eW w c).heap.size = w.heap.size + 2 := by unfold eW; simp
theorem eW_below (w : World) (c : Cm) : Below w.heap.size w (eW w c) := ((Below.refl _ _).alloc (Nat.le_refl _) _).alloc (by simp) _
theorem eW_c (w : World) (c : Cm) : Bx (eW w c) w.heap.size c.vals := (bx_new w c.vals 38).alloc _
theorem eW_r (w : World) (c : Cm) : Bx (eW w c) (w.heap.size + 1) zeroS := by
  have := bx_new (w.alloc (.cells c.vals 38)) zeroS 32
  simpa [eW] using this
/-- What a command's box holds. -/
theorem cm_at {w : World} {b : Nat} {c : Cm} (h : Bx w b c.vals) : w.cell? ⟨b, 0, none⟩ = some (.int .u8 c.kd) ∧ w.cell? ⟨b, 1, none⟩ = some (.bool c.lg) ∧ w.cell? ⟨b, 2, none⟩ = some (.int .u64 c.lba) ∧ w.cell? ⟨b, 3, none⟩ = some (.int .u64 c.bl) ∧ w.cell? ⟨b, 4, none⟩ = some (.int .i64 c.al) ∧ w.cell? ⟨b, 5, none⟩ = some (.bool c.fua) ∧ w.cell? ⟨b, 6, none⟩ = some (.int .u8 c.pr) ∧ w.cell? ⟨b, 7, none⟩ = some (.bool c.um) ∧ w.cell? ⟨b, 14, none⟩ = some (.bool c.bs) :=
  ⟨h.cells 0 (show 0 < 15 by decide), h.cells 1 (show 1 < 15 by decide), h.cells 2 (show 2 < 15 by decide), h.cells 3 (show 3 < 15 by decide), h.cells 4 (show 4 < 15 by decide), h.cells 5 (show 5 < 15 by decide), h.cells 6 (show 6 < 15 by decide), h.cells 7 (show 7 < 15 by decide), h.cells 14 (show 14 < 15 by decide)⟩
/-- A device's block. -/
def devV (S : Nat) (k : Int) : Array Value := #[.pointer (some ⟨S, 0, none⟩), .int .u8 k]
theorem dev_at {w : World} {D S : Nat} {k : Int} (h : Bx w D (devV S k)) : w.cell? ⟨D, 0, none⟩ = some (.pointer (some ⟨S, 0, none⟩)) ∧ w.cell? ⟨D, 1, none⟩ = some (.int .u8 k) ∧ D < w.heap.size :=
  ⟨h.cells 0 (show 0 < 2 by decide), h.cells 1 (show 1 < 2 by decide), h.lt⟩

/-- What looking at blocks finds first. -/
def lookS (k p : Int) : Nat → List Bk → Sn
  | _, [] => noS
  | l, b :: r => if checkC k p l b = 0 then lookS k p (l + 1) r else nuS 11 (checkC k p l b) l
theorem look_drop (k p : Int) : ∀ (j l : Nat) (bs : List Bk), (∀ i b, i < j → bs[i]? = some b → checkC k p ((l + i : Nat) : Int) b = 0) → lookS k p l bs = lookS k p (l + j) (bs.drop j)
  | 0, l, bs, _ => by simp
  | j + 1, l, [], _ => by simp [lookS]
  | j + 1, l, b :: r, h => by
    have h0 := h 0 b (by omega) rfl
    rw [Nat.add_zero] at h0
    rw [lookS, if_pos h0, look_drop k p j (l + 1) r (fun i b' hi hb => by have := h (i + 1) b' (by omega) (by simpa using hb); rw [show l + 1 + i = l + (i + 1) by omega]; exact this), List.drop_succ_cons, show l + 1 + j = l + (j + 1) by omega]
theorem look_here (k p : Int) (l : Nat) (bs : List Bk) (j : Nat) (b : Bk) (hb : bs[j]? = some b) (h : ∀ i b, i < j → bs[i]? = some b → checkC k p ((l + i : Nat) : Int) b = 0) (hc : checkC k p ((l + j : Nat) : Int) b ≠ 0) : lookS k p l bs = nuS 11 (checkC k p ((l + j : Nat) : Int) b) ((l + j : Nat) : Int) := by
  rw [look_drop k p j l bs h]
  have hj := (List.getElem?_eq_some_iff.1 hb).1
  have he : bs.drop j = b :: bs.drop (j + 1) := by rw [List.drop_eq_getElem_cons hj]; congr 1; exact (List.getElem?_eq_some_iff.1 hb).2
  rw [he, lookS, if_neg hc]
theorem look_all (k p : Int) (l : Nat) (bs : List Bk) (h : ∀ i b, i < bs.length → bs[i]? = some b → checkC k p ((l + i : Nat) : Int) b = 0) : lookS k p l bs = noS := by
  rw [look_drop k p bs.length l bs h]
  simp [lookS]
theorem check_bd (k p lba : Int) (b : Bk) : 0 ≤ checkC k p lba b ∧ checkC k p lba b ≤ 65535 := by unfold checkC; repeat' split <;> omega

set_option maxRecDepth 100000 in
set_option maxHeartbeats 4000000 in
theorem look_any (D S l : Nat) (k : Int) (c : Cm) (a : Option Addr) (n cp : Nat) (bs : List Bk) (w : World) (hD : Bx w D (devV S k)) (h0 : 0 ≤ k) (h1 : k ≤ 255) (p0 : 0 ≤ c.pr) (p1 : c.pr ≤ 255) (hl : c.lba = l) (hin : l + n ≤ 1000000) (hv : Bks w (.slice a n cp) bs) (hn : bs.length = n) :
    Calls Try.prog 24 #[.pointer (some ⟨D, 0, none⟩), .agg c.vals, .slice a n cp] w fun e w' => e = .returned (.agg (lookS k c.pr l bs).vals) ∧ Below w.heap.size w w' := by
  have hbk : ∀ j, j < n → ∃ b, bs[j]? = some b ∧ b.ok ∧ ∃ g o, a = some ⟨g, o, none⟩ ∧ g < w.heap.size ∧ w.rangeAt g (o + j * 19) b.cs := fun j hj => by
    obtain ⟨a', c', e, _, h⟩ := hv
    have hb : bs[j]? = some bs[j] := List.getElem?_eq_getElem (by omega)
    obtain ⟨h1, g, o, h2, h3, h4⟩ := h j bs[j] hb
    simp only [Value.slice.injEq] at e
    exact ⟨bs[j], hb, h1, g, o, by rw [e.1]; exact h2, h3, h4⟩
  obtain ⟨w1, hw1⟩ : ∃ w1, w1 = eW w c := ⟨_, rfl⟩
  have hsz := eW_size w c
  have hbl := eW_below w c
  have hC := eW_c w c
  have hR := eW_r w c
  rw [← hw1] at hsz hbl hC hR
  have hD1 := hD.below hbl hD.lt
  obtain ⟨d0, d1, dlt⟩ := dev_at hD1
  obtain ⟨z0, z1, z2, z3, z4, z5, z6, z7, z14⟩ := cm_at hC
  rw [hl] at z2
  obtain ⟨p, hp⟩ : ∃ p, p = c.pr := ⟨_, rfl⟩
  rw [← hp] at z6 p0 p1 ⊢
  have hw1' : (w.alloc (.cells c.vals 38)).alloc (.cells #[.int .u8 0, .int .u16 0, .int .u64 0, .bool false, .int .i64 0, .int .i64 0, .bool false, .bool false] 32) = w1 := hw1.symm
  replace hw1' := Kpt.mk hw1'
  obtain ⟨CV, hCV⟩ : ∃ CV, CV = c.vals := ⟨_, rfl⟩
  rw [← hCV] at hw1' hC ⊢
  replace hn := Kpt.mk hn
  replace hbk := Kpt.mk hbk
  replace hbl := Kpt.mk hbl
  replace hC := Kpt.mk hC
  replace hR := Kpt.mk hR
  replace hsz := Kpt.mk hsz
  clear hv hD hD1 hw1 hCV hl hp d0 z0 z1 z3 z4 z5 z7 z14
  go_enter Try.func24, Try.ntmps24
  go_wp2_with fail
  rw [hw1'.out]
  clear hw1'
  go_loopw [13] (fun t wr => ∃ j : Nat, j ≤ n ∧ t = .int .i64 j ∧ Kpt (Below w1.heap.size w1 wr) ∧ Kpt (∀ i b, i < j → bs[i]? = some b → checkC k p ((l + i : Nat) : Int) b = 0)) (fun t _ => n - (intOf t).toNat)
  case atStart => exact ⟨0, Nat.zero_le _, rfl, ⟨Below.refl _ _⟩, ⟨fun i b hi => by omega⟩⟩
  case round =>
    obtain ⟨j, hj, rfl, hbe, hok⟩ := hrel
    have hl1 : w.heap.size < w1.heap.size := by have := hsz.out; omega
    have y2 := (hbe.out.cell (p := ⟨w.heap.size, 2, none⟩) hl1).trans z2
    have y6 := (hbe.out.cell (p := ⟨w.heap.size, 6, none⟩) hl1).trans z6
    have y1 := (hbe.out.cell (p := ⟨D, 1, none⟩) dlt).trans d1
    have yD : D < wr.heap.size := Nat.lt_of_lt_of_le dlt hbe.out.size
    have hRr := Kpt.mk (hR.out.below hbe.out hR.out.lt)
    have hbw := Kpt.mk (hbl.out.trans (hbe.out.mono hbl.out.size))
    clear z2 z6 d1
    by_cases hlt : j < n
    · have e1 : (j : Int) < n := by omega
      obtain ⟨b, hb, hbok, g, o, rfl, hgl, hrg⟩ := hbk.out j hlt
      have hrg1 : Kpt (wr.rangeAt g (o + j * 19) b.cs) := ⟨rangeAt_keep hrg (hbw.out.block g hgl)⟩
      have hcl : Kpt (b.cs.length = 19) := ⟨by have := Bk.size hbok; simpa [Bk.vals] using this⟩
      have hone := Kpt.mk b.one
      have hbs := Kpt.mk (Bk.size hbok)
      have HC := Kpt.mk (fun W => check_any k p ((l + j : Nat) : Int) b W hbok h0 h1 p0 p1 (by omega) (by omega))
      have hB0 := bx_new wr zeroB 81
      unfold zeroB at hB0
      replace hB0 := Kpt.mk hB0
      obtain ⟨V, hV⟩ : ∃ V, V = b.vals := ⟨_, rfl⟩
      have hVc : V.toList = b.cs := by rw [hV]; rfl
      rw [← hV] at HC hone hbs
      replace hVc := Kpt.mk hVc
      obtain ⟨L, hL⟩ : ∃ L, L = b.cs := ⟨_, rfl⟩
      rw [← hL] at hrg1 hcl hVc
      have hLV : Kpt (L.toArray = V) := ⟨by rw [← hVc.out]⟩
      obtain ⟨q, hq⟩ : ∃ q, q = checkC k p ((l + j : Nat) : Int) b := ⟨_, rfl⟩
      rw [← hq] at HC
      have hqb : 0 ≤ q ∧ q ≤ 65535 := by rw [hq]; exact check_bd _ _ _ _
      have ew : IntKind.u64.wrap ((l : Int) + j) = ((l + j : Nat) : Int) := by rw [IntKind.wrap_u64]; omega
      have ev : IntKind.u64.wrap (j : Int) = (j : Int) := by rw [IntKind.wrap_u64]; omega
      replace hb := Kpt.mk hb
      replace hq := Kpt.mk hq
      obtain ⟨x, hx⟩ : ∃ x : Int, x = ((l + j : Nat) : Int) := ⟨_, rfl⟩
      rw [← hx] at ew HC
      replace hx := Kpt.mk hx
      clear hrg hbok hV hL hgl
      go_wp2_with (first
        | (refine wpList_load_mid rfl 81 (.tmp 16) rfl g (o + j * 19) rfl L _ hrg1.out Try.underlying81 rfl (by rw [hcl.out]; exact infoB) ?_; rw [hLV.out])
        | (refine wpList_store_bx rfl 81 (.tmp 8) (.tmp 17) rfl wr.heap.size _ V rfl rfl hB0.out (by rw [hbs.out]; rfl) (by rw [hbs.out]; exact infoB) hone.out rfl ?_; intro w2 hX2 hg2; have hbe2 : Kpt (Below wr.heap.size wr w2) := ⟨((Below.refl _ _).alloc (Nat.le_refl _) _).grown hg2 (by simp) (fun k hk => by cases hk; exact Nat.le_refl _)⟩; replace hX2 := Kpt.mk hX2; clear hg2; replace y2 := (hbe2.out.cell (p := ⟨w.heap.size, 2, none⟩) (Nat.lt_of_lt_of_le hl1 hbe.out.size)).trans y2; replace y6 := (hbe2.out.cell (p := ⟨w.heap.size, 6, none⟩) (Nat.lt_of_lt_of_le hl1 hbe.out.size)).trans y6; replace y1 := (hbe2.out.cell (p := ⟨D, 1, none⟩) yD).trans y1; replace yD : D < w2.heap.size := Nat.lt_of_lt_of_le yD hbe2.out.size)
        | fail)
      have hX2' := hX2.out
      refine wp_region_any (by kernel_rfl) ?_
      refine wpAny_of_C (C := fun W => W.cell? ⟨D, 1, none⟩ = some (.int .u8 k) ∧ W.cell? ⟨w.heap.size, 6, none⟩ = some (.int .u8 p) ∧ Bx W wr.heap.size V ∧ D < W.heap.size) _ _ _ _ ?_
      refine wpAnyC_take 0 (.pointer (some ⟨D, 0, none⟩)) rfl (by kernel_rfl) (by kernel_rfl) (by kernel_rfl) (fun _ _ _ h => h) (wanted_free rfl _) (fun W hW => by obtain ⟨q1, q2, q3, q4⟩ := hW; go_simp) ?_
      try simp only [Act.put, List.getElem_toArray, List.getElem_cons_succ, List.getElem_cons_zero, List.setIfInBounds_toArray, List.set_cons_succ, List.set_cons_zero]
      refine wpAnyC_take 1 (.pointer (some ⟨D, 0, none⟩)) rfl (by kernel_rfl) (by kernel_rfl) (by kernel_rfl) (fun _ _ _ h => h) (wanted_free rfl _) (fun W hW => by obtain ⟨q1, q2, q3, q4⟩ := hW; go_simp) ?_
      try simp only [Act.put, List.getElem_toArray, List.getElem_cons_succ, List.getElem_cons_zero, List.setIfInBounds_toArray, List.set_cons_succ, List.set_cons_zero]
      refine wpAnyC_take 2 (.pointer (some ⟨D, 1, none⟩)) rfl (by kernel_rfl) (by kernel_rfl) (by kernel_rfl) (fun _ _ _ h => h) (wanted_free rfl _) (fun W hW => by obtain ⟨q1, q2, q3, q4⟩ := hW; go_simp) ?_
      try simp only [Act.put, List.getElem_toArray, List.getElem_cons_succ, List.getElem_cons_zero, List.setIfInBounds_toArray, List.set_cons_succ, List.set_cons_zero]
      refine wpAnyC_take 3 (.int .u8 k) rfl (by kernel_rfl) (by kernel_rfl) (by kernel_rfl) (fun _ _ _ h => h) (wanted_free rfl _) (fun W hW => by obtain ⟨q1, q2, q3, q4⟩ := hW; go_simp) ?_
      try simp only [Act.put, List.getElem_toArray, List.getElem_cons_succ, List.getElem_cons_zero, List.setIfInBounds_toArray, List.set_cons_succ, List.set_cons_zero]
      refine wpAnyC_take 4 (.pointer (some ⟨w.heap.size, 6, none⟩)) rfl (by kernel_rfl) (by kernel_rfl) (by kernel_rfl) (fun _ _ _ h => h) (wanted_free rfl _) (fun W hW => by obtain ⟨q1, q2, q3, q4⟩ := hW; go_simp) ?_
      try simp only [Act.put, List.getElem_toArray, List.getElem_cons_succ, List.getElem_cons_zero, List.setIfInBounds_toArray, List.set_cons_succ, List.set_cons_zero]
      refine wpAnyC_take 5 (.int .u8 p) rfl (by kernel_rfl) (by kernel_rfl) (by kernel_rfl) (fun _ _ _ h => h) (wanted_free rfl _) (fun W hW => by obtain ⟨q1, q2, q3, q4⟩ := hW; go_simp) ?_
      try simp only [Act.put, List.getElem_toArray, List.getElem_cons_succ, List.getElem_cons_zero, List.setIfInBounds_toArray, List.set_cons_succ, List.set_cons_zero]
      refine wpAnyC_take 6 (.int .u64 x) rfl (by kernel_rfl) (by kernel_rfl) (by kernel_rfl) (fun _ _ _ h => h) (wanted_free rfl _) (fun W hW => by obtain ⟨q1, q2, q3, q4⟩ := hW; go_simp) ?_
      try simp only [Act.put, List.getElem_toArray, List.getElem_cons_succ, List.getElem_cons_zero, List.setIfInBounds_toArray, List.set_cons_succ, List.set_cons_zero]
      refine wpAnyC_take 7 (.agg V) rfl (by kernel_rfl) (by kernel_rfl) (by kernel_rfl) (fun _ _ _ h => h) (wanted_free rfl _) (fun W hW => exec_load_bx (.tmp 8) rfl wr.heap.size V rfl hW.2.2.1 (by rw [hbs.out]; exact infoB)) ?_
      try simp only [Act.put, List.getElem_toArray, List.getElem_cons_succ, List.getElem_cons_zero, List.setIfInBounds_toArray, List.set_cons_succ, List.set_cons_zero]
      refine wpAnyC_one 8 (⟨y1, y6, ⟨hX2.out.lt, hX2.out.cells, hX2.out.free⟩, yD⟩) rfl (by kernel_rfl) (wanted_free rfl _) (fun KA hKA => ?_)
      go_simp
      refine (HC.out _).mono ?_
      rintro e w3 ⟨rfl, hb3⟩
      replace hb3 : Kpt (Below w2.heap.size w2 w3) := ⟨below_undrew hb3⟩
      refine hKA _ _ ?_
      clear hKA KA
      try simp only [Act.put, List.getElem_toArray, List.getElem_cons_succ, List.getElem_cons_zero, List.setIfInBounds_toArray, List.set_cons_succ, List.set_cons_zero]
      refine wpAnyC_take 9 (.int .u16 q) rfl (by kernel_rfl) (by kernel_rfl) (by kernel_rfl) (fun _ _ _ h => h) (wanted_free rfl _) (fun W hW => by go_simp) ?_
      try simp only [Act.put, List.getElem_toArray, List.getElem_cons_succ, List.getElem_cons_zero, List.setIfInBounds_toArray, List.set_cons_succ, List.set_cons_zero]
      have hbe3 : Kpt (Below wr.heap.size wr w3) := ⟨hbe2.out.trans (hb3.out.mono hbe2.out.size)⟩
      refine wpAnyC_done (⟨(hb3.out.cell (p := ⟨D, 1, none⟩) yD).trans y1, (hb3.out.cell (p := ⟨w.heap.size, 6, none⟩) (Nat.lt_of_lt_of_le (Nat.lt_of_lt_of_le hl1 hbe.out.size) hbe2.out.size)).trans y6, hX2.out.below hb3.out hX2.out.lt, Nat.lt_of_lt_of_le yD hb3.out.size⟩) (by kernel_rfl) ?_
      have hbw3 := Kpt.mk (hbe.out.trans (hbe3.out.mono hbe.out.size))
      have hR3 := Kpt.mk (hR.out.below hbw3.out hR.out.lt)
      have hall3 := Kpt.mk (hbl.out.trans (hbw3.out.mono hbl.out.size))
      clear y1 y2 y6 hX2 hX2' hB0 HC hb3
      by_cases hq0 : q = 0
      · subst hq0
        go_wp2
        go_roundw
        case rel => exact ⟨j + 1, by omega, by go_num, hbw3, ⟨fun i b' hi hb' => by
          by_cases he : i = j
          · subst he
            have := hb.out.symm.trans hb'
            simp only [Option.some.injEq] at this
            rw [← this]; exact hq.out.symm
          · exact hok.out i b' (by omega) hb'⟩⟩
        case measure => simp [intOf]; omega
      · have hq1 : (q != 0) = true := by simpa using hq0
        have hq2 : ¬ q = 0 := hq0
        have HN := Kpt.mk (fun W => numbered_any 11 q x W)
        have hres : lookS k p l bs = nuS 11 q x := by rw [hq.out, hx.out]; exact look_here k p l bs j b hb.out hok.out (by rw [← hq.out]; exact hq0)
        go_wp2_with (first
          | (refine wpList_res (nuS 11 q x) (w.heap.size + 1) zeroS _ _ rfl rfl rfl rfl hR4 rfl rfl hall4 (Nat.le_succ _) ?_; intro w5 hB5 hb5 _)
          | (go_at_call 22; refine (HN.out _).mono ?_; rintro e w4 ⟨rfl, hb4⟩; have hR4 := hR3.out.below hb4 hR3.out.lt; have hall4 := hall3.out.trans (hb4.mono hall3.out.size)))
        try rw [hres]
        refine bodyPost_ret (v := .agg (nuS 11 q x).vals) (by simp [results, Try.results24, asAddr, Act.put, res_run hB5]) rfl ⟨rfl, hb5⟩
    · have e1 : ¬ (j : Int) < n := by omega
      have ej : j = n := by omega
      subst ej
      have hres : lookS k p l bs = noS := look_all k p l bs (by rw [hn.out]; exact hok.out)
      clear hbk
      have hall := hbw.out
      go_wp2_with (refine wpList_res noS (w.heap.size + 1) zeroS _ _ rfl rfl rfl rfl hRr.out rfl rfl hall (Nat.le_succ _) ?_; intro w5 hB5 hb5 _)
      try rw [hres]
      refine bodyPost_ret (v := .agg noS.vals) (by simp [results, Try.results24, asAddr, Act.put, res_run hB5]) rfl ⟨rfl, hb5⟩
end Go.Proofs.Ytklboieemljmiab
