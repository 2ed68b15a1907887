/-
  Write of a store with a cache, where calls may fail.
-/
import Derived.Test.YtklboieemljmiaaVRep
namespace Go.Proofs.Ytklboieemljmiaa
open Go.RowKit
set_option linter.unusedVariables false
set_option linter.unusedSimpArgs false

set_option maxRecDepth 100000 in
set_option maxHeartbeats 4000000 in
theorem kwrite_fail (w : World) (B : Nat) (tag : Tags) (st : St) (S N lba : Nat) (f : ByteArray) (v : Value) (bs : List Bk) (h : Wd w B tag st) (hs : Sto w tag S B f N true) (hf1 : 1 ≤ f.size) (hf2 : f.size ≤ 32) (hN : N ≤ 4096)
    (hc : st.cnt < 500000000000) (hcw : st.waits.length < 1000000) (j0 : Nat) (hj0 : j0 < bs.length) (hf : ∀ i : Nat, i < j0 → st.fails (st.ops + i) = false) (hfj : st.fails (st.ops + j0) = true) (hw : Wrs st.waits) (hv : Bks w v bs) (htag : ∀ g, v.ownBlock = some g → tag g = none) (hin : lba + bs.length ≤ N) :
    Calls Try.prog 77 #[.pointer (some ⟨S, 0, none⟩), .int .i64 lba, v, .bool false] w fun e w' => e = .returned (.tuple #[.int .i64 (j0 : Nat), .int .i64 6]) ∧ ∃ tag', Wd w' B tag' ({ wrSt st f lba bs j0 with ops := (wrSt st f lba bs j0).ops + 1, cnt := (wrSt st f lba bs j0).cnt + 1 } : St) ∧ Step w w' tag tag' (fun _ => True) := by
  obtain ⟨a, c, rfl, hml, hbs⟩ := hv
  have HH := Kpt.mk (has_any w tag S B N f true lba bs.length hs hN (by omega) (by omega))
  rw [decide_eq_true (show 0 ≤ (lba : Int) ∧ 0 ≤ (bs.length : Int) ∧ (lba : Int) + bs.length ≤ N from by omega)] at HH
  obtain ⟨st2, hst2⟩ : ∃ s, s = ({ wrSt st f lba bs j0 with ops := (wrSt st f lba bs j0).ops + 1, cnt := (wrSt st f lba bs j0).cnt + 1 } : St) := ⟨_, rfl⟩
  rw [← hst2]
  obtain ⟨n, hn⟩ : ∃ n, n = bs.length := ⟨_, rfl⟩
  rw [← hn] at HH hin hj0 ⊢
  replace hfj := Kpt.mk hfj
  replace hst2 := Kpt.mk hst2
  have hK : Kpt (Wd w B tag (wrSt st f lba bs 0)) := ⟨h⟩
  have hsK := Kpt.mk hs
  replace hbs := Kpt.mk hbs
  replace hn := Kpt.mk hn
  replace hf := Kpt.mk hf
  replace hw := Kpt.mk hw
  replace htag := Kpt.mk htag
  clear h hs hml
  go_enter Try.func77, Try.ntmps77
  go_wp2_with (go_at_call 51; refine HH.out.mono ?_; rintro e w ⟨rfl, hw'⟩; subst hw')

  go_loopw [23] (fun t wr => ∃ (k : Nat) (tag1 : Tags), k ≤ j0 ∧ t = .int .i64 k ∧ Kpt (Wd wr B tag1 (wrSt st f lba bs k)) ∧ Kpt (Step w wr tag tag1 (fun _ => True))) (fun t _ => n - (intOf t).toNat)
  case atStart => exact ⟨0, tag, Nat.zero_le _, rfl, hK, ⟨Step.refl _ _ _⟩⟩
  case round =>
    obtain ⟨k, tag1, hk, rfl, hW, hSt⟩ := hrel
    clear hK HH
    have hsK1 := Kpt.mk (hsK.out.step hSt.out)
    obtain ⟨hops, hcnt, hfl, hwl⟩ := wr_ops st f lba bs k (by rw [← hn.out]; omega)
    replace hops := Kpt.mk hops
    replace hcnt := Kpt.mk hcnt
    replace hfl := Kpt.mk hfl
    replace hwl := Kpt.mk hwl
    · have hlt : k < n := by omega
      have e1 : (k : Int) < n := by omega
      obtain ⟨b, hb⟩ : ∃ b, bs[k]? = some b := ⟨_, List.getElem?_eq_getElem (by rw [← hn.out]; exact hlt)⟩
      obtain ⟨hok, g, o, rfl, hgl, hrg⟩ := hbs.out k b hb
      have hrg1 : Kpt (wr.rangeAt g (o + k * 19) b.cs) := ⟨rangeAt_keep hrg (hSt.out.block g hgl (fun t _ e => by rw [htag.out g rfl] at e; cases e))⟩
      have hcl : Kpt (b.cs.length = 19) := ⟨by have := Bk.size hok; simpa [Bk.vals] using this⟩
      have hone := Kpt.mk b.one
      have hsz := Kpt.mk (Bk.size hok)
      have hnx : wrSt st f lba bs (k + 1) = { wrSt st f lba bs k with seen := (Chg.wr f ((lba + k) * 25) (pkB b)).run (wrSt st f lba bs k).seen, waits := (wrSt st f lba bs k).waits ++ [.wr f ((lba + k) * 25) (pkB b)], ops := (wrSt st f lba bs k).ops + 1, cnt := (wrSt st f lba bs k).cnt + 2 } := by
        show (match bs[k]? with | some b => _ | none => _) = _
        rw [hb]
      replace hnx := Kpt.mk hnx
      have HP := fun W => Kpt.mk (pack_any b hok W)
      have hpl := Kpt.mk (pk_len b hok)
      have hB0 := bx_new wr zeroB 76
      unfold zeroB at hB0
      replace hB0 := Kpt.mk hB0
      obtain ⟨V, hV⟩ : ∃ V, V = b.vals := ⟨_, rfl⟩
      have hVc : V.toList = b.cs := by rw [hV]; rfl
      rw [← hV] at HP hone hsz
      replace hVc := Kpt.mk hVc
      obtain ⟨L, hL⟩ : ∃ L, L = b.cs := ⟨_, rfl⟩
      rw [← hL] at hrg1 hcl hVc
      have hLV : Kpt (L.toArray = V) := ⟨by rw [← hVc.out]⟩
      clear hrg hok hb hV hL hgl
      go_wp2_with (first
        | (refine wpList_load_mid rfl 76 (.tmp 26) rfl g (o + k * 19) rfl L _ hrg1.out Try.underlying76 rfl (by rw [hcl.out]; exact infoB) ?_; rw [hLV.out])
        | (refine wpList_store_bx rfl 76 (.tmp 11) (.tmp 27) rfl wr.heap.size _ V rfl rfl hB0.out (by rw [hsz.out]; rfl) (by rw [hsz.out]; exact infoB) hone.out rfl ?_; intro w1 hX1 hg1; have hbe1 : Kpt (Below wr.heap.size wr w1) := ⟨((Below.refl _ _).alloc (Nat.le_refl _) _).grown hg1 (by simp) (fun k hk => by cases hk; exact Nat.le_refl _)⟩; replace hX1 := Kpt.mk hX1; clear hg1)
        | fail)
      have hS1 := hsK1.out.below hbe1.out
      have hC1 : w1.cell? ⟨S, 0, none⟩ = some (.pointer (some ⟨B, 0, none⟩)) ∧ w1.cell? ⟨S, 1, none⟩ = some (.string f) ∧ S < w1.heap.size ∧ Bx (w1.drewN 1) wr.heap.size V := ⟨hS1.c0, hS1.c1, hS1.lt, ⟨hX1.out.lt, hX1.out.cells, hX1.out.free⟩⟩
      have HPl : Kpt (∀ W, Calls Try.prog 53 #[.int .i64 ((lba : Int) + k)] W fun e w' => e = .returned (.int .i64 (((lba + k) * 25 : Nat) : Int)) ∧ w' = W) := ⟨fun W => by have := place_any (lba + k) W (by omega); rw [Int.natCast_add] at this; exact this⟩
      replace hC1 := Kpt.mk hC1
      replace hS1 := Kpt.mk hS1
      clear hX1 hB0
      refine wp_region_any (by kernel_rfl) ?_
      refine wpAny_of_C (C := fun W => W.cell? ⟨S, 0, none⟩ = some (.pointer (some ⟨B, 0, none⟩)) ∧ W.cell? ⟨S, 1, none⟩ = some (.string f) ∧ S < W.heap.size ∧ Bx W wr.heap.size V) _ _ _ _ ?_
      refine wpAnyC_take 0 (.pointer (some ⟨S, 0, none⟩)) rfl (by kernel_rfl) (by kernel_rfl) (by kernel_rfl) (fun _ _ _ h => h) (wanted_free rfl _) (fun W hW => by have h0 := hW.1; have h1 := hW.2.1; have h2 := hW.2.2.1; go_simp) ?_
      simp only [Act.put, List.getElem_toArray, List.getElem_cons_succ, List.getElem_cons_zero, List.setIfInBounds_toArray, List.set_cons_succ, List.set_cons_zero]
      refine wpAnyC_take 1 (.pointer (some ⟨S, 0, none⟩)) rfl (by kernel_rfl) (by kernel_rfl) (by kernel_rfl) (fun _ _ _ h => h) (wanted_free rfl _) (fun W hW => by have h0 := hW.1; have h1 := hW.2.1; have h2 := hW.2.2.1; go_simp) ?_
      simp only [Act.put, List.getElem_toArray, List.getElem_cons_succ, List.getElem_cons_zero, List.setIfInBounds_toArray, List.set_cons_succ, List.set_cons_zero]
      refine wpAnyC_take 2 (.pointer (some ⟨S, 0, none⟩)) rfl (by kernel_rfl) (by kernel_rfl) (by kernel_rfl) (fun _ _ _ h => h) (wanted_free rfl _) (fun W hW => by have h0 := hW.1; have h1 := hW.2.1; have h2 := hW.2.2.1; go_simp) ?_
      simp only [Act.put, List.getElem_toArray, List.getElem_cons_succ, List.getElem_cons_zero, List.setIfInBounds_toArray, List.set_cons_succ, List.set_cons_zero]
      refine wpAnyC_take 3 (.pointer (some ⟨B, 0, none⟩)) rfl (by kernel_rfl) (by kernel_rfl) (by kernel_rfl) (fun _ _ _ h => h) (wanted_free rfl _) (fun W hW => by have h0 := hW.1; have h1 := hW.2.1; have h2 := hW.2.2.1; go_simp) ?_
      simp only [Act.put, List.getElem_toArray, List.getElem_cons_succ, List.getElem_cons_zero, List.setIfInBounds_toArray, List.set_cons_succ, List.set_cons_zero]
      refine wpAnyC_take 4 (.pointer (some ⟨S, 0, none⟩)) rfl (by kernel_rfl) (by kernel_rfl) (by kernel_rfl) (fun _ _ _ h => h) (wanted_free rfl _) (fun W hW => by have h0 := hW.1; have h1 := hW.2.1; have h2 := hW.2.2.1; go_simp) ?_
      simp only [Act.put, List.getElem_toArray, List.getElem_cons_succ, List.getElem_cons_zero, List.setIfInBounds_toArray, List.set_cons_succ, List.set_cons_zero]
      refine wpAnyC_take 5 (.pointer (some ⟨S, 0, none⟩)) rfl (by kernel_rfl) (by kernel_rfl) (by kernel_rfl) (fun _ _ _ h => h) (wanted_free rfl _) (fun W hW => by have h0 := hW.1; have h1 := hW.2.1; have h2 := hW.2.2.1; go_simp) ?_
      simp only [Act.put, List.getElem_toArray, List.getElem_cons_succ, List.getElem_cons_zero, List.setIfInBounds_toArray, List.set_cons_succ, List.set_cons_zero]
      refine wpAnyC_take 6 (.pointer (some ⟨S, 1, none⟩)) rfl (by kernel_rfl) (by kernel_rfl) (by kernel_rfl) (fun _ _ _ h => h) (wanted_free rfl _) (fun W hW => by have h0 := hW.1; have h1 := hW.2.1; have h2 := hW.2.2.1; go_simp) ?_
      simp only [Act.put, List.getElem_toArray, List.getElem_cons_succ, List.getElem_cons_zero, List.setIfInBounds_toArray, List.set_cons_succ, List.set_cons_zero]
      refine wpAnyC_take 7 (.string f) rfl (by kernel_rfl) (by kernel_rfl) (by kernel_rfl) (fun _ _ _ h => h) (wanted_free rfl _) (fun W hW => by have h0 := hW.1; have h1 := hW.2.1; have h2 := hW.2.2.1; go_simp) ?_
      simp only [Act.put, List.getElem_toArray, List.getElem_cons_succ, List.getElem_cons_zero, List.setIfInBounds_toArray, List.set_cons_succ, List.set_cons_zero]
      refine wpAnyC_take 8 (.int .i64 lba) rfl (by kernel_rfl) (by kernel_rfl) (by kernel_rfl) (fun _ _ _ h => h) (wanted_free rfl _) (fun W hW => by have h0 := hW.1; have h1 := hW.2.1; have h2 := hW.2.2.1; go_simp) ?_
      simp only [Act.put, List.getElem_toArray, List.getElem_cons_succ, List.getElem_cons_zero, List.setIfInBounds_toArray, List.set_cons_succ, List.set_cons_zero]
      refine wpAnyC_take 9 (.int .i64 k) rfl (by kernel_rfl) (by kernel_rfl) (by kernel_rfl) (fun _ _ _ h => h) (wanted_free rfl _) (fun W hW => by have h0 := hW.1; have h1 := hW.2.1; have h2 := hW.2.2.1; go_simp) ?_
      simp only [Act.put, List.getElem_toArray, List.getElem_cons_succ, List.getElem_cons_zero, List.setIfInBounds_toArray, List.set_cons_succ, List.set_cons_zero]
      refine wpAnyC_take 10 (.int .i64 ((lba : Int) + k)) rfl (by kernel_rfl) (by kernel_rfl) (by kernel_rfl) (fun _ _ _ h => h) (wanted_free rfl _) (fun W hW => by first | (go_simp; done) | (go_simp; rw [IntKind.wrap_i64]; omega)) ?_
      simp only [Act.put, List.getElem_toArray, List.getElem_cons_succ, List.getElem_cons_zero, List.setIfInBounds_toArray, List.set_cons_succ, List.set_cons_zero]
      refine wpAnyC_take 12 (.agg V) rfl (by kernel_rfl) (by kernel_rfl) (by kernel_rfl) (fun _ _ _ h => h) (wanted_free rfl _) (fun W hW => exec_load_bx (.tmp 11) rfl wr.heap.size V rfl hW.2.2.2 (by rw [hsz.out]; exact infoB)) ?_
      simp only [Act.put, List.getElem_toArray, List.getElem_cons_succ, List.getElem_cons_zero, List.setIfInBounds_toArray, List.set_cons_succ, List.set_cons_zero]
      refine wpAnyC_one 11 hC1.out rfl (by kernel_rfl) (wanted_free rfl _) (fun KA hKA => ?_)
      go_simp
      refine (HPl.out _).mono ?_
      rintro e wA ⟨rfl, rfl⟩
      refine hKA _ _ ?_
      try simp only [Act.put, List.getElem_toArray, List.getElem_cons_succ, List.getElem_cons_zero, List.setIfInBounds_toArray, List.set_cons_succ, List.set_cons_zero]
      clear hKA KA
      refine wpAnyC_one 13 hC1.out rfl (by kernel_rfl) (wanted_free rfl _) (fun KA hKA => ?_)
      go_simp
      refine (HP _).out.mono ?_
      rintro e w2 ⟨g2, rfl, ho2, hb2⟩
      have hb2' : Kpt (Below wr.heap.size wr w2) := ⟨hbe1.out.trans ((below_drewN (Below.refl _ w1) 1).trans hb2 |>.mono hbe1.out.size)⟩
      refine hKA _ _ ?_
      try simp only [Act.put, List.getElem_toArray, List.getElem_cons_succ, List.getElem_cons_zero, List.setIfInBounds_toArray, List.set_cons_succ, List.set_cons_zero]
      clear hKA KA
      have hS2 := hsK1.out.below hb2'.out
      have hlt1 : wr.heap.size < w1.heap.size := hC1.out.2.2.2.lt
      have hX2 : Bx w2 wr.heap.size V := hC1.out.2.2.2.below hb2 hlt1
      have hWd2 := hW.out.step (step_below hb2'.out tag1 (fun _ => False))
      have hg2n : tag1 g2 = none := by
        cases ht : tag1 g2 with
        | none => rfl
        | some t =>
          have h1 := hW.out.lt g2 (by rw [ht]; simp)
          have h2 := (World.ownsRow.lt ho2 g2 rfl).1
          have h3 : wr.heap.size ≤ w1.heap.size := hbe1.out.size
          have h4 : w1.heap.size ≤ g2 := h2
          omega
      have HWr := write_any w2 B tag1 (wrSt st f lba bs k) hWd2 (by rw [hcnt.out]; omega) f hf1 hf2 ((lba + k) * 25) (.slice (some ⟨g2, 0, none⟩) 25 25) (pkB b) (own_rd ho2) (fun _ g hg => by simp [Value.ownBlock] at hg; rw [← hg]; exact hg2n) (by rw [hpl.out]; omega)
      by_cases hkj : k < j0
      · skip
        rw [show (wrSt st f lba bs k).fails (wrSt st f lba bs k).ops = false from by rw [hfl.out, hops.out]; exact hf.out k (by omega)] at HWr
        replace HWr := Kpt.mk HWr
        refine wpAnyC_one 14 ⟨hS2.c0, hS2.c1, hS2.lt, hX2⟩ rfl (by kernel_rfl) (wanted_free rfl _) (fun KA hKA => ?_)
        go_simp
        refine HWr.out.mono ?_
        rintro e w3 ⟨rfl, tag2, hWd3, hSt3⟩
        refine hKA _ _ ?_
        try simp only [Act.put, List.getElem_toArray, List.getElem_cons_succ, List.getElem_cons_zero, List.setIfInBounds_toArray, List.set_cons_succ, List.set_cons_zero]
        clear hKA KA
        refine wpAnyC_take 15 (.int .i64 0) rfl (by kernel_rfl) (by kernel_rfl) (by kernel_rfl) (fun _ _ _ h => h) (wanted_free rfl _) (fun W hW => by have h0 := hW.1; have h1 := hW.2.1; have h2 := hW.2.2.1; go_simp) ?_
        simp only [Act.put, List.getElem_toArray, List.getElem_cons_succ, List.getElem_cons_zero, List.setIfInBounds_toArray, List.set_cons_succ, List.set_cons_zero]
        have hS3 := hS2.step hSt3
        have hX3 : Bx w3 wr.heap.size V := hX2.of_block (Nat.lt_of_lt_of_le hX2.lt hSt3.size) (hSt3.block _ hX2.lt (fun t _ e => by
          have h1 := hW.out.lt wr.heap.size (by rw [e]; simp)
          omega))
        have hSt4 : Kpt (Step w w3 tag tag2 (fun _ => True)) := ⟨hSt.out.trans ((step_below hb2'.out tag1 (fun _ => True)).trans hSt3)⟩
        have hWd4 : Kpt (Wd w3 B tag2 (wrSt st f lba bs (k + 1))) := ⟨by rw [hnx.out]; simpa using hWd3⟩
        refine wpAnyC_done ⟨hS3.c0, hS3.c1, hS3.lt, hX3⟩ (by kernel_rfl) ?_
        clear hS3 hX3 hSt3 hWd3 HWr hWd2 hX2 hS2 hC1 hb2 hb2' ho2 HP HPl hS1 hg2n
        go_wp2
        go_roundw
        case rel => exact ⟨k + 1, tag2, by omega, by go_num, hWd4, hSt4⟩
        case measure => simp [intOf]; omega
      · have ekj : k = j0 := by omega
        subst ekj
        rw [show (wrSt st f lba bs k).fails (wrSt st f lba bs k).ops = true from by rw [hfl.out, hops.out]; exact hfj.out] at HWr
        replace HWr := Kpt.mk HWr
        refine wpAnyC_one 14 ⟨hS2.c0, hS2.c1, hS2.lt, hX2⟩ rfl (by kernel_rfl) (wanted_free rfl _) (fun KA hKA => ?_)
        go_simp
        refine HWr.out.mono ?_
        rintro e w3 ⟨rfl, tag2, hWd3, hSt3⟩
        refine hKA _ _ ?_
        try simp only [Act.put, List.getElem_toArray, List.getElem_cons_succ, List.getElem_cons_zero, List.setIfInBounds_toArray, List.set_cons_succ, List.set_cons_zero]
        clear hKA KA
        refine wpAnyC_take 15 (.int .i64 6) rfl (by kernel_rfl) (by kernel_rfl) (by kernel_rfl) (fun _ _ _ h => h) (wanted_free rfl _) (fun W hW => by have h0 := hW.1; have h1 := hW.2.1; have h2 := hW.2.2.1; go_simp) ?_
        simp only [Act.put, List.getElem_toArray, List.getElem_cons_succ, List.getElem_cons_zero, List.setIfInBounds_toArray, List.set_cons_succ, List.set_cons_zero]
        have hS3 := hS2.step hSt3
        have hX3 : Bx w3 wr.heap.size V := hX2.of_block (Nat.lt_of_lt_of_le hX2.lt hSt3.size) (hSt3.block _ hX2.lt (fun t _ e => by
          have h1 := hW.out.lt wr.heap.size (by rw [e]; simp)
          omega))
        have hSt4 : Kpt (Step w w3 tag tag2 (fun _ => True)) := ⟨hSt.out.trans ((step_below hb2'.out tag1 (fun _ => True)).trans hSt3)⟩
        have hWd4 : Kpt (Wd w3 B tag2 st2) := ⟨by rw [hst2.out]; simpa using hWd3⟩
        refine wpAnyC_done ⟨hS3.c0, hS3.c1, hS3.lt, hX3⟩ (by kernel_rfl) ?_
        clear hS3 hX3 hSt3 hWd3 HWr hWd2 hX2 hS2 hC1 hb2 hb2' ho2 HP HPl hS1 hg2n
        go_wp2
        go_ret2
        exact ⟨rfl, tag2, hWd4.out, hSt4.out⟩
end Go.Proofs.Ytklboieemljmiaa
