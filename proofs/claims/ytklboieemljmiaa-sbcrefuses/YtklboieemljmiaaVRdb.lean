/-
  read where a block looks badly.
-/
import Derived.Test.YtklboieemljmiaaVAct
namespace Go.Proofs.Ytklboieemljmiaa
open Go.RowKit
set_option linter.unusedVariables false
set_option linter.unusedSimpArgs false
set_option maxRecDepth 100000 in
set_option maxHeartbeats 1000000 in
theorem dread_bad (w : World) (B : Nat) (tag : Tags) (st : St) (f : ByteArray) (S D N l n : Nat) (k : Int) (ca : Bool) (c : Cm) (h : Dv w B tag st f S D N k ca) (hf1 : 1 ≤ f.size) (hf2 : f.size ≤ 32) (hN : N ≤ 4096) (hc : st.cnt < 500000000000) (hf : ∀ i, st.fails i = false) (hG : Good (st.seen f)) (h0 : 0 ≤ k) (h1 : k ≤ 255) (p0 : 0 ≤ c.pr) (p1 : c.pr ≤ 255) (hl : c.lba = (l : Nat)) (hbl : c.bl = (n : Nat)) (hin : l + n ≤ N) (hlk : (lookS k c.pr l (rdL (st.seen f) l n)).key ≠ 0) :
    Calls Try.prog 25 #[.pointer (some ⟨D, 0, none⟩), .agg c.vals] w fun e w' => e = .returned (.tuple #[.slice none 0 0, .agg (lookS k c.pr l (rdL (st.seen f) l n)).vals]) ∧ Wd w' B tag (rdSt st n) ∧ Step w w' tag tag (fun _ => True) := by
  have hcm2 : ∀ (W : World) (b : Nat), Bx W b c.vals → W.cell? ⟨b, 2, none⟩ = some (.int .u64 c.lba) := fun W b h => (cm_at h).2.2.1
  have hcm3 : ∀ (W : World) (b : Nat), Bx W b c.vals → W.cell? ⟨b, 3, none⟩ = some (.int .u64 c.bl) := fun W b h => (cm_at h).2.2.2.1
  rw [hl] at hcm2
  rw [hbl] at hcm3
  have HK := fun W (h : Dv W B tag st f S D N k ca) => kread_any W B tag st S N l n f ca h.wd h.sto hf1 hf2 hN hc hf (fun zs hz => (hG zs hz).1) hin
  obtain ⟨bs, hbs⟩ : ∃ bs, bs = rdL (st.seen f) l n := ⟨_, rfl⟩
  have hbk : ∀ W g, Rw W tag g n n (fun j => upB (bytesAt (st.seen f) (l + j))) → Bks W (.slice (some ⟨g, 0, none⟩) n n) bs := fun W g hr => by
    rw [hbs]
    exact rw_bks hr (fun j hj => up_ok (bytesAt_ok (fun zs hz => (hG zs hz).1) (l + j)).1) (by unfold maxLen; omega)
  have hbn : bs.length = n := by rw [hbs]; exact rdL_len _ _ _
  have HL := fun W g (hD : Bx W D (devV S k)) (hv : Bks W (.slice (some ⟨g, 0, none⟩) n n) bs) => look_any D S l k c (some ⟨g, 0, none⟩) n n bs W hD h0 h1 p0 p1 hl (by omega) hv hbn
  rw [← hbs] at hlk ⊢
  obtain ⟨s, hs0⟩ : ∃ s, s = lookS k c.pr l bs := ⟨_, rfl⟩
  rw [← hs0] at HL hlk ⊢
  have HE := fun W => ended_any s W
  simp only [show (s.key != 0) = true from by simpa using hlk] at HE
  have hCs : c.vals.size = 15 := rfl
  obtain ⟨CV, hCV⟩ : ∃ CV, CV = c.vals := ⟨_, rfl⟩
  rw [← hCV] at hCs hcm2 hcm3 HL ⊢
  replace hcm2 := Kpt.mk hcm2
  replace hcm3 := Kpt.mk hcm3
  replace hCs := Kpt.mk hCs
  clear hCV
  have hDl := h.bx.lt
  have hwn := Kpt.mk (fun i (hi : w.heap.size ≤ i) => wd_none h.wd hi)
  have hSl := h.sto.lt
  replace h := Kpt.mk h
  have hD := Kpt.mk h.out.bx
  replace HK := Kpt.mk HK
  replace HL := Kpt.mk HL
  replace HE := Kpt.mk HE
  replace hbk := Kpt.mk hbk
  have en : IntKind.i64.wrap (n : Int) = n := by rw [IntKind.wrap_i64]; omega
  have el : IntKind.i64.wrap (l : Int) = l := by rw [IntKind.wrap_i64]; omega
  clear hbs hbn hlk hG hf hs0 hl hbl
  go_enter Try.func25, Try.ntmps25
  go_wp2_with (first
      | (refine wpList_var rfl 32 rfl zeroS zeroSi ?_; intro br wr hrl hRr h_; replace hRr := Kpt.mk hRr; replace hC := Kpt.mk (hC.out.below h_ hC.out.lt); replace hD := Kpt.mk (hD.out.below h_ hD.out.lt); replace hb := Kpt.mk (hb.out.trans (h_.mono hb.out.size)); replace hrl : Kpt (w.heap.size ≤ br) := ⟨Nat.le_trans (hbs.out) hrl⟩; clear h_)
      | (refine wpList_box rfl 38 _ rfl CV rfl ?_; intro bc wC hcl hC hC_ _; replace hC := Kpt.mk hC; replace hD := Kpt.mk (hD.out.below hC_ hD.out.lt); have hb := Kpt.mk hC_; replace hcl := Kpt.mk hcl; clear hC_; have hbs := Kpt.mk hb.out.size; skip)
      | fail)
  have hDv := Kpt.mk (h.out.below hb.out)
  obtain ⟨d0, d1, dlt⟩ := dev_at hDv.out.bx
  have x2 := hcm2.out _ _ hC.out
  have x3 := hcm3.out _ _ hC.out
  have hclt := hC.out.lt
  have hrlt := hRr.out.lt
  refine wp_region_any (by kernel_rfl) ?_
  refine wpAny_of_C (C := fun W => W.cell? ⟨D, 0, none⟩ = some (.pointer (some ⟨S, 0, none⟩)) ∧ W.cell? ⟨bc, 2, none⟩ = some (.int .u64 l) ∧ W.cell? ⟨bc, 3, none⟩ = some (.int .u64 n) ∧ D < W.heap.size) _ _ _ _ ?_
  refine wpAnyC_take 0 (.pointer (some ⟨D, 0, none⟩)) rfl (by kernel_rfl) (by kernel_rfl) (by kernel_rfl) (fun _ _ _ h => h) (wanted_free rfl _) (fun W hW => by obtain ⟨q1, q2, q3, q4⟩ := hW; go_simp) ?_
  try simp only [Act.put, List.getElem_toArray, List.getElem_cons_succ, List.getElem_cons_zero, List.setIfInBounds_toArray, List.set_cons_succ, List.set_cons_zero]
  refine wpAnyC_take 1 (.pointer (some ⟨D, 0, none⟩)) rfl (by kernel_rfl) (by kernel_rfl) (by kernel_rfl) (fun _ _ _ h => h) (wanted_free rfl _) (fun W hW => by obtain ⟨q1, q2, q3, q4⟩ := hW; go_simp) ?_
  try simp only [Act.put, List.getElem_toArray, List.getElem_cons_succ, List.getElem_cons_zero, List.setIfInBounds_toArray, List.set_cons_succ, List.set_cons_zero]
  refine wpAnyC_take 2 (.pointer (some ⟨D, 0, none⟩)) rfl (by kernel_rfl) (by kernel_rfl) (by kernel_rfl) (fun _ _ _ h => h) (wanted_free rfl _) (fun W hW => by obtain ⟨q1, q2, q3, q4⟩ := hW; go_simp) ?_
  try simp only [Act.put, List.getElem_toArray, List.getElem_cons_succ, List.getElem_cons_zero, List.setIfInBounds_toArray, List.set_cons_succ, List.set_cons_zero]
  refine wpAnyC_take 3 (.pointer (some ⟨S, 0, none⟩)) rfl (by kernel_rfl) (by kernel_rfl) (by kernel_rfl) (fun _ _ _ h => h) (wanted_free rfl _) (fun W hW => by obtain ⟨q1, q2, q3, q4⟩ := hW; go_simp) ?_
  try simp only [Act.put, List.getElem_toArray, List.getElem_cons_succ, List.getElem_cons_zero, List.setIfInBounds_toArray, List.set_cons_succ, List.set_cons_zero]
  refine wpAnyC_take 4 (.pointer (some ⟨bc, 2, none⟩)) rfl (by kernel_rfl) (by kernel_rfl) (by kernel_rfl) (fun _ _ _ h => h) (wanted_free rfl _) (fun W hW => by obtain ⟨q1, q2, q3, q4⟩ := hW; go_simp) ?_
  try simp only [Act.put, List.getElem_toArray, List.getElem_cons_succ, List.getElem_cons_zero, List.setIfInBounds_toArray, List.set_cons_succ, List.set_cons_zero]
  refine wpAnyC_take 5 (.int .u64 l) rfl (by kernel_rfl) (by kernel_rfl) (by kernel_rfl) (fun _ _ _ h => h) (wanted_free rfl _) (fun W hW => by obtain ⟨q1, q2, q3, q4⟩ := hW; go_simp) ?_
  try simp only [Act.put, List.getElem_toArray, List.getElem_cons_succ, List.getElem_cons_zero, List.setIfInBounds_toArray, List.set_cons_succ, List.set_cons_zero]
  refine wpAnyC_take 6 (.int .i64 l) rfl (by kernel_rfl) (by kernel_rfl) (by kernel_rfl) (fun _ _ _ h => h) (wanted_free rfl _) (fun W hW => by obtain ⟨q1, q2, q3, q4⟩ := hW; go_simp) ?_
  try simp only [Act.put, List.getElem_toArray, List.getElem_cons_succ, List.getElem_cons_zero, List.setIfInBounds_toArray, List.set_cons_succ, List.set_cons_zero]
  refine wpAnyC_take 7 (.pointer (some ⟨bc, 3, none⟩)) rfl (by kernel_rfl) (by kernel_rfl) (by kernel_rfl) (fun _ _ _ h => h) (wanted_free rfl _) (fun W hW => by obtain ⟨q1, q2, q3, q4⟩ := hW; go_simp) ?_
  try simp only [Act.put, List.getElem_toArray, List.getElem_cons_succ, List.getElem_cons_zero, List.setIfInBounds_toArray, List.set_cons_succ, List.set_cons_zero]
  refine wpAnyC_take 8 (.int .u64 n) rfl (by kernel_rfl) (by kernel_rfl) (by kernel_rfl) (fun _ _ _ h => h) (wanted_free rfl _) (fun W hW => by obtain ⟨q1, q2, q3, q4⟩ := hW; go_simp) ?_
  try simp only [Act.put, List.getElem_toArray, List.getElem_cons_succ, List.getElem_cons_zero, List.setIfInBounds_toArray, List.set_cons_succ, List.set_cons_zero]
  refine wpAnyC_take 9 (.int .i64 n) rfl (by kernel_rfl) (by kernel_rfl) (by kernel_rfl) (fun _ _ _ h => h) (wanted_free rfl _) (fun W hW => by obtain ⟨q1, q2, q3, q4⟩ := hW; go_simp) ?_
  try simp only [Act.put, List.getElem_toArray, List.getElem_cons_succ, List.getElem_cons_zero, List.setIfInBounds_toArray, List.set_cons_succ, List.set_cons_zero]
  refine wpAnyC_one 10 (⟨d0, x2, x3, dlt⟩) rfl (by kernel_rfl) (wanted_free rfl _) (fun KA hKA => ?_)
  go_simp
  refine (HK.out _ (hDv.out.below (below_drew _))).mono ?_
  rintro e w3 ⟨g, rfl, hW3, s3, hR3, hg3⟩
  have s3' : Step wr w3 tag tag (fun _ => True) := (step_below (below_drew _) tag (fun _ => True)).trans s3
  have htc := hwn.out bc hcl.out
  have htr := hwn.out br hrl.out
  have hC3 := hC.out.step s3' htc
  have hD3 := hDv.out.bx.step s3' hDv.out.bare
  have hRr3 := hRr.out.step s3' htr
  have hbk3 := Kpt.mk (hbk.out _ _ hR3)
  have hgg : w.heap.size ≤ g := Nat.le_trans hb.out.size hg3
  refine hKA _ _ ?_
  clear hKA KA
  try simp only [Act.put, List.getElem_toArray, List.getElem_cons_succ, List.getElem_cons_zero, List.setIfInBounds_toArray, List.set_cons_succ, List.set_cons_zero]
  refine wpAnyC_take 11 (.tuple #[.slice (some ⟨g, 0, none⟩) n n, .int .i64 n, .int .i64 0]) rfl (by kernel_rfl) (by kernel_rfl) (by kernel_rfl) (fun _ _ _ h => h) (wanted_free rfl _) (fun W hW => by go_simp) ?_
  try simp only [Act.put, List.getElem_toArray, List.getElem_cons_succ, List.getElem_cons_zero, List.setIfInBounds_toArray, List.set_cons_succ, List.set_cons_zero]
  refine wpAnyC_take 12 (.slice (some ⟨g, 0, none⟩) n n) rfl (by kernel_rfl) (by kernel_rfl) (by kernel_rfl) (fun _ _ _ h => h) (wanted_free rfl _) (fun W hW => by go_simp) ?_
  try simp only [Act.put, List.getElem_toArray, List.getElem_cons_succ, List.getElem_cons_zero, List.setIfInBounds_toArray, List.set_cons_succ, List.set_cons_zero]
  refine wpAnyC_take 13 (.int .i64 n) rfl (by kernel_rfl) (by kernel_rfl) (by kernel_rfl) (fun _ _ _ h => h) (wanted_free rfl _) (fun W hW => by go_simp) ?_
  try simp only [Act.put, List.getElem_toArray, List.getElem_cons_succ, List.getElem_cons_zero, List.setIfInBounds_toArray, List.set_cons_succ, List.set_cons_zero]
  refine wpAnyC_take 14 (.int .i64 0) rfl (by kernel_rfl) (by kernel_rfl) (by kernel_rfl) (fun _ _ _ h => h) (wanted_free rfl _) (fun W hW => by go_simp) ?_
  try simp only [Act.put, List.getElem_toArray, List.getElem_cons_succ, List.getElem_cons_zero, List.setIfInBounds_toArray, List.set_cons_succ, List.set_cons_zero]
  refine wpAnyC_take 15 (.slice (some ⟨g, 0, none⟩) n n) rfl (by kernel_rfl) (by kernel_rfl) (by kernel_rfl) (fun _ _ _ h => h) (wanted_free rfl _) (fun W hW => by go_simp) ?_
  try simp only [Act.put, List.getElem_toArray, List.getElem_cons_succ, List.getElem_cons_zero, List.setIfInBounds_toArray, List.set_cons_succ, List.set_cons_zero]
  refine wpAnyC_take 16 (.int .i64 n) rfl (by kernel_rfl) (by kernel_rfl) (by kernel_rfl) (fun _ _ _ h => h) (wanted_free rfl _) (fun W hW => by go_simp) ?_
  try simp only [Act.put, List.getElem_toArray, List.getElem_cons_succ, List.getElem_cons_zero, List.setIfInBounds_toArray, List.set_cons_succ, List.set_cons_zero]
  refine wpAnyC_take 17 (.int .i64 0) rfl (by kernel_rfl) (by kernel_rfl) (by kernel_rfl) (fun _ _ _ h => h) (wanted_free rfl _) (fun W hW => by go_simp) ?_
  try simp only [Act.put, List.getElem_toArray, List.getElem_cons_succ, List.getElem_cons_zero, List.setIfInBounds_toArray, List.set_cons_succ, List.set_cons_zero]
  refine wpAnyC_done (⟨(dev_at hD3).1, hcm2.out _ _ hC3, hcm3.out _ _ hC3, hD3.lt⟩) (by kernel_rfl) ?_
  have hs := Kpt.mk ((step_below hb.out tag (fun _ => True)).trans s3')
  replace hC := Kpt.mk hC3
  replace hD := Kpt.mk hD3
  replace hRr := Kpt.mk hRr3
  replace hW3 := Kpt.mk hW3
  have hglt := hR3.lt
  have hgnc : bc < g ∧ br < g := ⟨Nat.lt_of_lt_of_le hclt hg3, Nat.lt_of_lt_of_le hrlt hg3⟩
  have m3 : Kpt True := ⟨trivial⟩
  clear x2 x3 d0 d1 dlt hDv hC3 hD3 hRr3 hR3 s3 s3' hb HK hbk
  go_wp2_with (first
      | (go_at_call 22; go_must (refine (HE.out _).mono ?_; rintro e w6 ⟨rfl, h6⟩; have m6 : Kpt True := ⟨trivial⟩; have hgy6 : g < w6.heap.size := Nat.lt_of_lt_of_le (Nat.lt_trans hgy hRy.out.lt) h6.size; replace hbk3 := Kpt.mk (hbk3.out.below h6); replace hRr := Kpt.mk (hRr.out.below h6 hRr.out.lt); replace hRy := Kpt.mk (hRy.out.below h6 hRy.out.lt); replace hs := Kpt.mk (hs.out.trans (step_below h6 tag (fun _ => True))); replace hW3 := Kpt.mk (hW3.out.step (step_below h6 tag (fun _ => False))); skip))
      | (refine wpList_load_bx rfl 32 _ rfl by_ (s).vals rfl hRy.out _ Try.underlying32 rfl infoS ?_)
      | (refine wpList_store_bx rfl 32 _ _ rfl by_ zeroS (s).vals rfl rfl hRy.out rfl infoS (Sn.vals_one _) rfl ?_; intro w8 hB8 hg8; replace hRy := Kpt.mk hB8; replace hRr := Kpt.mk (hRr.out.grown hg8 (by simp; omega)); have hty := hwn.out by_ hyw; replace hs := Kpt.mk (hs.out.own hg8 hyw); replace hW3 := Kpt.mk (hW3.out.own hg8 hty); replace hbk3 := Kpt.mk (hbk3.out.step (tag := fun i => if i = by_ then some Tag.wd else none) (tag' := fun i => if i = by_ then some Tag.wd else none) (X := fun _ => True) (Step.turned hg8 _ (if_pos rfl) trivial) (fun g' o e => by cases e; exact if_neg (by omega))))
      | (have hm := m4; refine wpList_var rfl 32 rfl zeroS zeroSi ?_; intro by_ wy hyl hRy h_; replace hRy := Kpt.mk hRy; replace hRr := Kpt.mk (hRr.out.below h_ hRr.out.lt); replace hs := Kpt.mk (hs.out.trans (step_below h_ tag (fun _ => True))); have hyw : w.heap.size ≤ by_ := Nat.le_trans hsz4 hyl; have hgy : g < by_ := Nat.lt_of_lt_of_le hglt4 hyl; have hry : br < by_ := Nat.lt_of_lt_of_le hrlt4 hyl; replace hbk3 := Kpt.mk (hbk3.out.below h_); replace hW3 := Kpt.mk (hW3.out.step (step_below h_ tag (fun _ => False))); clear h_)
      | (go_at_call 37; go_must (refine (HL.out _ _ hD.out hbk3.out).mono ?_; rintro e w4 ⟨rfl, h4⟩; have m4 : Kpt True := ⟨trivial⟩; have hglt4 : g < w4.heap.size := Nat.lt_of_lt_of_le hglt h4.size; have hrlt4 : br < w4.heap.size := Nat.lt_of_lt_of_le hRr.out.lt h4.size; replace hbk3 := Kpt.mk (hbk3.out.below h4); replace hW3 := Kpt.mk (hW3.out.step (step_below h4 tag (fun _ => False))); replace hRr := Kpt.mk (hRr.out.below h4 hRr.out.lt); replace hs := Kpt.mk (hs.out.trans (step_below h4 tag (fun _ => True))); have hsz4 := hs.out.size; skip))
      | (refine wpList_load_bx rfl 38 _ rfl bc CV rfl hC.out _ Try.underlying38 rfl (by rw [hCs.out]; exact infoC) ?_)
      | fail)
  refine wp_region_any (by kernel_rfl) ?_
  refine wpAny_of_C (C := fun W => Bx W by_ s.vals) _ _ _ _ ?_
  refine wpAnyC_take 0 (.agg s.vals) rfl (by kernel_rfl) (by kernel_rfl) (by kernel_rfl) (fun _ _ _ h => h) (wanted_free rfl _) (fun W hW => exec_load_bxG 32 _ rfl by_ s.vals rfl hW _ Try.underlying32 rfl infoS) ?_
  try simp only [Act.put, List.getElem_toArray, List.getElem_cons_succ, List.getElem_cons_zero, List.setIfInBounds_toArray, List.set_cons_succ, List.set_cons_zero]
  refine wpAnyC_take 1 (.slice none 0 0) rfl (by kernel_rfl) (by kernel_rfl) (by kernel_rfl) (fun _ _ _ h => h) (wanted_free rfl _) (fun W hW => by go_simp) ?_
  try simp only [Act.put, List.getElem_toArray, List.getElem_cons_succ, List.getElem_cons_zero, List.setIfInBounds_toArray, List.set_cons_succ, List.set_cons_zero]
  refine wpAnyC_one 2 hRy.out.drew rfl (by kernel_rfl) (wanted_free rfl _) (fun KA hKA => ?_)
  refine wp_store_bx 32 _ _ rfl br zeroS s.vals rfl rfl (hRr.out.drew) rfl infoS (Sn.vals_one _) ?_
  intro w9 hB9 hgd
  have hg9 : w6.grownBy w9 (some br) := ⟨hgd.os, hgd.tape, hgd.output, hgd.size, hgd.block⟩
  refine hKA _ _ ?_
  clear hKA KA
  try simp only [Act.put, List.getElem_toArray, List.getElem_cons_succ, List.getElem_cons_zero, List.setIfInBounds_toArray, List.set_cons_succ, List.set_cons_zero]
  replace hRy := Kpt.mk (hRy.out.grown hg9 (by simp; omega))
  refine wpAnyC_done (hRy.out) (by kernel_rfl) ?_
  clear hgd
  have htr' := hwn.out br hrl.out
  go_wp2
  refine bodyPost_ret (v := .tuple #[.slice none 0 0, .agg s.vals]) (by simp [results, Try.results25, asAddr, Act.put, res_run hB9]) rfl ⟨rfl, hW3.out.own hg9 htr', hs.out.own hg9 hrl.out⟩

end Go.Proofs.Ytklboieemljmiaa
