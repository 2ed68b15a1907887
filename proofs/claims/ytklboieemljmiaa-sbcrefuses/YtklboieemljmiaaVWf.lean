/-
  Writes that fail, and writes of one block many times.
-/
import Derived.Test.YtklboieemljmiaaVKwp
import Derived.Test.YtklboieemljmiaaVKwf
namespace Go.Proofs.Ytklboieemljmiaa
open Go.RowKit
set_option linter.unusedVariables false
set_option linter.unusedSimpArgs false
set_option maxRecDepth 100000 in
set_option maxHeartbeats 1000000 in
theorem written_err (l j : Nat) (w : World) (h : l + j < 1000000) : Calls Try.prog 78 #[.int .u64 l, .int .i64 j, .int .i64 6] w fun e w' => e = .returned (.agg (nuS 3 3072 ((l + j : Nat) : Int)).vals) ∧ Below w.heap.size w w' := by
  have HN := Kpt.mk (fun W => numbered_any 3 3072 ((l + j : Nat) : Int) W)
  have ej : IntKind.u64.wrap (j : Int) = j := by rw [IntKind.wrap_u64]; omega
  have el : IntKind.u64.wrap ((l : Int) + j) = ((l + j : Nat) : Int) := by rw [IntKind.wrap_u64]; omega
  obtain ⟨x, hx⟩ : ∃ x : Int, x = ((l + j : Nat) : Int) := ⟨_, rfl⟩
  rw [← hx] at HN el ⊢
  clear hx
  go_enter Try.func78, Try.ntmps78
  go_wp2_with (first
      | (have hm := m1; refine wpList_store_bx rfl 32 _ _ rfl br _ (nuS 3 3072 x).vals rfl rfl hR.out rfl infoS (Sn.vals_one _) rfl ?_; intro w4 hX4 hg4; have hb4 := Kpt.mk (hb.out.grown hg4 hb.out.size (fun q hq => by cases hq; exact hrl)); clear m1)
      | (go_at_call 35; go_must (go_must (refine (HN.out _).mono ?_; rintro e w3 ⟨rfl, h3⟩; replace hR := Kpt.mk (hR.out.below h3 hR.out.lt); replace hb := Kpt.mk (hb.out.trans (h3.mono hb.out.size)); have m1 : Kpt True := ⟨trivial⟩)))
      | (refine wpList_var rfl 32 rfl zeroS zeroSi ?_; intro br w2 hrl hX2 h2; have hR := Kpt.mk hX2; have hb := Kpt.mk h2; clear hX2 h2)
      | fail)
  refine bodyPost_ret (v := .agg (nuS 3 3072 x).vals) (by simp [results, Try.results78, asAddr, Act.put, res_run hX4]) rfl ⟨rfl, hb4.out⟩

/-- The state behind a call that failed. -/
def flSt (s : St) : St := { s with ops := s.ops + 1, cnt := s.cnt + 1 }
set_option maxRecDepth 100000 in
set_option maxHeartbeats 1000000 in
theorem dwrite_part (w : World) (B : Nat) (tag : Tags) (st : St) (f : ByteArray) (S D N : Nat) (k : Int) (l n cp : Nat) (a : Option Addr) (c : Cm) (bs : List Bk) (h : Dv w B tag st f S D N k true) (hf1 : 1 ≤ f.size) (hf2 : f.size ≤ 32) (hN : N ≤ 4096) (hc : st.cnt < 500000000000) (hcw : st.waits.length < 1000000) (hw : Wrs st.waits) (hl : c.lba = (l : Nat)) (hin : l + n ≤ N) (hn : bs.length = n) (hv : Bks w (.slice a n cp) bs) (htag : ∀ g, (Value.slice a n cp).ownBlock = some g → tag g = none) (hf : ∀ i : Nat, i < n → st.fails (st.ops + i) = false) :
    Calls Try.prog 58 #[.pointer (some ⟨D, 0, none⟩), .agg c.vals, .slice a n cp, .bool false] w fun e w' => e = .returned (.agg (noS).vals) ∧ Aft w w' B tag (wrSt st f l (bs) n) := by
  have hcm2 : ∀ (W : World) (b : Nat), Bx W b c.vals → W.cell? ⟨b, 2, none⟩ = some (.int .u64 c.lba) := fun W b h => (cm_at h).2.2.1
  rw [hl] at hcm2
  have HK := fun W (h : Dv W B tag st f S D N k true) (hv : Bks W (.slice a n cp) bs) => kwrite_part W B tag st S N l f (.slice a n cp) bs h.wd h.sto hf1 hf2 hN hc hcw (by rw [hn]; exact hf) hw hv htag (by rw [hn]; exact hin)
  simp only [hn] at HK
  obtain ⟨st2, hst2⟩ : ∃ s, s = wrSt st f l (bs) n := ⟨_, rfl⟩
  rw [← hst2]
  have HK2 : ∀ W, Dv W B tag st f S D N k true → Bks W (.slice a n cp) bs → Calls Try.prog 77 #[.pointer (some ⟨S, 0, none⟩), .int .i64 l, .slice a n cp, .bool false] W fun e w' => e = .returned (.tuple #[.int .i64 n, .int .i64 0]) ∧ ∃ tag', Wd w' B tag' st2 ∧ Step W w' tag tag' (fun _ => True) := fun W h hv => by rw [hst2]; exact HK W h hv
  have HWn := fun W => written_ok l n W
  have hCs : c.vals.size = 15 := rfl
  obtain ⟨CV, hCV⟩ : ∃ CV, CV = c.vals := ⟨_, rfl⟩
  rw [← hCV] at hCs hcm2  ⊢
  replace hcm2 := Kpt.mk hcm2
  replace hCs := Kpt.mk hCs
  clear hCV
  have hSl := h.sto.lt
  have hDl := h.bx.lt
  have F := Kpt.mk h.fx
  have hvb := Kpt.mk (fun W (hb : Below w.heap.size w W) => hv.below hb)
  replace HK := Kpt.mk HK2
  replace HWn := Kpt.mk HWn
  have el : IntKind.i64.wrap (l : Int) = l := by rw [IntKind.wrap_i64]; omega
  replace h := Kpt.mk h
  clear hst2 HK2 hn hv htag hl hw hf 
  have hb := Kpt.mk (Below.refl w.heap.size w)
  go_enter Try.func58, Try.ntmps58
  go_wp2_with (first
      | (have hm := m1; refine wpList_var rfl 32 rfl zeroS zeroSi ?_; intro br w_r hl_ hX_ h_; have q_c_r : bc < br := Nat.lt_of_lt_of_le Oc.out.bx.lt hl_; have Or := Kpt.mk (F.out.new hl_ hX_); replace Oc := Kpt.mk (Oc.out.below h_); replace F := Kpt.mk (F.out.below h_); replace hb := Kpt.mk (hb.out.trans (h_.mono hb.out.size)); clear hl_ hX_ h_; clear hm m1; have m2 : Kpt True := ⟨trivial⟩)
      | (refine wpList_box rfl 38 _ rfl CV rfl ?_; intro bc w_c hl_ hX_ h_ _; have Oc := Kpt.mk (F.out.new hl_ hX_); replace F := Kpt.mk (F.out.below h_); replace hb := Kpt.mk (hb.out.trans (h_.mono hb.out.size)); clear hl_ hX_ h_; have m1 : Kpt True := ⟨trivial⟩)
      | (refine wpList_load_bx rfl 38 _ rfl bc CV rfl Oc.out.bx _ Try.underlying38 rfl (by rw [hCs.out]; exact infoC) ?_)
      | fail)
  obtain ⟨d0, d1, dlt⟩ := dev_at F.out.dv.bx
  have x2 := hcm2.out _ _ Oc.out.bx
  refine wp_region_any (by kernel_rfl) ?_
  refine wpAny_of_C (C := fun W => W.cell? ⟨D, 0, none⟩ = some (.pointer (some ⟨S, 0, none⟩)) ∧ W.cell? ⟨bc, 2, none⟩ = some (.int .u64 l) ∧ D < W.heap.size) _ _ _ _ ?_
  refine wpAnyC_take 0 (.pointer (some ⟨D, 0, none⟩)) rfl (by kernel_rfl) (by kernel_rfl) (by kernel_rfl) (fun _ _ _ h => h) (wanted_free rfl _) (fun W hW => by obtain ⟨q1, q2, q4⟩ := hW; go_simp) ?_
  try simp only [Act.put, List.getElem_toArray, List.getElem_cons_succ, List.getElem_cons_zero, List.setIfInBounds_toArray, List.set_cons_succ, List.set_cons_zero]
  refine wpAnyC_take 1 (.pointer (some ⟨D, 0, none⟩)) rfl (by kernel_rfl) (by kernel_rfl) (by kernel_rfl) (fun _ _ _ h => h) (wanted_free rfl _) (fun W hW => by obtain ⟨q1, q2, q4⟩ := hW; go_simp) ?_
  try simp only [Act.put, List.getElem_toArray, List.getElem_cons_succ, List.getElem_cons_zero, List.setIfInBounds_toArray, List.set_cons_succ, List.set_cons_zero]
  refine wpAnyC_take 2 (.pointer (some ⟨D, 0, none⟩)) rfl (by kernel_rfl) (by kernel_rfl) (by kernel_rfl) (fun _ _ _ h => h) (wanted_free rfl _) (fun W hW => by obtain ⟨q1, q2, q4⟩ := hW; go_simp) ?_
  try simp only [Act.put, List.getElem_toArray, List.getElem_cons_succ, List.getElem_cons_zero, List.setIfInBounds_toArray, List.set_cons_succ, List.set_cons_zero]
  refine wpAnyC_take 3 (.pointer (some ⟨S, 0, none⟩)) rfl (by kernel_rfl) (by kernel_rfl) (by kernel_rfl) (fun _ _ _ h => h) (wanted_free rfl _) (fun W hW => by obtain ⟨q1, q2, q4⟩ := hW; go_simp) ?_
  try simp only [Act.put, List.getElem_toArray, List.getElem_cons_succ, List.getElem_cons_zero, List.setIfInBounds_toArray, List.set_cons_succ, List.set_cons_zero]
  refine wpAnyC_take 4 (.pointer (some ⟨bc, 2, none⟩)) rfl (by kernel_rfl) (by kernel_rfl) (by kernel_rfl) (fun _ _ _ h => h) (wanted_free rfl _) (fun W hW => by obtain ⟨q1, q2, q4⟩ := hW; go_simp) ?_
  try simp only [Act.put, List.getElem_toArray, List.getElem_cons_succ, List.getElem_cons_zero, List.setIfInBounds_toArray, List.set_cons_succ, List.set_cons_zero]
  refine wpAnyC_take 5 (.int .u64 l) rfl (by kernel_rfl) (by kernel_rfl) (by kernel_rfl) (fun _ _ _ h => h) (wanted_free rfl _) (fun W hW => by obtain ⟨q1, q2, q4⟩ := hW; go_simp) ?_
  try simp only [Act.put, List.getElem_toArray, List.getElem_cons_succ, List.getElem_cons_zero, List.setIfInBounds_toArray, List.set_cons_succ, List.set_cons_zero]
  refine wpAnyC_take 6 (.int .i64 l) rfl (by kernel_rfl) (by kernel_rfl) (by kernel_rfl) (fun _ _ _ h => h) (wanted_free rfl _) (fun W hW => by obtain ⟨q1, q2, q4⟩ := hW; go_simp) ?_
  try simp only [Act.put, List.getElem_toArray, List.getElem_cons_succ, List.getElem_cons_zero, List.setIfInBounds_toArray, List.set_cons_succ, List.set_cons_zero]
  refine wpAnyC_take 7 (.slice a n cp) rfl (by kernel_rfl) (by kernel_rfl) (by kernel_rfl) (fun _ _ _ h => h) (wanted_free rfl _) (fun W hW => by obtain ⟨q1, q2, q4⟩ := hW; go_simp) ?_
  try simp only [Act.put, List.getElem_toArray, List.getElem_cons_succ, List.getElem_cons_zero, List.setIfInBounds_toArray, List.set_cons_succ, List.set_cons_zero]
  refine wpAnyC_take 8 (.bool false) rfl (by kernel_rfl) (by kernel_rfl) (by kernel_rfl) (fun _ _ _ h => h) (wanted_free rfl _) (fun W hW => by obtain ⟨q1, q2, q4⟩ := hW; go_simp) ?_
  try simp only [Act.put, List.getElem_toArray, List.getElem_cons_succ, List.getElem_cons_zero, List.setIfInBounds_toArray, List.set_cons_succ, List.set_cons_zero]
  refine wpAnyC_one 9 (⟨d0, x2, dlt⟩) rfl (by kernel_rfl) (wanted_free rfl _) (fun KA hKA => ?_)
  go_simp
  refine (HK.out _ (F.out.dv.below (below_drew _)) (hvb.out _ (hb.out.trans ((below_drew _).mono hb.out.size)))).mono ?_
  rintro e w3 ⟨rfl, tag3, hW_, s3⟩
  have s_ : Step w_r w3 tag tag3 (fun _ => True) := (step_below (below_drew _) tag (fun _ => True)).trans s3
  replace Oc := Kpt.mk (Oc.out.call s_)
  replace Or := Kpt.mk (Or.out.call s_)
  replace F := Kpt.mk (F.out.call hW_ s_)
  refine hKA _ _ ?_
  clear hKA KA
  try simp only [Act.put, List.getElem_toArray, List.getElem_cons_succ, List.getElem_cons_zero, List.setIfInBounds_toArray, List.set_cons_succ, List.set_cons_zero]
  refine wpAnyC_take 10 (.tuple #[.int .i64 n, .int .i64 0]) rfl (by kernel_rfl) (by kernel_rfl) (by kernel_rfl) (fun _ _ _ h => h) (wanted_free rfl _) (fun W hW => by go_simp) ?_
  try simp only [Act.put, List.getElem_toArray, List.getElem_cons_succ, List.getElem_cons_zero, List.setIfInBounds_toArray, List.set_cons_succ, List.set_cons_zero]
  refine wpAnyC_take 11 (.int .i64 n) rfl (by kernel_rfl) (by kernel_rfl) (by kernel_rfl) (fun _ _ _ h => h) (wanted_free rfl _) (fun W hW => by go_simp) ?_
  try simp only [Act.put, List.getElem_toArray, List.getElem_cons_succ, List.getElem_cons_zero, List.setIfInBounds_toArray, List.set_cons_succ, List.set_cons_zero]
  refine wpAnyC_take 12 (.int .i64 0) rfl (by kernel_rfl) (by kernel_rfl) (by kernel_rfl) (fun _ _ _ h => h) (wanted_free rfl _) (fun W hW => by go_simp) ?_
  try simp only [Act.put, List.getElem_toArray, List.getElem_cons_succ, List.getElem_cons_zero, List.setIfInBounds_toArray, List.set_cons_succ, List.set_cons_zero]
  refine wpAnyC_take 13 (.int .i64 n) rfl (by kernel_rfl) (by kernel_rfl) (by kernel_rfl) (fun _ _ _ h => h) (wanted_free rfl _) (fun W hW => by go_simp) ?_
  try simp only [Act.put, List.getElem_toArray, List.getElem_cons_succ, List.getElem_cons_zero, List.setIfInBounds_toArray, List.set_cons_succ, List.set_cons_zero]
  refine wpAnyC_take 14 (.int .i64 0) rfl (by kernel_rfl) (by kernel_rfl) (by kernel_rfl) (fun _ _ _ h => h) (wanted_free rfl _) (fun W hW => by go_simp) ?_
  try simp only [Act.put, List.getElem_toArray, List.getElem_cons_succ, List.getElem_cons_zero, List.setIfInBounds_toArray, List.set_cons_succ, List.set_cons_zero]
  refine wpAnyC_done (⟨(dev_at F.out.dv.bx).1, hcm2.out _ _ Oc.out.bx, (dev_at F.out.dv.bx).2.2⟩) (by kernel_rfl) ?_
  clear hW_ s_ s3 d0 d1 dlt hb
  replace x2 := hcm2.out _ _ Oc.out.bx
  go_wp2_with (first
      | (have hm := m3; refine wpList_store_bx rfl 32 _ _ rfl br _ (noS).vals rfl rfl Or.out.bx rfl infoS (Sn.vals_one _) rfl ?_; intro w4 hX_ hg_; replace Oc := Kpt.mk (Oc.out.other hg_ (by omega)); replace F := Kpt.mk (F.out.own Or.out hg_ hSl hDl); replace Or := Kpt.mk (Or.out.set hX_); replace x2 := hcm2.out _ _ Oc.out.bx; clear hX_ hg_; clear hm m3; have m4 : Kpt True := ⟨trivial⟩)
      | (go_at_call 78; have hm := m2; go_must (refine (HWn.out _).mono ?_; rintro e w4 ⟨rfl, h_⟩; replace Oc := Kpt.mk (Oc.out.below h_); replace Or := Kpt.mk (Or.out.below h_); replace F := Kpt.mk (F.out.below h_); replace x2 := hcm2.out _ _ Oc.out.bx; clear h_; clear hm m2; have m3 : Kpt True := ⟨trivial⟩))
      | (refine wpList_load_bx rfl 38 _ rfl bc CV rfl Oc.out.bx _ Try.underlying38 rfl (by rw [hCs.out]; exact infoC) ?_)
      | (refine wpList_load_bx rfl 32 _ rfl br (noS).vals rfl Or.out.bx _ Try.underlying32 rfl infoS ?_)
      | fail)
  refine bodyPost_ret (v := .agg (noS).vals) (by simp [results, Try.results58, asAddr, Act.put, res_run Or.out.bx]) rfl ⟨rfl, _, F.out.dv.wd, F.out.st⟩

set_option maxRecDepth 100000 in
set_option maxHeartbeats 1000000 in
theorem dwrite_fail (w : World) (B : Nat) (tag : Tags) (st : St) (f : ByteArray) (S D N : Nat) (k : Int) (l n cp : Nat) (a : Option Addr) (c : Cm) (bs : List Bk) (h : Dv w B tag st f S D N k true) (hf1 : 1 ≤ f.size) (hf2 : f.size ≤ 32) (hN : N ≤ 4096) (hc : st.cnt < 500000000000) (hcw : st.waits.length < 1000000) (hw : Wrs st.waits) (hl : c.lba = (l : Nat)) (hin : l + n ≤ N) (hn : bs.length = n) (hv : Bks w (.slice a n cp) bs) (htag : ∀ g, (Value.slice a n cp).ownBlock = some g → tag g = none) (j0 : Nat) (hj0 : j0 < n) (hf : ∀ i : Nat, i < j0 → st.fails (st.ops + i) = false) (hfj : st.fails (st.ops + j0) = true) :
    Calls Try.prog 58 #[.pointer (some ⟨D, 0, none⟩), .agg c.vals, .slice a n cp, .bool false] w fun e w' => e = .returned (.agg (nuS 3 3072 ((l + j0 : Nat) : Int)).vals) ∧ Aft w w' B tag (flSt (wrSt st f l (bs) j0)) := by
  have hcm2 : ∀ (W : World) (b : Nat), Bx W b c.vals → W.cell? ⟨b, 2, none⟩ = some (.int .u64 c.lba) := fun W b h => (cm_at h).2.2.1
  rw [hl] at hcm2
  have HK := fun W (h : Dv W B tag st f S D N k true) (hv : Bks W (.slice a n cp) bs) => kwrite_fail W B tag st S N l f (.slice a n cp) bs h.wd h.sto hf1 hf2 hN hc hcw j0 (by rw [hn]; exact hj0) hf hfj hw hv htag (by rw [hn]; exact hin)
  obtain ⟨st2, hst2⟩ : ∃ s, s = flSt (wrSt st f l (bs) j0) := ⟨_, rfl⟩
  rw [← hst2]
  have HK2 : ∀ W, Dv W B tag st f S D N k true → Bks W (.slice a n cp) bs → Calls Try.prog 77 #[.pointer (some ⟨S, 0, none⟩), .int .i64 l, .slice a n cp, .bool false] W fun e w' => e = .returned (.tuple #[.int .i64 j0, .int .i64 6]) ∧ ∃ tag', Wd w' B tag' st2 ∧ Step W w' tag tag' (fun _ => True) := fun W h hv => by rw [hst2]; exact HK W h hv
  have HWn := fun W => written_err l j0 W (by omega)
  obtain ⟨s, hs⟩ : ∃ s, s = nuS 3 3072 ((l + j0 : Nat) : Int) := ⟨_, rfl⟩
  rw [← hs] at HWn ⊢
  have hCs : c.vals.size = 15 := rfl
  obtain ⟨CV, hCV⟩ : ∃ CV, CV = c.vals := ⟨_, rfl⟩
  rw [← hCV] at hCs hcm2  ⊢
  replace hcm2 := Kpt.mk hcm2
  replace hCs := Kpt.mk hCs
  clear hCV
  have hSl := h.sto.lt
  have hDl := h.bx.lt
  have F := Kpt.mk h.fx
  have hvb := Kpt.mk (fun W (hb : Below w.heap.size w W) => hv.below hb)
  replace HK := Kpt.mk HK2
  replace HWn := Kpt.mk HWn
  have el : IntKind.i64.wrap (l : Int) = l := by rw [IntKind.wrap_i64]; omega
  replace h := Kpt.mk h
  clear hst2 HK2 hn hv htag hl hw hf hfj hs
  have hb := Kpt.mk (Below.refl w.heap.size w)
  go_enter Try.func58, Try.ntmps58
  go_wp2_with (first
      | (have hm := m1; refine wpList_var rfl 32 rfl zeroS zeroSi ?_; intro br w_r hl_ hX_ h_; have q_c_r : bc < br := Nat.lt_of_lt_of_le Oc.out.bx.lt hl_; have Or := Kpt.mk (F.out.new hl_ hX_); replace Oc := Kpt.mk (Oc.out.below h_); replace F := Kpt.mk (F.out.below h_); replace hb := Kpt.mk (hb.out.trans (h_.mono hb.out.size)); clear hl_ hX_ h_; clear hm m1; have m2 : Kpt True := ⟨trivial⟩)
      | (refine wpList_box rfl 38 _ rfl CV rfl ?_; intro bc w_c hl_ hX_ h_ _; have Oc := Kpt.mk (F.out.new hl_ hX_); replace F := Kpt.mk (F.out.below h_); replace hb := Kpt.mk (hb.out.trans (h_.mono hb.out.size)); clear hl_ hX_ h_; have m1 : Kpt True := ⟨trivial⟩)
      | (refine wpList_load_bx rfl 38 _ rfl bc CV rfl Oc.out.bx _ Try.underlying38 rfl (by rw [hCs.out]; exact infoC) ?_)
      | fail)
  obtain ⟨d0, d1, dlt⟩ := dev_at F.out.dv.bx
  have x2 := hcm2.out _ _ Oc.out.bx
  refine wp_region_any (by kernel_rfl) ?_
  refine wpAny_of_C (C := fun W => W.cell? ⟨D, 0, none⟩ = some (.pointer (some ⟨S, 0, none⟩)) ∧ W.cell? ⟨bc, 2, none⟩ = some (.int .u64 l) ∧ D < W.heap.size) _ _ _ _ ?_
  refine wpAnyC_take 0 (.pointer (some ⟨D, 0, none⟩)) rfl (by kernel_rfl) (by kernel_rfl) (by kernel_rfl) (fun _ _ _ h => h) (wanted_free rfl _) (fun W hW => by obtain ⟨q1, q2, q4⟩ := hW; go_simp) ?_
  try simp only [Act.put, List.getElem_toArray, List.getElem_cons_succ, List.getElem_cons_zero, List.setIfInBounds_toArray, List.set_cons_succ, List.set_cons_zero]
  refine wpAnyC_take 1 (.pointer (some ⟨D, 0, none⟩)) rfl (by kernel_rfl) (by kernel_rfl) (by kernel_rfl) (fun _ _ _ h => h) (wanted_free rfl _) (fun W hW => by obtain ⟨q1, q2, q4⟩ := hW; go_simp) ?_
  try simp only [Act.put, List.getElem_toArray, List.getElem_cons_succ, List.getElem_cons_zero, List.setIfInBounds_toArray, List.set_cons_succ, List.set_cons_zero]
  refine wpAnyC_take 2 (.pointer (some ⟨D, 0, none⟩)) rfl (by kernel_rfl) (by kernel_rfl) (by kernel_rfl) (fun _ _ _ h => h) (wanted_free rfl _) (fun W hW => by obtain ⟨q1, q2, q4⟩ := hW; go_simp) ?_
  try simp only [Act.put, List.getElem_toArray, List.getElem_cons_succ, List.getElem_cons_zero, List.setIfInBounds_toArray, List.set_cons_succ, List.set_cons_zero]
  refine wpAnyC_take 3 (.pointer (some ⟨S, 0, none⟩)) rfl (by kernel_rfl) (by kernel_rfl) (by kernel_rfl) (fun _ _ _ h => h) (wanted_free rfl _) (fun W hW => by obtain ⟨q1, q2, q4⟩ := hW; go_simp) ?_
  try simp only [Act.put, List.getElem_toArray, List.getElem_cons_succ, List.getElem_cons_zero, List.setIfInBounds_toArray, List.set_cons_succ, List.set_cons_zero]
  refine wpAnyC_take 4 (.pointer (some ⟨bc, 2, none⟩)) rfl (by kernel_rfl) (by kernel_rfl) (by kernel_rfl) (fun _ _ _ h => h) (wanted_free rfl _) (fun W hW => by obtain ⟨q1, q2, q4⟩ := hW; go_simp) ?_
  try simp only [Act.put, List.getElem_toArray, List.getElem_cons_succ, List.getElem_cons_zero, List.setIfInBounds_toArray, List.set_cons_succ, List.set_cons_zero]
  refine wpAnyC_take 5 (.int .u64 l) rfl (by kernel_rfl) (by kernel_rfl) (by kernel_rfl) (fun _ _ _ h => h) (wanted_free rfl _) (fun W hW => by obtain ⟨q1, q2, q4⟩ := hW; go_simp) ?_
  try simp only [Act.put, List.getElem_toArray, List.getElem_cons_succ, List.getElem_cons_zero, List.setIfInBounds_toArray, List.set_cons_succ, List.set_cons_zero]
  refine wpAnyC_take 6 (.int .i64 l) rfl (by kernel_rfl) (by kernel_rfl) (by kernel_rfl) (fun _ _ _ h => h) (wanted_free rfl _) (fun W hW => by obtain ⟨q1, q2, q4⟩ := hW; go_simp) ?_
  try simp only [Act.put, List.getElem_toArray, List.getElem_cons_succ, List.getElem_cons_zero, List.setIfInBounds_toArray, List.set_cons_succ, List.set_cons_zero]
  refine wpAnyC_take 7 (.slice a n cp) rfl (by kernel_rfl) (by kernel_rfl) (by kernel_rfl) (fun _ _ _ h => h) (wanted_free rfl _) (fun W hW => by obtain ⟨q1, q2, q4⟩ := hW; go_simp) ?_
  try simp only [Act.put, List.getElem_toArray, List.getElem_cons_succ, List.getElem_cons_zero, List.setIfInBounds_toArray, List.set_cons_succ, List.set_cons_zero]
  refine wpAnyC_take 8 (.bool false) rfl (by kernel_rfl) (by kernel_rfl) (by kernel_rfl) (fun _ _ _ h => h) (wanted_free rfl _) (fun W hW => by obtain ⟨q1, q2, q4⟩ := hW; go_simp) ?_
  try simp only [Act.put, List.getElem_toArray, List.getElem_cons_succ, List.getElem_cons_zero, List.setIfInBounds_toArray, List.set_cons_succ, List.set_cons_zero]
  refine wpAnyC_one 9 (⟨d0, x2, dlt⟩) rfl (by kernel_rfl) (wanted_free rfl _) (fun KA hKA => ?_)
  go_simp
  refine (HK.out _ (F.out.dv.below (below_drew _)) (hvb.out _ (hb.out.trans ((below_drew _).mono hb.out.size)))).mono ?_
  rintro e w3 ⟨rfl, tag3, hW_, s3⟩
  have s_ : Step w_r w3 tag tag3 (fun _ => True) := (step_below (below_drew _) tag (fun _ => True)).trans s3
  replace Oc := Kpt.mk (Oc.out.call s_)
  replace Or := Kpt.mk (Or.out.call s_)
  replace F := Kpt.mk (F.out.call hW_ s_)
  refine hKA _ _ ?_
  clear hKA KA
  try simp only [Act.put, List.getElem_toArray, List.getElem_cons_succ, List.getElem_cons_zero, List.setIfInBounds_toArray, List.set_cons_succ, List.set_cons_zero]
  refine wpAnyC_take 10 (.tuple #[.int .i64 j0, .int .i64 6]) rfl (by kernel_rfl) (by kernel_rfl) (by kernel_rfl) (fun _ _ _ h => h) (wanted_free rfl _) (fun W hW => by go_simp) ?_
  try simp only [Act.put, List.getElem_toArray, List.getElem_cons_succ, List.getElem_cons_zero, List.setIfInBounds_toArray, List.set_cons_succ, List.set_cons_zero]
  refine wpAnyC_take 11 (.int .i64 j0) rfl (by kernel_rfl) (by kernel_rfl) (by kernel_rfl) (fun _ _ _ h => h) (wanted_free rfl _) (fun W hW => by go_simp) ?_
  try simp only [Act.put, List.getElem_toArray, List.getElem_cons_succ, List.getElem_cons_zero, List.setIfInBounds_toArray, List.set_cons_succ, List.set_cons_zero]
  refine wpAnyC_take 12 (.int .i64 6) rfl (by kernel_rfl) (by kernel_rfl) (by kernel_rfl) (fun _ _ _ h => h) (wanted_free rfl _) (fun W hW => by go_simp) ?_
  try simp only [Act.put, List.getElem_toArray, List.getElem_cons_succ, List.getElem_cons_zero, List.setIfInBounds_toArray, List.set_cons_succ, List.set_cons_zero]
  refine wpAnyC_take 13 (.int .i64 j0) rfl (by kernel_rfl) (by kernel_rfl) (by kernel_rfl) (fun _ _ _ h => h) (wanted_free rfl _) (fun W hW => by go_simp) ?_
  try simp only [Act.put, List.getElem_toArray, List.getElem_cons_succ, List.getElem_cons_zero, List.setIfInBounds_toArray, List.set_cons_succ, List.set_cons_zero]
  refine wpAnyC_take 14 (.int .i64 6) rfl (by kernel_rfl) (by kernel_rfl) (by kernel_rfl) (fun _ _ _ h => h) (wanted_free rfl _) (fun W hW => by go_simp) ?_
  try simp only [Act.put, List.getElem_toArray, List.getElem_cons_succ, List.getElem_cons_zero, List.setIfInBounds_toArray, List.set_cons_succ, List.set_cons_zero]
  refine wpAnyC_done (⟨(dev_at F.out.dv.bx).1, hcm2.out _ _ Oc.out.bx, (dev_at F.out.dv.bx).2.2⟩) (by kernel_rfl) ?_
  clear hW_ s_ s3 d0 d1 dlt hb
  replace x2 := hcm2.out _ _ Oc.out.bx
  go_wp2_with (first
      | (have hm := m3; refine wpList_store_bx rfl 32 _ _ rfl br _ (s).vals rfl rfl Or.out.bx rfl infoS (Sn.vals_one _) rfl ?_; intro w4 hX_ hg_; replace Oc := Kpt.mk (Oc.out.other hg_ (by omega)); replace F := Kpt.mk (F.out.own Or.out hg_ hSl hDl); replace Or := Kpt.mk (Or.out.set hX_); replace x2 := hcm2.out _ _ Oc.out.bx; clear hX_ hg_; clear hm m3; have m4 : Kpt True := ⟨trivial⟩)
      | (go_at_call 78; have hm := m2; go_must (refine (HWn.out _).mono ?_; rintro e w4 ⟨rfl, h_⟩; replace Oc := Kpt.mk (Oc.out.below h_); replace Or := Kpt.mk (Or.out.below h_); replace F := Kpt.mk (F.out.below h_); replace x2 := hcm2.out _ _ Oc.out.bx; clear h_; clear hm m2; have m3 : Kpt True := ⟨trivial⟩))
      | (refine wpList_load_bx rfl 38 _ rfl bc CV rfl Oc.out.bx _ Try.underlying38 rfl (by rw [hCs.out]; exact infoC) ?_)
      | (refine wpList_load_bx rfl 32 _ rfl br (s).vals rfl Or.out.bx _ Try.underlying32 rfl infoS ?_)
      | fail)
  refine bodyPost_ret (v := .agg (s).vals) (by simp [results, Try.results58, asAddr, Act.put, res_run Or.out.bx]) rfl ⟨rfl, _, F.out.dv.wd, F.out.st⟩

set_option maxRecDepth 100000 in
set_option maxHeartbeats 1000000 in
theorem take_part (w : World) (B : Nat) (tag : Tags) (st : St) (f : ByteArray) (S D N : Nat) (k : Int) (l m n cp : Nat) (a : Option Addr) (zs : List Int) (c : Cm) (h : Dv w B tag st f S D N k true) (hf1 : 1 ≤ f.size) (hf2 : f.size ≤ 32) (hN : N ≤ 4096) (hc : st.cnt < 500000000000) (hcw : st.waits.length < 1000000) (hw : Wrs st.waits) (h0 : 0 ≤ k) (h1 : k ≤ 255) (hl : c.lba = (l : Nat)) (hbl : c.bl = (m : Nat)) (hin : l + m ≤ N) (hr : RdAt w (.slice a n cp) zs) (hlz : zs.length = n) (hby : Bytes zs) (hm : n = m * 16) (hpr : c.pr = 0) (hf : ∀ i : Nat, i < m → st.fails (st.ops + i) = false) :
    Calls Try.prog 43 #[.pointer (some ⟨D, 0, none⟩), .agg c.vals, .slice a n cp, .bool false] w fun e w' => e = .returned (.agg (noS).vals) ∧ Aft w w' B tag (wrSt st f l (prL k l (unBs false zs m)) m) := by
  have hcm3 : ∀ (W : World) (b : Nat), Bx W b c.vals → W.cell? ⟨b, 3, none⟩ = some (.int .u64 c.bl) := fun W b h => (cm_at h).2.2.2.1
  rw [hbl] at hcm3
  have HC := fun W (hb : Below w.heap.size w W) (hD : Bx W D (devV S k)) => come_0 D S l k c a n cp m zs W hD h0 h1 hl (by omega) (rd_below hr hb) hlz hby hpr hm
  have hbo : ∀ b ∈ prL k l (unBs false zs m), b.ok := prL_ok k l _ (unBs_ok false zs m hby (by rw [hlz, hm]; rfl))
  have hbn : (prL k l (unBs false zs m)).length = m := by rw [prL_len]; exact unBs_len _ _ _
  have em : IntKind.i64.wrap (m : Int) = m := by rw [IntKind.wrap_i64]; omega
  have HE := fun W => ended_any noS W
  simp only [show (noS.key != 0) = false from rfl] at HE
  obtain ⟨bs, hbs⟩ : ∃ bs, bs = prL k l (unBs false zs m) := ⟨_, rfl⟩
  rw [← hbs] at HC hbo hbn ⊢
  have HW := fun W g (h : Dv W B tag st f S D N k true) (hg : W.heap[g]? = some (.cells (flat bs).toArray 76 (0, 0))) (ht : tag g = none) => dwrite_part W B tag st f S D N k l m m (some ⟨g, 0, none⟩) c bs h hf1 hf2 hN hc hcw hw hl hin hbn (bks_row hg hbo m m hbn (by unfold maxLen; omega)) (fun g' hg' => by simp [Value.ownBlock] at hg'; rw [← hg']; exact ht) hf
  obtain ⟨st2, hst2⟩ : ∃ s, s = wrSt st f l (bs) m := ⟨_, rfl⟩
  rw [← hst2] at HW ⊢
  have hCs : c.vals.size = 15 := rfl
  obtain ⟨CV, hCV⟩ : ∃ CV, CV = c.vals := ⟨_, rfl⟩
  rw [← hCV] at hCs hcm3 HC HW ⊢
  replace hcm3 := Kpt.mk hcm3
  replace hCs := Kpt.mk hCs
  clear hCV
  have hSl := h.sto.lt
  have hDl := h.bx.lt
  have F := Kpt.mk h.fx
  have hb := Kpt.mk (Below.refl w.heap.size w)
  replace HC := Kpt.mk HC
  replace HE := Kpt.mk HE
  replace HW := Kpt.mk HW
  replace h := Kpt.mk h
  replace hm := Kpt.mk hm
  clear hbo hbn hr hlz hl hbl hw hpr hbs hst2 hf 
  go_enter Try.func43, Try.ntmps43
  go_wp2_with (first
      | (have hm := m7; refine wpList_store_bx rfl 32 _ _ rfl br _ (noS).vals rfl rfl Or.out.bx rfl infoS (Sn.vals_one _) rfl ?_; intro w8 hX_ hg_; replace Oc := Kpt.mk (Oc.out.other hg_ (by omega)); replace Ov := Kpt.mk (Ov.out.other hg_ (by omega)); replace Rg := Kpt.mk (Rg.out.other hg_ (by omega)); replace F := Kpt.mk (F.out.own Or.out hg_ hSl hDl); replace Or := Kpt.mk (Or.out.set hX_); replace x3 := hcm3.out _ _ Oc.out.bx; clear hX_ hg_; clear hm m7; have m8 : Kpt True := ⟨trivial⟩)
      | (go_at_call 58; have hm := m6; go_must (refine (HW.out _ _ F.out.dv Rg.out.row Rg.out.bare).mono ?_; rintro e w5 ⟨rfl, tag5, hW_, s_⟩; replace Oc := Kpt.mk (Oc.out.call s_); replace Or := Kpt.mk (Or.out.call s_); replace Ov := Kpt.mk (Ov.out.call s_); replace Rg := Kpt.mk (Rg.out.call s_); replace F := Kpt.mk (F.out.call hW_ s_); replace x3 := hcm3.out _ _ Oc.out.bx; clear hW_ s_; clear hm m6; have m7 : Kpt True := ⟨trivial⟩))
      | (go_at_call 22; have hm := m5; go_must (refine (HE.out _).mono ?_; rintro e w4 ⟨rfl, h_⟩; replace Oc := Kpt.mk (Oc.out.below h_); replace Or := Kpt.mk (Or.out.below h_); replace Ov := Kpt.mk (Ov.out.below h_); replace Rg := Kpt.mk (Rg.out.below h_); replace F := Kpt.mk (F.out.below h_); replace x3 := hcm3.out _ _ Oc.out.bx; replace hb := Kpt.mk (hb.out.trans (h_.mono hb.out.size)); clear h_; clear hm m5; have m6 : Kpt True := ⟨trivial⟩))
      | (have hm := m4; refine wpList_store_bx rfl 32 _ _ rfl bv _ (noS).vals rfl rfl Ov.out.bx rfl infoS (Sn.vals_one _) rfl ?_; intro w5 hX_ hg_; replace hb := Kpt.mk (hb.out.trans (Below.ofGrown hg_ hb.out.size Ov.out.lo)); replace Oc := Kpt.mk (Oc.out.other hg_ (by omega)); replace Or := Kpt.mk (Or.out.other hg_ (by omega)); replace Rg := Kpt.mk (Rg.out.other hg_ (by omega)); replace F := Kpt.mk (F.out.own Ov.out hg_ hSl hDl); replace Ov := Kpt.mk (Ov.out.set hX_); replace x3 := hcm3.out _ _ Oc.out.bx; clear hX_ hg_; clear hm m4; have m5 : Kpt True := ⟨trivial⟩)
      | (have hm := m3; refine wpList_var rfl 32 rfl zeroS zeroSi ?_; intro bv w_v hl_ hX_ h_; have q_c_v : bc < bv := Nat.lt_of_lt_of_le Oc.out.bx.lt hl_; have q_r_v : br < bv := Nat.lt_of_lt_of_le Or.out.bx.lt hl_; have q_g_v : gg < bv := Nat.lt_of_lt_of_le Rg.out.lt hl_; have Ov := Kpt.mk (F.out.new hl_ hX_); replace Oc := Kpt.mk (Oc.out.below h_); replace Or := Kpt.mk (Or.out.below h_); replace Rg := Kpt.mk (Rg.out.below h_); replace F := Kpt.mk (F.out.below h_); replace x3 := hcm3.out _ _ Oc.out.bx; replace hb := Kpt.mk (hb.out.trans (h_.mono hb.out.size)); clear hl_ hX_ h_; clear hm m3; have m4 : Kpt True := ⟨trivial⟩)
      | (go_at_call 57; have hm := m2; go_must (refine (HC.out _ hb.out F.out.dv.bx).mono ?_; rintro e w3 ⟨gg, rfl, hr_, hgl_, h_⟩; have q_c_g : bc < gg := Nat.lt_of_lt_of_le Oc.out.bx.lt hgl_; have q_r_g : br < gg := Nat.lt_of_lt_of_le Or.out.bx.lt hgl_; have Rg := Kpt.mk (F.out.row hgl_ hr_); replace Oc := Kpt.mk (Oc.out.below h_); replace Or := Kpt.mk (Or.out.below h_); replace F := Kpt.mk (F.out.below h_); replace x3 := hcm3.out _ _ Oc.out.bx; replace hb := Kpt.mk (hb.out.trans (h_.mono hb.out.size)); clear h_; clear hgl_ hr_; clear hm m2; have m3 : Kpt True := ⟨trivial⟩))
      | (have hm := m1; refine wpList_var rfl 32 rfl zeroS zeroSi ?_; intro br w_r hl_ hX_ h_; have q_c_r : bc < br := Nat.lt_of_lt_of_le Oc.out.bx.lt hl_; have Or := Kpt.mk (F.out.new hl_ hX_); replace Oc := Kpt.mk (Oc.out.below h_); replace F := Kpt.mk (F.out.below h_); replace x3 := hcm3.out _ _ Oc.out.bx; replace hb := Kpt.mk (hb.out.trans (h_.mono hb.out.size)); clear hl_ hX_ h_; clear hm m1; have m2 : Kpt True := ⟨trivial⟩)
      | (refine wpList_box rfl 38 _ rfl CV rfl ?_; intro bc w_c hl_ hX_ h_ _; have Oc := Kpt.mk (F.out.new hl_ hX_); replace F := Kpt.mk (F.out.below h_); replace hb := Kpt.mk (hb.out.trans (h_.mono hb.out.size)); have x3 := hcm3.out _ _ Oc.out.bx; clear hl_ hX_ h_; have m1 : Kpt True := ⟨trivial⟩)
      | (refine wpList_load_bx rfl 38 _ rfl bc CV rfl Oc.out.bx _ Try.underlying38 rfl (by rw [hCs.out]; exact infoC) ?_)
      | (refine wpList_load_bx rfl 32 _ rfl bv (noS).vals rfl Ov.out.bx _ Try.underlying32 rfl infoS ?_)
      | fail)
  refine bodyPost_ret (v := .agg (noS).vals) (by simp [results, Try.results43, asAddr, Act.put, res_run Or.out.bx]) rfl ⟨rfl, _, F.out.dv.wd, F.out.st⟩

set_option maxRecDepth 100000 in
set_option maxHeartbeats 1000000 in
theorem take_fail (w : World) (B : Nat) (tag : Tags) (st : St) (f : ByteArray) (S D N : Nat) (k : Int) (l m n cp : Nat) (a : Option Addr) (zs : List Int) (c : Cm) (h : Dv w B tag st f S D N k true) (hf1 : 1 ≤ f.size) (hf2 : f.size ≤ 32) (hN : N ≤ 4096) (hc : st.cnt < 500000000000) (hcw : st.waits.length < 1000000) (hw : Wrs st.waits) (h0 : 0 ≤ k) (h1 : k ≤ 255) (hl : c.lba = (l : Nat)) (hbl : c.bl = (m : Nat)) (hin : l + m ≤ N) (hr : RdAt w (.slice a n cp) zs) (hlz : zs.length = n) (hby : Bytes zs) (hm : n = m * 16) (hpr : c.pr = 0) (j0 : Nat) (hj0 : j0 < m) (hf : ∀ i : Nat, i < j0 → st.fails (st.ops + i) = false) (hfj : st.fails (st.ops + j0) = true) :
    Calls Try.prog 43 #[.pointer (some ⟨D, 0, none⟩), .agg c.vals, .slice a n cp, .bool false] w fun e w' => e = .returned (.agg (nuS 3 3072 ((l + j0 : Nat) : Int)).vals) ∧ Aft w w' B tag (flSt (wrSt st f l (prL k l (unBs false zs m)) j0)) := by
  have hcm3 : ∀ (W : World) (b : Nat), Bx W b c.vals → W.cell? ⟨b, 3, none⟩ = some (.int .u64 c.bl) := fun W b h => (cm_at h).2.2.2.1
  rw [hbl] at hcm3
  have HC := fun W (hb : Below w.heap.size w W) (hD : Bx W D (devV S k)) => come_0 D S l k c a n cp m zs W hD h0 h1 hl (by omega) (rd_below hr hb) hlz hby hpr hm
  have hbo : ∀ b ∈ prL k l (unBs false zs m), b.ok := prL_ok k l _ (unBs_ok false zs m hby (by rw [hlz, hm]; rfl))
  have hbn : (prL k l (unBs false zs m)).length = m := by rw [prL_len]; exact unBs_len _ _ _
  have em : IntKind.i64.wrap (m : Int) = m := by rw [IntKind.wrap_i64]; omega
  have HE := fun W => ended_any noS W
  simp only [show (noS.key != 0) = false from rfl] at HE
  obtain ⟨bs, hbs⟩ : ∃ bs, bs = prL k l (unBs false zs m) := ⟨_, rfl⟩
  rw [← hbs] at HC hbo hbn ⊢
  have HW := fun W g (h : Dv W B tag st f S D N k true) (hg : W.heap[g]? = some (.cells (flat bs).toArray 76 (0, 0))) (ht : tag g = none) => dwrite_fail W B tag st f S D N k l m m (some ⟨g, 0, none⟩) c bs h hf1 hf2 hN hc hcw hw hl hin hbn (bks_row hg hbo m m hbn (by unfold maxLen; omega)) (fun g' hg' => by simp [Value.ownBlock] at hg'; rw [← hg']; exact ht) j0 hj0 hf hfj
  obtain ⟨st2, hst2⟩ : ∃ s, s = flSt (wrSt st f l (bs) j0) := ⟨_, rfl⟩
  rw [← hst2] at HW ⊢
  obtain ⟨s, hs⟩ : ∃ s, s = nuS 3 3072 ((l + j0 : Nat) : Int) := ⟨_, rfl⟩
  rw [← hs] at HW ⊢
  have hCs : c.vals.size = 15 := rfl
  obtain ⟨CV, hCV⟩ : ∃ CV, CV = c.vals := ⟨_, rfl⟩
  rw [← hCV] at hCs hcm3 HC HW ⊢
  replace hcm3 := Kpt.mk hcm3
  replace hCs := Kpt.mk hCs
  clear hCV
  have hSl := h.sto.lt
  have hDl := h.bx.lt
  have F := Kpt.mk h.fx
  have hb := Kpt.mk (Below.refl w.heap.size w)
  replace HC := Kpt.mk HC
  replace HE := Kpt.mk HE
  replace HW := Kpt.mk HW
  replace h := Kpt.mk h
  replace hm := Kpt.mk hm
  clear hbo hbn hr hlz hl hbl hw hpr hbs hst2 hf hfj hs
  go_enter Try.func43, Try.ntmps43
  go_wp2_with (first
      | (have hm := m7; refine wpList_store_bx rfl 32 _ _ rfl br _ (s).vals rfl rfl Or.out.bx rfl infoS (Sn.vals_one _) rfl ?_; intro w8 hX_ hg_; replace Oc := Kpt.mk (Oc.out.other hg_ (by omega)); replace Ov := Kpt.mk (Ov.out.other hg_ (by omega)); replace Rg := Kpt.mk (Rg.out.other hg_ (by omega)); replace F := Kpt.mk (F.out.own Or.out hg_ hSl hDl); replace Or := Kpt.mk (Or.out.set hX_); replace x3 := hcm3.out _ _ Oc.out.bx; clear hX_ hg_; clear hm m7; have m8 : Kpt True := ⟨trivial⟩)
      | (go_at_call 58; have hm := m6; go_must (refine (HW.out _ _ F.out.dv Rg.out.row Rg.out.bare).mono ?_; rintro e w5 ⟨rfl, tag5, hW_, s_⟩; replace Oc := Kpt.mk (Oc.out.call s_); replace Or := Kpt.mk (Or.out.call s_); replace Ov := Kpt.mk (Ov.out.call s_); replace Rg := Kpt.mk (Rg.out.call s_); replace F := Kpt.mk (F.out.call hW_ s_); replace x3 := hcm3.out _ _ Oc.out.bx; clear hW_ s_; clear hm m6; have m7 : Kpt True := ⟨trivial⟩))
      | (go_at_call 22; have hm := m5; go_must (refine (HE.out _).mono ?_; rintro e w4 ⟨rfl, h_⟩; replace Oc := Kpt.mk (Oc.out.below h_); replace Or := Kpt.mk (Or.out.below h_); replace Ov := Kpt.mk (Ov.out.below h_); replace Rg := Kpt.mk (Rg.out.below h_); replace F := Kpt.mk (F.out.below h_); replace x3 := hcm3.out _ _ Oc.out.bx; replace hb := Kpt.mk (hb.out.trans (h_.mono hb.out.size)); clear h_; clear hm m5; have m6 : Kpt True := ⟨trivial⟩))
      | (have hm := m4; refine wpList_store_bx rfl 32 _ _ rfl bv _ (noS).vals rfl rfl Ov.out.bx rfl infoS (Sn.vals_one _) rfl ?_; intro w5 hX_ hg_; replace hb := Kpt.mk (hb.out.trans (Below.ofGrown hg_ hb.out.size Ov.out.lo)); replace Oc := Kpt.mk (Oc.out.other hg_ (by omega)); replace Or := Kpt.mk (Or.out.other hg_ (by omega)); replace Rg := Kpt.mk (Rg.out.other hg_ (by omega)); replace F := Kpt.mk (F.out.own Ov.out hg_ hSl hDl); replace Ov := Kpt.mk (Ov.out.set hX_); replace x3 := hcm3.out _ _ Oc.out.bx; clear hX_ hg_; clear hm m4; have m5 : Kpt True := ⟨trivial⟩)
      | (have hm := m3; refine wpList_var rfl 32 rfl zeroS zeroSi ?_; intro bv w_v hl_ hX_ h_; have q_c_v : bc < bv := Nat.lt_of_lt_of_le Oc.out.bx.lt hl_; have q_r_v : br < bv := Nat.lt_of_lt_of_le Or.out.bx.lt hl_; have q_g_v : gg < bv := Nat.lt_of_lt_of_le Rg.out.lt hl_; have Ov := Kpt.mk (F.out.new hl_ hX_); replace Oc := Kpt.mk (Oc.out.below h_); replace Or := Kpt.mk (Or.out.below h_); replace Rg := Kpt.mk (Rg.out.below h_); replace F := Kpt.mk (F.out.below h_); replace x3 := hcm3.out _ _ Oc.out.bx; replace hb := Kpt.mk (hb.out.trans (h_.mono hb.out.size)); clear hl_ hX_ h_; clear hm m3; have m4 : Kpt True := ⟨trivial⟩)
      | (go_at_call 57; have hm := m2; go_must (refine (HC.out _ hb.out F.out.dv.bx).mono ?_; rintro e w3 ⟨gg, rfl, hr_, hgl_, h_⟩; have q_c_g : bc < gg := Nat.lt_of_lt_of_le Oc.out.bx.lt hgl_; have q_r_g : br < gg := Nat.lt_of_lt_of_le Or.out.bx.lt hgl_; have Rg := Kpt.mk (F.out.row hgl_ hr_); replace Oc := Kpt.mk (Oc.out.below h_); replace Or := Kpt.mk (Or.out.below h_); replace F := Kpt.mk (F.out.below h_); replace x3 := hcm3.out _ _ Oc.out.bx; replace hb := Kpt.mk (hb.out.trans (h_.mono hb.out.size)); clear h_; clear hgl_ hr_; clear hm m2; have m3 : Kpt True := ⟨trivial⟩))
      | (have hm := m1; refine wpList_var rfl 32 rfl zeroS zeroSi ?_; intro br w_r hl_ hX_ h_; have q_c_r : bc < br := Nat.lt_of_lt_of_le Oc.out.bx.lt hl_; have Or := Kpt.mk (F.out.new hl_ hX_); replace Oc := Kpt.mk (Oc.out.below h_); replace F := Kpt.mk (F.out.below h_); replace x3 := hcm3.out _ _ Oc.out.bx; replace hb := Kpt.mk (hb.out.trans (h_.mono hb.out.size)); clear hl_ hX_ h_; clear hm m1; have m2 : Kpt True := ⟨trivial⟩)
      | (refine wpList_box rfl 38 _ rfl CV rfl ?_; intro bc w_c hl_ hX_ h_ _; have Oc := Kpt.mk (F.out.new hl_ hX_); replace F := Kpt.mk (F.out.below h_); replace hb := Kpt.mk (hb.out.trans (h_.mono hb.out.size)); have x3 := hcm3.out _ _ Oc.out.bx; clear hl_ hX_ h_; have m1 : Kpt True := ⟨trivial⟩)
      | (refine wpList_load_bx rfl 38 _ rfl bc CV rfl Oc.out.bx _ Try.underlying38 rfl (by rw [hCs.out]; exact infoC) ?_)
      | (refine wpList_load_bx rfl 32 _ rfl bv (noS).vals rfl Ov.out.bx _ Try.underlying32 rfl infoS ?_)
      | fail)
  refine bodyPost_ret (v := .agg (s).vals) (by simp [results, Try.results43, asAddr, Act.put, res_run Or.out.bx]) rfl ⟨rfl, _, F.out.dv.wd, F.out.st⟩

end Go.Proofs.Ytklboieemljmiaa
