/-
  Slots: write, Save where the power goes off at the Write or at the Sync.
-/
import Derived.Test.YtndlpmnidpandaaLDv
namespace Go.Proofs.Ytndlpmnidpandaa
open Go.RowKit
set_option linter.unusedVariables false
set_option linter.unusedSimpArgs false

set_option maxRecDepth 100000 in
set_option maxHeartbeats 2000000 in
theorem swrite_d0 (S B : Nat) (f : ByteArray) (kn : Bool) (g : Int) (gen : Int) (tag : Tags) (st : St) (w : World) (hS : Sl w S B tag f kn g 0)
    (h : Wd w B tag st) (hc : st.cnt < 500000000000) (hcw : st.waits.length < 1000000) (hf : st.stop = st.ops) (hof : st.off = false) (hwr : Wrs st.waits) (h1 : 1 ≤ f.size) (h2 : f.size ≤ 30)
    (hg0 : 0 ≤ gen) (hg1 : gen < 18446744073709551616) (a : Option Addr) (n c : Nat) (zs : List Int) (hrd : RdAt w (.slice a n c) zs) (hl : zs.length = n) (hn : n ≤ 4096) (hb : Bytes zs) :
    Calls Try.prog 34 #[.pointer (some ⟨S, 0, none⟩), .int .u64 gen, .slice a n c] w fun e w' => e = .returned (.int .i64 7) ∧ ∃ tag', Wd w' B tag' (dnSt st) ∧ Step w w' tag tag' (fun _ => True) := by
  have HE : Kpt (∀ W, Calls Try.prog 32 #[.int .i64 0] W fun e w' => e = .returned (.string ⟨#[46, 48]⟩) ∧ w' = W) := ⟨ending_0⟩
  have HRec := Kpt.mk (record_any gen a n c zs w hg0 hg1 hrd hl hn hb)
  have hfs : ¬ 9223372036854775807 < f.size + 2 := by omega
  have hsz : (f ++ ⟨#[46, 48]⟩).size = f.size + 2 := by rw [ByteArray.size_append, size_end0]
  obtain ⟨R, hR⟩ : ∃ R, R = recL gen zs := ⟨_, rfl⟩
  have hRl : R.length = 20 + n := by rw [hR, recL_len, hl]
  obtain ⟨L, hL⟩ : ∃ L, L = 20 + n := ⟨_, rfl⟩
  rw [← hR, ← hL] at HRec
  rw [← hL] at hRl
  have hLn : L ≤ 4116 := by omega
  have HW : Kpt (∀ W g7, Wd W B tag st → Calls Try.prog 22 #[.pointer (some ⟨B, 0, none⟩), .string (f ++ ⟨#[46, 48]⟩), .int .i64 0, .slice (some ⟨g7, 0, none⟩) L L] W fun e w' => e = .returned (.int .i64 7) ∧ Wd w' B tag (dnSt st) ∧ Step W w' tag tag (fun _ => True)) := ⟨fun W g7 hW => by
    have q1 : 1 ≤ (f ++ ⟨#[46, 48]⟩).size := by rw [hsz]; omega
    have q2 : (f ++ ⟨#[46, 48]⟩).size ≤ 32 := by rw [hsz]; omega
    have q3 : st.cnt < 1099511627776 := by omega
    have q4 : L ≤ 1048576 := by omega
    exact write_down W B tag st hW q3 hf hof _ q1 q2 (some ⟨g7, 0, none⟩) L L q4⟩
  obtain ⟨stA, hstA⟩ : ∃ s, s = dnSt st := ⟨_, rfl⟩
  rw [← hstA] at HW ⊢
  have HS := Kpt.mk hS
  have HWd := Kpt.mk h
  replace hRl := Kpt.mk hRl
  clear hS h hc hcw hf hof hwr hsz hR hstA hL hrd hl hb
  go_enter Try.func34, Try.ntmps34
  go_wp2_with (go_at_call 8; refine HRec.out.mono ?_; rintro e w1 ⟨g7, rfl, hown, hB1⟩; have hw1 := Kpt.mk (HWd.out.below hB1); have hS1 := Kpt.mk (HS.out.below hB1); have hs1 := Kpt.mk (step_below hB1 tag (fun _ => True)); replace hown := Kpt.mk hown; have hC0 : w1.cell? ⟨S, 0, none⟩ = some (.pointer (some ⟨B, 0, none⟩)) ∧ w1.cell? ⟨S, 1, none⟩ = some (.string f) ∧ w1.cell? ⟨S, 4, none⟩ = some (.int .i64 0) := ⟨hS1.out.at.1, hS1.out.at.2.1, hS1.out.at.2.2.2.2⟩; clear hB1 HRec HS HWd)
  refine wp_region_any (by kernel_rfl) ?_
  refine wpAny_of_C (C := fun W => W.cell? ⟨S, 0, none⟩ = some (.pointer (some ⟨B, 0, none⟩)) ∧ W.cell? ⟨S, 1, none⟩ = some (.string f) ∧ W.cell? ⟨S, 4, none⟩ = some (.int .i64 0)) _ _ _ _ ?_
  refine wpAnyC_take 0 (.pointer (some ⟨S, 0, none⟩)) rfl (by kernel_rfl) (by kernel_rfl) (by kernel_rfl) (fun _ _ _ h => h) (wanted_free rfl _) (fun W hW => by go_simp) ?_
  try simp only [Act.put, List.getElem_toArray, List.getElem_cons_succ, List.getElem_cons_zero, List.setIfInBounds_toArray, List.set_cons_succ, List.set_cons_zero]
  refine wpAnyC_take 1 (.pointer (some ⟨S, 0, none⟩)) rfl (by kernel_rfl) (by kernel_rfl) (by kernel_rfl) (fun _ _ _ h => h) (wanted_free rfl _) (fun W hW => by go_simp) ?_
  try simp only [Act.put, List.getElem_toArray, List.getElem_cons_succ, List.getElem_cons_zero, List.setIfInBounds_toArray, List.set_cons_succ, List.set_cons_zero]
  refine wpAnyC_take 2 (.pointer (some ⟨S, 0, none⟩)) rfl (by kernel_rfl) (by kernel_rfl) (by kernel_rfl) (fun _ _ _ h => h) (wanted_free rfl _) (fun W hW => by go_simp) ?_
  try simp only [Act.put, List.getElem_toArray, List.getElem_cons_succ, List.getElem_cons_zero, List.setIfInBounds_toArray, List.set_cons_succ, List.set_cons_zero]
  refine wpAnyC_take 3 (.pointer (some ⟨B, 0, none⟩)) rfl (by kernel_rfl) (by kernel_rfl) (by kernel_rfl) (fun _ _ _ h => h) (wanted_free rfl _) (fun W hW => by have h := hW.1; go_simp) ?_
  try simp only [Act.put, List.getElem_toArray, List.getElem_cons_succ, List.getElem_cons_zero, List.setIfInBounds_toArray, List.set_cons_succ, List.set_cons_zero]
  refine wpAnyC_take 4 (.pointer (some ⟨S, 0, none⟩)) rfl (by kernel_rfl) (by kernel_rfl) (by kernel_rfl) (fun _ _ _ h => h) (wanted_free rfl _) (fun W hW => by go_simp) ?_
  try simp only [Act.put, List.getElem_toArray, List.getElem_cons_succ, List.getElem_cons_zero, List.setIfInBounds_toArray, List.set_cons_succ, List.set_cons_zero]
  refine wpAnyC_take 5 (.pointer (some ⟨S, 0, none⟩)) rfl (by kernel_rfl) (by kernel_rfl) (by kernel_rfl) (fun _ _ _ h => h) (wanted_free rfl _) (fun W hW => by go_simp) ?_
  try simp only [Act.put, List.getElem_toArray, List.getElem_cons_succ, List.getElem_cons_zero, List.setIfInBounds_toArray, List.set_cons_succ, List.set_cons_zero]
  refine wpAnyC_take 6 (.pointer (some ⟨S, 1, none⟩)) rfl (by kernel_rfl) (by kernel_rfl) (by kernel_rfl) (fun _ _ _ h => h) (wanted_free rfl _) (fun W hW => by go_simp) ?_
  try simp only [Act.put, List.getElem_toArray, List.getElem_cons_succ, List.getElem_cons_zero, List.setIfInBounds_toArray, List.set_cons_succ, List.set_cons_zero]
  refine wpAnyC_take 7 (.string f) rfl (by kernel_rfl) (by kernel_rfl) (by kernel_rfl) (fun _ _ _ h => h) (wanted_free rfl _) (fun W hW => by have h := hW.2.1; go_simp) ?_
  try simp only [Act.put, List.getElem_toArray, List.getElem_cons_succ, List.getElem_cons_zero, List.setIfInBounds_toArray, List.set_cons_succ, List.set_cons_zero]
  refine wpAnyC_take 8 (.pointer (some ⟨S, 0, none⟩)) rfl (by kernel_rfl) (by kernel_rfl) (by kernel_rfl) (fun _ _ _ h => h) (wanted_free rfl _) (fun W hW => by go_simp) ?_
  try simp only [Act.put, List.getElem_toArray, List.getElem_cons_succ, List.getElem_cons_zero, List.setIfInBounds_toArray, List.set_cons_succ, List.set_cons_zero]
  refine wpAnyC_take 9 (.pointer (some ⟨S, 0, none⟩)) rfl (by kernel_rfl) (by kernel_rfl) (by kernel_rfl) (fun _ _ _ h => h) (wanted_free rfl _) (fun W hW => by go_simp) ?_
  try simp only [Act.put, List.getElem_toArray, List.getElem_cons_succ, List.getElem_cons_zero, List.setIfInBounds_toArray, List.set_cons_succ, List.set_cons_zero]
  refine wpAnyC_take 10 (.pointer (some ⟨S, 4, none⟩)) rfl (by kernel_rfl) (by kernel_rfl) (by kernel_rfl) (fun _ _ _ h => h) (wanted_free rfl _) (fun W hW => by go_simp) ?_
  try simp only [Act.put, List.getElem_toArray, List.getElem_cons_succ, List.getElem_cons_zero, List.setIfInBounds_toArray, List.set_cons_succ, List.set_cons_zero]
  refine wpAnyC_take 11 (.int .i64 0) rfl (by kernel_rfl) (by kernel_rfl) (by kernel_rfl) (fun _ _ _ h => h) (wanted_free rfl _) (fun W hW => by have h := hW.2.2; go_simp) ?_
  try simp only [Act.put, List.getElem_toArray, List.getElem_cons_succ, List.getElem_cons_zero, List.setIfInBounds_toArray, List.set_cons_succ, List.set_cons_zero]
  refine wpAnyC_take 14 (.slice (some ⟨g7, 0, none⟩) L L) rfl (by kernel_rfl) (by kernel_rfl) (by kernel_rfl) (fun _ _ _ h => h) (wanted_free rfl _) (fun W hW => by go_simp) ?_
  try simp only [Act.put, List.getElem_toArray, List.getElem_cons_succ, List.getElem_cons_zero, List.setIfInBounds_toArray, List.set_cons_succ, List.set_cons_zero]
  refine wpAnyC_one 12 (hC0) rfl (by kernel_rfl) (wanted_free rfl _) (fun KA hKA => ?_)
  go_simp
  refine (HE.out _).mono ?_
  rintro e y1 ⟨rfl, h9⟩
  have h9s := h9.symm
  subst h9s
  refine hKA _ _ ?_
  clear hKA KA
  try simp only [Act.put, List.getElem_toArray, List.getElem_cons_succ, List.getElem_cons_zero, List.setIfInBounds_toArray, List.set_cons_succ, List.set_cons_zero]
  refine wpAnyC_take 13 (.string (f ++ ⟨#[46, 48]⟩)) rfl (by kernel_rfl) (by kernel_rfl) (by kernel_rfl) (fun _ _ _ h => h) (wanted_free rfl _) (fun W hW => by go_simp) ?_
  try simp only [Act.put, List.getElem_toArray, List.getElem_cons_succ, List.getElem_cons_zero, List.setIfInBounds_toArray, List.set_cons_succ, List.set_cons_zero]
  refine wpAnyC_one 15 (hC0) rfl (by kernel_rfl) (wanted_free rfl _) (fun KA hKA => ?_)
  go_simp
  refine (HW.out _ g7 (wd_drawn hw1.out _)).mono ?_
  rintro e y2 ⟨rfl, hw2, hst2⟩
  have hs2 := Kpt.mk ((step_drawn hs1.out _).trans hst2)
  have hS2 := Kpt.mk ((sl_drawn hS1.out _).step hst2)
  have hC2 : y2.cell? ⟨S, 0, none⟩ = some (.pointer (some ⟨B, 0, none⟩)) ∧ y2.cell? ⟨S, 1, none⟩ = some (.string f) ∧ y2.cell? ⟨S, 4, none⟩ = some (.int .i64 0) := ⟨hS2.out.at.1, hS2.out.at.2.1, hS2.out.at.2.2.2.2⟩
  replace hw2 := Kpt.mk hw2
  clear hst2 hs1 hS1 hw1 hown
  refine hKA _ _ ?_
  clear hKA KA
  try simp only [Act.put, List.getElem_toArray, List.getElem_cons_succ, List.getElem_cons_zero, List.setIfInBounds_toArray, List.set_cons_succ, List.set_cons_zero]
  refine wpAnyC_take 16 (.int .i64 7) rfl (by kernel_rfl) (by kernel_rfl) (by kernel_rfl) (fun _ _ _ h => h) (wanted_free rfl _) (fun W hW => by go_simp) ?_
  try simp only [Act.put, List.getElem_toArray, List.getElem_cons_succ, List.getElem_cons_zero, List.setIfInBounds_toArray, List.set_cons_succ, List.set_cons_zero]
  refine wpAnyC_done (hC2) (by kernel_rfl) ?_
  have hp := hC2.1
  go_wp2_with fail
  go_ret
  exact ⟨rfl, tag, hw2.out, hs2.out⟩


set_option maxRecDepth 100000 in
set_option maxHeartbeats 2000000 in
theorem swrite_d1 (S B : Nat) (f : ByteArray) (kn : Bool) (g : Int) (gen : Int) (tag : Tags) (st : St) (w : World) (hS : Sl w S B tag f kn g 1)
    (h : Wd w B tag st) (hc : st.cnt < 500000000000) (hcw : st.waits.length < 1000000) (hf : st.stop = st.ops) (hof : st.off = false) (hwr : Wrs st.waits) (h1 : 1 ≤ f.size) (h2 : f.size ≤ 30)
    (hg0 : 0 ≤ gen) (hg1 : gen < 18446744073709551616) (a : Option Addr) (n c : Nat) (zs : List Int) (hrd : RdAt w (.slice a n c) zs) (hl : zs.length = n) (hn : n ≤ 4096) (hb : Bytes zs) :
    Calls Try.prog 34 #[.pointer (some ⟨S, 0, none⟩), .int .u64 gen, .slice a n c] w fun e w' => e = .returned (.int .i64 7) ∧ ∃ tag', Wd w' B tag' (dnSt st) ∧ Step w w' tag tag' (fun _ => True) := by
  have HE : Kpt (∀ W, Calls Try.prog 32 #[.int .i64 1] W fun e w' => e = .returned (.string ⟨#[46, 49]⟩) ∧ w' = W) := ⟨ending_1⟩
  have HRec := Kpt.mk (record_any gen a n c zs w hg0 hg1 hrd hl hn hb)
  have hfs : ¬ 9223372036854775807 < f.size + 2 := by omega
  have hsz : (f ++ ⟨#[46, 49]⟩).size = f.size + 2 := by rw [ByteArray.size_append, size_end1]
  obtain ⟨R, hR⟩ : ∃ R, R = recL gen zs := ⟨_, rfl⟩
  have hRl : R.length = 20 + n := by rw [hR, recL_len, hl]
  obtain ⟨L, hL⟩ : ∃ L, L = 20 + n := ⟨_, rfl⟩
  rw [← hR, ← hL] at HRec
  rw [← hL] at hRl
  have hLn : L ≤ 4116 := by omega
  have HW : Kpt (∀ W g7, Wd W B tag st → Calls Try.prog 22 #[.pointer (some ⟨B, 0, none⟩), .string (f ++ ⟨#[46, 49]⟩), .int .i64 0, .slice (some ⟨g7, 0, none⟩) L L] W fun e w' => e = .returned (.int .i64 7) ∧ Wd w' B tag (dnSt st) ∧ Step W w' tag tag (fun _ => True)) := ⟨fun W g7 hW => by
    have q1 : 1 ≤ (f ++ ⟨#[46, 49]⟩).size := by rw [hsz]; omega
    have q2 : (f ++ ⟨#[46, 49]⟩).size ≤ 32 := by rw [hsz]; omega
    have q3 : st.cnt < 1099511627776 := by omega
    have q4 : L ≤ 1048576 := by omega
    exact write_down W B tag st hW q3 hf hof _ q1 q2 (some ⟨g7, 0, none⟩) L L q4⟩
  obtain ⟨stA, hstA⟩ : ∃ s, s = dnSt st := ⟨_, rfl⟩
  rw [← hstA] at HW ⊢
  have HS := Kpt.mk hS
  have HWd := Kpt.mk h
  replace hRl := Kpt.mk hRl
  clear hS h hc hcw hf hof hwr hsz hR hstA hL hrd hl hb
  go_enter Try.func34, Try.ntmps34
  go_wp2_with (go_at_call 8; refine HRec.out.mono ?_; rintro e w1 ⟨g7, rfl, hown, hB1⟩; have hw1 := Kpt.mk (HWd.out.below hB1); have hS1 := Kpt.mk (HS.out.below hB1); have hs1 := Kpt.mk (step_below hB1 tag (fun _ => True)); replace hown := Kpt.mk hown; have hC0 : w1.cell? ⟨S, 0, none⟩ = some (.pointer (some ⟨B, 0, none⟩)) ∧ w1.cell? ⟨S, 1, none⟩ = some (.string f) ∧ w1.cell? ⟨S, 4, none⟩ = some (.int .i64 1) := ⟨hS1.out.at.1, hS1.out.at.2.1, hS1.out.at.2.2.2.2⟩; clear hB1 HRec HS HWd)
  refine wp_region_any (by kernel_rfl) ?_
  refine wpAny_of_C (C := fun W => W.cell? ⟨S, 0, none⟩ = some (.pointer (some ⟨B, 0, none⟩)) ∧ W.cell? ⟨S, 1, none⟩ = some (.string f) ∧ W.cell? ⟨S, 4, none⟩ = some (.int .i64 1)) _ _ _ _ ?_
  refine wpAnyC_take 0 (.pointer (some ⟨S, 0, none⟩)) rfl (by kernel_rfl) (by kernel_rfl) (by kernel_rfl) (fun _ _ _ h => h) (wanted_free rfl _) (fun W hW => by go_simp) ?_
  try simp only [Act.put, List.getElem_toArray, List.getElem_cons_succ, List.getElem_cons_zero, List.setIfInBounds_toArray, List.set_cons_succ, List.set_cons_zero]
  refine wpAnyC_take 1 (.pointer (some ⟨S, 0, none⟩)) rfl (by kernel_rfl) (by kernel_rfl) (by kernel_rfl) (fun _ _ _ h => h) (wanted_free rfl _) (fun W hW => by go_simp) ?_
  try simp only [Act.put, List.getElem_toArray, List.getElem_cons_succ, List.getElem_cons_zero, List.setIfInBounds_toArray, List.set_cons_succ, List.set_cons_zero]
  refine wpAnyC_take 2 (.pointer (some ⟨S, 0, none⟩)) rfl (by kernel_rfl) (by kernel_rfl) (by kernel_rfl) (fun _ _ _ h => h) (wanted_free rfl _) (fun W hW => by go_simp) ?_
  try simp only [Act.put, List.getElem_toArray, List.getElem_cons_succ, List.getElem_cons_zero, List.setIfInBounds_toArray, List.set_cons_succ, List.set_cons_zero]
  refine wpAnyC_take 3 (.pointer (some ⟨B, 0, none⟩)) rfl (by kernel_rfl) (by kernel_rfl) (by kernel_rfl) (fun _ _ _ h => h) (wanted_free rfl _) (fun W hW => by have h := hW.1; go_simp) ?_
  try simp only [Act.put, List.getElem_toArray, List.getElem_cons_succ, List.getElem_cons_zero, List.setIfInBounds_toArray, List.set_cons_succ, List.set_cons_zero]
  refine wpAnyC_take 4 (.pointer (some ⟨S, 0, none⟩)) rfl (by kernel_rfl) (by kernel_rfl) (by kernel_rfl) (fun _ _ _ h => h) (wanted_free rfl _) (fun W hW => by go_simp) ?_
  try simp only [Act.put, List.getElem_toArray, List.getElem_cons_succ, List.getElem_cons_zero, List.setIfInBounds_toArray, List.set_cons_succ, List.set_cons_zero]
  refine wpAnyC_take 5 (.pointer (some ⟨S, 0, none⟩)) rfl (by kernel_rfl) (by kernel_rfl) (by kernel_rfl) (fun _ _ _ h => h) (wanted_free rfl _) (fun W hW => by go_simp) ?_
  try simp only [Act.put, List.getElem_toArray, List.getElem_cons_succ, List.getElem_cons_zero, List.setIfInBounds_toArray, List.set_cons_succ, List.set_cons_zero]
  refine wpAnyC_take 6 (.pointer (some ⟨S, 1, none⟩)) rfl (by kernel_rfl) (by kernel_rfl) (by kernel_rfl) (fun _ _ _ h => h) (wanted_free rfl _) (fun W hW => by go_simp) ?_
  try simp only [Act.put, List.getElem_toArray, List.getElem_cons_succ, List.getElem_cons_zero, List.setIfInBounds_toArray, List.set_cons_succ, List.set_cons_zero]
  refine wpAnyC_take 7 (.string f) rfl (by kernel_rfl) (by kernel_rfl) (by kernel_rfl) (fun _ _ _ h => h) (wanted_free rfl _) (fun W hW => by have h := hW.2.1; go_simp) ?_
  try simp only [Act.put, List.getElem_toArray, List.getElem_cons_succ, List.getElem_cons_zero, List.setIfInBounds_toArray, List.set_cons_succ, List.set_cons_zero]
  refine wpAnyC_take 8 (.pointer (some ⟨S, 0, none⟩)) rfl (by kernel_rfl) (by kernel_rfl) (by kernel_rfl) (fun _ _ _ h => h) (wanted_free rfl _) (fun W hW => by go_simp) ?_
  try simp only [Act.put, List.getElem_toArray, List.getElem_cons_succ, List.getElem_cons_zero, List.setIfInBounds_toArray, List.set_cons_succ, List.set_cons_zero]
  refine wpAnyC_take 9 (.pointer (some ⟨S, 0, none⟩)) rfl (by kernel_rfl) (by kernel_rfl) (by kernel_rfl) (fun _ _ _ h => h) (wanted_free rfl _) (fun W hW => by go_simp) ?_
  try simp only [Act.put, List.getElem_toArray, List.getElem_cons_succ, List.getElem_cons_zero, List.setIfInBounds_toArray, List.set_cons_succ, List.set_cons_zero]
  refine wpAnyC_take 10 (.pointer (some ⟨S, 4, none⟩)) rfl (by kernel_rfl) (by kernel_rfl) (by kernel_rfl) (fun _ _ _ h => h) (wanted_free rfl _) (fun W hW => by go_simp) ?_
  try simp only [Act.put, List.getElem_toArray, List.getElem_cons_succ, List.getElem_cons_zero, List.setIfInBounds_toArray, List.set_cons_succ, List.set_cons_zero]
  refine wpAnyC_take 11 (.int .i64 1) rfl (by kernel_rfl) (by kernel_rfl) (by kernel_rfl) (fun _ _ _ h => h) (wanted_free rfl _) (fun W hW => by have h := hW.2.2; go_simp) ?_
  try simp only [Act.put, List.getElem_toArray, List.getElem_cons_succ, List.getElem_cons_zero, List.setIfInBounds_toArray, List.set_cons_succ, List.set_cons_zero]
  refine wpAnyC_take 14 (.slice (some ⟨g7, 0, none⟩) L L) rfl (by kernel_rfl) (by kernel_rfl) (by kernel_rfl) (fun _ _ _ h => h) (wanted_free rfl _) (fun W hW => by go_simp) ?_
  try simp only [Act.put, List.getElem_toArray, List.getElem_cons_succ, List.getElem_cons_zero, List.setIfInBounds_toArray, List.set_cons_succ, List.set_cons_zero]
  refine wpAnyC_one 12 (hC0) rfl (by kernel_rfl) (wanted_free rfl _) (fun KA hKA => ?_)
  go_simp
  refine (HE.out _).mono ?_
  rintro e y1 ⟨rfl, h9⟩
  have h9s := h9.symm
  subst h9s
  refine hKA _ _ ?_
  clear hKA KA
  try simp only [Act.put, List.getElem_toArray, List.getElem_cons_succ, List.getElem_cons_zero, List.setIfInBounds_toArray, List.set_cons_succ, List.set_cons_zero]
  refine wpAnyC_take 13 (.string (f ++ ⟨#[46, 49]⟩)) rfl (by kernel_rfl) (by kernel_rfl) (by kernel_rfl) (fun _ _ _ h => h) (wanted_free rfl _) (fun W hW => by go_simp) ?_
  try simp only [Act.put, List.getElem_toArray, List.getElem_cons_succ, List.getElem_cons_zero, List.setIfInBounds_toArray, List.set_cons_succ, List.set_cons_zero]
  refine wpAnyC_one 15 (hC0) rfl (by kernel_rfl) (wanted_free rfl _) (fun KA hKA => ?_)
  go_simp
  refine (HW.out _ g7 (wd_drawn hw1.out _)).mono ?_
  rintro e y2 ⟨rfl, hw2, hst2⟩
  have hs2 := Kpt.mk ((step_drawn hs1.out _).trans hst2)
  have hS2 := Kpt.mk ((sl_drawn hS1.out _).step hst2)
  have hC2 : y2.cell? ⟨S, 0, none⟩ = some (.pointer (some ⟨B, 0, none⟩)) ∧ y2.cell? ⟨S, 1, none⟩ = some (.string f) ∧ y2.cell? ⟨S, 4, none⟩ = some (.int .i64 1) := ⟨hS2.out.at.1, hS2.out.at.2.1, hS2.out.at.2.2.2.2⟩
  replace hw2 := Kpt.mk hw2
  clear hst2 hs1 hS1 hw1 hown
  refine hKA _ _ ?_
  clear hKA KA
  try simp only [Act.put, List.getElem_toArray, List.getElem_cons_succ, List.getElem_cons_zero, List.setIfInBounds_toArray, List.set_cons_succ, List.set_cons_zero]
  refine wpAnyC_take 16 (.int .i64 7) rfl (by kernel_rfl) (by kernel_rfl) (by kernel_rfl) (fun _ _ _ h => h) (wanted_free rfl _) (fun W hW => by go_simp) ?_
  try simp only [Act.put, List.getElem_toArray, List.getElem_cons_succ, List.getElem_cons_zero, List.setIfInBounds_toArray, List.set_cons_succ, List.set_cons_zero]
  refine wpAnyC_done (hC2) (by kernel_rfl) ?_
  have hp := hC2.1
  go_wp2_with fail
  go_ret
  exact ⟨rfl, tag, hw2.out, hs2.out⟩


end Go.Proofs.Ytndlpmnidpandaa
