/-
  Slots: read, Load, learn, Save where the power goes off.
-/
import Derived.Test.YtndlpmnidpandaaLLw
import Derived.Test.YtndlpmnidpandaaLPn
namespace Go.Proofs.Ytndlpmnidpandaa
open Go.RowKit
set_option linter.unusedVariables false
set_option linter.unusedSimpArgs false

set_option maxRecDepth 100000 in
set_option maxHeartbeats 1000000 in
theorem sread_down0 (S B : Nat) (f : ByteArray) (kn : Bool) (g nx : Int) (tag : Tags) (st : St) (w : World) (hS : Sl w S B tag f kn g nx)
    (h : Wd w B tag st) (hc : st.cnt < 549755813888) (hf : st.stop = st.ops) (hof : st.off = false) (h1 : 1 ≤ f.size) (h2 : f.size ≤ 30)  :
    Calls Try.prog 38 #[.pointer (some ⟨S, 0, none⟩), .int .i64 0] w fun e w' => e = .returned (.tuple #[.agg zeroL, .int .i64 7]) ∧ Wd w' B tag (dnSt st) ∧ Step w w' tag tag (fun _ => True) := by
  have HE : Kpt (∀ W, Calls Try.prog 32 #[.int .i64 0] W fun e w' => e = .returned (.string ⟨#[46, 48]⟩) ∧ w' = W) := ⟨ending_0⟩
  have hfs : ¬ 9223372036854775807 < f.size + 2 := by omega
  have hsz : (f ++ ⟨#[46, 48]⟩).size = f.size + 2 := by rw [ByteArray.size_append, size_end0]
  have hSl := hS.bx.lt
  have HR : Kpt (∀ W, Wd W B tag st → Calls Try.prog 21 #[.pointer (some ⟨B, 0, none⟩), .string (f ++ ⟨#[46, 48]⟩), .int .i64 0, .int .i64 4116] W fun e w' => e = .returned (.tuple #[.slice none 0 0, .int .i64 7]) ∧
      Wd w' B tag (dnSt st) ∧ Step W w' tag tag (fun _ => True)) := ⟨fun W hW => by
    have hx := read_down W B tag st hW (by omega) hf hof (f ++ ⟨#[46, 48]⟩) (by rw [hsz]; omega) (by rw [hsz]; omega) 4116 (by decide)
    rw [cast4116] at hx
    exact hx⟩
  replace hS := Kpt.mk hS
  have hW0 := Kpt.mk h
  clear hc hf hof hsz h 
  go_enter Try.func38, Try.ntmps38
  go_wp2_with (refine wpList_var rfl 86 rfl zeroL zeroLi ?_; intro b4 w1 hl4 hX4 hB4)
  have hW1 := Kpt.mk (hW0.out.below hB4)
  have hS1 := Kpt.mk (hS.out.below hB4)
  have ht4 := wd_none hW0.out hl4
  have hs1 := Kpt.mk (step_below hB4 tag (fun _ => True))
  have hC0 : w1.cell? ⟨S, 0, none⟩ = some (.pointer (some ⟨B, 0, none⟩)) ∧ w1.cell? ⟨S, 1, none⟩ = some (.string f) := ⟨hS1.out.at.1, hS1.out.at.2.1⟩
  replace hX4 := Kpt.mk hX4
  clear hB4 hS hW0
  refine wp_region_any (by kernel_rfl) ?_
  refine wpAny_of_C (C := fun W => W.cell? ⟨S, 0, none⟩ = some (.pointer (some ⟨B, 0, none⟩)) ∧ W.cell? ⟨S, 1, none⟩ = some (.string f)) _ _ _ _ ?_
  refine wpAnyC_take 0 (.pointer (some ⟨S, 0, none⟩)) rfl (by kernel_rfl) (by kernel_rfl) (by kernel_rfl) (fun _ _ _ h => h) (wanted_free rfl _) (fun W hW => by go_simp) ?_
  try simp only [Act.put, List.getElem_toArray, List.getElem_cons_succ, List.getElem_cons_zero, List.setIfInBounds_toArray, List.set_cons_succ, List.set_cons_zero]
  refine wpAnyC_take 1 (.pointer (some ⟨S, 0, none⟩)) rfl (by kernel_rfl) (by kernel_rfl) (by kernel_rfl) (fun _ _ _ h => h) (wanted_free rfl _) (fun W hW => by go_simp) ?_
  try simp only [Act.put, List.getElem_toArray, List.getElem_cons_succ, List.getElem_cons_zero, List.setIfInBounds_toArray, List.set_cons_succ, List.set_cons_zero]
  refine wpAnyC_take 2 (.pointer (some ⟨S, 0, none⟩)) rfl (by kernel_rfl) (by kernel_rfl) (by kernel_rfl) (fun _ _ _ h => h) (wanted_free rfl _) (fun W hW => by go_simp) ?_
  try simp only [Act.put, List.getElem_toArray, List.getElem_cons_succ, List.getElem_cons_zero, List.setIfInBounds_toArray, List.set_cons_succ, List.set_cons_zero]
  refine wpAnyC_take 3 (.pointer (some ⟨B, 0, none⟩)) rfl (by kernel_rfl) (by kernel_rfl) (by kernel_rfl) (fun _ _ _ h => h) (wanted_free rfl _) (fun W hW => by have h := hW.1; go_simp) ?_
  try simp only [Act.put, List.getElem_toArray, List.getElem_cons_succ, List.getElem_cons_zero, List.setIfInBounds_toArray, List.set_cons_succ, List.set_cons_zero]
  refine wpAnyC_take 4 (.pointer (some ⟨S, 0, none⟩)) rfl (by kernel_rfl) (by kernel_rfl) (by kernel_rfl) (fun _ _ _ h => h) (wanted_free rfl _) (fun W hW => by go_simp) ?_
  try simp only [Act.put, List.getElem_toArray, List.getElem_cons_succ, List.getElem_cons_zero, List.setIfInBounds_toArray, List.set_cons_succ, List.set_cons_zero]
  refine wpAnyC_take 5 (.pointer (some ⟨S, 0, none⟩)) rfl (by kernel_rfl) (by kernel_rfl) (by kernel_rfl) (fun _ _ _ h => h) (wanted_free rfl _) (fun W hW => by go_simp) ?_
  try simp only [Act.put, List.getElem_toArray, List.getElem_cons_succ, List.getElem_cons_zero, List.setIfInBounds_toArray, List.set_cons_succ, List.set_cons_zero]
  refine wpAnyC_take 6 (.pointer (some ⟨S, 1, none⟩)) rfl (by kernel_rfl) (by kernel_rfl) (by kernel_rfl) (fun _ _ _ h => h) (wanted_free rfl _) (fun W hW => by go_simp) ?_
  try simp only [Act.put, List.getElem_toArray, List.getElem_cons_succ, List.getElem_cons_zero, List.setIfInBounds_toArray, List.set_cons_succ, List.set_cons_zero]
  refine wpAnyC_take 7 (.string f) rfl (by kernel_rfl) (by kernel_rfl) (by kernel_rfl) (fun _ _ _ h => h) (wanted_free rfl _) (fun W hW => by have h := hW.2; go_simp) ?_
  try simp only [Act.put, List.getElem_toArray, List.getElem_cons_succ, List.getElem_cons_zero, List.setIfInBounds_toArray, List.set_cons_succ, List.set_cons_zero]
  refine wpAnyC_take 8 (.int .i64 0) rfl (by kernel_rfl) (by kernel_rfl) (by kernel_rfl) (fun _ _ _ h => h) (wanted_free rfl _) (fun W hW => by go_simp) ?_
  try simp only [Act.put, List.getElem_toArray, List.getElem_cons_succ, List.getElem_cons_zero, List.setIfInBounds_toArray, List.set_cons_succ, List.set_cons_zero]
  refine wpAnyC_one 9 (hC0) rfl (by kernel_rfl) (wanted_free rfl _) (fun KA hKA => ?_)
  go_simp
  refine (HE.out _).mono ?_
  rintro e y1 ⟨rfl, h9⟩
  have h9s := h9.symm
  subst h9s
  refine hKA _ _ ?_
  clear hKA KA
  try simp only [Act.put, List.getElem_toArray, List.getElem_cons_succ, List.getElem_cons_zero, List.setIfInBounds_toArray, List.set_cons_succ, List.set_cons_zero]
  refine wpAnyC_take 10 (.string (f ++ ⟨#[46, 48]⟩)) rfl (by kernel_rfl) (by kernel_rfl) (by kernel_rfl) (fun _ _ _ h => h) (wanted_free rfl _) (fun W hW => by go_simp) ?_
  try simp only [Act.put, List.getElem_toArray, List.getElem_cons_succ, List.getElem_cons_zero, List.setIfInBounds_toArray, List.set_cons_succ, List.set_cons_zero]
  refine wpAnyC_one 11 (hC0) rfl (by kernel_rfl) (wanted_free rfl _) (fun KA hKA => ?_)
  go_simp
  refine (HR.out _ (wd_drawn hW1.out _)).mono ?_
  rintro e y2 ⟨rfl, hw2, hst2⟩
  have hs2 := Kpt.mk ((step_drawn hs1.out _).trans hst2)
  have hX2 := Kpt.mk ((bx_drawn hX4.out _).step hst2 ht4)
  have hS2 := Kpt.mk ((sl_drawn hS1.out _).step hst2)
  have hC2 : y2.cell? ⟨S, 0, none⟩ = some (.pointer (some ⟨B, 0, none⟩)) ∧ y2.cell? ⟨S, 1, none⟩ = some (.string f) := ⟨hS2.out.at.1, hS2.out.at.2.1⟩
  replace hw2 := Kpt.mk hw2
  clear hst2 hs1 hX4 hS1 hW1
  refine hKA _ _ ?_
  clear hKA KA
  try simp only [Act.put, List.getElem_toArray, List.getElem_cons_succ, List.getElem_cons_zero, List.setIfInBounds_toArray, List.set_cons_succ, List.set_cons_zero]
  refine wpAnyC_take 12 (.tuple #[.slice none 0 0, .int .i64 7]) rfl (by kernel_rfl) (by kernel_rfl) (by kernel_rfl) (fun _ _ _ h => h) (wanted_free rfl _) (fun W hW => by go_simp) ?_
  try simp only [Act.put, List.getElem_toArray, List.getElem_cons_succ, List.getElem_cons_zero, List.setIfInBounds_toArray, List.set_cons_succ, List.set_cons_zero]
  refine wpAnyC_take 13 (.slice none 0 0) rfl (by kernel_rfl) (by kernel_rfl) (by kernel_rfl) (fun _ _ _ h => h) (wanted_free rfl _) (fun W hW => by go_simp) ?_
  try simp only [Act.put, List.getElem_toArray, List.getElem_cons_succ, List.getElem_cons_zero, List.setIfInBounds_toArray, List.set_cons_succ, List.set_cons_zero]
  refine wpAnyC_take 14 (.int .i64 7) rfl (by kernel_rfl) (by kernel_rfl) (by kernel_rfl) (fun _ _ _ h => h) (wanted_free rfl _) (fun W hW => by go_simp) ?_
  try simp only [Act.put, List.getElem_toArray, List.getElem_cons_succ, List.getElem_cons_zero, List.setIfInBounds_toArray, List.set_cons_succ, List.set_cons_zero]
  refine wpAnyC_take 15 (.slice none 0 0) rfl (by kernel_rfl) (by kernel_rfl) (by kernel_rfl) (fun _ _ _ h => h) (wanted_free rfl _) (fun W hW => by go_simp) ?_
  try simp only [Act.put, List.getElem_toArray, List.getElem_cons_succ, List.getElem_cons_zero, List.setIfInBounds_toArray, List.set_cons_succ, List.set_cons_zero]
  refine wpAnyC_take 16 (.int .i64 7) rfl (by kernel_rfl) (by kernel_rfl) (by kernel_rfl) (fun _ _ _ h => h) (wanted_free rfl _) (fun W hW => by go_simp) ?_
  try simp only [Act.put, List.getElem_toArray, List.getElem_cons_succ, List.getElem_cons_zero, List.setIfInBounds_toArray, List.set_cons_succ, List.set_cons_zero]
  refine wpAnyC_done (hC2) (by kernel_rfl) ?_
  go_wp2_with (refine wpList_store_bx rfl 86 _ _ rfl b4 zeroL zeroL rfl rfl hX2.out rfl infoL zeroL1 rfl ?_; intro w3 hX3 hg3)
  refine bodyPost_ret (v := .tuple #[.agg zeroL, .int .i64 7]) (by simp [results, Try.results38, asAddr, Act.put, run_res hX3 86 _ Try.underlying86 rfl infoL]) rfl ⟨rfl, hw2.out.own hg3 ht4, hs2.out.own hg3 hl4⟩

set_option maxRecDepth 100000 in
set_option maxHeartbeats 1000000 in
theorem sread_down1 (S B : Nat) (f : ByteArray) (kn : Bool) (g nx : Int) (tag : Tags) (st : St) (w : World) (hS : Sl w S B tag f kn g nx)
    (h : Wd w B tag st) (hc : st.cnt < 549755813888) (hf : st.stop = st.ops) (hof : st.off = false) (h1 : 1 ≤ f.size) (h2 : f.size ≤ 30)  :
    Calls Try.prog 38 #[.pointer (some ⟨S, 0, none⟩), .int .i64 1] w fun e w' => e = .returned (.tuple #[.agg zeroL, .int .i64 7]) ∧ Wd w' B tag (dnSt st) ∧ Step w w' tag tag (fun _ => True) := by
  have HE : Kpt (∀ W, Calls Try.prog 32 #[.int .i64 1] W fun e w' => e = .returned (.string ⟨#[46, 49]⟩) ∧ w' = W) := ⟨ending_1⟩
  have hfs : ¬ 9223372036854775807 < f.size + 2 := by omega
  have hsz : (f ++ ⟨#[46, 49]⟩).size = f.size + 2 := by rw [ByteArray.size_append, size_end1]
  have hSl := hS.bx.lt
  have HR : Kpt (∀ W, Wd W B tag st → Calls Try.prog 21 #[.pointer (some ⟨B, 0, none⟩), .string (f ++ ⟨#[46, 49]⟩), .int .i64 0, .int .i64 4116] W fun e w' => e = .returned (.tuple #[.slice none 0 0, .int .i64 7]) ∧
      Wd w' B tag (dnSt st) ∧ Step W w' tag tag (fun _ => True)) := ⟨fun W hW => by
    have hx := read_down W B tag st hW (by omega) hf hof (f ++ ⟨#[46, 49]⟩) (by rw [hsz]; omega) (by rw [hsz]; omega) 4116 (by decide)
    rw [cast4116] at hx
    exact hx⟩
  replace hS := Kpt.mk hS
  have hW0 := Kpt.mk h
  clear hc hf hof hsz h 
  go_enter Try.func38, Try.ntmps38
  go_wp2_with (refine wpList_var rfl 86 rfl zeroL zeroLi ?_; intro b4 w1 hl4 hX4 hB4)
  have hW1 := Kpt.mk (hW0.out.below hB4)
  have hS1 := Kpt.mk (hS.out.below hB4)
  have ht4 := wd_none hW0.out hl4
  have hs1 := Kpt.mk (step_below hB4 tag (fun _ => True))
  have hC0 : w1.cell? ⟨S, 0, none⟩ = some (.pointer (some ⟨B, 0, none⟩)) ∧ w1.cell? ⟨S, 1, none⟩ = some (.string f) := ⟨hS1.out.at.1, hS1.out.at.2.1⟩
  replace hX4 := Kpt.mk hX4
  clear hB4 hS hW0
  refine wp_region_any (by kernel_rfl) ?_
  refine wpAny_of_C (C := fun W => W.cell? ⟨S, 0, none⟩ = some (.pointer (some ⟨B, 0, none⟩)) ∧ W.cell? ⟨S, 1, none⟩ = some (.string f)) _ _ _ _ ?_
  refine wpAnyC_take 0 (.pointer (some ⟨S, 0, none⟩)) rfl (by kernel_rfl) (by kernel_rfl) (by kernel_rfl) (fun _ _ _ h => h) (wanted_free rfl _) (fun W hW => by go_simp) ?_
  try simp only [Act.put, List.getElem_toArray, List.getElem_cons_succ, List.getElem_cons_zero, List.setIfInBounds_toArray, List.set_cons_succ, List.set_cons_zero]
  refine wpAnyC_take 1 (.pointer (some ⟨S, 0, none⟩)) rfl (by kernel_rfl) (by kernel_rfl) (by kernel_rfl) (fun _ _ _ h => h) (wanted_free rfl _) (fun W hW => by go_simp) ?_
  try simp only [Act.put, List.getElem_toArray, List.getElem_cons_succ, List.getElem_cons_zero, List.setIfInBounds_toArray, List.set_cons_succ, List.set_cons_zero]
  refine wpAnyC_take 2 (.pointer (some ⟨S, 0, none⟩)) rfl (by kernel_rfl) (by kernel_rfl) (by kernel_rfl) (fun _ _ _ h => h) (wanted_free rfl _) (fun W hW => by go_simp) ?_
  try simp only [Act.put, List.getElem_toArray, List.getElem_cons_succ, List.getElem_cons_zero, List.setIfInBounds_toArray, List.set_cons_succ, List.set_cons_zero]
  refine wpAnyC_take 3 (.pointer (some ⟨B, 0, none⟩)) rfl (by kernel_rfl) (by kernel_rfl) (by kernel_rfl) (fun _ _ _ h => h) (wanted_free rfl _) (fun W hW => by have h := hW.1; go_simp) ?_
  try simp only [Act.put, List.getElem_toArray, List.getElem_cons_succ, List.getElem_cons_zero, List.setIfInBounds_toArray, List.set_cons_succ, List.set_cons_zero]
  refine wpAnyC_take 4 (.pointer (some ⟨S, 0, none⟩)) rfl (by kernel_rfl) (by kernel_rfl) (by kernel_rfl) (fun _ _ _ h => h) (wanted_free rfl _) (fun W hW => by go_simp) ?_
  try simp only [Act.put, List.getElem_toArray, List.getElem_cons_succ, List.getElem_cons_zero, List.setIfInBounds_toArray, List.set_cons_succ, List.set_cons_zero]
  refine wpAnyC_take 5 (.pointer (some ⟨S, 0, none⟩)) rfl (by kernel_rfl) (by kernel_rfl) (by kernel_rfl) (fun _ _ _ h => h) (wanted_free rfl _) (fun W hW => by go_simp) ?_
  try simp only [Act.put, List.getElem_toArray, List.getElem_cons_succ, List.getElem_cons_zero, List.setIfInBounds_toArray, List.set_cons_succ, List.set_cons_zero]
  refine wpAnyC_take 6 (.pointer (some ⟨S, 1, none⟩)) rfl (by kernel_rfl) (by kernel_rfl) (by kernel_rfl) (fun _ _ _ h => h) (wanted_free rfl _) (fun W hW => by go_simp) ?_
  try simp only [Act.put, List.getElem_toArray, List.getElem_cons_succ, List.getElem_cons_zero, List.setIfInBounds_toArray, List.set_cons_succ, List.set_cons_zero]
  refine wpAnyC_take 7 (.string f) rfl (by kernel_rfl) (by kernel_rfl) (by kernel_rfl) (fun _ _ _ h => h) (wanted_free rfl _) (fun W hW => by have h := hW.2; go_simp) ?_
  try simp only [Act.put, List.getElem_toArray, List.getElem_cons_succ, List.getElem_cons_zero, List.setIfInBounds_toArray, List.set_cons_succ, List.set_cons_zero]
  refine wpAnyC_take 8 (.int .i64 1) rfl (by kernel_rfl) (by kernel_rfl) (by kernel_rfl) (fun _ _ _ h => h) (wanted_free rfl _) (fun W hW => by go_simp) ?_
  try simp only [Act.put, List.getElem_toArray, List.getElem_cons_succ, List.getElem_cons_zero, List.setIfInBounds_toArray, List.set_cons_succ, List.set_cons_zero]
  refine wpAnyC_one 9 (hC0) rfl (by kernel_rfl) (wanted_free rfl _) (fun KA hKA => ?_)
  go_simp
  refine (HE.out _).mono ?_
  rintro e y1 ⟨rfl, h9⟩
  have h9s := h9.symm
  subst h9s
  refine hKA _ _ ?_
  clear hKA KA
  try simp only [Act.put, List.getElem_toArray, List.getElem_cons_succ, List.getElem_cons_zero, List.setIfInBounds_toArray, List.set_cons_succ, List.set_cons_zero]
  refine wpAnyC_take 10 (.string (f ++ ⟨#[46, 49]⟩)) rfl (by kernel_rfl) (by kernel_rfl) (by kernel_rfl) (fun _ _ _ h => h) (wanted_free rfl _) (fun W hW => by go_simp) ?_
  try simp only [Act.put, List.getElem_toArray, List.getElem_cons_succ, List.getElem_cons_zero, List.setIfInBounds_toArray, List.set_cons_succ, List.set_cons_zero]
  refine wpAnyC_one 11 (hC0) rfl (by kernel_rfl) (wanted_free rfl _) (fun KA hKA => ?_)
  go_simp
  refine (HR.out _ (wd_drawn hW1.out _)).mono ?_
  rintro e y2 ⟨rfl, hw2, hst2⟩
  have hs2 := Kpt.mk ((step_drawn hs1.out _).trans hst2)
  have hX2 := Kpt.mk ((bx_drawn hX4.out _).step hst2 ht4)
  have hS2 := Kpt.mk ((sl_drawn hS1.out _).step hst2)
  have hC2 : y2.cell? ⟨S, 0, none⟩ = some (.pointer (some ⟨B, 0, none⟩)) ∧ y2.cell? ⟨S, 1, none⟩ = some (.string f) := ⟨hS2.out.at.1, hS2.out.at.2.1⟩
  replace hw2 := Kpt.mk hw2
  clear hst2 hs1 hX4 hS1 hW1
  refine hKA _ _ ?_
  clear hKA KA
  try simp only [Act.put, List.getElem_toArray, List.getElem_cons_succ, List.getElem_cons_zero, List.setIfInBounds_toArray, List.set_cons_succ, List.set_cons_zero]
  refine wpAnyC_take 12 (.tuple #[.slice none 0 0, .int .i64 7]) rfl (by kernel_rfl) (by kernel_rfl) (by kernel_rfl) (fun _ _ _ h => h) (wanted_free rfl _) (fun W hW => by go_simp) ?_
  try simp only [Act.put, List.getElem_toArray, List.getElem_cons_succ, List.getElem_cons_zero, List.setIfInBounds_toArray, List.set_cons_succ, List.set_cons_zero]
  refine wpAnyC_take 13 (.slice none 0 0) rfl (by kernel_rfl) (by kernel_rfl) (by kernel_rfl) (fun _ _ _ h => h) (wanted_free rfl _) (fun W hW => by go_simp) ?_
  try simp only [Act.put, List.getElem_toArray, List.getElem_cons_succ, List.getElem_cons_zero, List.setIfInBounds_toArray, List.set_cons_succ, List.set_cons_zero]
  refine wpAnyC_take 14 (.int .i64 7) rfl (by kernel_rfl) (by kernel_rfl) (by kernel_rfl) (fun _ _ _ h => h) (wanted_free rfl _) (fun W hW => by go_simp) ?_
  try simp only [Act.put, List.getElem_toArray, List.getElem_cons_succ, List.getElem_cons_zero, List.setIfInBounds_toArray, List.set_cons_succ, List.set_cons_zero]
  refine wpAnyC_take 15 (.slice none 0 0) rfl (by kernel_rfl) (by kernel_rfl) (by kernel_rfl) (fun _ _ _ h => h) (wanted_free rfl _) (fun W hW => by go_simp) ?_
  try simp only [Act.put, List.getElem_toArray, List.getElem_cons_succ, List.getElem_cons_zero, List.setIfInBounds_toArray, List.set_cons_succ, List.set_cons_zero]
  refine wpAnyC_take 16 (.int .i64 7) rfl (by kernel_rfl) (by kernel_rfl) (by kernel_rfl) (fun _ _ _ h => h) (wanted_free rfl _) (fun W hW => by go_simp) ?_
  try simp only [Act.put, List.getElem_toArray, List.getElem_cons_succ, List.getElem_cons_zero, List.setIfInBounds_toArray, List.set_cons_succ, List.set_cons_zero]
  refine wpAnyC_done (hC2) (by kernel_rfl) ?_
  go_wp2_with (refine wpList_store_bx rfl 86 _ _ rfl b4 zeroL zeroL rfl rfl hX2.out rfl infoL zeroL1 rfl ?_; intro w3 hX3 hg3)
  refine bodyPost_ret (v := .tuple #[.agg zeroL, .int .i64 7]) (by simp [results, Try.results38, asAddr, Act.put, run_res hX3 86 _ Try.underlying86 rfl infoL]) rfl ⟨rfl, hw2.out.own hg3 ht4, hs2.out.own hg3 hl4⟩

set_option maxRecDepth 100000 in
set_option maxHeartbeats 4000000 in
theorem load_down0 (S B : Nat) (f : ByteArray) (kn : Bool) (g nx : Int) (tag : Tags) (st : St) (w : World) (hS : Sl w S B tag f kn g nx)
    (h : Wd w B tag st) (hc : st.cnt < 500000000000) (hf : st.stop = st.ops) (hof : st.off = false) (h1 : 1 ≤ f.size) (h2 : f.size ≤ 30) :
    Calls Try.prog 19 #[.pointer (some ⟨S, 0, none⟩)] w fun e w' => e = .returned (.tuple #[.slice none 0 0, .int .u64 0, .int .i64 7]) ∧ Wd w' B tag (dnSt st) ∧ Sp w w' S tag tag := by
  have hSn := hS.bare
  have hSl := hS.bx.lt
  have hnew : ∀ i, w.heap.size ≤ i → tag i = none := fun i hi => wd_none h hi
  have HS := Kpt.mk hS
  have HW := Kpt.mk h
  replace hnew := Kpt.mk hnew
  have hz : Kpt (zeroL = slA none none 0) := ⟨rfl⟩
  have HR0 : Kpt (∀ W, Wd W B tag st → Sl W S B tag f false g nx → Calls Try.prog 38 #[.pointer (some ⟨S, 0, none⟩), .int .i64 0] W fun e w' => e = .returned (.tuple #[.agg zeroL, .int .i64 7]) ∧ Wd w' B tag (dnSt st) ∧ Step W w' tag tag (fun _ => True)) := ⟨fun W hW hSW =>
    sread_down0 S B f false g nx tag st W hSW hW (by omega) hf hof h1 h2⟩
  obtain ⟨stX, hstX⟩ : ∃ s, s = dnSt st := ⟨_, rfl⟩
  rw [← hstX] at HR0 ⊢
  clear hS h hc hf hof hstX
  go_enter Try.func19, Try.ntmps19
  go_wp2_with (first
    | (refine wpList_var rfl 86 rfl zeroL zeroLi ?_; intro b5 w2 hl5 hX5 hB5; have L0 : Kpt (Ldg w w2 S B tag f g nx st b5 none none 0) := ⟨⟨hw1.out.below hB5, hs1.out.below hB5, hS1.out.below hB5, (hz.out ▸ hX5), Nat.le_trans hs1.out.size hl5, hnew.out, hSl, pay_none _ _⟩⟩; clear hl5 hX5 hB5 hw1 hs1 hS1)
    | (refine (?_ : wpList _ _ _ (Oper.mk none (Op.store 4 _ _) _ _ _ _ :: _) _ _); go_must (refine wpList_store_cell rfl rfl S 2 (slC B f kn g nx) (.bool false) rfl rfl rfl HS.out.bx (by simp [slC]) info4 rfl ?_; intro w1 hX1 hg1; have hS1 : Kpt (Sl w1 S B tag f false g nx) := ⟨⟨hX1, hSn⟩⟩; have hw1 := Kpt.mk (HW.out.own hg1 hSn); have hs1 := Kpt.mk ((Sp.refl w S tag).own hg1 (.inr rfl)); clear hX1 hg1 HS HW)))
  go_loopw [15] (fun t15 W => t15 = .int .i64 0 ∧ Kpt (Ldg w W S B tag f g nx st b5 none none 0)) (fun _ _ => 0)
  case atStart => exact ⟨rfl, L0⟩
  case round =>
    obtain ⟨rfl, L⟩ := hrel
    clear L0
    go_wp2_with (first
      | (have hm := m2; refine wpList_store_bx rfl 86 _ _ rfl b8 zeroL zeroL rfl rfl X8.out rfl infoL zeroL1 rfl ?_; intro w5 hX5 hg5; have hW5 := Kpt.mk (hW4.out.own hg5 ht8); have hs5 := Kpt.mk (hs4.out.own hg5 (.inl hl8)); clear hX5 hg5 hm m2)
      | (have hm := m1; refine wpList_var rfl 86 rfl zeroL zeroLi ?_; intro b8 w4 hl8' hX8 hB8; have X8 := Kpt.mk hX8; have hW4 := Kpt.mk (hw3.out.below hB8); have hs4 := Kpt.mk (hs3.out.below hB8); have hl8 : w.heap.size ≤ b8 := Nat.le_trans hs3.out.size hl8'; have ht8 := hnew.out b8 hl8; clear hX8 hB8 hm m1 hl8'; have m2 : Kpt True := ⟨trivial⟩)
      | (go_at_call 38; go_must (refine (HR0.out _ L.out.wd L.out.sl).mono ?_; rintro e w3 ⟨rfl, hw3, hst3⟩; have hs3 := Kpt.mk (L.out.sp.trans (hst3.sp S)); replace hw3 := Kpt.mk hw3; clear hst3; have m1 : Kpt True := ⟨trivial⟩)))
    go_ret3
    exact ⟨rfl, hW5.out, hs5.out⟩

set_option maxRecDepth 100000 in
set_option maxHeartbeats 4000000 in
theorem load_down1 (S B : Nat) (f : ByteArray) (kn : Bool) (g nx : Int) (tag : Tags) (st : St) (w : World) (hS : Sl w S B tag f kn g nx)
    (h : Wd w B tag st) (hc : st.cnt < 500000000000) (hf0 : st.fails st.ops = false) (hf : st.stop = st.ops + 1) (hof : st.off = false) (hby : ∀ s zs, st.seen s = some zs → Bytes zs) (ho0 : slotOf (st.seen (f ++ ⟨#[46, 48]⟩)) = none) (h1 : 1 ≤ f.size) (h2 : f.size ≤ 30) :
    Calls Try.prog 19 #[.pointer (some ⟨S, 0, none⟩)] w fun e w' => e = .returned (.tuple #[.slice none 0 0, .int .u64 0, .int .i64 7]) ∧ Wd w' B tag (dnSt { st with ops := st.ops + 1, cnt := st.cnt + 1 }) ∧ Sp w w' S tag tag := by
  have hSn := hS.bare
  have hSl := hS.bx.lt
  have hnew : ∀ i, w.heap.size ≤ i → tag i = none := fun i hi => wd_none h hi
  have HS := Kpt.mk hS
  have HW := Kpt.mk h
  replace hnew := Kpt.mk hnew
  have hz : Kpt (zeroL = slA none none 0) := ⟨rfl⟩
  have HR0 : Kpt (∀ W, Wd W B tag st → Sl W S B tag f false g nx → Calls Try.prog 38 #[.pointer (some ⟨S, 0, none⟩), .int .i64 0] W fun e w' => ∃ a c, e = .returned (.tuple #[.agg (slA none a c), .int .i64 0]) ∧ Pay w' W.heap.size none a c ∧ Wd w' B tag { st with ops := st.ops + 1, cnt := st.cnt + 1 } ∧ Step W w' tag tag (fun _ => True)) := ⟨fun W hW hSW =>
    sread_any0 S B f false g nx tag st W hSW hW (by omega) hf0 h1 h2 (fun zs h => hby _ zs h) none ho0⟩
  have HR1 : Kpt (∀ W, Wd W B tag { st with ops := st.ops + 1, cnt := st.cnt + 1 } → Sl W S B tag f false g nx → Calls Try.prog 38 #[.pointer (some ⟨S, 0, none⟩), .int .i64 1] W fun e w' => e = .returned (.tuple #[.agg zeroL, .int .i64 7]) ∧ Wd w' B tag (dnSt { st with ops := st.ops + 1, cnt := st.cnt + 1 }) ∧ Step W w' tag tag (fun _ => True)) := ⟨fun W hW hSW =>
    sread_down1 S B f false g nx tag _ W hSW hW (by show st.cnt + 1 < _; omega) hf hof h1 h2⟩
  obtain ⟨st1, hst1⟩ : ∃ s, s = ({ st with ops := st.ops + 1, cnt := st.cnt + 1 } : St) := ⟨_, rfl⟩
  rw [← hst1] at HR0 HR1 ⊢
  obtain ⟨stX, hstX⟩ : ∃ s, s = dnSt st1 := ⟨_, rfl⟩
  rw [← hstX] at HR1 ⊢
  have hNw : Kpt (∀ W a1 a0 c1 c0, Calls Try.prog 39 #[.agg (slA none a1 c1), .agg (slA none a0 c0)] W fun e w' => e = .returned (.bool false) ∧ Below W.heap.size W w') := ⟨fun W a1 a0 c1 c0 => newer_is none none a1 a0 c1 c0 W⟩
  clear hS h hc hf hf0 hof hby ho0 hst1 hstX
  go_enter Try.func19, Try.ntmps19
  go_wp2_with (first
    | (refine wpList_var rfl 86 rfl zeroL zeroLi ?_; intro b5 w2 hl5 hX5 hB5; have L0 : Kpt (Ldg w w2 S B tag f g nx st b5 none none 0) := ⟨⟨hw1.out.below hB5, hs1.out.below hB5, hS1.out.below hB5, (hz.out ▸ hX5), Nat.le_trans hs1.out.size hl5, hnew.out, hSl, pay_none _ _⟩⟩; clear hl5 hX5 hB5 hw1 hs1 hS1)
    | (refine (?_ : wpList _ _ _ (Oper.mk none (Op.store 4 _ _) _ _ _ _ :: _) _ _); go_must (refine wpList_store_cell rfl rfl S 2 (slC B f kn g nx) (.bool false) rfl rfl rfl HS.out.bx (by simp [slC]) info4 rfl ?_; intro w1 hX1 hg1; have hS1 : Kpt (Sl w1 S B tag f false g nx) := ⟨⟨hX1, hSn⟩⟩; have hw1 := Kpt.mk (HW.out.own hg1 hSn); have hs1 := Kpt.mk ((Sp.refl w S tag).own hg1 (.inr rfl)); clear hX1 hg1 HS HW)))
  go_loopw [15] (fun t15 W => ∃ k : Nat, k ≤ 1 ∧ t15 = .int .i64 k ∧ Kpt ((k = 0 ∧ Ldg w W S B tag f g nx st b5 none none 0) ∨ (k = 1 ∧ Ldg w W S B tag f g nx st1 b5 none none 0))) (fun t _ => 2 - (intOf t).toNat)
  case atStart => exact ⟨0, by omega, rfl, ⟨.inl ⟨rfl, L0.out⟩⟩⟩
  case round =>
    obtain ⟨k, hk, rfl, hst⟩ := hrel
    obtain ⟨hst⟩ := hst
    rcases hst with ⟨rfl, L⟩ | ⟨rfl, L⟩
    · replace L := Kpt.mk L
      clear L0 HR1
      obtain ⟨o0, ho0⟩ : ∃ x : Option (Int × List Int), x = none := ⟨_, rfl⟩
      have hNw' : Kpt (∀ W a1 a0 c1 c0, Calls Try.prog 39 #[.agg (slA o0 a1 c1), .agg (slA none a0 c0)] W fun e w' => e = .returned (.bool false) ∧ Below W.heap.size W w') := ⟨by rw [ho0]; exact hNw.out⟩
      rw [← ho0] at HR0
      replace ho0 := Kpt.mk ho0
      clear hNw
      go_wp2_with (first
          | (have hm := m3; go_at_call 39; go_must (refine (hNw'.out _ a3 none c3 0).mono ?_; rintro e w6 ⟨rfl, hB6⟩; replace hB := Kpt.mk (hB.out.trans (hB6.mono hB.out.size)); replace X8 := Kpt.mk (X8.out.below hB6 X8.out.lt); replace X5 := Kpt.mk (X5.out.below hB6 X5.out.lt); clear hB6 hm m3; have m4 : Kpt True := ⟨trivial⟩))
          | (refine wpList_load_bx rfl 86 _ rfl b8 (slA o0 a3 c3) rfl X8.out _ Try.underlying86 rfl infoL ?_)
          | (refine wpList_load_bx rfl 86 _ rfl b5 (slA none none 0) rfl X5.out _ Try.underlying86 rfl infoL ?_)
          | (have hm := m2; refine wpList_store_bx rfl 86 _ _ rfl b8 zeroL (slA o0 a3 c3) rfl rfl X8.out rfl infoL (slA1 _ _ _) rfl ?_; intro w5 hX5 hg5; replace hB := Kpt.mk (hB.out.trans (Below.ofGrown hg5 hB.out.size hl8)); replace X8 := Kpt.mk hX5; replace X5 := Kpt.mk (X5.out.grown hg5 (by simp; omega)); clear hX5 hg5 hm m2; have m3 : Kpt True := ⟨trivial⟩)
          | (have hm := m1; refine wpList_var rfl 86 rfl zeroL zeroLi ?_; intro b8 w4 hl8 hX8 hB8; have hB := Kpt.mk hB8; have X8 := Kpt.mk hX8; replace X5 := Kpt.mk (X5.out.below hB8 X5.out.lt); clear hX8 hB8 hm m1; have m2 : Kpt True := ⟨trivial⟩)
          | (go_at_call 38; go_must (refine (HR0.out _ L.out.wd L.out.sl).mono ?_; rintro e w3 ⟨a3, c3, rfl, hp3, hw3, hst3⟩; have h53 : b5 < w3.heap.size := Nat.lt_of_lt_of_le L.out.bx.lt hst3.size; have X5 := Kpt.mk (L.out.bx.step hst3 (hnew.out _ L.out.lo)); replace hp3 := Kpt.mk hp3; replace hw3 := Kpt.mk hw3; replace hst3 := Kpt.mk hst3; have m1 : Kpt True := ⟨trivial⟩)))
      go_roundw
      case rel => exact ⟨1, by omega, by go_num, ⟨.inr ⟨rfl, L.out.read_keep hst3.out hw3.out hB.out⟩⟩⟩
      case measure => simp [intOf]
    · replace L := Kpt.mk L
      clear L0 HR0 hNw
      go_wp2_with (first
        | (have hm := m2; refine wpList_store_bx rfl 86 _ _ rfl b8 zeroL zeroL rfl rfl X8.out rfl infoL zeroL1 rfl ?_; intro w5 hX5 hg5; have hW5 := Kpt.mk (hW4.out.own hg5 ht8); have hs5 := Kpt.mk (hs4.out.own hg5 (.inl hl8)); clear hX5 hg5 hm m2)
        | (have hm := m1; refine wpList_var rfl 86 rfl zeroL zeroLi ?_; intro b8 w4 hl8' hX8 hB8; have X8 := Kpt.mk hX8; have hW4 := Kpt.mk (hw3.out.below hB8); have hs4 := Kpt.mk (hs3.out.below hB8); have hl8 : w.heap.size ≤ b8 := Nat.le_trans hs3.out.size hl8'; have ht8 := hnew.out b8 hl8; clear hX8 hB8 hm m1 hl8'; have m2 : Kpt True := ⟨trivial⟩)
        | (go_at_call 38; go_must (refine (HR1.out _ L.out.wd L.out.sl).mono ?_; rintro e w3 ⟨rfl, hw3, hst3⟩; have hs3 := Kpt.mk (L.out.sp.trans (hst3.sp S)); replace hw3 := Kpt.mk hw3; clear hst3; have m1 : Kpt True := ⟨trivial⟩)))
      go_ret3
      exact ⟨rfl, hW5.out, hs5.out⟩

set_option maxRecDepth 100000 in
theorem learn_down (S B : Nat) (f : ByteArray) (g nx : Int) (tag : Tags) (stX : St) (w : World) (hS : Sl w S B tag f false g nx)
    (HL : Calls Try.prog 19 #[.pointer (some ⟨S, 0, none⟩)] w fun e w' => e = .returned (.tuple #[.slice none 0 0, .int .u64 0, .int .i64 7]) ∧ Wd w' B tag stX ∧ Sp w w' S tag tag) :
    Calls Try.prog 33 #[.pointer (some ⟨S, 0, none⟩)] w fun e w' => e = .returned (.int .i64 7) ∧ Wd w' B tag stX ∧ Sp w w' S tag tag := by
  have hk := hS.at.2.2.1
  replace HL := Kpt.mk HL
  clear hS
  go_enter Try.func33, Try.ntmps33
  go_wp2_with (go_at_call 19; refine HL.out.mono ?_; rintro e w1 ⟨rfl, hw, hs⟩; replace hw := Kpt.mk hw; replace hs := Kpt.mk hs)
  go_ret
  exact ⟨rfl, hw.out, hs.out⟩

set_option maxRecDepth 100000 in
theorem save_nolearn (S B : Nat) (tag : Tags) (stX : St) (w : World)
    (HL : Calls Try.prog 33 #[.pointer (some ⟨S, 0, none⟩)] w fun e w' => e = .returned (.int .i64 7) ∧ Wd w' B tag stX ∧ Sp w w' S tag tag) (a : Option Addr) (n c : Nat) (hn : n ≤ 4096) :
    Calls Try.prog 17 #[.pointer (some ⟨S, 0, none⟩), .slice a n c] w fun e w' => e = .returned (.tuple #[.int .u64 0, .int .i64 7]) ∧ Wd w' B tag stX ∧ Sp w w' S tag tag := by
  have nl : ¬ (4096 : Int) < n := by omega
  replace HL := Kpt.mk HL
  go_enter Try.func17, Try.ntmps17
  go_wp2_with (go_at_call 33; refine HL.out.mono ?_; rintro e w1 ⟨rfl, hw, hs⟩; replace hw := Kpt.mk hw; replace hs := Kpt.mk hs)
  go_ret2
  exact ⟨rfl, hw.out, hs.out⟩
end Go.Proofs.Ytndlpmnidpandaa
