/-
  Slots: Save.
-/
import Derived.Test.YtndlpmnidpandaaLSv
namespace Go.Proofs.Ytndlpmnidpandaa
open Go.RowKit
set_option linter.unusedVariables false
set_option linter.unusedSimpArgs false

set_option maxRecDepth 100000 in
set_option maxHeartbeats 2000000 in
theorem save0 (S B : Nat) (f : ByteArray) (g : Int) (tag : Tags) (st : St) (w : World) (hSl : S < w.heap.size) (hSn : tag S = none)
    (HL : Calls Try.prog 33 #[.pointer (some ⟨S, 0, none⟩)] w fun e w' => e = .returned (.int .i64 0) ∧ Wd w' B tag st ∧ Sp w w' S tag tag ∧ Sl w' S B tag f true g 0)
    (hc : st.cnt < 500000000000) (hcw : st.waits.length < 1000000) (hf : st.fails st.ops = false) (hf2 : st.fails (st.ops + 1) = false) (hwr : Wrs st.waits) (h1 : 1 ≤ f.size) (h2 : f.size ≤ 30)
    (hg0 : 0 ≤ g) (hg1 : g < 9223372036854775807) (a : Option Addr) (n c : Nat) (zs : List Int) (hrd : RdAt w (.slice a n c) zs) (hl : zs.length = n) (hn : n ≤ 4096) (hb : Bytes zs)
    (hz : zs ≠ [] → ∀ q, (Value.slice a n c).ownBlock = some q → tag q = none ∧ q ≠ S) :
    Calls Try.prog 17 #[.pointer (some ⟨S, 0, none⟩), .slice a n c] w fun e w' => e = .returned (.tuple #[.int .u64 (g + 1), .int .i64 0]) ∧ ∃ tag', Wd w' B tag' (savSt st (f ++ ⟨#[46, 48]⟩) (recL (g + 1) zs)) ∧ Sp w w' S tag tag' ∧ Sl w' S B tag' f true (g + 1) 1 := by
  have hwp : IntKind.u64.wrap (g + 1) = g + 1 := Go.Proofs.Ytndlpmnidpandaa.B.wrap64_id _ (by omega) (by omega)
  have nl : ¬ (4096 : Int) < n := by omega
  have HWr : Kpt (∀ W, Wd W B tag st → Sl W S B tag f false g 0 → RdAt W (.slice a n c) zs → Calls Try.prog 34 #[.pointer (some ⟨S, 0, none⟩), .int .u64 (g + 1), .slice a n c] W fun e w' => e = .returned (.int .i64 0) ∧ ∃ tag', Wd w' B tag' (savSt st (f ++ ⟨#[46, 48]⟩) (recL (g + 1) zs)) ∧ Step W w' tag tag' (fun _ => True)) := ⟨fun W hW hS hr =>
    swrite0 S B f false g (g + 1) tag st W hS hW hc hcw hf hf2 hwr h1 h2 (by omega) (by omega) a n c zs hr hl hn hb⟩
  obtain ⟨stB, hstB⟩ : ∃ s, s = savSt st (f ++ ⟨#[46, 48]⟩) (recL (g + 1) zs) := ⟨_, rfl⟩
  rw [← hstB] at HWr ⊢
  have HR : Kpt (∀ W, Sp w W S tag tag → RdAt W (.slice a n c) zs) := ⟨fun W h => hrd.sp h hz⟩
  replace HL := Kpt.mk HL
  replace hz := Kpt.mk hz
  clear hc hcw hf hf2 hwr hrd hl hb hstB
  go_enter Try.func17, Try.ntmps17
  go_wp2_with (first
    | (have hm := m2; go_at_call 34; go_must (refine (HWr.out _ hw2.out hS2.out (HR.out _ hs2.out)).mono ?_; rintro e w3 ⟨rfl, tag3, hw3, hst3⟩; have hS3 := Kpt.mk (hS2.out.step hst3); have hs3 := Kpt.mk (hs2.out.trans (hst3.sp S)); replace hw3 := Kpt.mk hw3; have c3 : w3.cell? ⟨S, 3, none⟩ = some (.int .u64 g) := hS3.out.at.2.2.2.1; have c4 : w3.cell? ⟨S, 4, none⟩ = some (.int .i64 0) := hS3.out.at.2.2.2.2; clear hst3 hw2 hS2 hs2 c2 hm m2))
    | (refine (?_ : wpList _ _ _ (Oper.mk none (Op.store 4 _ _) _ _ _ _ :: _) _ _); have hm := m1; go_must (refine wpList_store_cell rfl rfl S 2 (slC B f true g 0) (.bool false) rfl rfl rfl hS1.out.bx (by simp [slC]) info4 rfl ?_; intro w2 hX2 hg2; have hS2 : Kpt (Sl w2 S B tag f false g 0) := ⟨⟨hX2, hSn⟩⟩; have hw2 := Kpt.mk (hw1.out.own hg2 hSn); have hs2 := Kpt.mk (hs1.out.own hg2 (.inr rfl)); have c2 : w2.cell? ⟨S, 3, none⟩ = some (.int .u64 g) := hS2.out.at.2.2.2.1; clear hX2 hg2 hS1 hw1 hs1 hm m1; have m2 : Kpt True := ⟨trivial⟩))
    | (go_at_call 33; go_must (refine HL.out.mono ?_; rintro e w1 ⟨rfl, hw1, hs1, hS1⟩; replace hw1 := Kpt.mk hw1; replace hs1 := Kpt.mk hs1; replace hS1 := Kpt.mk hS1; clear HL; have m1 : Kpt True := ⟨trivial⟩)))
  have hSt : tag3 S = none := hS3.out.bare
  refine wp_region_any (by kernel_rfl) ?_
  refine wpAny_of_C (C := fun W => True) _ _ _ _ ?_
  refine wpAnyC_take 0 (.pointer (some ⟨S, 0, none⟩)) rfl (by kernel_rfl) (by kernel_rfl) (by kernel_rfl) (fun _ _ _ h => h) (wanted_free rfl _) (fun W hW => by go_simp) ?_
  try simp only [Act.put, List.getElem_toArray, List.getElem_cons_succ, List.getElem_cons_zero, List.setIfInBounds_toArray, List.set_cons_succ, List.set_cons_zero]
  refine wpAnyC_take 1 (.pointer (some ⟨S, 0, none⟩)) rfl (by kernel_rfl) (by kernel_rfl) (by kernel_rfl) (fun _ _ _ h => h) (wanted_free rfl _) (fun W hW => by go_simp) ?_
  try simp only [Act.put, List.getElem_toArray, List.getElem_cons_succ, List.getElem_cons_zero, List.setIfInBounds_toArray, List.set_cons_succ, List.set_cons_zero]
  refine wpAnyC_take 2 (.pointer (some ⟨S, 0, none⟩)) rfl (by kernel_rfl) (by kernel_rfl) (by kernel_rfl) (fun _ _ _ h => h) (wanted_free rfl _) (fun W hW => by go_simp) ?_
  try simp only [Act.put, List.getElem_toArray, List.getElem_cons_succ, List.getElem_cons_zero, List.setIfInBounds_toArray, List.set_cons_succ, List.set_cons_zero]
  refine wpAnyC_take 3 (.pointer (some ⟨S, 0, none⟩)) rfl (by kernel_rfl) (by kernel_rfl) (by kernel_rfl) (fun _ _ _ h => h) (wanted_free rfl _) (fun W hW => by go_simp) ?_
  try simp only [Act.put, List.getElem_toArray, List.getElem_cons_succ, List.getElem_cons_zero, List.setIfInBounds_toArray, List.set_cons_succ, List.set_cons_zero]
  refine wpAnyC_take 4 (.pointer (some ⟨S, 0, none⟩)) rfl (by kernel_rfl) (by kernel_rfl) (by kernel_rfl) (fun _ _ _ h => h) (wanted_free rfl _) (fun W hW => by go_simp) ?_
  try simp only [Act.put, List.getElem_toArray, List.getElem_cons_succ, List.getElem_cons_zero, List.setIfInBounds_toArray, List.set_cons_succ, List.set_cons_zero]
  refine wpAnyC_take 5 (.pointer (some ⟨S, 3, none⟩)) rfl (by kernel_rfl) (by kernel_rfl) (by kernel_rfl) (fun _ _ _ h => h) (wanted_free rfl _) (fun W hW => by go_simp) ?_
  try simp only [Act.put, List.getElem_toArray, List.getElem_cons_succ, List.getElem_cons_zero, List.setIfInBounds_toArray, List.set_cons_succ, List.set_cons_zero]
  refine wpAnyC_take 8 (.pointer (some ⟨S, 0, none⟩)) rfl (by kernel_rfl) (by kernel_rfl) (by kernel_rfl) (fun _ _ _ h => h) (wanted_free rfl _) (fun W hW => by go_simp) ?_
  try simp only [Act.put, List.getElem_toArray, List.getElem_cons_succ, List.getElem_cons_zero, List.setIfInBounds_toArray, List.set_cons_succ, List.set_cons_zero]
  refine wpAnyC_take 9 (.pointer (some ⟨S, 0, none⟩)) rfl (by kernel_rfl) (by kernel_rfl) (by kernel_rfl) (fun _ _ _ h => h) (wanted_free rfl _) (fun W hW => by go_simp) ?_
  try simp only [Act.put, List.getElem_toArray, List.getElem_cons_succ, List.getElem_cons_zero, List.setIfInBounds_toArray, List.set_cons_succ, List.set_cons_zero]
  refine wpAnyC_take 10 (.pointer (some ⟨S, 4, none⟩)) rfl (by kernel_rfl) (by kernel_rfl) (by kernel_rfl) (fun _ _ _ h => h) (wanted_free rfl _) (fun W hW => by go_simp) ?_
  try simp only [Act.put, List.getElem_toArray, List.getElem_cons_succ, List.getElem_cons_zero, List.setIfInBounds_toArray, List.set_cons_succ, List.set_cons_zero]
  refine wpAnyC_two 6 11 trivial rfl rfl (by kernel_rfl) (wanted_free rfl _) (wanted_free rfl _) (fun KA hKA => ?_) (fun KA hKA => ?_)
  · have hcl := c3
    go_simp
    refine hKA _ _ ?_
    clear hKA KA hcl
    try simp only [Act.put, List.getElem_toArray, List.getElem_cons_succ, List.getElem_cons_zero, List.setIfInBounds_toArray, List.set_cons_succ, List.set_cons_zero]
    refine wpAnyC_take 7 (.int .u64 (g + 1)) rfl (by kernel_rfl) (by kernel_rfl) (by kernel_rfl) (fun _ _ _ h => h) (wanted_free rfl _) (fun W hW => by go_simp) ?_
    try simp only [Act.put, List.getElem_toArray, List.getElem_cons_succ, List.getElem_cons_zero, List.setIfInBounds_toArray, List.set_cons_succ, List.set_cons_zero]
    refine wpAnyC_one 11 (trivial) rfl (by kernel_rfl) (wanted_free rfl _) (fun KA hKA => ?_)
    have hcl := c4
    go_simp
    refine hKA _ _ ?_
    clear hKA KA hcl
    try simp only [Act.put, List.getElem_toArray, List.getElem_cons_succ, List.getElem_cons_zero, List.setIfInBounds_toArray, List.set_cons_succ, List.set_cons_zero]
    refine wpAnyC_take 12 (.int .i64 1) rfl (by kernel_rfl) (by kernel_rfl) (by kernel_rfl) (fun _ _ _ h => h) (wanted_free rfl _) (fun W hW => by go_simp <;> rfl) ?_
    try simp only [Act.put, List.getElem_toArray, List.getElem_cons_succ, List.getElem_cons_zero, List.setIfInBounds_toArray, List.set_cons_succ, List.set_cons_zero]
    refine wpAnyC_take 13 (.pointer (some ⟨S, 0, none⟩)) rfl (by kernel_rfl) (by kernel_rfl) (by kernel_rfl) (fun _ _ _ h => h) (wanted_free rfl _) (fun W hW => by go_simp) ?_
    try simp only [Act.put, List.getElem_toArray, List.getElem_cons_succ, List.getElem_cons_zero, List.setIfInBounds_toArray, List.set_cons_succ, List.set_cons_zero]
    refine wpAnyC_take 14 (.pointer (some ⟨S, 2, none⟩)) rfl (by kernel_rfl) (by kernel_rfl) (by kernel_rfl) (fun _ _ _ h => h) (wanted_free rfl _) (fun W hW => by go_simp) ?_
    try simp only [Act.put, List.getElem_toArray, List.getElem_cons_succ, List.getElem_cons_zero, List.setIfInBounds_toArray, List.set_cons_succ, List.set_cons_zero]
    refine wpAnyC_one 15 (trivial) rfl (by kernel_rfl) (wanted_free rfl _) (fun KA hKA => ?_)
    refine wp_store_cell rfl (b := S) (j := 2) (v := .bool true) rfl rfl rfl (bx_drawn hS3.out.bx _) (by simp [slC]) info4 (fun y1 hXy1 hgy1 => ?_)
    refine hKA _ _ ?_
    clear hKA KA
    try simp only [Act.put, List.getElem_toArray, List.getElem_cons_succ, List.getElem_cons_zero, List.setIfInBounds_toArray, List.set_cons_succ, List.set_cons_zero]
    replace hgy1 := grown_of_drawn hgy1
    refine wpAnyC_take 16 (.pointer (some ⟨S, 0, none⟩)) rfl (by kernel_rfl) (by kernel_rfl) (by kernel_rfl) (fun _ _ _ h => h) (wanted_free rfl _) (fun W hW => by go_simp) ?_
    try simp only [Act.put, List.getElem_toArray, List.getElem_cons_succ, List.getElem_cons_zero, List.setIfInBounds_toArray, List.set_cons_succ, List.set_cons_zero]
    refine wpAnyC_take 17 (.pointer (some ⟨S, 3, none⟩)) rfl (by kernel_rfl) (by kernel_rfl) (by kernel_rfl) (fun _ _ _ h => h) (wanted_free rfl _) (fun W hW => by go_simp) ?_
    try simp only [Act.put, List.getElem_toArray, List.getElem_cons_succ, List.getElem_cons_zero, List.setIfInBounds_toArray, List.set_cons_succ, List.set_cons_zero]
    refine wpAnyC_one 18 (trivial) rfl (by kernel_rfl) (wanted_free rfl _) (fun KA hKA => ?_)
    refine wp_store_cell rfl (b := S) (j := 3) (v := .int .u64 (g + 1)) rfl rfl rfl hXy1 (by simp [slC]) info22 (fun y2 hXy2 hgy2 => ?_)
    refine hKA _ _ ?_
    clear hKA KA
    try simp only [Act.put, List.getElem_toArray, List.getElem_cons_succ, List.getElem_cons_zero, List.setIfInBounds_toArray, List.set_cons_succ, List.set_cons_zero]
    refine wpAnyC_take 19 (.pointer (some ⟨S, 0, none⟩)) rfl (by kernel_rfl) (by kernel_rfl) (by kernel_rfl) (fun _ _ _ h => h) (wanted_free rfl _) (fun W hW => by go_simp) ?_
    try simp only [Act.put, List.getElem_toArray, List.getElem_cons_succ, List.getElem_cons_zero, List.setIfInBounds_toArray, List.set_cons_succ, List.set_cons_zero]
    refine wpAnyC_take 20 (.pointer (some ⟨S, 4, none⟩)) rfl (by kernel_rfl) (by kernel_rfl) (by kernel_rfl) (fun _ _ _ h => h) (wanted_free rfl _) (fun W hW => by go_simp) ?_
    try simp only [Act.put, List.getElem_toArray, List.getElem_cons_succ, List.getElem_cons_zero, List.setIfInBounds_toArray, List.set_cons_succ, List.set_cons_zero]
    refine wpAnyC_one 21 (trivial) rfl (by kernel_rfl) (wanted_free rfl _) (fun KA hKA => ?_)
    refine wp_store_cell rfl (b := S) (j := 4) (v := .int .i64 1) rfl rfl rfl hXy2 (by simp [slC]) info3 (fun y3 hXy3 hgy3 => ?_)
    refine hKA _ _ ?_
    clear hKA KA
    try simp only [Act.put, List.getElem_toArray, List.getElem_cons_succ, List.getElem_cons_zero, List.setIfInBounds_toArray, List.set_cons_succ, List.set_cons_zero]
    refine wpAnyC_done (trivial) (by kernel_rfl) ?_
    have hg3 := grown_twice (grown_twice hgy1 hgy2) hgy3
    have hSf : Kpt (Sl y3 S B tag3 f true (g + 1) 1) := ⟨⟨hXy3, hSt⟩⟩
    have hWf := Kpt.mk (hw3.out.own hg3 hSt)
    have hPf := Kpt.mk (hs3.out.own hg3 (.inr rfl))
    have c5 : y3.cell? ⟨S, 3, none⟩ = some (.int .u64 (g + 1)) := hSf.out.at.2.2.2.1
    clear hXy1 hXy2 hXy3 hgy1 hgy2 hgy3 hg3 c3 c4 hw3 hs3 hS3
    go_wp2_with fail
    go_ret2
    exact ⟨rfl, tag3, hWf.out, hPf.out, hSf.out⟩
  · have hcl := c4
    go_simp
    refine hKA _ _ ?_
    clear hKA KA hcl
    try simp only [Act.put, List.getElem_toArray, List.getElem_cons_succ, List.getElem_cons_zero, List.setIfInBounds_toArray, List.set_cons_succ, List.set_cons_zero]
    refine wpAnyC_take 12 (.int .i64 1) rfl (by kernel_rfl) (by kernel_rfl) (by kernel_rfl) (fun _ _ _ h => h) (wanted_free rfl _) (fun W hW => by go_simp <;> rfl) ?_
    try simp only [Act.put, List.getElem_toArray, List.getElem_cons_succ, List.getElem_cons_zero, List.setIfInBounds_toArray, List.set_cons_succ, List.set_cons_zero]
    refine wpAnyC_one 6 (trivial) rfl (by kernel_rfl) (wanted_free rfl _) (fun KA hKA => ?_)
    have hcl := c3
    go_simp
    refine hKA _ _ ?_
    clear hKA KA hcl
    try simp only [Act.put, List.getElem_toArray, List.getElem_cons_succ, List.getElem_cons_zero, List.setIfInBounds_toArray, List.set_cons_succ, List.set_cons_zero]
    refine wpAnyC_take 7 (.int .u64 (g + 1)) rfl (by kernel_rfl) (by kernel_rfl) (by kernel_rfl) (fun _ _ _ h => h) (wanted_free rfl _) (fun W hW => by go_simp) ?_
    try simp only [Act.put, List.getElem_toArray, List.getElem_cons_succ, List.getElem_cons_zero, List.setIfInBounds_toArray, List.set_cons_succ, List.set_cons_zero]
    refine wpAnyC_take 13 (.pointer (some ⟨S, 0, none⟩)) rfl (by kernel_rfl) (by kernel_rfl) (by kernel_rfl) (fun _ _ _ h => h) (wanted_free rfl _) (fun W hW => by go_simp) ?_
    try simp only [Act.put, List.getElem_toArray, List.getElem_cons_succ, List.getElem_cons_zero, List.setIfInBounds_toArray, List.set_cons_succ, List.set_cons_zero]
    refine wpAnyC_take 14 (.pointer (some ⟨S, 2, none⟩)) rfl (by kernel_rfl) (by kernel_rfl) (by kernel_rfl) (fun _ _ _ h => h) (wanted_free rfl _) (fun W hW => by go_simp) ?_
    try simp only [Act.put, List.getElem_toArray, List.getElem_cons_succ, List.getElem_cons_zero, List.setIfInBounds_toArray, List.set_cons_succ, List.set_cons_zero]
    refine wpAnyC_one 15 (trivial) rfl (by kernel_rfl) (wanted_free rfl _) (fun KA hKA => ?_)
    refine wp_store_cell rfl (b := S) (j := 2) (v := .bool true) rfl rfl rfl (bx_drawn hS3.out.bx _) (by simp [slC]) info4 (fun y1 hXy1 hgy1 => ?_)
    refine hKA _ _ ?_
    clear hKA KA
    try simp only [Act.put, List.getElem_toArray, List.getElem_cons_succ, List.getElem_cons_zero, List.setIfInBounds_toArray, List.set_cons_succ, List.set_cons_zero]
    replace hgy1 := grown_of_drawn hgy1
    refine wpAnyC_take 16 (.pointer (some ⟨S, 0, none⟩)) rfl (by kernel_rfl) (by kernel_rfl) (by kernel_rfl) (fun _ _ _ h => h) (wanted_free rfl _) (fun W hW => by go_simp) ?_
    try simp only [Act.put, List.getElem_toArray, List.getElem_cons_succ, List.getElem_cons_zero, List.setIfInBounds_toArray, List.set_cons_succ, List.set_cons_zero]
    refine wpAnyC_take 17 (.pointer (some ⟨S, 3, none⟩)) rfl (by kernel_rfl) (by kernel_rfl) (by kernel_rfl) (fun _ _ _ h => h) (wanted_free rfl _) (fun W hW => by go_simp) ?_
    try simp only [Act.put, List.getElem_toArray, List.getElem_cons_succ, List.getElem_cons_zero, List.setIfInBounds_toArray, List.set_cons_succ, List.set_cons_zero]
    refine wpAnyC_one 18 (trivial) rfl (by kernel_rfl) (wanted_free rfl _) (fun KA hKA => ?_)
    refine wp_store_cell rfl (b := S) (j := 3) (v := .int .u64 (g + 1)) rfl rfl rfl hXy1 (by simp [slC]) info22 (fun y2 hXy2 hgy2 => ?_)
    refine hKA _ _ ?_
    clear hKA KA
    try simp only [Act.put, List.getElem_toArray, List.getElem_cons_succ, List.getElem_cons_zero, List.setIfInBounds_toArray, List.set_cons_succ, List.set_cons_zero]
    refine wpAnyC_take 19 (.pointer (some ⟨S, 0, none⟩)) rfl (by kernel_rfl) (by kernel_rfl) (by kernel_rfl) (fun _ _ _ h => h) (wanted_free rfl _) (fun W hW => by go_simp) ?_
    try simp only [Act.put, List.getElem_toArray, List.getElem_cons_succ, List.getElem_cons_zero, List.setIfInBounds_toArray, List.set_cons_succ, List.set_cons_zero]
    refine wpAnyC_take 20 (.pointer (some ⟨S, 4, none⟩)) rfl (by kernel_rfl) (by kernel_rfl) (by kernel_rfl) (fun _ _ _ h => h) (wanted_free rfl _) (fun W hW => by go_simp) ?_
    try simp only [Act.put, List.getElem_toArray, List.getElem_cons_succ, List.getElem_cons_zero, List.setIfInBounds_toArray, List.set_cons_succ, List.set_cons_zero]
    refine wpAnyC_one 21 (trivial) rfl (by kernel_rfl) (wanted_free rfl _) (fun KA hKA => ?_)
    refine wp_store_cell rfl (b := S) (j := 4) (v := .int .i64 1) rfl rfl rfl hXy2 (by simp [slC]) info3 (fun y3 hXy3 hgy3 => ?_)
    refine hKA _ _ ?_
    clear hKA KA
    try simp only [Act.put, List.getElem_toArray, List.getElem_cons_succ, List.getElem_cons_zero, List.setIfInBounds_toArray, List.set_cons_succ, List.set_cons_zero]
    refine wpAnyC_done (trivial) (by kernel_rfl) ?_
    have hg3 := grown_twice (grown_twice hgy1 hgy2) hgy3
    have hSf : Kpt (Sl y3 S B tag3 f true (g + 1) 1) := ⟨⟨hXy3, hSt⟩⟩
    have hWf := Kpt.mk (hw3.out.own hg3 hSt)
    have hPf := Kpt.mk (hs3.out.own hg3 (.inr rfl))
    have c5 : y3.cell? ⟨S, 3, none⟩ = some (.int .u64 (g + 1)) := hSf.out.at.2.2.2.1
    clear hXy1 hXy2 hXy3 hgy1 hgy2 hgy3 hg3 c3 c4 hw3 hs3 hS3
    go_wp2_with fail
    go_ret2
    exact ⟨rfl, tag3, hWf.out, hPf.out, hSf.out⟩

set_option maxRecDepth 100000 in
set_option maxHeartbeats 2000000 in
theorem save1 (S B : Nat) (f : ByteArray) (g : Int) (tag : Tags) (st : St) (w : World) (hSl : S < w.heap.size) (hSn : tag S = none)
    (HL : Calls Try.prog 33 #[.pointer (some ⟨S, 0, none⟩)] w fun e w' => e = .returned (.int .i64 0) ∧ Wd w' B tag st ∧ Sp w w' S tag tag ∧ Sl w' S B tag f true g 1)
    (hc : st.cnt < 500000000000) (hcw : st.waits.length < 1000000) (hf : st.fails st.ops = false) (hf2 : st.fails (st.ops + 1) = false) (hwr : Wrs st.waits) (h1 : 1 ≤ f.size) (h2 : f.size ≤ 30)
    (hg0 : 0 ≤ g) (hg1 : g < 9223372036854775807) (a : Option Addr) (n c : Nat) (zs : List Int) (hrd : RdAt w (.slice a n c) zs) (hl : zs.length = n) (hn : n ≤ 4096) (hb : Bytes zs)
    (hz : zs ≠ [] → ∀ q, (Value.slice a n c).ownBlock = some q → tag q = none ∧ q ≠ S) :
    Calls Try.prog 17 #[.pointer (some ⟨S, 0, none⟩), .slice a n c] w fun e w' => e = .returned (.tuple #[.int .u64 (g + 1), .int .i64 0]) ∧ ∃ tag', Wd w' B tag' (savSt st (f ++ ⟨#[46, 49]⟩) (recL (g + 1) zs)) ∧ Sp w w' S tag tag' ∧ Sl w' S B tag' f true (g + 1) 0 := by
  have hwp : IntKind.u64.wrap (g + 1) = g + 1 := Go.Proofs.Ytndlpmnidpandaa.B.wrap64_id _ (by omega) (by omega)
  have nl : ¬ (4096 : Int) < n := by omega
  have HWr : Kpt (∀ W, Wd W B tag st → Sl W S B tag f false g 1 → RdAt W (.slice a n c) zs → Calls Try.prog 34 #[.pointer (some ⟨S, 0, none⟩), .int .u64 (g + 1), .slice a n c] W fun e w' => e = .returned (.int .i64 0) ∧ ∃ tag', Wd w' B tag' (savSt st (f ++ ⟨#[46, 49]⟩) (recL (g + 1) zs)) ∧ Step W w' tag tag' (fun _ => True)) := ⟨fun W hW hS hr =>
    swrite1 S B f false g (g + 1) tag st W hS hW hc hcw hf hf2 hwr h1 h2 (by omega) (by omega) a n c zs hr hl hn hb⟩
  obtain ⟨stB, hstB⟩ : ∃ s, s = savSt st (f ++ ⟨#[46, 49]⟩) (recL (g + 1) zs) := ⟨_, rfl⟩
  rw [← hstB] at HWr ⊢
  have HR : Kpt (∀ W, Sp w W S tag tag → RdAt W (.slice a n c) zs) := ⟨fun W h => hrd.sp h hz⟩
  replace HL := Kpt.mk HL
  replace hz := Kpt.mk hz
  clear hc hcw hf hf2 hwr hrd hl hb hstB
  go_enter Try.func17, Try.ntmps17
  go_wp2_with (first
    | (have hm := m2; go_at_call 34; go_must (refine (HWr.out _ hw2.out hS2.out (HR.out _ hs2.out)).mono ?_; rintro e w3 ⟨rfl, tag3, hw3, hst3⟩; have hS3 := Kpt.mk (hS2.out.step hst3); have hs3 := Kpt.mk (hs2.out.trans (hst3.sp S)); replace hw3 := Kpt.mk hw3; have c3 : w3.cell? ⟨S, 3, none⟩ = some (.int .u64 g) := hS3.out.at.2.2.2.1; have c4 : w3.cell? ⟨S, 4, none⟩ = some (.int .i64 1) := hS3.out.at.2.2.2.2; clear hst3 hw2 hS2 hs2 c2 hm m2))
    | (refine (?_ : wpList _ _ _ (Oper.mk none (Op.store 4 _ _) _ _ _ _ :: _) _ _); have hm := m1; go_must (refine wpList_store_cell rfl rfl S 2 (slC B f true g 1) (.bool false) rfl rfl rfl hS1.out.bx (by simp [slC]) info4 rfl ?_; intro w2 hX2 hg2; have hS2 : Kpt (Sl w2 S B tag f false g 1) := ⟨⟨hX2, hSn⟩⟩; have hw2 := Kpt.mk (hw1.out.own hg2 hSn); have hs2 := Kpt.mk (hs1.out.own hg2 (.inr rfl)); have c2 : w2.cell? ⟨S, 3, none⟩ = some (.int .u64 g) := hS2.out.at.2.2.2.1; clear hX2 hg2 hS1 hw1 hs1 hm m1; have m2 : Kpt True := ⟨trivial⟩))
    | (go_at_call 33; go_must (refine HL.out.mono ?_; rintro e w1 ⟨rfl, hw1, hs1, hS1⟩; replace hw1 := Kpt.mk hw1; replace hs1 := Kpt.mk hs1; replace hS1 := Kpt.mk hS1; clear HL; have m1 : Kpt True := ⟨trivial⟩)))
  have hSt : tag3 S = none := hS3.out.bare
  refine wp_region_any (by kernel_rfl) ?_
  refine wpAny_of_C (C := fun W => True) _ _ _ _ ?_
  refine wpAnyC_take 0 (.pointer (some ⟨S, 0, none⟩)) rfl (by kernel_rfl) (by kernel_rfl) (by kernel_rfl) (fun _ _ _ h => h) (wanted_free rfl _) (fun W hW => by go_simp) ?_
  try simp only [Act.put, List.getElem_toArray, List.getElem_cons_succ, List.getElem_cons_zero, List.setIfInBounds_toArray, List.set_cons_succ, List.set_cons_zero]
  refine wpAnyC_take 1 (.pointer (some ⟨S, 0, none⟩)) rfl (by kernel_rfl) (by kernel_rfl) (by kernel_rfl) (fun _ _ _ h => h) (wanted_free rfl _) (fun W hW => by go_simp) ?_
  try simp only [Act.put, List.getElem_toArray, List.getElem_cons_succ, List.getElem_cons_zero, List.setIfInBounds_toArray, List.set_cons_succ, List.set_cons_zero]
  refine wpAnyC_take 2 (.pointer (some ⟨S, 0, none⟩)) rfl (by kernel_rfl) (by kernel_rfl) (by kernel_rfl) (fun _ _ _ h => h) (wanted_free rfl _) (fun W hW => by go_simp) ?_
  try simp only [Act.put, List.getElem_toArray, List.getElem_cons_succ, List.getElem_cons_zero, List.setIfInBounds_toArray, List.set_cons_succ, List.set_cons_zero]
  refine wpAnyC_take 3 (.pointer (some ⟨S, 0, none⟩)) rfl (by kernel_rfl) (by kernel_rfl) (by kernel_rfl) (fun _ _ _ h => h) (wanted_free rfl _) (fun W hW => by go_simp) ?_
  try simp only [Act.put, List.getElem_toArray, List.getElem_cons_succ, List.getElem_cons_zero, List.setIfInBounds_toArray, List.set_cons_succ, List.set_cons_zero]
  refine wpAnyC_take 4 (.pointer (some ⟨S, 0, none⟩)) rfl (by kernel_rfl) (by kernel_rfl) (by kernel_rfl) (fun _ _ _ h => h) (wanted_free rfl _) (fun W hW => by go_simp) ?_
  try simp only [Act.put, List.getElem_toArray, List.getElem_cons_succ, List.getElem_cons_zero, List.setIfInBounds_toArray, List.set_cons_succ, List.set_cons_zero]
  refine wpAnyC_take 5 (.pointer (some ⟨S, 3, none⟩)) rfl (by kernel_rfl) (by kernel_rfl) (by kernel_rfl) (fun _ _ _ h => h) (wanted_free rfl _) (fun W hW => by go_simp) ?_
  try simp only [Act.put, List.getElem_toArray, List.getElem_cons_succ, List.getElem_cons_zero, List.setIfInBounds_toArray, List.set_cons_succ, List.set_cons_zero]
  refine wpAnyC_take 8 (.pointer (some ⟨S, 0, none⟩)) rfl (by kernel_rfl) (by kernel_rfl) (by kernel_rfl) (fun _ _ _ h => h) (wanted_free rfl _) (fun W hW => by go_simp) ?_
  try simp only [Act.put, List.getElem_toArray, List.getElem_cons_succ, List.getElem_cons_zero, List.setIfInBounds_toArray, List.set_cons_succ, List.set_cons_zero]
  refine wpAnyC_take 9 (.pointer (some ⟨S, 0, none⟩)) rfl (by kernel_rfl) (by kernel_rfl) (by kernel_rfl) (fun _ _ _ h => h) (wanted_free rfl _) (fun W hW => by go_simp) ?_
  try simp only [Act.put, List.getElem_toArray, List.getElem_cons_succ, List.getElem_cons_zero, List.setIfInBounds_toArray, List.set_cons_succ, List.set_cons_zero]
  refine wpAnyC_take 10 (.pointer (some ⟨S, 4, none⟩)) rfl (by kernel_rfl) (by kernel_rfl) (by kernel_rfl) (fun _ _ _ h => h) (wanted_free rfl _) (fun W hW => by go_simp) ?_
  try simp only [Act.put, List.getElem_toArray, List.getElem_cons_succ, List.getElem_cons_zero, List.setIfInBounds_toArray, List.set_cons_succ, List.set_cons_zero]
  refine wpAnyC_two 6 11 trivial rfl rfl (by kernel_rfl) (wanted_free rfl _) (wanted_free rfl _) (fun KA hKA => ?_) (fun KA hKA => ?_)
  · have hcl := c3
    go_simp
    refine hKA _ _ ?_
    clear hKA KA hcl
    try simp only [Act.put, List.getElem_toArray, List.getElem_cons_succ, List.getElem_cons_zero, List.setIfInBounds_toArray, List.set_cons_succ, List.set_cons_zero]
    refine wpAnyC_take 7 (.int .u64 (g + 1)) rfl (by kernel_rfl) (by kernel_rfl) (by kernel_rfl) (fun _ _ _ h => h) (wanted_free rfl _) (fun W hW => by go_simp) ?_
    try simp only [Act.put, List.getElem_toArray, List.getElem_cons_succ, List.getElem_cons_zero, List.setIfInBounds_toArray, List.set_cons_succ, List.set_cons_zero]
    refine wpAnyC_one 11 (trivial) rfl (by kernel_rfl) (wanted_free rfl _) (fun KA hKA => ?_)
    have hcl := c4
    go_simp
    refine hKA _ _ ?_
    clear hKA KA hcl
    try simp only [Act.put, List.getElem_toArray, List.getElem_cons_succ, List.getElem_cons_zero, List.setIfInBounds_toArray, List.set_cons_succ, List.set_cons_zero]
    refine wpAnyC_take 12 (.int .i64 0) rfl (by kernel_rfl) (by kernel_rfl) (by kernel_rfl) (fun _ _ _ h => h) (wanted_free rfl _) (fun W hW => by go_simp <;> rfl) ?_
    try simp only [Act.put, List.getElem_toArray, List.getElem_cons_succ, List.getElem_cons_zero, List.setIfInBounds_toArray, List.set_cons_succ, List.set_cons_zero]
    refine wpAnyC_take 13 (.pointer (some ⟨S, 0, none⟩)) rfl (by kernel_rfl) (by kernel_rfl) (by kernel_rfl) (fun _ _ _ h => h) (wanted_free rfl _) (fun W hW => by go_simp) ?_
    try simp only [Act.put, List.getElem_toArray, List.getElem_cons_succ, List.getElem_cons_zero, List.setIfInBounds_toArray, List.set_cons_succ, List.set_cons_zero]
    refine wpAnyC_take 14 (.pointer (some ⟨S, 2, none⟩)) rfl (by kernel_rfl) (by kernel_rfl) (by kernel_rfl) (fun _ _ _ h => h) (wanted_free rfl _) (fun W hW => by go_simp) ?_
    try simp only [Act.put, List.getElem_toArray, List.getElem_cons_succ, List.getElem_cons_zero, List.setIfInBounds_toArray, List.set_cons_succ, List.set_cons_zero]
    refine wpAnyC_one 15 (trivial) rfl (by kernel_rfl) (wanted_free rfl _) (fun KA hKA => ?_)
    refine wp_store_cell rfl (b := S) (j := 2) (v := .bool true) rfl rfl rfl (bx_drawn hS3.out.bx _) (by simp [slC]) info4 (fun y1 hXy1 hgy1 => ?_)
    refine hKA _ _ ?_
    clear hKA KA
    try simp only [Act.put, List.getElem_toArray, List.getElem_cons_succ, List.getElem_cons_zero, List.setIfInBounds_toArray, List.set_cons_succ, List.set_cons_zero]
    replace hgy1 := grown_of_drawn hgy1
    refine wpAnyC_take 16 (.pointer (some ⟨S, 0, none⟩)) rfl (by kernel_rfl) (by kernel_rfl) (by kernel_rfl) (fun _ _ _ h => h) (wanted_free rfl _) (fun W hW => by go_simp) ?_
    try simp only [Act.put, List.getElem_toArray, List.getElem_cons_succ, List.getElem_cons_zero, List.setIfInBounds_toArray, List.set_cons_succ, List.set_cons_zero]
    refine wpAnyC_take 17 (.pointer (some ⟨S, 3, none⟩)) rfl (by kernel_rfl) (by kernel_rfl) (by kernel_rfl) (fun _ _ _ h => h) (wanted_free rfl _) (fun W hW => by go_simp) ?_
    try simp only [Act.put, List.getElem_toArray, List.getElem_cons_succ, List.getElem_cons_zero, List.setIfInBounds_toArray, List.set_cons_succ, List.set_cons_zero]
    refine wpAnyC_one 18 (trivial) rfl (by kernel_rfl) (wanted_free rfl _) (fun KA hKA => ?_)
    refine wp_store_cell rfl (b := S) (j := 3) (v := .int .u64 (g + 1)) rfl rfl rfl hXy1 (by simp [slC]) info22 (fun y2 hXy2 hgy2 => ?_)
    refine hKA _ _ ?_
    clear hKA KA
    try simp only [Act.put, List.getElem_toArray, List.getElem_cons_succ, List.getElem_cons_zero, List.setIfInBounds_toArray, List.set_cons_succ, List.set_cons_zero]
    refine wpAnyC_take 19 (.pointer (some ⟨S, 0, none⟩)) rfl (by kernel_rfl) (by kernel_rfl) (by kernel_rfl) (fun _ _ _ h => h) (wanted_free rfl _) (fun W hW => by go_simp) ?_
    try simp only [Act.put, List.getElem_toArray, List.getElem_cons_succ, List.getElem_cons_zero, List.setIfInBounds_toArray, List.set_cons_succ, List.set_cons_zero]
    refine wpAnyC_take 20 (.pointer (some ⟨S, 4, none⟩)) rfl (by kernel_rfl) (by kernel_rfl) (by kernel_rfl) (fun _ _ _ h => h) (wanted_free rfl _) (fun W hW => by go_simp) ?_
    try simp only [Act.put, List.getElem_toArray, List.getElem_cons_succ, List.getElem_cons_zero, List.setIfInBounds_toArray, List.set_cons_succ, List.set_cons_zero]
    refine wpAnyC_one 21 (trivial) rfl (by kernel_rfl) (wanted_free rfl _) (fun KA hKA => ?_)
    refine wp_store_cell rfl (b := S) (j := 4) (v := .int .i64 0) rfl rfl rfl hXy2 (by simp [slC]) info3 (fun y3 hXy3 hgy3 => ?_)
    refine hKA _ _ ?_
    clear hKA KA
    try simp only [Act.put, List.getElem_toArray, List.getElem_cons_succ, List.getElem_cons_zero, List.setIfInBounds_toArray, List.set_cons_succ, List.set_cons_zero]
    refine wpAnyC_done (trivial) (by kernel_rfl) ?_
    have hg3 := grown_twice (grown_twice hgy1 hgy2) hgy3
    have hSf : Kpt (Sl y3 S B tag3 f true (g + 1) 0) := ⟨⟨hXy3, hSt⟩⟩
    have hWf := Kpt.mk (hw3.out.own hg3 hSt)
    have hPf := Kpt.mk (hs3.out.own hg3 (.inr rfl))
    have c5 : y3.cell? ⟨S, 3, none⟩ = some (.int .u64 (g + 1)) := hSf.out.at.2.2.2.1
    clear hXy1 hXy2 hXy3 hgy1 hgy2 hgy3 hg3 c3 c4 hw3 hs3 hS3
    go_wp2_with fail
    go_ret2
    exact ⟨rfl, tag3, hWf.out, hPf.out, hSf.out⟩
  · have hcl := c4
    go_simp
    refine hKA _ _ ?_
    clear hKA KA hcl
    try simp only [Act.put, List.getElem_toArray, List.getElem_cons_succ, List.getElem_cons_zero, List.setIfInBounds_toArray, List.set_cons_succ, List.set_cons_zero]
    refine wpAnyC_take 12 (.int .i64 0) rfl (by kernel_rfl) (by kernel_rfl) (by kernel_rfl) (fun _ _ _ h => h) (wanted_free rfl _) (fun W hW => by go_simp <;> rfl) ?_
    try simp only [Act.put, List.getElem_toArray, List.getElem_cons_succ, List.getElem_cons_zero, List.setIfInBounds_toArray, List.set_cons_succ, List.set_cons_zero]
    refine wpAnyC_one 6 (trivial) rfl (by kernel_rfl) (wanted_free rfl _) (fun KA hKA => ?_)
    have hcl := c3
    go_simp
    refine hKA _ _ ?_
    clear hKA KA hcl
    try simp only [Act.put, List.getElem_toArray, List.getElem_cons_succ, List.getElem_cons_zero, List.setIfInBounds_toArray, List.set_cons_succ, List.set_cons_zero]
    refine wpAnyC_take 7 (.int .u64 (g + 1)) rfl (by kernel_rfl) (by kernel_rfl) (by kernel_rfl) (fun _ _ _ h => h) (wanted_free rfl _) (fun W hW => by go_simp) ?_
    try simp only [Act.put, List.getElem_toArray, List.getElem_cons_succ, List.getElem_cons_zero, List.setIfInBounds_toArray, List.set_cons_succ, List.set_cons_zero]
    refine wpAnyC_take 13 (.pointer (some ⟨S, 0, none⟩)) rfl (by kernel_rfl) (by kernel_rfl) (by kernel_rfl) (fun _ _ _ h => h) (wanted_free rfl _) (fun W hW => by go_simp) ?_
    try simp only [Act.put, List.getElem_toArray, List.getElem_cons_succ, List.getElem_cons_zero, List.setIfInBounds_toArray, List.set_cons_succ, List.set_cons_zero]
    refine wpAnyC_take 14 (.pointer (some ⟨S, 2, none⟩)) rfl (by kernel_rfl) (by kernel_rfl) (by kernel_rfl) (fun _ _ _ h => h) (wanted_free rfl _) (fun W hW => by go_simp) ?_
    try simp only [Act.put, List.getElem_toArray, List.getElem_cons_succ, List.getElem_cons_zero, List.setIfInBounds_toArray, List.set_cons_succ, List.set_cons_zero]
    refine wpAnyC_one 15 (trivial) rfl (by kernel_rfl) (wanted_free rfl _) (fun KA hKA => ?_)
    refine wp_store_cell rfl (b := S) (j := 2) (v := .bool true) rfl rfl rfl (bx_drawn hS3.out.bx _) (by simp [slC]) info4 (fun y1 hXy1 hgy1 => ?_)
    refine hKA _ _ ?_
    clear hKA KA
    try simp only [Act.put, List.getElem_toArray, List.getElem_cons_succ, List.getElem_cons_zero, List.setIfInBounds_toArray, List.set_cons_succ, List.set_cons_zero]
    replace hgy1 := grown_of_drawn hgy1
    refine wpAnyC_take 16 (.pointer (some ⟨S, 0, none⟩)) rfl (by kernel_rfl) (by kernel_rfl) (by kernel_rfl) (fun _ _ _ h => h) (wanted_free rfl _) (fun W hW => by go_simp) ?_
    try simp only [Act.put, List.getElem_toArray, List.getElem_cons_succ, List.getElem_cons_zero, List.setIfInBounds_toArray, List.set_cons_succ, List.set_cons_zero]
    refine wpAnyC_take 17 (.pointer (some ⟨S, 3, none⟩)) rfl (by kernel_rfl) (by kernel_rfl) (by kernel_rfl) (fun _ _ _ h => h) (wanted_free rfl _) (fun W hW => by go_simp) ?_
    try simp only [Act.put, List.getElem_toArray, List.getElem_cons_succ, List.getElem_cons_zero, List.setIfInBounds_toArray, List.set_cons_succ, List.set_cons_zero]
    refine wpAnyC_one 18 (trivial) rfl (by kernel_rfl) (wanted_free rfl _) (fun KA hKA => ?_)
    refine wp_store_cell rfl (b := S) (j := 3) (v := .int .u64 (g + 1)) rfl rfl rfl hXy1 (by simp [slC]) info22 (fun y2 hXy2 hgy2 => ?_)
    refine hKA _ _ ?_
    clear hKA KA
    try simp only [Act.put, List.getElem_toArray, List.getElem_cons_succ, List.getElem_cons_zero, List.setIfInBounds_toArray, List.set_cons_succ, List.set_cons_zero]
    refine wpAnyC_take 19 (.pointer (some ⟨S, 0, none⟩)) rfl (by kernel_rfl) (by kernel_rfl) (by kernel_rfl) (fun _ _ _ h => h) (wanted_free rfl _) (fun W hW => by go_simp) ?_
    try simp only [Act.put, List.getElem_toArray, List.getElem_cons_succ, List.getElem_cons_zero, List.setIfInBounds_toArray, List.set_cons_succ, List.set_cons_zero]
    refine wpAnyC_take 20 (.pointer (some ⟨S, 4, none⟩)) rfl (by kernel_rfl) (by kernel_rfl) (by kernel_rfl) (fun _ _ _ h => h) (wanted_free rfl _) (fun W hW => by go_simp) ?_
    try simp only [Act.put, List.getElem_toArray, List.getElem_cons_succ, List.getElem_cons_zero, List.setIfInBounds_toArray, List.set_cons_succ, List.set_cons_zero]
    refine wpAnyC_one 21 (trivial) rfl (by kernel_rfl) (wanted_free rfl _) (fun KA hKA => ?_)
    refine wp_store_cell rfl (b := S) (j := 4) (v := .int .i64 0) rfl rfl rfl hXy2 (by simp [slC]) info3 (fun y3 hXy3 hgy3 => ?_)
    refine hKA _ _ ?_
    clear hKA KA
    try simp only [Act.put, List.getElem_toArray, List.getElem_cons_succ, List.getElem_cons_zero, List.setIfInBounds_toArray, List.set_cons_succ, List.set_cons_zero]
    refine wpAnyC_done (trivial) (by kernel_rfl) ?_
    have hg3 := grown_twice (grown_twice hgy1 hgy2) hgy3
    have hSf : Kpt (Sl y3 S B tag3 f true (g + 1) 0) := ⟨⟨hXy3, hSt⟩⟩
    have hWf := Kpt.mk (hw3.out.own hg3 hSt)
    have hPf := Kpt.mk (hs3.out.own hg3 (.inr rfl))
    have c5 : y3.cell? ⟨S, 3, none⟩ = some (.int .u64 (g + 1)) := hSf.out.at.2.2.2.1
    clear hXy1 hXy2 hXy3 hgy1 hgy2 hgy3 hg3 c3 c4 hw3 hs3 hS3
    go_wp2_with fail
    go_ret2
    exact ⟨rfl, tag3, hWf.out, hPf.out, hSf.out⟩
end Go.Proofs.Ytndlpmnidpandaa
