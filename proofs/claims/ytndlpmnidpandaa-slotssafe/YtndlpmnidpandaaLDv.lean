/-
  Slots: write, Save where the power goes off at the Write or at the Sync.
-/
import Derived.Test.YtndlpmnidpandaaLDw
namespace Go.Proofs.Ytndlpmnidpandaa
open Go.RowKit
set_option linter.unusedVariables false
set_option linter.unusedSimpArgs false

/-- The state behind a save whose Sync found the power off. -/
def wrSt (st : St) (s : ByteArray) (R : List Int) : St := dnSt { st with seen := (Chg.wr s 0 R).run st.seen, waits := st.waits ++ [.wr s 0 R], ops := st.ops + 1, cnt := st.cnt + 2 }

set_option maxRecDepth 100000 in
set_option maxHeartbeats 2000000 in
theorem swrite_s0 (S B : Nat) (f : ByteArray) (kn : Bool) (g : Int) (gen : Int) (tag : Tags) (st : St) (w : World) (hS : Sl w S B tag f kn g 0)
    (h : Wd w B tag st) (hc : st.cnt < 500000000000) (hcw : st.waits.length < 1000000) (hf : st.fails st.ops = false) (hf2 : st.stop = st.ops + 1) (hof : st.off = false) (hwr : Wrs st.waits) (h1 : 1 ≤ f.size) (h2 : f.size ≤ 30)
    (hg0 : 0 ≤ gen) (hg1 : gen < 18446744073709551616) (a : Option Addr) (n c : Nat) (zs : List Int) (hrd : RdAt w (.slice a n c) zs) (hl : zs.length = n) (hn : n ≤ 4096) (hb : Bytes zs) :
    Calls Try.prog 34 #[.pointer (some ⟨S, 0, none⟩), .int .u64 gen, .slice a n c] w fun e w' => e = .returned (.int .i64 7) ∧ ∃ tag', Wd w' B tag' (wrSt st (f ++ ⟨#[46, 48]⟩) (recL gen zs)) ∧ Step w w' tag tag' (fun _ => True) := by
  have HE : Kpt (∀ W, Calls Try.prog 32 #[.int .i64 0] W fun e w' => e = .returned (.string ⟨#[46, 48]⟩) ∧ w' = W) := ⟨ending_0⟩
  have HRec := Kpt.mk (record_any gen a n c zs w hg0 hg1 hrd hl hn hb)
  have hfs : ¬ 9223372036854775807 < f.size + 2 := by omega
  have hsz : (f ++ ⟨#[46, 48]⟩).size = f.size + 2 := by rw [ByteArray.size_append, size_end0]
  obtain ⟨R, hR⟩ : ∃ R, R = recL gen zs := ⟨_, rfl⟩
  have hRl : R.length = 20 + n := by rw [hR, recL_len, hl]
  obtain ⟨L, hL⟩ : ∃ L, L = 20 + n := ⟨_, rfl⟩
  rw [← hR, ← hL] at HRec
  rw [← hR]
  rw [← hL] at hRl
  have hLn : L ≤ 4116 := by omega
  have HW : Kpt (∀ W g7, Wd W B tag st → W.ownsRow w.heap.size 5 1 (.slice (some ⟨g7, 0, none⟩) L L) L (cels R) → Calls Try.prog 22 #[.pointer (some ⟨B, 0, none⟩), .string (f ++ ⟨#[46, 48]⟩), .int .i64 0, .slice (some ⟨g7, 0, none⟩) L L] W fun e w' => e = .returned (.int .i64 0) ∧ ∃ tag', Wd w' B tag' { st with seen := (Chg.wr (f ++ ⟨#[46, 48]⟩) 0 R).run st.seen, waits := st.waits ++ [.wr (f ++ ⟨#[46, 48]⟩) 0 R], ops := st.ops + 1, cnt := st.cnt + 2 } ∧ Step W w' tag tag' (fun _ => True)) := ⟨fun W g7 hW ho => by
    have hg7 : w.heap.size ≤ g7 := by
      rcases ho.2 with ⟨e, _⟩ | ⟨g', cap, cur, e, hb, _⟩
      · cases e
      · cases e; exact hb
    have ht : tag g7 = none := wd_none h hg7
    have hx := write_any W B tag st hW (by omega) (f ++ ⟨#[46, 48]⟩) (by rw [hsz]; omega) (by rw [hsz]; omega) 0 (.slice (some ⟨g7, 0, none⟩) L L) R (own_rd ho) (fun _ q hq => by simp [Value.ownBlock] at hq; subst hq; exact ht) (by rw [hRl]; omega) (hW.live hf)
    rw [hf] at hx
    simp only [Bool.false_eq_true, if_false] at hx
    rw [cast0] at hx
    exact hx⟩
  have HY : Kpt (∀ W tag1, Wd W B tag1 { st with seen := (Chg.wr (f ++ ⟨#[46, 48]⟩) 0 R).run st.seen, waits := st.waits ++ [.wr (f ++ ⟨#[46, 48]⟩) 0 R], ops := st.ops + 1, cnt := st.cnt + 2 } → Calls Try.prog 49 #[.pointer (some ⟨B, 0, none⟩)] W fun e w' => e = .returned (.int .i64 7) ∧ ∃ tag', Wd w' B tag' (wrSt st (f ++ ⟨#[46, 48]⟩) R) ∧ Step W w' tag1 tag' (fun _ => True)) := ⟨fun W tag1 hW => by
    refine (sync_down W B tag1 _ hW (by show st.cnt + 2 < _; omega) hf2 hof).mono ?_
    rintro e w' ⟨rfl, h1, h2⟩
    exact ⟨rfl, tag1, h1, h2⟩⟩
  obtain ⟨stA, hstA⟩ : ∃ s, s = ({ st with seen := (Chg.wr (f ++ ⟨#[46, 48]⟩) 0 R).run st.seen, waits := st.waits ++ [.wr (f ++ ⟨#[46, 48]⟩) 0 R], ops := st.ops + 1, cnt := st.cnt + 2 } : St) := ⟨_, rfl⟩
  rw [← hstA] at HW HY
  have HS := Kpt.mk hS
  have HWd := Kpt.mk h
  replace hRl := Kpt.mk hRl
  clear hS h hc hcw hf hf2 hof hwr hsz hR hstA hL hrd hl hb
  go_enter Try.func34, Try.ntmps34
  go_wp2_with (go_at_call 8; refine HRec.out.mono ?_; rintro e w1 ⟨g7, rfl, hown, hB1⟩; have hw1 := Kpt.mk (HWd.out.below hB1); have hS1 := Kpt.mk (HS.out.below hB1); have hs1 := Kpt.mk (step_below hB1 tag (fun _ => True)); replace hown := Kpt.mk hown; have hC0 : w1.cell? ⟨S, 0, none⟩ = some (.pointer (some ⟨B, 0, none⟩)) ∧ w1.cell? ⟨S, 1, none⟩ = some (.string f) ∧ w1.cell? ⟨S, 4, none⟩ = some (.int .i64 0) := ⟨hS1.out.at.1, hS1.out.at.2.1, hS1.out.at.2.2.2.2⟩; clear hB1 HRec HS HWd)
  refine wp_region_any (by kernel_rfl) ?_
  refine wpAny_of_C (C := fun W => W.cell? ⟨S, 0, none⟩ = some (.pointer (some ⟨B, 0, none⟩)) ∧ W.cell? ⟨S, 1, none⟩ = some (.string f) ∧ W.cell? ⟨S, 4, none⟩ = some (.int .i64 0)) _ _ _ _ ?_
  refine wpAnyC_take 0 (.pointer (some ⟨S, 0, none⟩)) rfl (by kernel_rfl) (by kernel_rfl) (by kernel_rfl) (fun _ _ _ h => h) (wanted_free rfl _) (fun W hW => by go_simp) ?_
  try simp only [Act.put, List.getElem_toArray, List.getElem_cons_succ, List.getElem_cons_zero, List.setIfInBounds_toArray, List.set_cons_succ, List.set_cons_zero]
  refine wpAnyC_take 1 (.pointer (some ⟨S, 0, none⟩)) rfl (by kernel_rfl) (by kernel_rfl) (by kernel_rfl) (fun _ _ _ h => h) (wanted_free rfl _) (fun W hW => by go_simp) ?_
  try simp only [Act.put, List.getElem_toArray, List.getElem_cons_succ, List.getElem_cons_zero, List.setIfInBounds_toArray, List.set_cons_succ, List.set_cons_zero]
  refine wpAnyC_take 2 (.pointer (some ⟨S, 0, none⟩)) rfl (by kernel_rfl) (by kernel_rfl) (by kernel_rfl) (fun _ _ _ h => h) (wanted_free rfl _) (fun W hW => by go_simp) ?_
  try simp only [Act.put, List.getElem_toArray, List.getElem_cons_succ, List.getElem_cons_zero, List.setIfInBounds_toArray, List.set_cons_succ, List.set_cons_zero]
  refine wpAnyC_take 3 (.pointer (some ⟨B, 0, none⟩)) rfl (by kernel_rfl) (by kernel_rfl) (by kernel_rfl) (fun _ _ _ h => h) (wanted_free rfl _) (fun W hW => by have h := hW.1; go_simp) ?_
  try simp only [Act.put, List.getElem_toArray, List.getElem_cons_succ, List.getElem_cons_zero, List.setIfInBounds_toArray, List.set_cons_succ, List.set_cons_zero]
  refine wpAnyC_take 4 (.pointer (some ⟨S, 0, none⟩)) rfl (by kernel_rfl) (by kernel_rfl) (by kernel_rfl) (fun _ _ _ h => h) (wanted_free rfl _) (fun W hW => by go_simp) ?_
  try simp only [Act.put, List.getElem_toArray, List.getElem_cons_succ, List.getElem_cons_zero, List.setIfInBounds_toArray, List.set_cons_succ, List.set_cons_zero]
  refine wpAnyC_take 5 (.pointer (some ⟨S, 0, none⟩)) rfl (by kernel_rfl) (by kernel_rfl) (by kernel_rfl) (fun _ _ _ h => h) (wanted_free rfl _) (fun W hW => by go_simp) ?_
  try simp only [Act.put, List.getElem_toArray, List.getElem_cons_succ, List.getElem_cons_zero, List.setIfInBounds_toArray, List.set_cons_succ, List.set_cons_zero]
  refine wpAnyC_take 6 (.pointer (some ⟨S, 1, none⟩)) rfl (by kernel_rfl) (by kernel_rfl) (by kernel_rfl) (fun _ _ _ h => h) (wanted_free rfl _) (fun W hW => by go_simp) ?_
  try simp only [Act.put, List.getElem_toArray, List.getElem_cons_succ, List.getElem_cons_zero, List.setIfInBounds_toArray, List.set_cons_succ, List.set_cons_zero]
  refine wpAnyC_take 7 (.string f) rfl (by kernel_rfl) (by kernel_rfl) (by kernel_rfl) (fun _ _ _ h => h) (wanted_free rfl _) (fun W hW => by have h := hW.2.1; go_simp) ?_
  try simp only [Act.put, List.getElem_toArray, List.getElem_cons_succ, List.getElem_cons_zero, List.setIfInBounds_toArray, List.set_cons_succ, List.set_cons_zero]
  refine wpAnyC_take 8 (.pointer (some ⟨S, 0, none⟩)) rfl (by kernel_rfl) (by kernel_rfl) (by kernel_rfl) (fun _ _ _ h => h) (wanted_free rfl _) (fun W hW => by go_simp) ?_
  try simp only [Act.put, List.getElem_toArray, List.getElem_cons_succ, List.getElem_cons_zero, List.setIfInBounds_toArray, List.set_cons_succ, List.set_cons_zero]
  refine wpAnyC_take 9 (.pointer (some ⟨S, 0, none⟩)) rfl (by kernel_rfl) (by kernel_rfl) (by kernel_rfl) (fun _ _ _ h => h) (wanted_free rfl _) (fun W hW => by go_simp) ?_
  try simp only [Act.put, List.getElem_toArray, List.getElem_cons_succ, List.getElem_cons_zero, List.setIfInBounds_toArray, List.set_cons_succ, List.set_cons_zero]
  refine wpAnyC_take 10 (.pointer (some ⟨S, 4, none⟩)) rfl (by kernel_rfl) (by kernel_rfl) (by kernel_rfl) (fun _ _ _ h => h) (wanted_free rfl _) (fun W hW => by go_simp) ?_
  try simp only [Act.put, List.getElem_toArray, List.getElem_cons_succ, List.getElem_cons_zero, List.setIfInBounds_toArray, List.set_cons_succ, List.set_cons_zero]
  refine wpAnyC_take 11 (.int .i64 0) rfl (by kernel_rfl) (by kernel_rfl) (by kernel_rfl) (fun _ _ _ h => h) (wanted_free rfl _) (fun W hW => by have h := hW.2.2; go_simp) ?_
  try simp only [Act.put, List.getElem_toArray, List.getElem_cons_succ, List.getElem_cons_zero, List.setIfInBounds_toArray, List.set_cons_succ, List.set_cons_zero]
  refine wpAnyC_take 14 (.slice (some ⟨g7, 0, none⟩) L L) rfl (by kernel_rfl) (by kernel_rfl) (by kernel_rfl) (fun _ _ _ h => h) (wanted_free rfl _) (fun W hW => by go_simp) ?_
  try simp only [Act.put, List.getElem_toArray, List.getElem_cons_succ, List.getElem_cons_zero, List.setIfInBounds_toArray, List.set_cons_succ, List.set_cons_zero]
  refine wpAnyC_one 12 (hC0) rfl (by kernel_rfl) (wanted_free rfl _) (fun KA hKA => ?_)
  go_simp
  refine (HE.out _).mono ?_
  rintro e y1 ⟨rfl, h9⟩
  have h9s := h9.symm
  subst h9s
  refine hKA _ _ ?_
  clear hKA KA
  try simp only [Act.put, List.getElem_toArray, List.getElem_cons_succ, List.getElem_cons_zero, List.setIfInBounds_toArray, List.set_cons_succ, List.set_cons_zero]
  refine wpAnyC_take 13 (.string (f ++ ⟨#[46, 48]⟩)) rfl (by kernel_rfl) (by kernel_rfl) (by kernel_rfl) (fun _ _ _ h => h) (wanted_free rfl _) (fun W hW => by go_simp) ?_
  try simp only [Act.put, List.getElem_toArray, List.getElem_cons_succ, List.getElem_cons_zero, List.setIfInBounds_toArray, List.set_cons_succ, List.set_cons_zero]
  refine wpAnyC_one 15 (hC0) rfl (by kernel_rfl) (wanted_free rfl _) (fun KA hKA => ?_)
  go_simp
  refine (HW.out _ g7 (wd_drawn hw1.out _) (own_drawn hown.out _)).mono ?_
  rintro e y2 ⟨rfl, tag2, hw2, hst2⟩
  have hs2 := Kpt.mk ((step_drawn hs1.out _).trans hst2)
  have hS2 := Kpt.mk ((sl_drawn hS1.out _).step hst2)
  have hC2 : y2.cell? ⟨S, 0, none⟩ = some (.pointer (some ⟨B, 0, none⟩)) ∧ y2.cell? ⟨S, 1, none⟩ = some (.string f) ∧ y2.cell? ⟨S, 4, none⟩ = some (.int .i64 0) := ⟨hS2.out.at.1, hS2.out.at.2.1, hS2.out.at.2.2.2.2⟩
  replace hw2 := Kpt.mk hw2
  clear hst2 hs1 hS1 hw1 hown
  refine hKA _ _ ?_
  clear hKA KA
  try simp only [Act.put, List.getElem_toArray, List.getElem_cons_succ, List.getElem_cons_zero, List.setIfInBounds_toArray, List.set_cons_succ, List.set_cons_zero]
  refine wpAnyC_take 16 (.int .i64 0) rfl (by kernel_rfl) (by kernel_rfl) (by kernel_rfl) (fun _ _ _ h => h) (wanted_free rfl _) (fun W hW => by go_simp) ?_
  try simp only [Act.put, List.getElem_toArray, List.getElem_cons_succ, List.getElem_cons_zero, List.setIfInBounds_toArray, List.set_cons_succ, List.set_cons_zero]
  refine wpAnyC_done (hC2) (by kernel_rfl) ?_
  have hp := hC2.1
  go_wp2_with (go_at_call 49; refine (HY.out _ _ hw2.out).mono ?_; rintro e w3 ⟨rfl, tag3, hw3, hs3⟩; replace hw3 := Kpt.mk hw3; replace hs3 := Kpt.mk (hs2.out.trans hs3))
  go_ret
  exact ⟨rfl, tag3, hw3.out, hs3.out⟩

set_option maxRecDepth 100000 in
set_option maxHeartbeats 2000000 in
theorem swrite_s1 (S B : Nat) (f : ByteArray) (kn : Bool) (g : Int) (gen : Int) (tag : Tags) (st : St) (w : World) (hS : Sl w S B tag f kn g 1)
    (h : Wd w B tag st) (hc : st.cnt < 500000000000) (hcw : st.waits.length < 1000000) (hf : st.fails st.ops = false) (hf2 : st.stop = st.ops + 1) (hof : st.off = false) (hwr : Wrs st.waits) (h1 : 1 ≤ f.size) (h2 : f.size ≤ 30)
    (hg0 : 0 ≤ gen) (hg1 : gen < 18446744073709551616) (a : Option Addr) (n c : Nat) (zs : List Int) (hrd : RdAt w (.slice a n c) zs) (hl : zs.length = n) (hn : n ≤ 4096) (hb : Bytes zs) :
    Calls Try.prog 34 #[.pointer (some ⟨S, 0, none⟩), .int .u64 gen, .slice a n c] w fun e w' => e = .returned (.int .i64 7) ∧ ∃ tag', Wd w' B tag' (wrSt st (f ++ ⟨#[46, 49]⟩) (recL gen zs)) ∧ Step w w' tag tag' (fun _ => True) := by
  have HE : Kpt (∀ W, Calls Try.prog 32 #[.int .i64 1] W fun e w' => e = .returned (.string ⟨#[46, 49]⟩) ∧ w' = W) := ⟨ending_1⟩
  have HRec := Kpt.mk (record_any gen a n c zs w hg0 hg1 hrd hl hn hb)
  have hfs : ¬ 9223372036854775807 < f.size + 2 := by omega
  have hsz : (f ++ ⟨#[46, 49]⟩).size = f.size + 2 := by rw [ByteArray.size_append, size_end1]
  obtain ⟨R, hR⟩ : ∃ R, R = recL gen zs := ⟨_, rfl⟩
  have hRl : R.length = 20 + n := by rw [hR, recL_len, hl]
  obtain ⟨L, hL⟩ : ∃ L, L = 20 + n := ⟨_, rfl⟩
  rw [← hR, ← hL] at HRec
  rw [← hR]
  rw [← hL] at hRl
  have hLn : L ≤ 4116 := by omega
  have HW : Kpt (∀ W g7, Wd W B tag st → W.ownsRow w.heap.size 5 1 (.slice (some ⟨g7, 0, none⟩) L L) L (cels R) → Calls Try.prog 22 #[.pointer (some ⟨B, 0, none⟩), .string (f ++ ⟨#[46, 49]⟩), .int .i64 0, .slice (some ⟨g7, 0, none⟩) L L] W fun e w' => e = .returned (.int .i64 0) ∧ ∃ tag', Wd w' B tag' { st with seen := (Chg.wr (f ++ ⟨#[46, 49]⟩) 0 R).run st.seen, waits := st.waits ++ [.wr (f ++ ⟨#[46, 49]⟩) 0 R], ops := st.ops + 1, cnt := st.cnt + 2 } ∧ Step W w' tag tag' (fun _ => True)) := ⟨fun W g7 hW ho => by
    have hg7 : w.heap.size ≤ g7 := by
      rcases ho.2 with ⟨e, _⟩ | ⟨g', cap, cur, e, hb, _⟩
      · cases e
      · cases e; exact hb
    have ht : tag g7 = none := wd_none h hg7
    have hx := write_any W B tag st hW (by omega) (f ++ ⟨#[46, 49]⟩) (by rw [hsz]; omega) (by rw [hsz]; omega) 0 (.slice (some ⟨g7, 0, none⟩) L L) R (own_rd ho) (fun _ q hq => by simp [Value.ownBlock] at hq; subst hq; exact ht) (by rw [hRl]; omega) (hW.live hf)
    rw [hf] at hx
    simp only [Bool.false_eq_true, if_false] at hx
    rw [cast0] at hx
    exact hx⟩
  have HY : Kpt (∀ W tag1, Wd W B tag1 { st with seen := (Chg.wr (f ++ ⟨#[46, 49]⟩) 0 R).run st.seen, waits := st.waits ++ [.wr (f ++ ⟨#[46, 49]⟩) 0 R], ops := st.ops + 1, cnt := st.cnt + 2 } → Calls Try.prog 49 #[.pointer (some ⟨B, 0, none⟩)] W fun e w' => e = .returned (.int .i64 7) ∧ ∃ tag', Wd w' B tag' (wrSt st (f ++ ⟨#[46, 49]⟩) R) ∧ Step W w' tag1 tag' (fun _ => True)) := ⟨fun W tag1 hW => by
    refine (sync_down W B tag1 _ hW (by show st.cnt + 2 < _; omega) hf2 hof).mono ?_
    rintro e w' ⟨rfl, h1, h2⟩
    exact ⟨rfl, tag1, h1, h2⟩⟩
  obtain ⟨stA, hstA⟩ : ∃ s, s = ({ st with seen := (Chg.wr (f ++ ⟨#[46, 49]⟩) 0 R).run st.seen, waits := st.waits ++ [.wr (f ++ ⟨#[46, 49]⟩) 0 R], ops := st.ops + 1, cnt := st.cnt + 2 } : St) := ⟨_, rfl⟩
  rw [← hstA] at HW HY
  have HS := Kpt.mk hS
  have HWd := Kpt.mk h
  replace hRl := Kpt.mk hRl
  clear hS h hc hcw hf hf2 hof hwr hsz hR hstA hL hrd hl hb
  go_enter Try.func34, Try.ntmps34
  go_wp2_with (go_at_call 8; refine HRec.out.mono ?_; rintro e w1 ⟨g7, rfl, hown, hB1⟩; have hw1 := Kpt.mk (HWd.out.below hB1); have hS1 := Kpt.mk (HS.out.below hB1); have hs1 := Kpt.mk (step_below hB1 tag (fun _ => True)); replace hown := Kpt.mk hown; have hC0 : w1.cell? ⟨S, 0, none⟩ = some (.pointer (some ⟨B, 0, none⟩)) ∧ w1.cell? ⟨S, 1, none⟩ = some (.string f) ∧ w1.cell? ⟨S, 4, none⟩ = some (.int .i64 1) := ⟨hS1.out.at.1, hS1.out.at.2.1, hS1.out.at.2.2.2.2⟩; clear hB1 HRec HS HWd)
  refine wp_region_any (by kernel_rfl) ?_
  refine wpAny_of_C (C := fun W => W.cell? ⟨S, 0, none⟩ = some (.pointer (some ⟨B, 0, none⟩)) ∧ W.cell? ⟨S, 1, none⟩ = some (.string f) ∧ W.cell? ⟨S, 4, none⟩ = some (.int .i64 1)) _ _ _ _ ?_
  refine wpAnyC_take 0 (.pointer (some ⟨S, 0, none⟩)) rfl (by kernel_rfl) (by kernel_rfl) (by kernel_rfl) (fun _ _ _ h => h) (wanted_free rfl _) (fun W hW => by go_simp) ?_
  try simp only [Act.put, List.getElem_toArray, List.getElem_cons_succ, List.getElem_cons_zero, List.setIfInBounds_toArray, List.set_cons_succ, List.set_cons_zero]
  refine wpAnyC_take 1 (.pointer (some ⟨S, 0, none⟩)) rfl (by kernel_rfl) (by kernel_rfl) (by kernel_rfl) (fun _ _ _ h => h) (wanted_free rfl _) (fun W hW => by go_simp) ?_
  try simp only [Act.put, List.getElem_toArray, List.getElem_cons_succ, List.getElem_cons_zero, List.setIfInBounds_toArray, List.set_cons_succ, List.set_cons_zero]
  refine wpAnyC_take 2 (.pointer (some ⟨S, 0, none⟩)) rfl (by kernel_rfl) (by kernel_rfl) (by kernel_rfl) (fun _ _ _ h => h) (wanted_free rfl _) (fun W hW => by go_simp) ?_
  try simp only [Act.put, List.getElem_toArray, List.getElem_cons_succ, List.getElem_cons_zero, List.setIfInBounds_toArray, List.set_cons_succ, List.set_cons_zero]
  refine wpAnyC_take 3 (.pointer (some ⟨B, 0, none⟩)) rfl (by kernel_rfl) (by kernel_rfl) (by kernel_rfl) (fun _ _ _ h => h) (wanted_free rfl _) (fun W hW => by have h := hW.1; go_simp) ?_
  try simp only [Act.put, List.getElem_toArray, List.getElem_cons_succ, List.getElem_cons_zero, List.setIfInBounds_toArray, List.set_cons_succ, List.set_cons_zero]
  refine wpAnyC_take 4 (.pointer (some ⟨S, 0, none⟩)) rfl (by kernel_rfl) (by kernel_rfl) (by kernel_rfl) (fun _ _ _ h => h) (wanted_free rfl _) (fun W hW => by go_simp) ?_
  try simp only [Act.put, List.getElem_toArray, List.getElem_cons_succ, List.getElem_cons_zero, List.setIfInBounds_toArray, List.set_cons_succ, List.set_cons_zero]
  refine wpAnyC_take 5 (.pointer (some ⟨S, 0, none⟩)) rfl (by kernel_rfl) (by kernel_rfl) (by kernel_rfl) (fun _ _ _ h => h) (wanted_free rfl _) (fun W hW => by go_simp) ?_
  try simp only [Act.put, List.getElem_toArray, List.getElem_cons_succ, List.getElem_cons_zero, List.setIfInBounds_toArray, List.set_cons_succ, List.set_cons_zero]
  refine wpAnyC_take 6 (.pointer (some ⟨S, 1, none⟩)) rfl (by kernel_rfl) (by kernel_rfl) (by kernel_rfl) (fun _ _ _ h => h) (wanted_free rfl _) (fun W hW => by go_simp) ?_
  try simp only [Act.put, List.getElem_toArray, List.getElem_cons_succ, List.getElem_cons_zero, List.setIfInBounds_toArray, List.set_cons_succ, List.set_cons_zero]
  refine wpAnyC_take 7 (.string f) rfl (by kernel_rfl) (by kernel_rfl) (by kernel_rfl) (fun _ _ _ h => h) (wanted_free rfl _) (fun W hW => by have h := hW.2.1; go_simp) ?_
  try simp only [Act.put, List.getElem_toArray, List.getElem_cons_succ, List.getElem_cons_zero, List.setIfInBounds_toArray, List.set_cons_succ, List.set_cons_zero]
  refine wpAnyC_take 8 (.pointer (some ⟨S, 0, none⟩)) rfl (by kernel_rfl) (by kernel_rfl) (by kernel_rfl) (fun _ _ _ h => h) (wanted_free rfl _) (fun W hW => by go_simp) ?_
  try simp only [Act.put, List.getElem_toArray, List.getElem_cons_succ, List.getElem_cons_zero, List.setIfInBounds_toArray, List.set_cons_succ, List.set_cons_zero]
  refine wpAnyC_take 9 (.pointer (some ⟨S, 0, none⟩)) rfl (by kernel_rfl) (by kernel_rfl) (by kernel_rfl) (fun _ _ _ h => h) (wanted_free rfl _) (fun W hW => by go_simp) ?_
  try simp only [Act.put, List.getElem_toArray, List.getElem_cons_succ, List.getElem_cons_zero, List.setIfInBounds_toArray, List.set_cons_succ, List.set_cons_zero]
  refine wpAnyC_take 10 (.pointer (some ⟨S, 4, none⟩)) rfl (by kernel_rfl) (by kernel_rfl) (by kernel_rfl) (fun _ _ _ h => h) (wanted_free rfl _) (fun W hW => by go_simp) ?_
  try simp only [Act.put, List.getElem_toArray, List.getElem_cons_succ, List.getElem_cons_zero, List.setIfInBounds_toArray, List.set_cons_succ, List.set_cons_zero]
  refine wpAnyC_take 11 (.int .i64 1) rfl (by kernel_rfl) (by kernel_rfl) (by kernel_rfl) (fun _ _ _ h => h) (wanted_free rfl _) (fun W hW => by have h := hW.2.2; go_simp) ?_
  try simp only [Act.put, List.getElem_toArray, List.getElem_cons_succ, List.getElem_cons_zero, List.setIfInBounds_toArray, List.set_cons_succ, List.set_cons_zero]
  refine wpAnyC_take 14 (.slice (some ⟨g7, 0, none⟩) L L) rfl (by kernel_rfl) (by kernel_rfl) (by kernel_rfl) (fun _ _ _ h => h) (wanted_free rfl _) (fun W hW => by go_simp) ?_
  try simp only [Act.put, List.getElem_toArray, List.getElem_cons_succ, List.getElem_cons_zero, List.setIfInBounds_toArray, List.set_cons_succ, List.set_cons_zero]
  refine wpAnyC_one 12 (hC0) rfl (by kernel_rfl) (wanted_free rfl _) (fun KA hKA => ?_)
  go_simp
  refine (HE.out _).mono ?_
  rintro e y1 ⟨rfl, h9⟩
  have h9s := h9.symm
  subst h9s
  refine hKA _ _ ?_
  clear hKA KA
  try simp only [Act.put, List.getElem_toArray, List.getElem_cons_succ, List.getElem_cons_zero, List.setIfInBounds_toArray, List.set_cons_succ, List.set_cons_zero]
  refine wpAnyC_take 13 (.string (f ++ ⟨#[46, 49]⟩)) rfl (by kernel_rfl) (by kernel_rfl) (by kernel_rfl) (fun _ _ _ h => h) (wanted_free rfl _) (fun W hW => by go_simp) ?_
  try simp only [Act.put, List.getElem_toArray, List.getElem_cons_succ, List.getElem_cons_zero, List.setIfInBounds_toArray, List.set_cons_succ, List.set_cons_zero]
  refine wpAnyC_one 15 (hC0) rfl (by kernel_rfl) (wanted_free rfl _) (fun KA hKA => ?_)
  go_simp
  refine (HW.out _ g7 (wd_drawn hw1.out _) (own_drawn hown.out _)).mono ?_
  rintro e y2 ⟨rfl, tag2, hw2, hst2⟩
  have hs2 := Kpt.mk ((step_drawn hs1.out _).trans hst2)
  have hS2 := Kpt.mk ((sl_drawn hS1.out _).step hst2)
  have hC2 : y2.cell? ⟨S, 0, none⟩ = some (.pointer (some ⟨B, 0, none⟩)) ∧ y2.cell? ⟨S, 1, none⟩ = some (.string f) ∧ y2.cell? ⟨S, 4, none⟩ = some (.int .i64 1) := ⟨hS2.out.at.1, hS2.out.at.2.1, hS2.out.at.2.2.2.2⟩
  replace hw2 := Kpt.mk hw2
  clear hst2 hs1 hS1 hw1 hown
  refine hKA _ _ ?_
  clear hKA KA
  try simp only [Act.put, List.getElem_toArray, List.getElem_cons_succ, List.getElem_cons_zero, List.setIfInBounds_toArray, List.set_cons_succ, List.set_cons_zero]
  refine wpAnyC_take 16 (.int .i64 0) rfl (by kernel_rfl) (by kernel_rfl) (by kernel_rfl) (fun _ _ _ h => h) (wanted_free rfl _) (fun W hW => by go_simp) ?_
  try simp only [Act.put, List.getElem_toArray, List.getElem_cons_succ, List.getElem_cons_zero, List.setIfInBounds_toArray, List.set_cons_succ, List.set_cons_zero]
  refine wpAnyC_done (hC2) (by kernel_rfl) ?_
  have hp := hC2.1
  go_wp2_with (go_at_call 49; refine (HY.out _ _ hw2.out).mono ?_; rintro e w3 ⟨rfl, tag3, hw3, hs3⟩; replace hw3 := Kpt.mk hw3; replace hs3 := Kpt.mk (hs2.out.trans hs3))
  go_ret
  exact ⟨rfl, tag3, hw3.out, hs3.out⟩

set_option maxRecDepth 100000 in
set_option maxHeartbeats 2000000 in
/-- Save whose write finds the power off. -/
theorem save_dw (S B : Nat) (f : ByteArray) (g ix : Int) (tag : Tags) (st stX : St) (w : World) (hSl : S < w.heap.size) (hSn : tag S = none)
    (HL : Calls Try.prog 33 #[.pointer (some ⟨S, 0, none⟩)] w fun e w' => e = .returned (.int .i64 0) ∧ Wd w' B tag st ∧ Sp w w' S tag tag ∧ Sl w' S B tag f true g ix)
    (hg0 : 0 ≤ g) (hg1 : g < 9223372036854775807) (a : Option Addr) (n c : Nat) (zs : List Int) (hrd : RdAt w (.slice a n c) zs) (hn : n ≤ 4096)
    (hz : zs ≠ [] → ∀ q, (Value.slice a n c).ownBlock = some q → tag q = none ∧ q ≠ S)
    (HWr : ∀ W, Wd W B tag st → Sl W S B tag f false g ix → RdAt W (.slice a n c) zs → Calls Try.prog 34 #[.pointer (some ⟨S, 0, none⟩), .int .u64 (g + 1), .slice a n c] W fun e w' => e = .returned (.int .i64 7) ∧ ∃ tag', Wd w' B tag' stX ∧ Step W w' tag tag' (fun _ => True)) :
    Calls Try.prog 17 #[.pointer (some ⟨S, 0, none⟩), .slice a n c] w fun e w' => e = .returned (.tuple #[.int .u64 0, .int .i64 7]) ∧ ∃ tag', Wd w' B tag' stX ∧ Sp w w' S tag tag' := by
  have hwp : IntKind.u64.wrap (g + 1) = g + 1 := Go.Proofs.Ytndlpmnidpandaa.B.wrap64_id _ (by omega) (by omega)
  have nl : ¬ (4096 : Int) < n := by omega
  replace HWr := Kpt.mk HWr
  have HR : Kpt (∀ W, Sp w W S tag tag → RdAt W (.slice a n c) zs) := ⟨fun W h => hrd.sp h hz⟩
  replace HL := Kpt.mk HL
  replace hz := Kpt.mk hz
  clear hrd
  go_enter Try.func17, Try.ntmps17
  go_wp2_with (first
    | (have hm := m2; go_at_call 34; go_must (refine (HWr.out _ hw2.out hS2.out (HR.out _ hs2.out)).mono ?_; rintro e w3 ⟨rfl, tag3, hw3, hst3⟩; have hs3 := Kpt.mk (hs2.out.trans (hst3.sp S)); replace hw3 := Kpt.mk hw3; clear hst3 HWr hw2 hs2 hS2 hm m2))
    | (refine (?_ : wpList _ _ _ (Oper.mk none (Op.store 4 _ _) _ _ _ _ :: _) _ _); have hm := m1; go_must (refine wpList_store_cell rfl rfl S 2 (slC B f true g ix) (.bool false) rfl rfl rfl hS1.out.bx (by simp [slC]) info4 rfl ?_; intro w2 hX2 hg2; have hS2 : Kpt (Sl w2 S B tag f false g ix) := ⟨⟨hX2, hSn⟩⟩; have hw2 := Kpt.mk (hw1.out.own hg2 hSn); have hs2 := Kpt.mk (hs1.out.own hg2 (.inr rfl)); have c2 : w2.cell? ⟨S, 3, none⟩ = some (.int .u64 g) := hS2.out.at.2.2.2.1; clear hX2 hg2 hS1 hw1 hs1 hm m1; have m2 : Kpt True := ⟨trivial⟩))
    | (go_at_call 33; go_must (refine HL.out.mono ?_; rintro e w1 ⟨rfl, hw1, hs1, hS1⟩; replace hw1 := Kpt.mk hw1; replace hs1 := Kpt.mk hs1; replace hS1 := Kpt.mk hS1; clear HL; have m1 : Kpt True := ⟨trivial⟩)))
  go_ret2
  exact ⟨rfl, tag3, hw3.out, hs3.out⟩
end Go.Proofs.Ytndlpmnidpandaa
