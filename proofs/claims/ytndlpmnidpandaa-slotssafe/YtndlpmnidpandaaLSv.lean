/-
  Slots: learn, write, Save.
-/
import Derived.Test.YtndlpmnidpandaaLLd
namespace Go.Proofs.Ytndlpmnidpandaa
open Go.RowKit
set_option linter.unusedVariables false
set_option linter.unusedSimpArgs false

theorem learn_known (S B : Nat) (f : ByteArray) (g nx : Int) (tag : Tags) (w : World) (hS : Sl w S B tag f true g nx) :
    Calls Try.prog 33 #[.pointer (some ⟨S, 0, none⟩)] w fun e w' => e = .returned (.int .i64 0) ∧ w' = w := by
  have h2 := hS.at.2.2.1
  go_enter Try.func33, Try.ntmps33
  go_wp2
  go_ret
  exact ⟨rfl, rfl⟩

set_option maxRecDepth 100000 in
set_option maxHeartbeats 1000000 in
theorem learn_any (S B : Nat) (f : ByteArray) (g nx : Int) (tag : Tags) (st : St) (w : World) (hS : Sl w S B tag f false g nx)
    (h : Wd w B tag st) (hc : st.cnt < 500000000000) (hf : st.fails st.ops = false) (hf2 : st.fails (st.ops + 1) = false) (h1 : 1 ≤ f.size) (h2 : f.size ≤ 30) (hby : ∀ s zs, st.seen s = some zs → Bytes zs)
    (o0 o1 : Option (Int × List Int)) (ho0 : slotOf (st.seen (f ++ ⟨#[46, 48]⟩)) = o0) (ho1 : slotOf (st.seen (f ++ ⟨#[46, 49]⟩)) = o1) :
    Calls Try.prog 33 #[.pointer (some ⟨S, 0, none⟩)] w fun e w' => e = .returned (.int .i64 0) ∧ Wd w' B tag { st with ops := st.ops + 2, cnt := st.cnt + 2 } ∧ Sp w w' S tag tag ∧ Sl w' S B tag f true (gO (bestO o0 o1)) (bestN o0 o1) := by
  have HL := load_any S B f false g nx tag st w hS h hc hf hf2 h1 h2 hby o0 o1 ho0 ho1
  have hk := hS.at.2.2.1
  obtain ⟨ob, hob⟩ : ∃ x, x = bestO o0 o1 := ⟨_, rfl⟩
  obtain ⟨m, hm⟩ : ∃ m, m = (pO ob).length := ⟨_, rfl⟩
  rw [← hob, ← hm] at HL
  rw [← hob]
  cases hbs : ob.isSome with
  | true =>
    rw [hbs, if_pos rfl] at HL
    replace HL := Kpt.mk HL
    clear hS h hc hf hf2 hby ho0 ho1 hob hm hbs
    go_enter Try.func33, Try.ntmps33
    go_wp2_with (go_at_call 19; refine HL.out.mono ?_; rintro e w1 ⟨a, c, rfl, hp, hw, hs, hl⟩; replace hp := Kpt.mk hp; replace hw := Kpt.mk hw; replace hs := Kpt.mk hs; replace hl := Kpt.mk hl)
    go_ret
    exact ⟨rfl, hw.out, hs.out, hl.out⟩
  | false =>
    rw [hbs, if_neg (by simp)] at HL
    replace HL := Kpt.mk HL
    clear hS h hc hf hf2 hby ho0 ho1 hob hm hbs
    go_enter Try.func33, Try.ntmps33
    go_wp2_with (go_at_call 19; refine HL.out.mono ?_; rintro e w1 ⟨a, c, rfl, hp, hw, hs, hl⟩; replace hp := Kpt.mk hp; replace hw := Kpt.mk hw; replace hs := Kpt.mk hs; replace hl := Kpt.mk hl)
    go_ret
    exact ⟨rfl, hw.out, hs.out, hl.out⟩

theorem own_drawn {w : World} {b n : Nat} {v : Value} {xs : List Value} (h : w.ownsRow b 5 1 v n xs) (k : Nat) : ({ w with drawn := k } : World).ownsRow b 5 1 v n xs := ⟨h.1, h.2⟩
/-- The state behind a save. -/
def savSt (st : St) (s : ByteArray) (R : List Int) : St := { st with seen := (Chg.wr s 0 R).run st.seen, dur := runs (st.waits ++ [.wr s 0 R]) st.dur, waits := [], ops := st.ops + 2, cnt := st.cnt + 4 + st.waits.length }
theorem size_recL (g : Int) (zs : List Int) : 0 + (recL g zs).length = 20 + zs.length := by rw [recL_len]; omega

set_option maxRecDepth 100000 in
set_option maxHeartbeats 2000000 in
theorem swrite0 (S B : Nat) (f : ByteArray) (kn : Bool) (g : Int) (gen : Int) (tag : Tags) (st : St) (w : World) (hS : Sl w S B tag f kn g 0)
    (h : Wd w B tag st) (hc : st.cnt < 500000000000) (hcw : st.waits.length < 1000000) (hf : st.fails st.ops = false) (hf2 : st.fails (st.ops + 1) = false) (hwr : Wrs st.waits) (h1 : 1 ≤ f.size) (h2 : f.size ≤ 30)
    (hg0 : 0 ≤ gen) (hg1 : gen < 18446744073709551616) (a : Option Addr) (n c : Nat) (zs : List Int) (hrd : RdAt w (.slice a n c) zs) (hl : zs.length = n) (hn : n ≤ 4096) (hb : Bytes zs) :
    Calls Try.prog 34 #[.pointer (some ⟨S, 0, none⟩), .int .u64 gen, .slice a n c] w fun e w' => e = .returned (.int .i64 0) ∧ ∃ tag', Wd w' B tag' (savSt st (f ++ ⟨#[46, 48]⟩) (recL gen zs)) ∧ Step w w' tag tag' (fun _ => True) := by
  have HE : Kpt (∀ W, Calls Try.prog 32 #[.int .i64 0] W fun e w' => e = .returned (.string ⟨#[46, 48]⟩) ∧ w' = W) := ⟨ending_0⟩
  have HRec := Kpt.mk (record_any gen a n c zs w hg0 hg1 hrd hl hn hb)
  have hfs : ¬ 9223372036854775807 < f.size + 2 := by omega
  have hsz : (f ++ ⟨#[46, 48]⟩).size = f.size + 2 := by rw [ByteArray.size_append, size_end0]
  obtain ⟨R, hR⟩ : ∃ R, R = recL gen zs := ⟨_, rfl⟩
  have hRl : R.length = 20 + n := by rw [hR, recL_len, hl]
  obtain ⟨L, hL⟩ : ∃ L, L = 20 + n := ⟨_, rfl⟩
  rw [← hR, ← hL] at HRec
  rw [← hR]
  rw [← hL] at hRl
  have hLn : L ≤ 4116 := by omega
  have HW : Kpt (∀ W g7, Wd W B tag st → W.ownsRow w.heap.size 5 1 (.slice (some ⟨g7, 0, none⟩) L L) L (cels R) → Calls Try.prog 22 #[.pointer (some ⟨B, 0, none⟩), .string (f ++ ⟨#[46, 48]⟩), .int .i64 0, .slice (some ⟨g7, 0, none⟩) L L] W fun e w' => e = .returned (.int .i64 0) ∧ ∃ tag', Wd w' B tag' { st with seen := (Chg.wr (f ++ ⟨#[46, 48]⟩) 0 R).run st.seen, waits := st.waits ++ [.wr (f ++ ⟨#[46, 48]⟩) 0 R], ops := st.ops + 1, cnt := st.cnt + 2 } ∧ Step W w' tag tag' (fun _ => True)) := ⟨fun W g7 hW ho => by
    have hg7 : w.heap.size ≤ g7 := by
      rcases ho.2 with ⟨e, _⟩ | ⟨g', cap, cur, e, hb, _⟩
      · cases e
      · cases e; exact hb
    have ht : tag g7 = none := wd_none h hg7
    have hx := write_any W B tag st hW (by omega) (f ++ ⟨#[46, 48]⟩) (by rw [hsz]; omega) (by rw [hsz]; omega) 0 (.slice (some ⟨g7, 0, none⟩) L L) R (own_rd ho) (fun _ q hq => by simp [Value.ownBlock] at hq; subst hq; exact ht) (by rw [hRl]; omega) (hW.live hf)
    rw [hf] at hx
    simp only [Bool.false_eq_true, if_false] at hx
    rw [cast0] at hx
    exact hx⟩
  have HY : Kpt (∀ W tag1, Wd W B tag1 { st with seen := (Chg.wr (f ++ ⟨#[46, 48]⟩) 0 R).run st.seen, waits := st.waits ++ [.wr (f ++ ⟨#[46, 48]⟩) 0 R], ops := st.ops + 1, cnt := st.cnt + 2 } → Calls Try.prog 49 #[.pointer (some ⟨B, 0, none⟩)] W fun e w' => e = .returned (.int .i64 0) ∧ ∃ tag', Wd w' B tag' (savSt st (f ++ ⟨#[46, 48]⟩) R) ∧ Step W w' tag1 tag' (fun _ => True)) := ⟨fun W tag1 hW => by
    refine (sync_any W B tag1 _ hW (by simp; omega) hf2 (fun c hc => ?_)).mono ?_
    · simp only [List.mem_append, List.mem_singleton] at hc
      rcases hc with hc | rfl
      · exact hwr c hc
      · exact ⟨_, _, _, rfl⟩
    · rintro e w' ⟨rfl, tag', h1, h2⟩
      refine ⟨rfl, tag', ?_, h2⟩
      have e1 : st.ops + 1 + 1 = st.ops + 2 := by omega
      have e2 : st.cnt + 2 + 1 + (st.waits.length + 1) = st.cnt + 4 + st.waits.length := by omega
      simp only [List.length_append, List.length_cons, List.length_nil, Nat.zero_add, e1, e2] at h1
      exact h1⟩
  obtain ⟨stA, hstA⟩ : ∃ s, s = ({ st with seen := (Chg.wr (f ++ ⟨#[46, 48]⟩) 0 R).run st.seen, waits := st.waits ++ [.wr (f ++ ⟨#[46, 48]⟩) 0 R], ops := st.ops + 1, cnt := st.cnt + 2 } : St) := ⟨_, rfl⟩
  rw [← hstA] at HW HY
  have HS := Kpt.mk hS
  have HWd := Kpt.mk h
  replace hRl := Kpt.mk hRl
  clear hS h hc hcw hf hf2 hwr hsz hR hstA hL hrd hl hb
  go_enter Try.func34, Try.ntmps34
  go_wp2_with (go_at_call 8; refine HRec.out.mono ?_; rintro e w1 ⟨g7, rfl, hown, hB1⟩; have hw1 := Kpt.mk (HWd.out.below hB1); have hS1 := Kpt.mk (HS.out.below hB1); have hs1 := Kpt.mk (step_below hB1 tag (fun _ => True)); replace hown := Kpt.mk hown; have hC0 : w1.cell? ⟨S, 0, none⟩ = some (.pointer (some ⟨B, 0, none⟩)) ∧ w1.cell? ⟨S, 1, none⟩ = some (.string f) ∧ w1.cell? ⟨S, 4, none⟩ = some (.int .i64 0) := ⟨hS1.out.at.1, hS1.out.at.2.1, hS1.out.at.2.2.2.2⟩; clear hB1 HRec HS HWd)
  refine wp_region_any (by kernel_rfl) ?_
  refine wpAny_of_C (C := fun W => W.cell? ⟨S, 0, none⟩ = some (.pointer (some ⟨B, 0, none⟩)) ∧ W.cell? ⟨S, 1, none⟩ = some (.string f) ∧ W.cell? ⟨S, 4, none⟩ = some (.int .i64 0)) _ _ _ _ ?_
  refine wpAnyC_take 0 (.pointer (some ⟨S, 0, none⟩)) rfl (by kernel_rfl) (by kernel_rfl) (by kernel_rfl) (fun _ _ _ h => h) (wanted_free rfl _) (fun W hW => by go_simp) ?_
  try simp only [Act.put, List.getElem_toArray, List.getElem_cons_succ, List.getElem_cons_zero, List.setIfInBounds_toArray, List.set_cons_succ, List.set_cons_zero]
  refine wpAnyC_take 1 (.pointer (some ⟨S, 0, none⟩)) rfl (by kernel_rfl) (by kernel_rfl) (by kernel_rfl) (fun _ _ _ h => h) (wanted_free rfl _) (fun W hW => by go_simp) ?_
  try simp only [Act.put, List.getElem_toArray, List.getElem_cons_succ, List.getElem_cons_zero, List.setIfInBounds_toArray, List.set_cons_succ, List.set_cons_zero]
  refine wpAnyC_take 2 (.pointer (some ⟨S, 0, none⟩)) rfl (by kernel_rfl) (by kernel_rfl) (by kernel_rfl) (fun _ _ _ h => h) (wanted_free rfl _) (fun W hW => by go_simp) ?_
  try simp only [Act.put, List.getElem_toArray, List.getElem_cons_succ, List.getElem_cons_zero, List.setIfInBounds_toArray, List.set_cons_succ, List.set_cons_zero]
  refine wpAnyC_take 3 (.pointer (some ⟨B, 0, none⟩)) rfl (by kernel_rfl) (by kernel_rfl) (by kernel_rfl) (fun _ _ _ h => h) (wanted_free rfl _) (fun W hW => by have h := hW.1; go_simp) ?_
  try simp only [Act.put, List.getElem_toArray, List.getElem_cons_succ, List.getElem_cons_zero, List.setIfInBounds_toArray, List.set_cons_succ, List.set_cons_zero]
  refine wpAnyC_take 4 (.pointer (some ⟨S, 0, none⟩)) rfl (by kernel_rfl) (by kernel_rfl) (by kernel_rfl) (fun _ _ _ h => h) (wanted_free rfl _) (fun W hW => by go_simp) ?_
  try simp only [Act.put, List.getElem_toArray, List.getElem_cons_succ, List.getElem_cons_zero, List.setIfInBounds_toArray, List.set_cons_succ, List.set_cons_zero]
  refine wpAnyC_take 5 (.pointer (some ⟨S, 0, none⟩)) rfl (by kernel_rfl) (by kernel_rfl) (by kernel_rfl) (fun _ _ _ h => h) (wanted_free rfl _) (fun W hW => by go_simp) ?_
  try simp only [Act.put, List.getElem_toArray, List.getElem_cons_succ, List.getElem_cons_zero, List.setIfInBounds_toArray, List.set_cons_succ, List.set_cons_zero]
  refine wpAnyC_take 6 (.pointer (some ⟨S, 1, none⟩)) rfl (by kernel_rfl) (by kernel_rfl) (by kernel_rfl) (fun _ _ _ h => h) (wanted_free rfl _) (fun W hW => by go_simp) ?_
  try simp only [Act.put, List.getElem_toArray, List.getElem_cons_succ, List.getElem_cons_zero, List.setIfInBounds_toArray, List.set_cons_succ, List.set_cons_zero]
  refine wpAnyC_take 7 (.string f) rfl (by kernel_rfl) (by kernel_rfl) (by kernel_rfl) (fun _ _ _ h => h) (wanted_free rfl _) (fun W hW => by have h := hW.2.1; go_simp) ?_
  try simp only [Act.put, List.getElem_toArray, List.getElem_cons_succ, List.getElem_cons_zero, List.setIfInBounds_toArray, List.set_cons_succ, List.set_cons_zero]
  refine wpAnyC_take 8 (.pointer (some ⟨S, 0, none⟩)) rfl (by kernel_rfl) (by kernel_rfl) (by kernel_rfl) (fun _ _ _ h => h) (wanted_free rfl _) (fun W hW => by go_simp) ?_
  try simp only [Act.put, List.getElem_toArray, List.getElem_cons_succ, List.getElem_cons_zero, List.setIfInBounds_toArray, List.set_cons_succ, List.set_cons_zero]
  refine wpAnyC_take 9 (.pointer (some ⟨S, 0, none⟩)) rfl (by kernel_rfl) (by kernel_rfl) (by kernel_rfl) (fun _ _ _ h => h) (wanted_free rfl _) (fun W hW => by go_simp) ?_
  try simp only [Act.put, List.getElem_toArray, List.getElem_cons_succ, List.getElem_cons_zero, List.setIfInBounds_toArray, List.set_cons_succ, List.set_cons_zero]
  refine wpAnyC_take 10 (.pointer (some ⟨S, 4, none⟩)) rfl (by kernel_rfl) (by kernel_rfl) (by kernel_rfl) (fun _ _ _ h => h) (wanted_free rfl _) (fun W hW => by go_simp) ?_
  try simp only [Act.put, List.getElem_toArray, List.getElem_cons_succ, List.getElem_cons_zero, List.setIfInBounds_toArray, List.set_cons_succ, List.set_cons_zero]
  refine wpAnyC_take 11 (.int .i64 0) rfl (by kernel_rfl) (by kernel_rfl) (by kernel_rfl) (fun _ _ _ h => h) (wanted_free rfl _) (fun W hW => by have h := hW.2.2; go_simp) ?_
  try simp only [Act.put, List.getElem_toArray, List.getElem_cons_succ, List.getElem_cons_zero, List.setIfInBounds_toArray, List.set_cons_succ, List.set_cons_zero]
  refine wpAnyC_take 14 (.slice (some ⟨g7, 0, none⟩) L L) rfl (by kernel_rfl) (by kernel_rfl) (by kernel_rfl) (fun _ _ _ h => h) (wanted_free rfl _) (fun W hW => by go_simp) ?_
  try simp only [Act.put, List.getElem_toArray, List.getElem_cons_succ, List.getElem_cons_zero, List.setIfInBounds_toArray, List.set_cons_succ, List.set_cons_zero]
  refine wpAnyC_one 12 (hC0) rfl (by kernel_rfl) (wanted_free rfl _) (fun KA hKA => ?_)
  go_simp
  refine (HE.out _).mono ?_
  rintro e y1 ⟨rfl, h9⟩
  have h9s := h9.symm
  subst h9s
  refine hKA _ _ ?_
  clear hKA KA
  try simp only [Act.put, List.getElem_toArray, List.getElem_cons_succ, List.getElem_cons_zero, List.setIfInBounds_toArray, List.set_cons_succ, List.set_cons_zero]
  refine wpAnyC_take 13 (.string (f ++ ⟨#[46, 48]⟩)) rfl (by kernel_rfl) (by kernel_rfl) (by kernel_rfl) (fun _ _ _ h => h) (wanted_free rfl _) (fun W hW => by go_simp) ?_
  try simp only [Act.put, List.getElem_toArray, List.getElem_cons_succ, List.getElem_cons_zero, List.setIfInBounds_toArray, List.set_cons_succ, List.set_cons_zero]
  refine wpAnyC_one 15 (hC0) rfl (by kernel_rfl) (wanted_free rfl _) (fun KA hKA => ?_)
  go_simp
  refine (HW.out _ g7 (wd_drawn hw1.out _) (own_drawn hown.out _)).mono ?_
  rintro e y2 ⟨rfl, tag2, hw2, hst2⟩
  have hs2 := Kpt.mk ((step_drawn hs1.out _).trans hst2)
  have hS2 := Kpt.mk ((sl_drawn hS1.out _).step hst2)
  have hC2 : y2.cell? ⟨S, 0, none⟩ = some (.pointer (some ⟨B, 0, none⟩)) ∧ y2.cell? ⟨S, 1, none⟩ = some (.string f) ∧ y2.cell? ⟨S, 4, none⟩ = some (.int .i64 0) := ⟨hS2.out.at.1, hS2.out.at.2.1, hS2.out.at.2.2.2.2⟩
  replace hw2 := Kpt.mk hw2
  clear hst2 hs1 hS1 hw1 hown
  refine hKA _ _ ?_
  clear hKA KA
  try simp only [Act.put, List.getElem_toArray, List.getElem_cons_succ, List.getElem_cons_zero, List.setIfInBounds_toArray, List.set_cons_succ, List.set_cons_zero]
  refine wpAnyC_take 16 (.int .i64 0) rfl (by kernel_rfl) (by kernel_rfl) (by kernel_rfl) (fun _ _ _ h => h) (wanted_free rfl _) (fun W hW => by go_simp) ?_
  try simp only [Act.put, List.getElem_toArray, List.getElem_cons_succ, List.getElem_cons_zero, List.setIfInBounds_toArray, List.set_cons_succ, List.set_cons_zero]
  refine wpAnyC_done (hC2) (by kernel_rfl) ?_
  have hp := hC2.1
  go_wp2_with (go_at_call 49; refine (HY.out _ _ hw2.out).mono ?_; rintro e w3 ⟨rfl, tag3, hw3, hs3⟩; replace hw3 := Kpt.mk hw3; replace hs3 := Kpt.mk (hs2.out.trans hs3))
  go_ret
  exact ⟨rfl, tag3, hw3.out, hs3.out⟩

set_option maxRecDepth 100000 in
set_option maxHeartbeats 2000000 in
theorem swrite1 (S B : Nat) (f : ByteArray) (kn : Bool) (g : Int) (gen : Int) (tag : Tags) (st : St) (w : World) (hS : Sl w S B tag f kn g 1)
    (h : Wd w B tag st) (hc : st.cnt < 500000000000) (hcw : st.waits.length < 1000000) (hf : st.fails st.ops = false) (hf2 : st.fails (st.ops + 1) = false) (hwr : Wrs st.waits) (h1 : 1 ≤ f.size) (h2 : f.size ≤ 30)
    (hg0 : 0 ≤ gen) (hg1 : gen < 18446744073709551616) (a : Option Addr) (n c : Nat) (zs : List Int) (hrd : RdAt w (.slice a n c) zs) (hl : zs.length = n) (hn : n ≤ 4096) (hb : Bytes zs) :
    Calls Try.prog 34 #[.pointer (some ⟨S, 0, none⟩), .int .u64 gen, .slice a n c] w fun e w' => e = .returned (.int .i64 0) ∧ ∃ tag', Wd w' B tag' (savSt st (f ++ ⟨#[46, 49]⟩) (recL gen zs)) ∧ Step w w' tag tag' (fun _ => True) := by
  have HE : Kpt (∀ W, Calls Try.prog 32 #[.int .i64 1] W fun e w' => e = .returned (.string ⟨#[46, 49]⟩) ∧ w' = W) := ⟨ending_1⟩
  have HRec := Kpt.mk (record_any gen a n c zs w hg0 hg1 hrd hl hn hb)
  have hfs : ¬ 9223372036854775807 < f.size + 2 := by omega
  have hsz : (f ++ ⟨#[46, 49]⟩).size = f.size + 2 := by rw [ByteArray.size_append, size_end1]
  obtain ⟨R, hR⟩ : ∃ R, R = recL gen zs := ⟨_, rfl⟩
  have hRl : R.length = 20 + n := by rw [hR, recL_len, hl]
  obtain ⟨L, hL⟩ : ∃ L, L = 20 + n := ⟨_, rfl⟩
  rw [← hR, ← hL] at HRec
  rw [← hR]
  rw [← hL] at hRl
  have hLn : L ≤ 4116 := by omega
  have HW : Kpt (∀ W g7, Wd W B tag st → W.ownsRow w.heap.size 5 1 (.slice (some ⟨g7, 0, none⟩) L L) L (cels R) → Calls Try.prog 22 #[.pointer (some ⟨B, 0, none⟩), .string (f ++ ⟨#[46, 49]⟩), .int .i64 0, .slice (some ⟨g7, 0, none⟩) L L] W fun e w' => e = .returned (.int .i64 0) ∧ ∃ tag', Wd w' B tag' { st with seen := (Chg.wr (f ++ ⟨#[46, 49]⟩) 0 R).run st.seen, waits := st.waits ++ [.wr (f ++ ⟨#[46, 49]⟩) 0 R], ops := st.ops + 1, cnt := st.cnt + 2 } ∧ Step W w' tag tag' (fun _ => True)) := ⟨fun W g7 hW ho => by
    have hg7 : w.heap.size ≤ g7 := by
      rcases ho.2 with ⟨e, _⟩ | ⟨g', cap, cur, e, hb, _⟩
      · cases e
      · cases e; exact hb
    have ht : tag g7 = none := wd_none h hg7
    have hx := write_any W B tag st hW (by omega) (f ++ ⟨#[46, 49]⟩) (by rw [hsz]; omega) (by rw [hsz]; omega) 0 (.slice (some ⟨g7, 0, none⟩) L L) R (own_rd ho) (fun _ q hq => by simp [Value.ownBlock] at hq; subst hq; exact ht) (by rw [hRl]; omega) (hW.live hf)
    rw [hf] at hx
    simp only [Bool.false_eq_true, if_false] at hx
    rw [cast0] at hx
    exact hx⟩
  have HY : Kpt (∀ W tag1, Wd W B tag1 { st with seen := (Chg.wr (f ++ ⟨#[46, 49]⟩) 0 R).run st.seen, waits := st.waits ++ [.wr (f ++ ⟨#[46, 49]⟩) 0 R], ops := st.ops + 1, cnt := st.cnt + 2 } → Calls Try.prog 49 #[.pointer (some ⟨B, 0, none⟩)] W fun e w' => e = .returned (.int .i64 0) ∧ ∃ tag', Wd w' B tag' (savSt st (f ++ ⟨#[46, 49]⟩) R) ∧ Step W w' tag1 tag' (fun _ => True)) := ⟨fun W tag1 hW => by
    refine (sync_any W B tag1 _ hW (by simp; omega) hf2 (fun c hc => ?_)).mono ?_
    · simp only [List.mem_append, List.mem_singleton] at hc
      rcases hc with hc | rfl
      · exact hwr c hc
      · exact ⟨_, _, _, rfl⟩
    · rintro e w' ⟨rfl, tag', h1, h2⟩
      refine ⟨rfl, tag', ?_, h2⟩
      have e1 : st.ops + 1 + 1 = st.ops + 2 := by omega
      have e2 : st.cnt + 2 + 1 + (st.waits.length + 1) = st.cnt + 4 + st.waits.length := by omega
      simp only [List.length_append, List.length_cons, List.length_nil, Nat.zero_add, e1, e2] at h1
      exact h1⟩
  obtain ⟨stA, hstA⟩ : ∃ s, s = ({ st with seen := (Chg.wr (f ++ ⟨#[46, 49]⟩) 0 R).run st.seen, waits := st.waits ++ [.wr (f ++ ⟨#[46, 49]⟩) 0 R], ops := st.ops + 1, cnt := st.cnt + 2 } : St) := ⟨_, rfl⟩
  rw [← hstA] at HW HY
  have HS := Kpt.mk hS
  have HWd := Kpt.mk h
  replace hRl := Kpt.mk hRl
  clear hS h hc hcw hf hf2 hwr hsz hR hstA hL hrd hl hb
  go_enter Try.func34, Try.ntmps34
  go_wp2_with (go_at_call 8; refine HRec.out.mono ?_; rintro e w1 ⟨g7, rfl, hown, hB1⟩; have hw1 := Kpt.mk (HWd.out.below hB1); have hS1 := Kpt.mk (HS.out.below hB1); have hs1 := Kpt.mk (step_below hB1 tag (fun _ => True)); replace hown := Kpt.mk hown; have hC0 : w1.cell? ⟨S, 0, none⟩ = some (.pointer (some ⟨B, 0, none⟩)) ∧ w1.cell? ⟨S, 1, none⟩ = some (.string f) ∧ w1.cell? ⟨S, 4, none⟩ = some (.int .i64 1) := ⟨hS1.out.at.1, hS1.out.at.2.1, hS1.out.at.2.2.2.2⟩; clear hB1 HRec HS HWd)
  refine wp_region_any (by kernel_rfl) ?_
  refine wpAny_of_C (C := fun W => W.cell? ⟨S, 0, none⟩ = some (.pointer (some ⟨B, 0, none⟩)) ∧ W.cell? ⟨S, 1, none⟩ = some (.string f) ∧ W.cell? ⟨S, 4, none⟩ = some (.int .i64 1)) _ _ _ _ ?_
  refine wpAnyC_take 0 (.pointer (some ⟨S, 0, none⟩)) rfl (by kernel_rfl) (by kernel_rfl) (by kernel_rfl) (fun _ _ _ h => h) (wanted_free rfl _) (fun W hW => by go_simp) ?_
  try simp only [Act.put, List.getElem_toArray, List.getElem_cons_succ, List.getElem_cons_zero, List.setIfInBounds_toArray, List.set_cons_succ, List.set_cons_zero]
  refine wpAnyC_take 1 (.pointer (some ⟨S, 0, none⟩)) rfl (by kernel_rfl) (by kernel_rfl) (by kernel_rfl) (fun _ _ _ h => h) (wanted_free rfl _) (fun W hW => by go_simp) ?_
  try simp only [Act.put, List.getElem_toArray, List.getElem_cons_succ, List.getElem_cons_zero, List.setIfInBounds_toArray, List.set_cons_succ, List.set_cons_zero]
  refine wpAnyC_take 2 (.pointer (some ⟨S, 0, none⟩)) rfl (by kernel_rfl) (by kernel_rfl) (by kernel_rfl) (fun _ _ _ h => h) (wanted_free rfl _) (fun W hW => by go_simp) ?_
  try simp only [Act.put, List.getElem_toArray, List.getElem_cons_succ, List.getElem_cons_zero, List.setIfInBounds_toArray, List.set_cons_succ, List.set_cons_zero]
  refine wpAnyC_take 3 (.pointer (some ⟨B, 0, none⟩)) rfl (by kernel_rfl) (by kernel_rfl) (by kernel_rfl) (fun _ _ _ h => h) (wanted_free rfl _) (fun W hW => by have h := hW.1; go_simp) ?_
  try simp only [Act.put, List.getElem_toArray, List.getElem_cons_succ, List.getElem_cons_zero, List.setIfInBounds_toArray, List.set_cons_succ, List.set_cons_zero]
  refine wpAnyC_take 4 (.pointer (some ⟨S, 0, none⟩)) rfl (by kernel_rfl) (by kernel_rfl) (by kernel_rfl) (fun _ _ _ h => h) (wanted_free rfl _) (fun W hW => by go_simp) ?_
  try simp only [Act.put, List.getElem_toArray, List.getElem_cons_succ, List.getElem_cons_zero, List.setIfInBounds_toArray, List.set_cons_succ, List.set_cons_zero]
  refine wpAnyC_take 5 (.pointer (some ⟨S, 0, none⟩)) rfl (by kernel_rfl) (by kernel_rfl) (by kernel_rfl) (fun _ _ _ h => h) (wanted_free rfl _) (fun W hW => by go_simp) ?_
  try simp only [Act.put, List.getElem_toArray, List.getElem_cons_succ, List.getElem_cons_zero, List.setIfInBounds_toArray, List.set_cons_succ, List.set_cons_zero]
  refine wpAnyC_take 6 (.pointer (some ⟨S, 1, none⟩)) rfl (by kernel_rfl) (by kernel_rfl) (by kernel_rfl) (fun _ _ _ h => h) (wanted_free rfl _) (fun W hW => by go_simp) ?_
  try simp only [Act.put, List.getElem_toArray, List.getElem_cons_succ, List.getElem_cons_zero, List.setIfInBounds_toArray, List.set_cons_succ, List.set_cons_zero]
  refine wpAnyC_take 7 (.string f) rfl (by kernel_rfl) (by kernel_rfl) (by kernel_rfl) (fun _ _ _ h => h) (wanted_free rfl _) (fun W hW => by have h := hW.2.1; go_simp) ?_
  try simp only [Act.put, List.getElem_toArray, List.getElem_cons_succ, List.getElem_cons_zero, List.setIfInBounds_toArray, List.set_cons_succ, List.set_cons_zero]
  refine wpAnyC_take 8 (.pointer (some ⟨S, 0, none⟩)) rfl (by kernel_rfl) (by kernel_rfl) (by kernel_rfl) (fun _ _ _ h => h) (wanted_free rfl _) (fun W hW => by go_simp) ?_
  try simp only [Act.put, List.getElem_toArray, List.getElem_cons_succ, List.getElem_cons_zero, List.setIfInBounds_toArray, List.set_cons_succ, List.set_cons_zero]
  refine wpAnyC_take 9 (.pointer (some ⟨S, 0, none⟩)) rfl (by kernel_rfl) (by kernel_rfl) (by kernel_rfl) (fun _ _ _ h => h) (wanted_free rfl _) (fun W hW => by go_simp) ?_
  try simp only [Act.put, List.getElem_toArray, List.getElem_cons_succ, List.getElem_cons_zero, List.setIfInBounds_toArray, List.set_cons_succ, List.set_cons_zero]
  refine wpAnyC_take 10 (.pointer (some ⟨S, 4, none⟩)) rfl (by kernel_rfl) (by kernel_rfl) (by kernel_rfl) (fun _ _ _ h => h) (wanted_free rfl _) (fun W hW => by go_simp) ?_
  try simp only [Act.put, List.getElem_toArray, List.getElem_cons_succ, List.getElem_cons_zero, List.setIfInBounds_toArray, List.set_cons_succ, List.set_cons_zero]
  refine wpAnyC_take 11 (.int .i64 1) rfl (by kernel_rfl) (by kernel_rfl) (by kernel_rfl) (fun _ _ _ h => h) (wanted_free rfl _) (fun W hW => by have h := hW.2.2; go_simp) ?_
  try simp only [Act.put, List.getElem_toArray, List.getElem_cons_succ, List.getElem_cons_zero, List.setIfInBounds_toArray, List.set_cons_succ, List.set_cons_zero]
  refine wpAnyC_take 14 (.slice (some ⟨g7, 0, none⟩) L L) rfl (by kernel_rfl) (by kernel_rfl) (by kernel_rfl) (fun _ _ _ h => h) (wanted_free rfl _) (fun W hW => by go_simp) ?_
  try simp only [Act.put, List.getElem_toArray, List.getElem_cons_succ, List.getElem_cons_zero, List.setIfInBounds_toArray, List.set_cons_succ, List.set_cons_zero]
  refine wpAnyC_one 12 (hC0) rfl (by kernel_rfl) (wanted_free rfl _) (fun KA hKA => ?_)
  go_simp
  refine (HE.out _).mono ?_
  rintro e y1 ⟨rfl, h9⟩
  have h9s := h9.symm
  subst h9s
  refine hKA _ _ ?_
  clear hKA KA
  try simp only [Act.put, List.getElem_toArray, List.getElem_cons_succ, List.getElem_cons_zero, List.setIfInBounds_toArray, List.set_cons_succ, List.set_cons_zero]
  refine wpAnyC_take 13 (.string (f ++ ⟨#[46, 49]⟩)) rfl (by kernel_rfl) (by kernel_rfl) (by kernel_rfl) (fun _ _ _ h => h) (wanted_free rfl _) (fun W hW => by go_simp) ?_
  try simp only [Act.put, List.getElem_toArray, List.getElem_cons_succ, List.getElem_cons_zero, List.setIfInBounds_toArray, List.set_cons_succ, List.set_cons_zero]
  refine wpAnyC_one 15 (hC0) rfl (by kernel_rfl) (wanted_free rfl _) (fun KA hKA => ?_)
  go_simp
  refine (HW.out _ g7 (wd_drawn hw1.out _) (own_drawn hown.out _)).mono ?_
  rintro e y2 ⟨rfl, tag2, hw2, hst2⟩
  have hs2 := Kpt.mk ((step_drawn hs1.out _).trans hst2)
  have hS2 := Kpt.mk ((sl_drawn hS1.out _).step hst2)
  have hC2 : y2.cell? ⟨S, 0, none⟩ = some (.pointer (some ⟨B, 0, none⟩)) ∧ y2.cell? ⟨S, 1, none⟩ = some (.string f) ∧ y2.cell? ⟨S, 4, none⟩ = some (.int .i64 1) := ⟨hS2.out.at.1, hS2.out.at.2.1, hS2.out.at.2.2.2.2⟩
  replace hw2 := Kpt.mk hw2
  clear hst2 hs1 hS1 hw1 hown
  refine hKA _ _ ?_
  clear hKA KA
  try simp only [Act.put, List.getElem_toArray, List.getElem_cons_succ, List.getElem_cons_zero, List.setIfInBounds_toArray, List.set_cons_succ, List.set_cons_zero]
  refine wpAnyC_take 16 (.int .i64 0) rfl (by kernel_rfl) (by kernel_rfl) (by kernel_rfl) (fun _ _ _ h => h) (wanted_free rfl _) (fun W hW => by go_simp) ?_
  try simp only [Act.put, List.getElem_toArray, List.getElem_cons_succ, List.getElem_cons_zero, List.setIfInBounds_toArray, List.set_cons_succ, List.set_cons_zero]
  refine wpAnyC_done (hC2) (by kernel_rfl) ?_
  have hp := hC2.1
  go_wp2_with (go_at_call 49; refine (HY.out _ _ hw2.out).mono ?_; rintro e w3 ⟨rfl, tag3, hw3, hs3⟩; replace hw3 := Kpt.mk hw3; replace hs3 := Kpt.mk (hs2.out.trans hs3))
  go_ret
  exact ⟨rfl, tag3, hw3.out, hs3.out⟩
end Go.Proofs.Ytndlpmnidpandaa
