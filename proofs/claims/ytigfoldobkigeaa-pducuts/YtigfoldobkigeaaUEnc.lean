/-
  pdu: Encode.
-/
import Derived.Test.YtigfoldobkigeaaUHead
namespace Go.Proofs.Ytigfoldobkigeaa
open Go.RowKit
set_option linter.unusedVariables false
set_option linter.unusedSimpArgs false

theorem wp_made {w : World} {o : Oper} {a : Act} {K : Act → World → Prop} {Q : Exit → Act → World → Prop} (l c : Operand) (ho : o.op = .makeSlice 24 l c) (n : Nat) (hl : a.eval l = .int .i64 n) (hc : a.eval c = .int .i64 n) (hn : n ≤ 100000)
    (h : ∀ g w', w.heap.size ≤ g → w'.ownsRow w.heap.size 5 1 (.slice (some ⟨g, 0, none⟩) n n) n (cels (List.replicate n 0)) → Below w.heap.size w w' → K (a.put o.dst (.slice (some ⟨g, 0, none⟩) n n)) w') : o.wp Try.prog a w K Q := by
  obtain ⟨i0, hi0, hz0, hz1, hz2⟩ := info_parts Try.info5
  obtain ⟨w', hrun, r1, r2⟩ := run_make_full (P := Try.prog) w w.heap.size 24 5 i0 (.int .u8 0) 1 Try.underlying24 hi0 hz0 hz1 .i64 .i64 n (by rw [hz2]; omega) (by unfold maxLen; omega) (Nat.le_refl _)
  unfold Oper.wp
  simp [execOp, ho, hl, hc, hrun, Result.andThen]
  rw [made_u8] at r1
  exact h _ _ (Nat.le_refl _) r1 ((Below.refl _ _).grown r2 (Nat.le_refl _) (fun k h => by cases h))

/-- A body. -/
def bodyL (d : List Int) : List Int := d ++ List.replicate (padN d.length) 0
theorem bodyL_len (d : List Int) : (bodyL d).length = d.length + padN d.length := by simp [bodyL]
theorem body_over (d : List Int) : over (List.replicate (d.length + padN d.length) 0) 0 d = bodyL d := by simp [over, bodyL]
theorem Bytes.append {a b : List Int} (h1 : Bytes a) (h2 : Bytes b) : Bytes (a ++ b) := by
  intro j
  rw [List.getD_eq_getElem?_getD, List.getElem?_append]
  split
  · rw [← List.getD_eq_getElem?_getD]; exact h1 j
  · rw [← List.getD_eq_getElem?_getD]; exact h2 _
theorem Bytes.zeros (n : Nat) : Bytes (List.replicate n 0) := by
  intro j
  rw [List.getD_eq_getElem?_getD, List.getElem?_replicate]
  split <;> simp
theorem Bytes.nil : Bytes [] := fun j => by simp
theorem Bytes.cons {x : Int} {l : List Int} (h0 : 0 ≤ x ∧ x ≤ 255) (h : Bytes l) : Bytes (x :: l) := by
  intro j
  rcases j with _ | j
  · simpa using h0
  · simpa using h j
theorem bodyL_bytes {d : List Int} (h : Bytes d) : Bytes (bodyL d) := h.append (Bytes.zeros _)
theorem flat_bytes : ∀ l : List Int, Bytes ((l.map (fun x => bigL x 4)).flatten)
  | [] => Bytes.nil
  | x :: l => by
    simp only [List.map_cons, List.flatten_cons]
    exact (bigL_bytes x 4 (by decide)).append (flat_bytes l)
theorem headL_bytes {p : Pd} (h : p.ok) : Bytes (headL p) := by
  unfold headL
  refine ((((Bytes.cons h.op (Bytes.cons h.fl (Bytes.cons h.rs (Bytes.cons h.st (Bytes.cons (by decide) Bytes.nil))))).append (bigL_bytes _ 3 (by decide))).append ?_).append (bigL_bytes _ 4 (by decide))).append (flat_bytes _)
  exact Bytes.cons (by decide) (Bytes.cons h.lun (Bytes.cons (by decide) (Bytes.cons (by decide) (Bytes.cons (by decide) (Bytes.cons (by decide) (Bytes.cons (by decide) (Bytes.cons (by decide) Bytes.nil)))))))
/-- The bytes of a PDU. -/
def encL (p : Pd) (h d : Bool) : List Int := partL (headL p) h ++ partL (bodyL p.d) (s2B d (bodyL p.d).length)

set_option maxRecDepth 100000 in
set_option maxHeartbeats 1000000 in
theorem enc_long (p : Pd) (a : Option Addr) (n c : Nat) (h d : Bool) (w : World) (hp : p.ws.length = 7) (hn8 : 8192 < n) (hm : n ≤ maxLen) :
    Calls Try.prog 10 #[.agg (p.vals (.slice a n c)), .bool h, .bool d] w fun e w' => e = .returned (.tuple #[.slice none 0 0, .int .i64 2]) ∧ Below w.heap.size w w' := by
  obtain ⟨V, hV⟩ : ∃ V, V = p.vals (.slice a n c) := ⟨_, rfl⟩
  have hc13 : Kpt (∀ W B, Bx W B V → W.cell? ⟨B, 13, none⟩ = some (.slice a n c)) := ⟨fun W B hX => by
    obtain ⟨a0, a1, a2, a3, a4, a5, a6, hw⟩ := seven hp
    rw [hV] at hX
    have := hX.cells 13 (by rw [Pd.size hp]; decide)
    rw [this]
    simp [Pd.vals, Pd.cs, hw]⟩
  have h1 : (8192 : Int) < n := by omega
  unfold maxLen at hm
  rw [← hV]
  clear hV hp
  go_enter Try.func10, Try.ntmps10
  go_wp2_with (refine wpList_box rfl 26 (.tmp 0) rfl V rfl ?_; intro B w0 hB hX0 hb0 hz0; have hcc := hc13.out _ _ hX0; replace hb0 := Kpt.mk hb0; clear hz0 hX0)
  go_ret2
  exact ⟨rfl, hb0.out⟩

set_option maxRecDepth 100000 in
set_option maxHeartbeats 2000000 in
theorem enc_anyF (p : Pd) (a : Option Addr) (n c : Nat) (h : Bool) (w : World) (hp : p.ok) (hd : RdAt w (.slice a n c) p.d) (hn8 : n ≤ 8192) :
    Calls Try.prog 10 #[.agg (p.vals (.slice a n c)), .bool h, .bool false] w fun e w' => ∃ v, e = .returned (.tuple #[v, .int .i64 0]) ∧ w'.ownsRow w.heap.size 5 1 v (encL p h false).length (cels (encL p h false)) ∧ Below w.heap.size w w' := by
  have hnl : p.d.length = n := (rd_row hd).1.symm ▸ rfl
  obtain ⟨V, hV⟩ : ∃ V, V = p.vals (.slice a n c) := ⟨_, rfl⟩
  have hVs : Kpt (V.size = 14) := ⟨by rw [hV]; exact Pd.size hp.len _⟩
  have hc13 : Kpt (∀ W B, Bx W B V → W.cell? ⟨B, 13, none⟩ = some (.slice a n c)) := ⟨fun W B hX => by
    obtain ⟨a0, a1, a2, a3, a4, a5, a6, hw⟩ := seven hp.len
    rw [hV] at hX
    have := hX.cells 13 (by rw [Pd.size hp.len]; decide)
    rw [this]
    simp [Pd.vals, Pd.cs, hw]⟩
  obtain ⟨P, hP⟩ : ∃ P, P = padN n := ⟨_, rfl⟩
  have hPd : Kpt (∀ W, Calls Try.prog 21 #[.int .i64 n] W fun e w' => e = .returned (.int .i64 P) ∧ w' = W) := ⟨fun W => by rw [hP]; exact pad_any n W (by omega)⟩
  have hP3 : P ≤ 3 := by rw [hP]; unfold padN; omega
  obtain ⟨M, hM⟩ : ∃ M, M = n + P := ⟨_, rfl⟩
  have hMe : (n : Int) + (P : Int) = (M : Int) := by omega
  have hM8 : M ≤ 8195 := by omega
  have hbl : (bodyL p.d).length = M := by rw [bodyL_len, hnl, ← hP, ← hM]
  have hov : Kpt (over (List.replicate M 0) 0 p.d = bodyL p.d) := ⟨by rw [← body_over, hnl, ← hP, ← hM]⟩
  have hdB : Kpt (∀ W, Below w.heap.size w W → RdAt W (.slice a n c) p.d) := ⟨fun W h => hd.bel h⟩
  have hH : Kpt (∀ W, Calls Try.prog 23 #[.agg V] W fun e w' => ∃ g, e = .returned (.slice (some ⟨g, 0, none⟩) 48 48) ∧ w'.ownsRow W.heap.size 5 1 (.slice (some ⟨g, 0, none⟩) 48 48) 48 (cels (headL p)) ∧ Below W.heap.size W w') := ⟨fun W => by rw [hV]; exact head_any p a n c W hp hnl hn8⟩
  have hhl := headL_len p hp.len
  have hhb := headL_bytes hp
  have hbb := bodyL_bytes hp.d
  have hA1 : Kpt (∀ W g c0, W.ownsRow c0 5 1 (.slice (some ⟨g, 0, none⟩) 48 48) 48 (cels (headL p)) → Calls Try.prog 22 #[.slice none 0 0, .slice (some ⟨g, 0, none⟩) 48 48, .bool h] W fun e w' => ∃ v', e = .returned v' ∧ w'.ownsRow W.heap.size 5 1 v' (partL (headL p) h).length (cels (partL (headL p) h)) ∧ Below W.heap.size W w') := ⟨fun W g c0 ho => by
    have := part_any W.heap.size (.slice none 0 0) (.slice (some ⟨g, 0, none⟩) 48 48) [] (headL p) h W (World.ownsRow_nil W _ 5 1) (own_rd ho) (by simp) (by omega) hhb (Nat.le_refl _) (fun g h => by cases h)
    simpa using this⟩
  have hA2 : Kpt (∀ W base v g c0, W.ownsRow base 5 1 v (partL (headL p) h).length (cels (partL (headL p) h)) → base ≤ W.heap.size → W.ownsRow c0 5 1 (.slice (some ⟨g, 0, none⟩) M M) M (cels (bodyL p.d)) → g < base → Calls Try.prog 22 #[v, .slice (some ⟨g, 0, none⟩) M M, .bool false] W fun e w' => ∃ v', e = .returned v' ∧ w'.ownsRow base 5 1 v' (encL p h false).length (cels (encL p h false)) ∧ Below base W w') := ⟨fun W base v g c0 ho hbs hob hg => by
    unfold encL
    rw [show s2B false (bodyL p.d).length = false by rw [hbl]; simp [s2B]]
    exact part_any base v (.slice (some ⟨g, 0, none⟩) M M) (partL (headL p) h) (bodyL p.d) _ W ho (own_rd hob) (by rw [partL_len, hhl]; split <;> omega) (by omega) hbb hbs (fun g' h' _ e => by
      have h1 := (World.ownsRow.lt ho g' h').1
      simp [Value.ownBlock] at e
      omega)⟩
  have hn1 : ¬ (8192 : Int) < n := by omega
  rw [← hV]
  have hV' := Kpt.mk hV
  clear hV hd hP hM hbl hhl hhb hbb hp
  replace hnl := Kpt.mk hnl
  go_enter Try.func10, Try.ntmps10
  go_wp2_with (refine wpList_box rfl 26 (.tmp 0) rfl V rfl ?_; intro B w0 hB hX0 hb0 hz0; have hcc := hc13.out _ _ hX0; replace hX0 := Kpt.mk hX0; replace hB := Kpt.mk hB; replace hb0 := Kpt.mk hb0; clear hz0)
  clear hcc
  refine wp_region_any (by kernel_rfl) ?_
  refine wpAny_of_C (C := fun W => Bx W B V) _ _ _ _ ?_
  refine wpAnyC_take 0 (.pointer (some ⟨B, 13, none⟩)) rfl (by kernel_rfl) (by kernel_rfl) (by kernel_rfl) (fun _ _ _ h => h) (wanted_free rfl _) (fun W hW => by go_simp) ?_
  try simp only [Act.put, List.getElem_toArray, List.getElem_cons_succ, List.getElem_cons_zero, List.setIfInBounds_toArray, List.set_cons_succ, List.set_cons_zero]
  refine wpAnyC_take 1 (.slice a n c) rfl (by kernel_rfl) (by kernel_rfl) (by kernel_rfl) (fun _ _ _ h => h) (wanted_free rfl _) (fun W hW => by have hq := hc13.out W B hW; go_simp) ?_
  try simp only [Act.put, List.getElem_toArray, List.getElem_cons_succ, List.getElem_cons_zero, List.setIfInBounds_toArray, List.set_cons_succ, List.set_cons_zero]
  refine wpAnyC_take 2 (.int .i64 n) rfl (by kernel_rfl) (by kernel_rfl) (by kernel_rfl) (fun _ _ _ h => h) (wanted_free rfl _) (fun W hW => by go_simp) ?_
  try simp only [Act.put, List.getElem_toArray, List.getElem_cons_succ, List.getElem_cons_zero, List.setIfInBounds_toArray, List.set_cons_succ, List.set_cons_zero]
  refine wpAnyC_take 3 (.pointer (some ⟨B, 13, none⟩)) rfl (by kernel_rfl) (by kernel_rfl) (by kernel_rfl) (fun _ _ _ h => h) (wanted_free rfl _) (fun W hW => by go_simp) ?_
  try simp only [Act.put, List.getElem_toArray, List.getElem_cons_succ, List.getElem_cons_zero, List.setIfInBounds_toArray, List.set_cons_succ, List.set_cons_zero]
  refine wpAnyC_take 4 (.slice a n c) rfl (by kernel_rfl) (by kernel_rfl) (by kernel_rfl) (fun _ _ _ h => h) (wanted_free rfl _) (fun W hW => by have hq := hc13.out W B hW; go_simp) ?_
  try simp only [Act.put, List.getElem_toArray, List.getElem_cons_succ, List.getElem_cons_zero, List.setIfInBounds_toArray, List.set_cons_succ, List.set_cons_zero]
  refine wpAnyC_take 5 (.int .i64 n) rfl (by kernel_rfl) (by kernel_rfl) (by kernel_rfl) (fun _ _ _ h => h) (wanted_free rfl _) (fun W hW => by go_simp) ?_
  try simp only [Act.put, List.getElem_toArray, List.getElem_cons_succ, List.getElem_cons_zero, List.setIfInBounds_toArray, List.set_cons_succ, List.set_cons_zero]
  refine wpAnyC_one 6 (hX0.out.drew) rfl (by kernel_rfl) (wanted_free rfl _) (fun KA hKA => ?_)
  go_simp
  refine (hPd.out _).mono ?_
  rintro e w1 ⟨rfl, rfl⟩
  refine hKA _ _ ?_
  clear hKA KA
  try simp only [Act.put, List.getElem_toArray, List.getElem_cons_succ, List.getElem_cons_zero, List.setIfInBounds_toArray, List.set_cons_succ, List.set_cons_zero]
  refine wpAnyC_take 7 (.int .i64 M) rfl (by kernel_rfl) (by kernel_rfl) (by kernel_rfl) (fun _ _ _ h => h) (wanted_free rfl _) (fun W hW => by have hMw : IntKind.i64.wrap (M : Int) = M := (by simp only [IntKind.wrap, IntKind.bits, IntKind.signed]; simp; omega); go_simp) ?_
  try simp only [Act.put, List.getElem_toArray, List.getElem_cons_succ, List.getElem_cons_zero, List.setIfInBounds_toArray, List.set_cons_succ, List.set_cons_zero]
  refine wpAnyC_one 8 (hX0.out.drew) rfl (by kernel_rfl) (wanted_free rfl _) (fun KA hKA => ?_)
  refine wp_made (.tmp 21) (.tmp 21) rfl M rfl rfl (by omega) ?_
  intro G w2 hG ho2 hbe2
  replace hbe2 := below_undrew hbe2
  have hX2 : Kpt (Bx w2 B V) := ⟨hX0.out.below hbe2 hX0.out.lt⟩
  have hb2 : Kpt (Below w.heap.size w w2) := ⟨hb0.out.trans (hbe2.mono hb0.out.size)⟩
  have hBG : Kpt (B ≠ G) := ⟨Nat.ne_of_lt (Nat.lt_of_lt_of_le hX0.out.lt hG)⟩
  have hGw : Kpt (w.heap.size ≤ G) := ⟨Nat.le_trans hb0.out.size hG⟩
  replace ho2 := Kpt.mk ho2
  refine hKA _ _ ?_
  clear hKA KA hbe2 hG
  try simp only [Act.put, List.getElem_toArray, List.getElem_cons_succ, List.getElem_cons_zero, List.setIfInBounds_toArray, List.set_cons_succ, List.set_cons_zero]
  refine wpAnyC_take 9 (.slice (some ⟨G, 0, none⟩) M M) rfl (by kernel_rfl) (by kernel_rfl) (by kernel_rfl) (fun _ _ _ h => h) (wanted_free rfl _) (fun W hW => by go_simp) ?_
  try simp only [Act.put, List.getElem_toArray, List.getElem_cons_succ, List.getElem_cons_zero, List.setIfInBounds_toArray, List.set_cons_succ, List.set_cons_zero]
  refine wpAnyC_done (hX2.out) (by kernel_rfl) ?_
  have hcc := hc13.out _ _ hX2.out
  go_wp2_with (first
    | (go_at_call 22; have hm := m3; go_must (refine (hA2.out _ _ _ _ _ ho5.out hs5.out hoG5.out hlt5.out).mono ?_; rintro e w6 ⟨v6, rfl, ho6, hbe6⟩; have hb6 : Kpt (Below w.heap.size w w6) := ⟨hb5.out.trans (hbe6.mono hb4.out.size)⟩; replace ho6 := Kpt.mk ho6; clear hbe6))
    | (go_at_call 22; have hm := m2; go_must (refine (hA1.out _ _ _ ho4.out).mono ?_; rintro e w5 ⟨v5, rfl, ho5, hbe5⟩; have hb5 : Kpt (Below w.heap.size w w5) := ⟨hb4.out.trans (hbe5.mono hb4.out.size)⟩; have hs5 : Kpt (w4.heap.size ≤ w5.heap.size) := ⟨hbe5.size⟩; have hoG5 : Kpt (w5.ownsRow w0.heap.size 5 1 (.slice (some ⟨G, 0, none⟩) M M) M (cels (bodyL p.d))) := ⟨own_of_block hoG4.out fun g hg => hbe5.block g (World.ownsRow.lt hoG4.out g hg).2⟩; have hlt5 : Kpt (G < w4.heap.size) := ⟨(World.ownsRow.lt hoG4.out G rfl).2⟩; replace ho5 := Kpt.mk ho5; clear hbe5; have m3 : Kpt True := ⟨trivial⟩))
    | (go_at_call 23; have hm := m1; go_must (refine (hH.out _).mono ?_; rintro e w4 ⟨g4, rfl, ho4, hbe4⟩; have hb4 : Kpt (Below w.heap.size w w4) := ⟨hb3.out.trans (hbe4.mono hb3.out.size)⟩; have hoG4 : Kpt (w4.ownsRow w0.heap.size 5 1 (.slice (some ⟨G, 0, none⟩) M M) M (cels (bodyL p.d))) := ⟨own_of_block ho3.out fun g hg => hbe4.block g (World.ownsRow.lt ho3.out g hg).2⟩; replace ho4 := Kpt.mk ho4; clear hbe4; have m2 : Kpt True := ⟨trivial⟩))
    | (refine wpList_load_bx rfl 26 (.tmp 3) rfl B V rfl hX3.out _ Try.underlying26 rfl (by rw [hVs.out]; exact sizeP) ?_; have m1 : Kpt True := ⟨trivial⟩)
    | (refine (?_ : wpList _ _ _ (Oper.mk (some 26) _ _ _ _ _ :: _) _ _); go_must (refine wpList_copy_at rfl (.tmp 23) (.tmp 25) rfl w0.heap.size G 0 M M M _ p.d (.slice a n c) rfl rfl ho2.out (hdB.out _ hb2.out) (by rw [hnl.out]; omega) (by rw [hnl.out]; omega) ?_; intro w3 ho3 hgr3; have hX3 : Kpt (Bx w3 B V) := ⟨hX2.out.grown hgr3 (fun e => hBG.out (Option.some.inj e).symm)⟩; have hb3 : Kpt (Below w.heap.size w w3) := ⟨hb2.out.grown hgr3 hb2.out.size (fun k h => by cases h; exact hGw.out)⟩; rw [hov.out] at ho3; rw [hnl.out]; replace ho3 := Kpt.mk ho3; clear hgr3)))
  go_ret2
  exact ⟨v6, rfl, own_base ho6.out hb4.out.size, hb6.out⟩

set_option maxRecDepth 100000 in
set_option maxHeartbeats 2000000 in
theorem enc_anyT (p : Pd) (a : Option Addr) (n c : Nat) (h : Bool) (w : World) (hp : p.ok) (hd : RdAt w (.slice a n c) p.d) (hn8 : n ≤ 8192) :
    Calls Try.prog 10 #[.agg (p.vals (.slice a n c)), .bool h, .bool true] w fun e w' => ∃ v, e = .returned (.tuple #[v, .int .i64 0]) ∧ w'.ownsRow w.heap.size 5 1 v (encL p h true).length (cels (encL p h true)) ∧ Below w.heap.size w w' := by
  have hnl : p.d.length = n := (rd_row hd).1.symm ▸ rfl
  obtain ⟨V, hV⟩ : ∃ V, V = p.vals (.slice a n c) := ⟨_, rfl⟩
  have hVs : Kpt (V.size = 14) := ⟨by rw [hV]; exact Pd.size hp.len _⟩
  have hc13 : Kpt (∀ W B, Bx W B V → W.cell? ⟨B, 13, none⟩ = some (.slice a n c)) := ⟨fun W B hX => by
    obtain ⟨a0, a1, a2, a3, a4, a5, a6, hw⟩ := seven hp.len
    rw [hV] at hX
    have := hX.cells 13 (by rw [Pd.size hp.len]; decide)
    rw [this]
    simp [Pd.vals, Pd.cs, hw]⟩
  obtain ⟨P, hP⟩ : ∃ P, P = padN n := ⟨_, rfl⟩
  have hPd : Kpt (∀ W, Calls Try.prog 21 #[.int .i64 n] W fun e w' => e = .returned (.int .i64 P) ∧ w' = W) := ⟨fun W => by rw [hP]; exact pad_any n W (by omega)⟩
  have hP3 : P ≤ 3 := by rw [hP]; unfold padN; omega
  obtain ⟨M, hM⟩ : ∃ M, M = n + P := ⟨_, rfl⟩
  have hMe : (n : Int) + (P : Int) = (M : Int) := by omega
  have hM8 : M ≤ 8195 := by omega
  have hbl : (bodyL p.d).length = M := by rw [bodyL_len, hnl, ← hP, ← hM]
  have hov : Kpt (over (List.replicate M 0) 0 p.d = bodyL p.d) := ⟨by rw [← body_over, hnl, ← hP, ← hM]⟩
  have hdB : Kpt (∀ W, Below w.heap.size w W → RdAt W (.slice a n c) p.d) := ⟨fun W h => hd.bel h⟩
  have hH : Kpt (∀ W, Calls Try.prog 23 #[.agg V] W fun e w' => ∃ g, e = .returned (.slice (some ⟨g, 0, none⟩) 48 48) ∧ w'.ownsRow W.heap.size 5 1 (.slice (some ⟨g, 0, none⟩) 48 48) 48 (cels (headL p)) ∧ Below W.heap.size W w') := ⟨fun W => by rw [hV]; exact head_any p a n c W hp hnl hn8⟩
  have hhl := headL_len p hp.len
  have hhb := headL_bytes hp
  have hbb := bodyL_bytes hp.d
  have hA1 : Kpt (∀ W g c0, W.ownsRow c0 5 1 (.slice (some ⟨g, 0, none⟩) 48 48) 48 (cels (headL p)) → Calls Try.prog 22 #[.slice none 0 0, .slice (some ⟨g, 0, none⟩) 48 48, .bool h] W fun e w' => ∃ v', e = .returned v' ∧ w'.ownsRow W.heap.size 5 1 v' (partL (headL p) h).length (cels (partL (headL p) h)) ∧ Below W.heap.size W w') := ⟨fun W g c0 ho => by
    have := part_any W.heap.size (.slice none 0 0) (.slice (some ⟨g, 0, none⟩) 48 48) [] (headL p) h W (World.ownsRow_nil W _ 5 1) (own_rd ho) (by simp) (by omega) hhb (Nat.le_refl _) (fun g h => by cases h)
    simpa using this⟩
  have hA2 : Kpt (∀ W base v g c0, W.ownsRow base 5 1 v (partL (headL p) h).length (cels (partL (headL p) h)) → base ≤ W.heap.size → W.ownsRow c0 5 1 (.slice (some ⟨g, 0, none⟩) M M) M (cels (bodyL p.d)) → g < base → Calls Try.prog 22 #[v, .slice (some ⟨g, 0, none⟩) M M, .bool (decide (0 < M))] W fun e w' => ∃ v', e = .returned v' ∧ w'.ownsRow base 5 1 v' (encL p h true).length (cels (encL p h true)) ∧ Below base W w') := ⟨fun W base v g c0 ho hbs hob hg => by
    unfold encL
    rw [show s2B true (bodyL p.d).length = (decide (0 < M)) by rw [hbl]; simp [s2B]]
    exact part_any base v (.slice (some ⟨g, 0, none⟩) M M) (partL (headL p) h) (bodyL p.d) _ W ho (own_rd hob) (by rw [partL_len, hhl]; split <;> omega) (by omega) hbb hbs (fun g' h' _ e => by
      have h1 := (World.ownsRow.lt ho g' h').1
      simp [Value.ownBlock] at e
      omega)⟩
  have hn1 : ¬ (8192 : Int) < n := by omega
  rw [← hV]
  have hV' := Kpt.mk hV
  clear hV hd hP hM hbl hhl hhb hbb hp
  replace hnl := Kpt.mk hnl
  go_enter Try.func10, Try.ntmps10
  go_wp2_with (refine wpList_box rfl 26 (.tmp 0) rfl V rfl ?_; intro B w0 hB hX0 hb0 hz0; have hcc := hc13.out _ _ hX0; replace hX0 := Kpt.mk hX0; replace hB := Kpt.mk hB; replace hb0 := Kpt.mk hb0; clear hz0)
  clear hcc
  refine wp_region_any (by kernel_rfl) ?_
  refine wpAny_of_C (C := fun W => Bx W B V) _ _ _ _ ?_
  refine wpAnyC_take 0 (.pointer (some ⟨B, 13, none⟩)) rfl (by kernel_rfl) (by kernel_rfl) (by kernel_rfl) (fun _ _ _ h => h) (wanted_free rfl _) (fun W hW => by go_simp) ?_
  try simp only [Act.put, List.getElem_toArray, List.getElem_cons_succ, List.getElem_cons_zero, List.setIfInBounds_toArray, List.set_cons_succ, List.set_cons_zero]
  refine wpAnyC_take 1 (.slice a n c) rfl (by kernel_rfl) (by kernel_rfl) (by kernel_rfl) (fun _ _ _ h => h) (wanted_free rfl _) (fun W hW => by have hq := hc13.out W B hW; go_simp) ?_
  try simp only [Act.put, List.getElem_toArray, List.getElem_cons_succ, List.getElem_cons_zero, List.setIfInBounds_toArray, List.set_cons_succ, List.set_cons_zero]
  refine wpAnyC_take 2 (.int .i64 n) rfl (by kernel_rfl) (by kernel_rfl) (by kernel_rfl) (fun _ _ _ h => h) (wanted_free rfl _) (fun W hW => by go_simp) ?_
  try simp only [Act.put, List.getElem_toArray, List.getElem_cons_succ, List.getElem_cons_zero, List.setIfInBounds_toArray, List.set_cons_succ, List.set_cons_zero]
  refine wpAnyC_take 3 (.pointer (some ⟨B, 13, none⟩)) rfl (by kernel_rfl) (by kernel_rfl) (by kernel_rfl) (fun _ _ _ h => h) (wanted_free rfl _) (fun W hW => by go_simp) ?_
  try simp only [Act.put, List.getElem_toArray, List.getElem_cons_succ, List.getElem_cons_zero, List.setIfInBounds_toArray, List.set_cons_succ, List.set_cons_zero]
  refine wpAnyC_take 4 (.slice a n c) rfl (by kernel_rfl) (by kernel_rfl) (by kernel_rfl) (fun _ _ _ h => h) (wanted_free rfl _) (fun W hW => by have hq := hc13.out W B hW; go_simp) ?_
  try simp only [Act.put, List.getElem_toArray, List.getElem_cons_succ, List.getElem_cons_zero, List.setIfInBounds_toArray, List.set_cons_succ, List.set_cons_zero]
  refine wpAnyC_take 5 (.int .i64 n) rfl (by kernel_rfl) (by kernel_rfl) (by kernel_rfl) (fun _ _ _ h => h) (wanted_free rfl _) (fun W hW => by go_simp) ?_
  try simp only [Act.put, List.getElem_toArray, List.getElem_cons_succ, List.getElem_cons_zero, List.setIfInBounds_toArray, List.set_cons_succ, List.set_cons_zero]
  refine wpAnyC_one 6 (hX0.out.drew) rfl (by kernel_rfl) (wanted_free rfl _) (fun KA hKA => ?_)
  go_simp
  refine (hPd.out _).mono ?_
  rintro e w1 ⟨rfl, rfl⟩
  refine hKA _ _ ?_
  clear hKA KA
  try simp only [Act.put, List.getElem_toArray, List.getElem_cons_succ, List.getElem_cons_zero, List.setIfInBounds_toArray, List.set_cons_succ, List.set_cons_zero]
  refine wpAnyC_take 7 (.int .i64 M) rfl (by kernel_rfl) (by kernel_rfl) (by kernel_rfl) (fun _ _ _ h => h) (wanted_free rfl _) (fun W hW => by have hMw : IntKind.i64.wrap (M : Int) = M := (by simp only [IntKind.wrap, IntKind.bits, IntKind.signed]; simp; omega); go_simp) ?_
  try simp only [Act.put, List.getElem_toArray, List.getElem_cons_succ, List.getElem_cons_zero, List.setIfInBounds_toArray, List.set_cons_succ, List.set_cons_zero]
  refine wpAnyC_one 8 (hX0.out.drew) rfl (by kernel_rfl) (wanted_free rfl _) (fun KA hKA => ?_)
  refine wp_made (.tmp 21) (.tmp 21) rfl M rfl rfl (by omega) ?_
  intro G w2 hG ho2 hbe2
  replace hbe2 := below_undrew hbe2
  have hX2 : Kpt (Bx w2 B V) := ⟨hX0.out.below hbe2 hX0.out.lt⟩
  have hb2 : Kpt (Below w.heap.size w w2) := ⟨hb0.out.trans (hbe2.mono hb0.out.size)⟩
  have hBG : Kpt (B ≠ G) := ⟨Nat.ne_of_lt (Nat.lt_of_lt_of_le hX0.out.lt hG)⟩
  have hGw : Kpt (w.heap.size ≤ G) := ⟨Nat.le_trans hb0.out.size hG⟩
  replace ho2 := Kpt.mk ho2
  refine hKA _ _ ?_
  clear hKA KA hbe2 hG
  try simp only [Act.put, List.getElem_toArray, List.getElem_cons_succ, List.getElem_cons_zero, List.setIfInBounds_toArray, List.set_cons_succ, List.set_cons_zero]
  refine wpAnyC_take 9 (.slice (some ⟨G, 0, none⟩) M M) rfl (by kernel_rfl) (by kernel_rfl) (by kernel_rfl) (fun _ _ _ h => h) (wanted_free rfl _) (fun W hW => by go_simp) ?_
  try simp only [Act.put, List.getElem_toArray, List.getElem_cons_succ, List.getElem_cons_zero, List.setIfInBounds_toArray, List.set_cons_succ, List.set_cons_zero]
  refine wpAnyC_done (hX2.out) (by kernel_rfl) ?_
  have hcc := hc13.out _ _ hX2.out
  go_wp2_with (first
    | (go_at_call 22; have hm := m3; go_must (refine (hA2.out _ _ _ _ _ ho5.out hs5.out hoG5.out hlt5.out).mono ?_; rintro e w6 ⟨v6, rfl, ho6, hbe6⟩; have hb6 : Kpt (Below w.heap.size w w6) := ⟨hb5.out.trans (hbe6.mono hb4.out.size)⟩; replace ho6 := Kpt.mk ho6; clear hbe6))
    | (go_at_call 22; have hm := m2; go_must (refine (hA1.out _ _ _ ho4.out).mono ?_; rintro e w5 ⟨v5, rfl, ho5, hbe5⟩; have hb5 : Kpt (Below w.heap.size w w5) := ⟨hb4.out.trans (hbe5.mono hb4.out.size)⟩; have hs5 : Kpt (w4.heap.size ≤ w5.heap.size) := ⟨hbe5.size⟩; have hoG5 : Kpt (w5.ownsRow w0.heap.size 5 1 (.slice (some ⟨G, 0, none⟩) M M) M (cels (bodyL p.d))) := ⟨own_of_block hoG4.out fun g hg => hbe5.block g (World.ownsRow.lt hoG4.out g hg).2⟩; have hlt5 : Kpt (G < w4.heap.size) := ⟨(World.ownsRow.lt hoG4.out G rfl).2⟩; replace ho5 := Kpt.mk ho5; clear hbe5; have m3 : Kpt True := ⟨trivial⟩))
    | (go_at_call 23; have hm := m1; go_must (refine (hH.out _).mono ?_; rintro e w4 ⟨g4, rfl, ho4, hbe4⟩; have hb4 : Kpt (Below w.heap.size w w4) := ⟨hb3.out.trans (hbe4.mono hb3.out.size)⟩; have hoG4 : Kpt (w4.ownsRow w0.heap.size 5 1 (.slice (some ⟨G, 0, none⟩) M M) M (cels (bodyL p.d))) := ⟨own_of_block ho3.out fun g hg => hbe4.block g (World.ownsRow.lt ho3.out g hg).2⟩; replace ho4 := Kpt.mk ho4; clear hbe4; have m2 : Kpt True := ⟨trivial⟩))
    | (refine wpList_load_bx rfl 26 (.tmp 3) rfl B V rfl hX3.out _ Try.underlying26 rfl (by rw [hVs.out]; exact sizeP) ?_; have m1 : Kpt True := ⟨trivial⟩)
    | (refine (?_ : wpList _ _ _ (Oper.mk (some 26) _ _ _ _ _ :: _) _ _); go_must (refine wpList_copy_at rfl (.tmp 23) (.tmp 25) rfl w0.heap.size G 0 M M M _ p.d (.slice a n c) rfl rfl ho2.out (hdB.out _ hb2.out) (by rw [hnl.out]; omega) (by rw [hnl.out]; omega) ?_; intro w3 ho3 hgr3; have hX3 : Kpt (Bx w3 B V) := ⟨hX2.out.grown hgr3 (fun e => hBG.out (Option.some.inj e).symm)⟩; have hb3 : Kpt (Below w.heap.size w w3) := ⟨hb2.out.grown hgr3 hb2.out.size (fun k h => by cases h; exact hGw.out)⟩; rw [hov.out] at ho3; rw [hnl.out]; replace ho3 := Kpt.mk ho3; clear hgr3)))
  go_ret2
  exact ⟨v6, rfl, own_base ho6.out hb4.out.size, hb6.out⟩
end Go.Proofs.Ytigfoldobkigeaa
