/-
  The contract of Standard.
-/
import Derived.Test.YteoaadpilaljnaaICut
namespace Go.Proofs.Yteoaadpilaljnaa
open Go.RowKit
set_option linter.unusedVariables false
set_option linter.unusedSimpArgs false

theorem wp_append_str {w : World} {o : Oper} {a : Act} {K : Act → World → Prop} {Q : Exit → Act → World → Prop} (hgd : o.guard = none) (d s : Operand)
    (ho : o.op = .call { callee := .builtin .append, args := #[d, s], argTypes := #[25, 9] })
    (base : Nat) (v : Value) (zs : List Int) (n : Nat) (T : ByteArray) (hd : a.eval d = v) (hs : a.eval s = .string T) (hown : w.ownsRow base 5 1 v n (cels zs)) (hlen : n + T.size ≤ 1000) (hb : base ≤ w.heap.size)
    (h : ∀ v' w', Kpt (w'.ownsRow base 5 1 v' (n + T.size) (cels (zs ++ nums T))) → Kpt (w.grownBy w' v.ownBlock) → K (a.put o.dst v') w') : o.wp Try.prog a w K Q := by
  obtain ⟨i0', hi0, hz0, hz1, hz2⟩ := info_parts Try.info5
  obtain ⟨v', w', hr, h2, h3, h4⟩ := Lib.run_append_own_string (P := Try.prog) w base 25 9 o.type 5 i0' Try.underlying25 Try.underlying9 hi0 hz0 hz1 hz2 v n (cels zs) hown T (by unfold maxLen; omega) (by omega) hb
  unfold Oper.wp execOp
  simp only [ho, resolve, invoke, builtin, Sem.run_bind, Sem.run_pure, Result.andThen_ok, List.map_toArray, List.map_cons, List.map_nil, hd, hs, hr]
  exact h v' w' ⟨by rw [cels_append, ← strCells_nums]; exact h2⟩ ⟨h3⟩
def stdT (i : In) : ByteArray := fillS i.ve 8 ++ fillS i.pr 16 ++ fillS i.re 4
def stdL (i : In) : List Int := [0, 0, 6, 2, 31, if 0 < i.pt then 1 else 0, 0, 2] ++ nums (stdT i)
theorem stdT_size {i : In} (hf : i.form = true) : (stdT i).size = 28 := by
  obtain ⟨h1, h2, h3, _⟩ := form_sizes hf
  unfold stdT
  rw [size_app, size_app, fill_size _ _ h1, fill_size _ _ h2, fill_size _ _ h3]
theorem std_bad (i : In) (w : World) (hi : i.wf) (hf : i.form = false) : Calls Try.prog 15 #[.agg i.vals] w fun e w' => e = .returned (.slice none 0 0) ∧ Below w.heap.size w w' := by
  have HF := Kpt.mk (fun W => form_any i W hi)
  rw [hf] at HF
  obtain ⟨ve, pr, re, se, pt⟩ := i
  simp only [In.vals] at HF ⊢
  go_enter Try.func15, Try.ntmps15
  go_wp2_with fail
  refine (HF.out _).mono ?_
  rintro e w1 ⟨rfl, hb⟩
  have hbw : Kpt (Below w.heap.size w w1) := ⟨((Below.refl _ _).alloc (Nat.le_refl _) _).trans (hb.mono (by simp))⟩
  clear hb
  go_wp2_with fail
  go_ret
  exact ⟨rfl, hbw.out⟩

set_option maxRecDepth 100000 in
set_option maxHeartbeats 2000000 in
theorem std_pos (i : In) (w : World) (hi : i.wf) (hf : i.form = true) (hpt : 0 < i.pt) : Calls Try.prog 15 #[.agg i.vals] w fun e w' => ∃ g k, e = .returned (.slice (some ⟨g, 0, none⟩) 36 k) ∧ w'.ownsRow w.heap.size 5 1 (.slice (some ⟨g, 0, none⟩) 36 k) 36 (cels (stdL i)) ∧ Below w.heap.size w w' := by
  have HF := Kpt.mk (fun W => form_any i W hi)
  rw [hf] at HF
  obtain ⟨h1, h2, h3, _⟩ := form_sizes hf
  have hTs := stdT_size hf
  have hsl : stdL i = [0, 0, 6, 2, 31, 1, 0, 2] ++ nums (stdT i) := by unfold stdL; rw [if_pos hpt]
  rw [hsl]
  obtain ⟨T, hT⟩ : ∃ T, T = stdT i := ⟨_, rfl⟩
  rw [← hT] at hTs ⊢
  obtain ⟨ve, pr, re, se, pt⟩ := i
  simp only at h1 h2 h3 hpt
  have HA := Kpt.mk (fun W => fill_any ve 8 W h1 (by decide))
  have HB := Kpt.mk (fun W => fill_any pr 16 W h2 (by decide))
  have HC := Kpt.mk (fun W => fill_any re 4 W h3 (by decide))
  have s1 := fill_size ve 8 h1
  have s2 := fill_size pr 16 h2
  have s3 := fill_size re 4 h3
  have hTT : T = fillS ve 8 ++ fillS pr 16 ++ fillS re 4 := hT
  clear hsl hT
  obtain ⟨FA, hA⟩ : ∃ F, F = fillS ve 8 := ⟨_, rfl⟩
  obtain ⟨FB, hB⟩ : ∃ F, F = fillS pr 16 := ⟨_, rfl⟩
  obtain ⟨FC, hC⟩ : ∃ F, F = fillS re 4 := ⟨_, rfl⟩
  rw [← hA] at HA s1 hTT
  rw [← hB] at HB s2 hTT
  rw [← hC] at HC s3 hTT
  have l1 : ¬ 9223372036854775807 < FA.size + FB.size := by omega
  have l2 : ¬ 9223372036854775807 < FA.size + FB.size + FC.size := by omega
  obtain ⟨U, hU⟩ : ∃ U, U = FA ++ FB := ⟨_, rfl⟩
  have hUs : U.size = FA.size + FB.size := by rw [hU, size_app]
  have l3 : ¬ 9223372036854775807 < U.size + FC.size := by omega
  rw [← hU] at hTT
  replace hU := Kpt.mk hU
  replace hTT := Kpt.mk hTT
  replace hTs := Kpt.mk hTs
  replace hUs := Kpt.mk hUs
  simp only [In.vals] at HF ⊢
  clear hA hB hC s1 s2 s3 hf hi
  go_enter Try.func15, Try.ntmps15
  go_wp2_with fail
  refine (HF.out _).mono ?_
  rintro e w1 ⟨rfl, hb1⟩
  have hs0 : (w.alloc (.cells #[.string ve, .string pr, .string re, .string se, .int .u8 pt] 23)).heap.size = w.heap.size + 1 := by simp
  have hl1 : w.heap.size < w1.heap.size := by have := hb1.size; omega
  have zA0 : w1.cell? ⟨w.heap.size, 0, none⟩ = some (.string ve) := (hb1.cell (p := ⟨w.heap.size, 0, none⟩) (by show w.heap.size < _; omega)).trans (by simp)
  have zA1 : w1.cell? ⟨w.heap.size, 1, none⟩ = some (.string pr) := (hb1.cell (p := ⟨w.heap.size, 1, none⟩) (by show w.heap.size < _; omega)).trans (by simp)
  have zA2 : w1.cell? ⟨w.heap.size, 2, none⟩ = some (.string re) := (hb1.cell (p := ⟨w.heap.size, 2, none⟩) (by show w.heap.size < _; omega)).trans (by simp)
  have zA3 : w1.cell? ⟨w.heap.size, 3, none⟩ = some (.string se) := (hb1.cell (p := ⟨w.heap.size, 3, none⟩) (by show w.heap.size < _; omega)).trans (by simp)
  have zA4 : w1.cell? ⟨w.heap.size, 4, none⟩ = some (.int .u8 pt) := (hb1.cell (p := ⟨w.heap.size, 4, none⟩) (by show w.heap.size < _; omega)).trans (by simp)
  have hB1 : Kpt (Below w.heap.size w w1) := ⟨((Below.refl _ _).alloc (Nat.le_refl _) _).trans (hb1.mono (by omega))⟩
  clear hb1 hs0 HF
  go_wp2_with fail
  obtain ⟨w2, hw2⟩ : ∃ w2, w2 = w1.alloc (.cells #[.int .u8 0, .int .u8 0, .int .u8 6, .int .u8 2, .int .u8 31, .int .u8 1, .int .u8 0, .int .u8 2] 5) := ⟨_, rfl⟩
  have hb2 : Below w1.heap.size w1 w2 := by rw [hw2]; exact (Below.refl _ _).alloc (Nat.le_refl _) _
  have ho2 : w2.ownsRow w.heap.size 5 1 (.slice (some ⟨w1.heap.size, 0, none⟩) 8 8) 8 (cels [0, 0, 6, 2, 31, 1, 0, 2]) := by rw [hw2]; exact own_alloc w1 w1.heap.size 8 w.heap.size [0, 0, 6, 2, 31, 1, 0, 2] rfl rfl (by decide) (Nat.le_of_lt hl1)
  have zB0 : w2.cell? ⟨w.heap.size, 0, none⟩ = some (.string ve) := (hb2.cell (p := ⟨w.heap.size, 0, none⟩) (by show w.heap.size < _; omega)).trans zA0
  have zB1 : w2.cell? ⟨w.heap.size, 1, none⟩ = some (.string pr) := (hb2.cell (p := ⟨w.heap.size, 1, none⟩) (by show w.heap.size < _; omega)).trans zA1
  have zB2 : w2.cell? ⟨w.heap.size, 2, none⟩ = some (.string re) := (hb2.cell (p := ⟨w.heap.size, 2, none⟩) (by show w.heap.size < _; omega)).trans zA2
  have zB3 : w2.cell? ⟨w.heap.size, 3, none⟩ = some (.string se) := (hb2.cell (p := ⟨w.heap.size, 3, none⟩) (by show w.heap.size < _; omega)).trans zA3
  have zB4 : w2.cell? ⟨w.heap.size, 4, none⟩ = some (.int .u8 pt) := (hb2.cell (p := ⟨w.heap.size, 4, none⟩) (by show w.heap.size < _; omega)).trans zA4
  have hB2 : Below w.heap.size w w2 := hB1.out.trans (hb2.mono hB1.out.size)
  rw [← hw2]
  clear hw2 zA0 zA1 zA2 zA3 zA4 hb2 hB1
  refine wp_region_any (by kernel_rfl) ?_
  refine wpAny_of_C (C := fun W => W.cell? ⟨w.heap.size, 0, none⟩ = some (.string ve) ∧ W.cell? ⟨w.heap.size, 1, none⟩ = some (.string pr) ∧ W.cell? ⟨w.heap.size, 2, none⟩ = some (.string re)) _ _ _ _ ?_
  refine wpAnyC_take 0 (.slice (some ⟨w1.heap.size, 0, none⟩) 8 8) rfl (by kernel_rfl) (by kernel_rfl) (by kernel_rfl) (fun _ _ _ h => h) (wanted_free rfl _) (fun W hW => by go_simp) ?_
  simp only [Act.put, List.getElem_toArray, List.getElem_cons_succ, List.getElem_cons_zero, List.setIfInBounds_toArray, List.set_cons_succ, List.set_cons_zero]
  refine wpAnyC_take 1 (.pointer (some ⟨w.heap.size, 0, none⟩)) rfl (by kernel_rfl) (by kernel_rfl) (by kernel_rfl) (fun _ _ _ h => h) (wanted_free rfl _) (fun W hW => by go_simp) ?_
  simp only [Act.put, List.getElem_toArray, List.getElem_cons_succ, List.getElem_cons_zero, List.setIfInBounds_toArray, List.set_cons_succ, List.set_cons_zero]
  refine wpAnyC_take 2 (.string ve) rfl (by kernel_rfl) (by kernel_rfl) (by kernel_rfl) (fun _ _ _ h => h) (wanted_free rfl _) (fun W hW => by obtain ⟨y0, y1, y2⟩ := hW; go_simp) ?_
  simp only [Act.put, List.getElem_toArray, List.getElem_cons_succ, List.getElem_cons_zero, List.setIfInBounds_toArray, List.set_cons_succ, List.set_cons_zero]
  refine wpAnyC_take 4 (.pointer (some ⟨w.heap.size, 1, none⟩)) rfl (by kernel_rfl) (by kernel_rfl) (by kernel_rfl) (fun _ _ _ h => h) (wanted_free rfl _) (fun W hW => by go_simp) ?_
  simp only [Act.put, List.getElem_toArray, List.getElem_cons_succ, List.getElem_cons_zero, List.setIfInBounds_toArray, List.set_cons_succ, List.set_cons_zero]
  refine wpAnyC_take 5 (.string pr) rfl (by kernel_rfl) (by kernel_rfl) (by kernel_rfl) (fun _ _ _ h => h) (wanted_free rfl _) (fun W hW => by obtain ⟨y0, y1, y2⟩ := hW; go_simp) ?_
  simp only [Act.put, List.getElem_toArray, List.getElem_cons_succ, List.getElem_cons_zero, List.setIfInBounds_toArray, List.set_cons_succ, List.set_cons_zero]
  refine wpAnyC_take 8 (.pointer (some ⟨w.heap.size, 2, none⟩)) rfl (by kernel_rfl) (by kernel_rfl) (by kernel_rfl) (fun _ _ _ h => h) (wanted_free rfl _) (fun W hW => by go_simp) ?_
  simp only [Act.put, List.getElem_toArray, List.getElem_cons_succ, List.getElem_cons_zero, List.setIfInBounds_toArray, List.set_cons_succ, List.set_cons_zero]
  refine wpAnyC_take 9 (.string re) rfl (by kernel_rfl) (by kernel_rfl) (by kernel_rfl) (fun _ _ _ h => h) (wanted_free rfl _) (fun W hW => by obtain ⟨y0, y1, y2⟩ := hW; go_simp) ?_
  simp only [Act.put, List.getElem_toArray, List.getElem_cons_succ, List.getElem_cons_zero, List.setIfInBounds_toArray, List.set_cons_succ, List.set_cons_zero]
  refine wpAnyC_one 3 ⟨zB0, zB1, zB2⟩ rfl (by kernel_rfl) (wanted_free rfl _) (fun KA hKA => ?_)
  go_simp
  refine (HA.out _).mono ?_
  rintro e w3 ⟨rfl, rfl⟩
  refine hKA _ _ ?_
  clear hKA KA
  try simp only [Act.put, List.getElem_toArray, List.getElem_cons_succ, List.getElem_cons_zero, List.setIfInBounds_toArray, List.set_cons_succ, List.set_cons_zero]
  refine wpAnyC_one 6 ⟨zB0, zB1, zB2⟩ rfl (by kernel_rfl) (wanted_free rfl _) (fun KA hKA => ?_)
  go_simp
  refine (HB.out _).mono ?_
  rintro e w3 ⟨rfl, rfl⟩
  refine hKA _ _ ?_
  clear hKA KA
  try simp only [Act.put, List.getElem_toArray, List.getElem_cons_succ, List.getElem_cons_zero, List.setIfInBounds_toArray, List.set_cons_succ, List.set_cons_zero]
  refine wpAnyC_take 7 (.string U) rfl (by kernel_rfl) (by kernel_rfl) (by kernel_rfl) (fun _ _ _ h => h) (wanted_free rfl _) (fun W hW => by rw [hU.out]; go_simp) ?_
  simp only [Act.put, List.getElem_toArray, List.getElem_cons_succ, List.getElem_cons_zero, List.setIfInBounds_toArray, List.set_cons_succ, List.set_cons_zero]
  refine wpAnyC_one 10 ⟨zB0, zB1, zB2⟩ rfl (by kernel_rfl) (wanted_free rfl _) (fun KA hKA => ?_)
  go_simp
  refine (HC.out _).mono ?_
  rintro e w3 ⟨rfl, rfl⟩
  refine hKA _ _ ?_
  clear hKA KA
  try simp only [Act.put, List.getElem_toArray, List.getElem_cons_succ, List.getElem_cons_zero, List.setIfInBounds_toArray, List.set_cons_succ, List.set_cons_zero]
  refine wpAnyC_take 11 (.string T) rfl (by kernel_rfl) (by kernel_rfl) (by kernel_rfl) (fun _ _ _ h => h) (wanted_free rfl _) (fun W hW => by rw [hTT.out]; go_simp) ?_
  simp only [Act.put, List.getElem_toArray, List.getElem_cons_succ, List.getElem_cons_zero, List.setIfInBounds_toArray, List.set_cons_succ, List.set_cons_zero]
  refine wpAnyC_one 12 ⟨zB0, zB1, zB2⟩ rfl (by kernel_rfl) (wanted_free rfl _) (fun KA hKA => ?_)
  refine wp_append_str rfl (.tmp 13) (.tmp 24) rfl w.heap.size _ [0, 0, 6, 2, 31, 1, 0, 2] 8 T rfl rfl (own_of_block (w' := w2.drew) ho2 (fun q hq => rfl)) (by rw [hTs.out]; decide) hB2.size ?_
  intro v' w5 ho5 hg5
  have hlw : w.heap.size < w2.heap.size := Nat.lt_of_lt_of_le (Nat.lt_trans hl1 (World.ownsRow.lt ho2 w1.heap.size rfl).2) (Nat.le_refl _)
  have hne : ∀ j, w5.cell? ⟨w.heap.size, j, none⟩ = w2.cell? ⟨w.heap.size, j, none⟩ := fun j => far_cell hg5.out ⟨w.heap.size, j, none⟩ hlw (fun e => by have e' : w1.heap.size = w.heap.size := Option.some.inj e; omega)
  have hB5 : Kpt (Below w.heap.size w w5) := ⟨hB2.drew.grown hg5.out hB2.size (fun q hq => by cases hq; exact Nat.le_of_lt hl1)⟩
  rw [hTs.out] at ho5
  obtain ⟨g, k, hv, _, _⟩ := own_shape ho5.out (by decide)
  subst hv
  refine hKA _ _ ?_
  clear hKA KA
  try simp only [Act.put, List.getElem_toArray, List.getElem_cons_succ, List.getElem_cons_zero, List.setIfInBounds_toArray, List.set_cons_succ, List.set_cons_zero]
  refine wpAnyC_take 13 (.slice (some ⟨g, 0, none⟩) 36 k) rfl (by kernel_rfl) (by kernel_rfl) (by kernel_rfl) (fun _ _ _ h => h) (wanted_free rfl _) (fun W hW => by go_simp) ?_
  simp only [Act.put, List.getElem_toArray, List.getElem_cons_succ, List.getElem_cons_zero, List.setIfInBounds_toArray, List.set_cons_succ, List.set_cons_zero]
  refine wpAnyC_done ⟨(hne 0).trans zB0, (hne 1).trans zB1, (hne 2).trans zB2⟩ (by kernel_rfl) ?_
  clear zB0 zB1 zB2 zB3 zB4 hne ho2 hB2 hg5
  go_wp2_with fail
  go_ret
  exact ⟨g, k, rfl, ho5.out, hB5.out⟩

set_option maxRecDepth 100000 in
set_option maxHeartbeats 2000000 in
theorem std_zero (i : In) (w : World) (hi : i.wf) (hf : i.form = true) (hpt : ¬ 0 < i.pt) : Calls Try.prog 15 #[.agg i.vals] w fun e w' => ∃ g k, e = .returned (.slice (some ⟨g, 0, none⟩) 36 k) ∧ w'.ownsRow w.heap.size 5 1 (.slice (some ⟨g, 0, none⟩) 36 k) 36 (cels (stdL i)) ∧ Below w.heap.size w w' := by
  have HF := Kpt.mk (fun W => form_any i W hi)
  rw [hf] at HF
  obtain ⟨h1, h2, h3, _⟩ := form_sizes hf
  have hTs := stdT_size hf
  have hsl : stdL i = [0, 0, 6, 2, 31, 0, 0, 2] ++ nums (stdT i) := by unfold stdL; rw [if_neg hpt]
  rw [hsl]
  obtain ⟨T, hT⟩ : ∃ T, T = stdT i := ⟨_, rfl⟩
  rw [← hT] at hTs ⊢
  obtain ⟨ve, pr, re, se, pt⟩ := i
  simp only at h1 h2 h3 hpt
  have HA := Kpt.mk (fun W => fill_any ve 8 W h1 (by decide))
  have HB := Kpt.mk (fun W => fill_any pr 16 W h2 (by decide))
  have HC := Kpt.mk (fun W => fill_any re 4 W h3 (by decide))
  have s1 := fill_size ve 8 h1
  have s2 := fill_size pr 16 h2
  have s3 := fill_size re 4 h3
  have hTT : T = fillS ve 8 ++ fillS pr 16 ++ fillS re 4 := hT
  clear hsl hT
  obtain ⟨FA, hA⟩ : ∃ F, F = fillS ve 8 := ⟨_, rfl⟩
  obtain ⟨FB, hB⟩ : ∃ F, F = fillS pr 16 := ⟨_, rfl⟩
  obtain ⟨FC, hC⟩ : ∃ F, F = fillS re 4 := ⟨_, rfl⟩
  rw [← hA] at HA s1 hTT
  rw [← hB] at HB s2 hTT
  rw [← hC] at HC s3 hTT
  have l1 : ¬ 9223372036854775807 < FA.size + FB.size := by omega
  have l2 : ¬ 9223372036854775807 < FA.size + FB.size + FC.size := by omega
  obtain ⟨U, hU⟩ : ∃ U, U = FA ++ FB := ⟨_, rfl⟩
  have hUs : U.size = FA.size + FB.size := by rw [hU, size_app]
  have l3 : ¬ 9223372036854775807 < U.size + FC.size := by omega
  rw [← hU] at hTT
  replace hU := Kpt.mk hU
  replace hTT := Kpt.mk hTT
  replace hTs := Kpt.mk hTs
  replace hUs := Kpt.mk hUs
  simp only [In.vals] at HF ⊢
  clear hA hB hC s1 s2 s3 hf hi
  go_enter Try.func15, Try.ntmps15
  go_wp2_with fail
  refine (HF.out _).mono ?_
  rintro e w1 ⟨rfl, hb1⟩
  have hs0 : (w.alloc (.cells #[.string ve, .string pr, .string re, .string se, .int .u8 pt] 23)).heap.size = w.heap.size + 1 := by simp
  have hl1 : w.heap.size < w1.heap.size := by have := hb1.size; omega
  have zA0 : w1.cell? ⟨w.heap.size, 0, none⟩ = some (.string ve) := (hb1.cell (p := ⟨w.heap.size, 0, none⟩) (by show w.heap.size < _; omega)).trans (by simp)
  have zA1 : w1.cell? ⟨w.heap.size, 1, none⟩ = some (.string pr) := (hb1.cell (p := ⟨w.heap.size, 1, none⟩) (by show w.heap.size < _; omega)).trans (by simp)
  have zA2 : w1.cell? ⟨w.heap.size, 2, none⟩ = some (.string re) := (hb1.cell (p := ⟨w.heap.size, 2, none⟩) (by show w.heap.size < _; omega)).trans (by simp)
  have zA3 : w1.cell? ⟨w.heap.size, 3, none⟩ = some (.string se) := (hb1.cell (p := ⟨w.heap.size, 3, none⟩) (by show w.heap.size < _; omega)).trans (by simp)
  have zA4 : w1.cell? ⟨w.heap.size, 4, none⟩ = some (.int .u8 pt) := (hb1.cell (p := ⟨w.heap.size, 4, none⟩) (by show w.heap.size < _; omega)).trans (by simp)
  have hB1 : Kpt (Below w.heap.size w w1) := ⟨((Below.refl _ _).alloc (Nat.le_refl _) _).trans (hb1.mono (by omega))⟩
  clear hb1 hs0 HF
  go_wp2_with fail
  obtain ⟨w2, hw2⟩ : ∃ w2, w2 = w1.alloc (.cells #[.int .u8 0, .int .u8 0, .int .u8 6, .int .u8 2, .int .u8 31, .int .u8 0, .int .u8 0, .int .u8 2] 5) := ⟨_, rfl⟩
  have hb2 : Below w1.heap.size w1 w2 := by rw [hw2]; exact (Below.refl _ _).alloc (Nat.le_refl _) _
  have ho2 : w2.ownsRow w.heap.size 5 1 (.slice (some ⟨w1.heap.size, 0, none⟩) 8 8) 8 (cels [0, 0, 6, 2, 31, 0, 0, 2]) := by rw [hw2]; exact own_alloc w1 w1.heap.size 8 w.heap.size [0, 0, 6, 2, 31, 0, 0, 2] rfl rfl (by decide) (Nat.le_of_lt hl1)
  have zB0 : w2.cell? ⟨w.heap.size, 0, none⟩ = some (.string ve) := (hb2.cell (p := ⟨w.heap.size, 0, none⟩) (by show w.heap.size < _; omega)).trans zA0
  have zB1 : w2.cell? ⟨w.heap.size, 1, none⟩ = some (.string pr) := (hb2.cell (p := ⟨w.heap.size, 1, none⟩) (by show w.heap.size < _; omega)).trans zA1
  have zB2 : w2.cell? ⟨w.heap.size, 2, none⟩ = some (.string re) := (hb2.cell (p := ⟨w.heap.size, 2, none⟩) (by show w.heap.size < _; omega)).trans zA2
  have zB3 : w2.cell? ⟨w.heap.size, 3, none⟩ = some (.string se) := (hb2.cell (p := ⟨w.heap.size, 3, none⟩) (by show w.heap.size < _; omega)).trans zA3
  have zB4 : w2.cell? ⟨w.heap.size, 4, none⟩ = some (.int .u8 pt) := (hb2.cell (p := ⟨w.heap.size, 4, none⟩) (by show w.heap.size < _; omega)).trans zA4
  have hB2 : Below w.heap.size w w2 := hB1.out.trans (hb2.mono hB1.out.size)
  rw [← hw2]
  clear hw2 zA0 zA1 zA2 zA3 zA4 hb2 hB1
  refine wp_region_any (by kernel_rfl) ?_
  refine wpAny_of_C (C := fun W => W.cell? ⟨w.heap.size, 0, none⟩ = some (.string ve) ∧ W.cell? ⟨w.heap.size, 1, none⟩ = some (.string pr) ∧ W.cell? ⟨w.heap.size, 2, none⟩ = some (.string re)) _ _ _ _ ?_
  refine wpAnyC_take 0 (.slice (some ⟨w1.heap.size, 0, none⟩) 8 8) rfl (by kernel_rfl) (by kernel_rfl) (by kernel_rfl) (fun _ _ _ h => h) (wanted_free rfl _) (fun W hW => by go_simp) ?_
  simp only [Act.put, List.getElem_toArray, List.getElem_cons_succ, List.getElem_cons_zero, List.setIfInBounds_toArray, List.set_cons_succ, List.set_cons_zero]
  refine wpAnyC_take 1 (.pointer (some ⟨w.heap.size, 0, none⟩)) rfl (by kernel_rfl) (by kernel_rfl) (by kernel_rfl) (fun _ _ _ h => h) (wanted_free rfl _) (fun W hW => by go_simp) ?_
  simp only [Act.put, List.getElem_toArray, List.getElem_cons_succ, List.getElem_cons_zero, List.setIfInBounds_toArray, List.set_cons_succ, List.set_cons_zero]
  refine wpAnyC_take 2 (.string ve) rfl (by kernel_rfl) (by kernel_rfl) (by kernel_rfl) (fun _ _ _ h => h) (wanted_free rfl _) (fun W hW => by obtain ⟨y0, y1, y2⟩ := hW; go_simp) ?_
  simp only [Act.put, List.getElem_toArray, List.getElem_cons_succ, List.getElem_cons_zero, List.setIfInBounds_toArray, List.set_cons_succ, List.set_cons_zero]
  refine wpAnyC_take 4 (.pointer (some ⟨w.heap.size, 1, none⟩)) rfl (by kernel_rfl) (by kernel_rfl) (by kernel_rfl) (fun _ _ _ h => h) (wanted_free rfl _) (fun W hW => by go_simp) ?_
  simp only [Act.put, List.getElem_toArray, List.getElem_cons_succ, List.getElem_cons_zero, List.setIfInBounds_toArray, List.set_cons_succ, List.set_cons_zero]
  refine wpAnyC_take 5 (.string pr) rfl (by kernel_rfl) (by kernel_rfl) (by kernel_rfl) (fun _ _ _ h => h) (wanted_free rfl _) (fun W hW => by obtain ⟨y0, y1, y2⟩ := hW; go_simp) ?_
  simp only [Act.put, List.getElem_toArray, List.getElem_cons_succ, List.getElem_cons_zero, List.setIfInBounds_toArray, List.set_cons_succ, List.set_cons_zero]
  refine wpAnyC_take 8 (.pointer (some ⟨w.heap.size, 2, none⟩)) rfl (by kernel_rfl) (by kernel_rfl) (by kernel_rfl) (fun _ _ _ h => h) (wanted_free rfl _) (fun W hW => by go_simp) ?_
  simp only [Act.put, List.getElem_toArray, List.getElem_cons_succ, List.getElem_cons_zero, List.setIfInBounds_toArray, List.set_cons_succ, List.set_cons_zero]
  refine wpAnyC_take 9 (.string re) rfl (by kernel_rfl) (by kernel_rfl) (by kernel_rfl) (fun _ _ _ h => h) (wanted_free rfl _) (fun W hW => by obtain ⟨y0, y1, y2⟩ := hW; go_simp) ?_
  simp only [Act.put, List.getElem_toArray, List.getElem_cons_succ, List.getElem_cons_zero, List.setIfInBounds_toArray, List.set_cons_succ, List.set_cons_zero]
  refine wpAnyC_one 3 ⟨zB0, zB1, zB2⟩ rfl (by kernel_rfl) (wanted_free rfl _) (fun KA hKA => ?_)
  go_simp
  refine (HA.out _).mono ?_
  rintro e w3 ⟨rfl, rfl⟩
  refine hKA _ _ ?_
  clear hKA KA
  try simp only [Act.put, List.getElem_toArray, List.getElem_cons_succ, List.getElem_cons_zero, List.setIfInBounds_toArray, List.set_cons_succ, List.set_cons_zero]
  refine wpAnyC_one 6 ⟨zB0, zB1, zB2⟩ rfl (by kernel_rfl) (wanted_free rfl _) (fun KA hKA => ?_)
  go_simp
  refine (HB.out _).mono ?_
  rintro e w3 ⟨rfl, rfl⟩
  refine hKA _ _ ?_
  clear hKA KA
  try simp only [Act.put, List.getElem_toArray, List.getElem_cons_succ, List.getElem_cons_zero, List.setIfInBounds_toArray, List.set_cons_succ, List.set_cons_zero]
  refine wpAnyC_take 7 (.string U) rfl (by kernel_rfl) (by kernel_rfl) (by kernel_rfl) (fun _ _ _ h => h) (wanted_free rfl _) (fun W hW => by rw [hU.out]; go_simp) ?_
  simp only [Act.put, List.getElem_toArray, List.getElem_cons_succ, List.getElem_cons_zero, List.setIfInBounds_toArray, List.set_cons_succ, List.set_cons_zero]
  refine wpAnyC_one 10 ⟨zB0, zB1, zB2⟩ rfl (by kernel_rfl) (wanted_free rfl _) (fun KA hKA => ?_)
  go_simp
  refine (HC.out _).mono ?_
  rintro e w3 ⟨rfl, rfl⟩
  refine hKA _ _ ?_
  clear hKA KA
  try simp only [Act.put, List.getElem_toArray, List.getElem_cons_succ, List.getElem_cons_zero, List.setIfInBounds_toArray, List.set_cons_succ, List.set_cons_zero]
  refine wpAnyC_take 11 (.string T) rfl (by kernel_rfl) (by kernel_rfl) (by kernel_rfl) (fun _ _ _ h => h) (wanted_free rfl _) (fun W hW => by rw [hTT.out]; go_simp) ?_
  simp only [Act.put, List.getElem_toArray, List.getElem_cons_succ, List.getElem_cons_zero, List.setIfInBounds_toArray, List.set_cons_succ, List.set_cons_zero]
  refine wpAnyC_one 12 ⟨zB0, zB1, zB2⟩ rfl (by kernel_rfl) (wanted_free rfl _) (fun KA hKA => ?_)
  refine wp_append_str rfl (.tmp 13) (.tmp 24) rfl w.heap.size _ [0, 0, 6, 2, 31, 0, 0, 2] 8 T rfl rfl (own_of_block (w' := w2.drew) ho2 (fun q hq => rfl)) (by rw [hTs.out]; decide) hB2.size ?_
  intro v' w5 ho5 hg5
  have hlw : w.heap.size < w2.heap.size := Nat.lt_of_lt_of_le (Nat.lt_trans hl1 (World.ownsRow.lt ho2 w1.heap.size rfl).2) (Nat.le_refl _)
  have hne : ∀ j, w5.cell? ⟨w.heap.size, j, none⟩ = w2.cell? ⟨w.heap.size, j, none⟩ := fun j => far_cell hg5.out ⟨w.heap.size, j, none⟩ hlw (fun e => by have e' : w1.heap.size = w.heap.size := Option.some.inj e; omega)
  have hB5 : Kpt (Below w.heap.size w w5) := ⟨hB2.drew.grown hg5.out hB2.size (fun q hq => by cases hq; exact Nat.le_of_lt hl1)⟩
  rw [hTs.out] at ho5
  obtain ⟨g, k, hv, _, _⟩ := own_shape ho5.out (by decide)
  subst hv
  refine hKA _ _ ?_
  clear hKA KA
  try simp only [Act.put, List.getElem_toArray, List.getElem_cons_succ, List.getElem_cons_zero, List.setIfInBounds_toArray, List.set_cons_succ, List.set_cons_zero]
  refine wpAnyC_take 13 (.slice (some ⟨g, 0, none⟩) 36 k) rfl (by kernel_rfl) (by kernel_rfl) (by kernel_rfl) (fun _ _ _ h => h) (wanted_free rfl _) (fun W hW => by go_simp) ?_
  simp only [Act.put, List.getElem_toArray, List.getElem_cons_succ, List.getElem_cons_zero, List.setIfInBounds_toArray, List.set_cons_succ, List.set_cons_zero]
  refine wpAnyC_done ⟨(hne 0).trans zB0, (hne 1).trans zB1, (hne 2).trans zB2⟩ (by kernel_rfl) ?_
  clear zB0 zB1 zB2 zB3 zB4 hne ho2 hB2 hg5
  go_wp2_with fail
  go_ret
  exact ⟨g, k, rfl, ho5.out, hB5.out⟩

theorem std_some (i : In) (w : World) (hi : i.wf) (hf : i.form = true) : Calls Try.prog 15 #[.agg i.vals] w fun e w' => ∃ g k, e = .returned (.slice (some ⟨g, 0, none⟩) 36 k) ∧ w'.ownsRow w.heap.size 5 1 (.slice (some ⟨g, 0, none⟩) 36 k) 36 (cels (stdL i)) ∧ Below w.heap.size w w' := by
  by_cases h : 0 < i.pt
  · exact std_pos i w hi hf h
  · exact std_zero i w hi hf h
end Go.Proofs.Yteoaadpilaljnaa
