/-
  The contract of vital.
-/
import Derived.Test.YteoaadpilaljnaaILim
import Derived.Lib.AppendStr
import Derived.Lib.ConvBytes
namespace Go.Proofs.Yteoaadpilaljnaa
open Go.RowKit
set_option linter.unusedVariables false
set_option linter.unusedSimpArgs false

theorem strCells_nums (S : ByteArray) : Lib.strCells S = cels (nums S) := by
  unfold Lib.strCells cels nums
  rw [List.map_map]
  rfl
/-- What stands behind a page's head. -/
def vitL (i : In) (p : Int) : List Int := if p = 0 then [0, 128, 131, 176, 178] else if p = 128 then nums i.se else if p = 131 then ([2, 1, 0, (((fillS i.ve 8 ++ i.se).size : Nat) : Int)] : List Int) ++ nums (fillS i.ve 8 ++ i.se) else if p = 176 then limL else [0, 224, 2, 0]
def isVit (p : Int) : Prop := p = 0 ∨ p = 128 ∨ p = 131 ∨ p = 176 ∨ p = 178

theorem vit_no (i : In) (p : Int) (w : World) (h : ¬ isVit p) : Calls Try.prog 31 #[.agg i.vals, .int .u8 p] w fun e w' => e = .returned (.slice none 0 0) ∧ Below w.heap.size w w' := by
  obtain ⟨ve, pr, re, se, pt⟩ := i
  have h1 : ¬ p = 0 := fun e => h (.inl e)
  have h2 : ¬ p = 128 := fun e => h (.inr (.inl e))
  have h3 : ¬ p = 131 := fun e => h (.inr (.inr (.inl e)))
  have h4 : ¬ p = 176 := fun e => h (.inr (.inr (.inr (.inl e))))
  have h5 : ¬ p = 178 := fun e => h (.inr (.inr (.inr (.inr e))))
  clear h
  simp only [In.vals]
  go_enter Try.func31, Try.ntmps31
  go_wp2_with fail
  go_ret
  exact ⟨rfl, (Below.refl _ _).alloc (Nat.le_refl _) _⟩

/-- A row that can be read, not of a block that was there. -/
def Got (w w' : World) (v : Value) (zs : List Int) : Prop := ∃ g k, v = .slice (some ⟨g, 0, none⟩) zs.length k ∧ w.heap.size ≤ g ∧ g < w'.heap.size ∧ RdAt w' v zs ∧ Below w.heap.size w w'
theorem got_own {w w' : World} {g n k : Nat} {zs : List Int} (ho : w'.ownsRow w.heap.size 5 1 (.slice (some ⟨g, 0, none⟩) n k) n (cels zs)) (hb : Below w.heap.size w w') : Got w w' (.slice (some ⟨g, 0, none⟩) n k) zs := by
  have hz : zs.length = n := by have := ho.1; simpa using this
  obtain ⟨h1, h2⟩ := World.ownsRow.lt ho g rfl
  exact ⟨g, k, by rw [hz], h1, h2, own_rd ho, hb⟩

theorem vit_0 (i : In) (w : World) : Calls Try.prog 31 #[.agg i.vals, .int .u8 0] w fun e w' => ∃ v, e = .returned v ∧ Got w w' v (vitL i 0) := by
  obtain ⟨ve, pr, re, se, pt⟩ := i
  simp only [In.vals]
  go_enter Try.func31, Try.ntmps31
  go_wp2_with fail
  go_ret
  exact ⟨_, rfl, got_own (own_alloc (w.alloc (.cells #[.string ve, .string pr, .string re, .string se, .int .u8 pt] 23)) (w.heap.size + 1) 5 w.heap.size [0, 128, 131, 176, 178] (by simp) rfl (by decide) (Nat.le_succ _)) (((Below.refl _ _).alloc (Nat.le_refl _) _).alloc (by simp) _)⟩
theorem vit_178 (i : In) (w : World) : Calls Try.prog 31 #[.agg i.vals, .int .u8 178] w fun e w' => ∃ v, e = .returned v ∧ Got w w' v (vitL i 178) := by
  obtain ⟨ve, pr, re, se, pt⟩ := i
  simp only [In.vals]
  go_enter Try.func31, Try.ntmps31
  go_wp2_with fail
  go_ret
  exact ⟨_, rfl, got_own (own_alloc (w.alloc (.cells #[.string ve, .string pr, .string re, .string se, .int .u8 pt] 23)) (w.heap.size + 1) 4 w.heap.size [0, 224, 2, 0] (by simp) rfl (by decide) (Nat.le_succ _)) (((Below.refl _ _).alloc (Nat.le_refl _) _).alloc (by simp) _)⟩
theorem vit_176 (i : In) (w : World) : Calls Try.prog 31 #[.agg i.vals, .int .u8 176] w fun e w' => ∃ v, e = .returned v ∧ Got w w' v (vitL i 176) := by
  obtain ⟨ve, pr, re, se, pt⟩ := i
  simp only [In.vals]
  go_enter Try.func31, Try.ntmps31
  go_wp2_with fail
  refine (limits_any _).mono ?_
  rintro e w1 ⟨g, rfl, hg, ho, hb⟩
  have hs : (w.alloc (.cells #[.string ve, .string pr, .string re, .string se, .int .u8 pt] 23)).heap.size = w.heap.size + 1 := by simp
  rw [hs] at ho hb hg
  have ho' := Kpt.mk (own_base ho (Nat.le_succ w.heap.size))
  have hb' : Kpt (Below w.heap.size w w1) := ⟨((Below.refl _ _).alloc (Nat.le_refl _) _).trans (hb.mono (Nat.le_succ _))⟩
  clear ho hb hg hs
  go_wp2_with fail
  go_ret
  exact ⟨_, rfl, got_own ho'.out hb'.out⟩
theorem vit_128 (i : In) (w : World) (h1 : 0 < i.se.size) : Calls Try.prog 31 #[.agg i.vals, .int .u8 128] w fun e w' => ∃ v, e = .returned v ∧ Got w w' v (vitL i 128) := by
  obtain ⟨ve, pr, re, se, pt⟩ := i
  simp only at h1
  obtain ⟨w1, hw1⟩ : ∃ w1, w1 = w.alloc (.cells #[.string ve, .string pr, .string re, .string se, .int .u8 pt] 23) := ⟨_, rfl⟩
  have hcv := Lib.run_convert_string_bytes (P := Try.prog) w1 9 25 5 se Try.underlying9 Try.underlying25 Try.underlying5
  have hs1 : w1.heap.size = w.heap.size + 1 := by rw [hw1]; simp
  have hb1 : Below w.heap.size w w1 := by rw [hw1]; exact (Below.refl _ _).alloc (Nat.le_refl _) _
  obtain ⟨w2, hw2⟩ : ∃ w2, w2 = Lib.bytesWorld w1 5 se := ⟨_, rfl⟩
  obtain ⟨k, hk⟩ : ∃ k, k = grownCap w1 se.size 0 5 := ⟨_, rfl⟩
  have hkk : se.size ≤ k := by rw [hk]; exact grownCap_ge w1 se.size 0 5
  rw [← hw2, ← hk] at hcv
  have hs2 : w2.heap.size = w1.heap.size + 1 := by rw [hw2]; exact Lib.bytesWorld_size w1 5 se
  have hb2 : Below w1.heap.size w1 w2 := ⟨by rw [hw2]; rfl, by rw [hw2]; rfl, by rw [hw2]; rfl, by omega, fun q hq => by rw [hw2]; exact Lib.bytesWorld_at_old w1 5 se q hq⟩
  have hcl : ∀ j, j < se.size → w2.cell? ⟨w1.heap.size, j, none⟩ = some (.int .u8 ((nums se).getD j 0)) := fun j hj => by
    rw [hw2, Lib.bytesWorld_cell w1 5 se j hj, nums_at se j hj]
    simp [hj]
    rfl
  rw [hw1] at hcv
  rw [← hw1] at hcv
  have hgot : Kpt (Got w w2 (.slice (some ⟨w1.heap.size, 0, none⟩) se.size k) (nums se)) := ⟨by
    refine ⟨w1.heap.size, k, by rw [nums_len], by omega, by omega, ⟨some ⟨w1.heap.size, 0, none⟩, k, by rw [nums_len], fun e => (by cases e), by rw [nums_len]; exact hkk, .inr ⟨w1.heap.size, 0, rfl, fun j u hu => ?_⟩⟩, hb1.trans (hb2.mono (by omega))⟩
    have hj : j < se.size := by have := (List.getElem?_eq_some_iff.1 hu).1; rw [cels_length, nums_len] at this; exact this
    rw [Nat.zero_add, hcl j hj]
    rw [cels, List.getElem?_map, List.getElem?_eq_getElem (by rw [nums_len]; exact hj)] at hu
    rw [List.getD_eq_getElem?_getD, List.getElem?_eq_getElem (by rw [nums_len]; exact hj)]
    exact hu⟩
  rw [hw1] at hcv
  simp only [In.vals]
  rw [show vitL ⟨ve, pr, re, se, pt⟩ 128 = nums se from rfl]
  rw [hs1] at hgot
  rw [show (w.alloc (.cells #[.string ve, .string pr, .string re, .string se, .int .u8 pt] 23)).heap.size = w.heap.size + 1 from by simp] at hcv
  clear hw2 hk hkk hs2 hb2 hcl hb1 hs1 hw1
  go_enter Try.func31, Try.ntmps31
  go_wp2_with fail
  go_ret
  exact ⟨_, rfl, hgot.out⟩
theorem wpList_append_str {w : World} {ops : Array Oper} {rest : List Oper} {o : Oper} {a : Act} {Q : Exit → Act → World → Prop} (hgd : o.guard = none) (d s : Operand)
    (ho : o.op = .call { callee := .builtin .append, args := #[d, s], argTypes := #[25, 9] })
    (base : Nat) (v : Value) (zs : List Int) (n : Nat) (T : ByteArray) (hd : a.eval d = v) (hs : a.eval s = .string T) (hown : w.ownsRow base 5 1 v n (cels zs)) (hlen : n + T.size ≤ 1000) (hb : base ≤ w.heap.size)
    (h : ∀ v' w', Kpt (w'.ownsRow base 5 1 v' (n + T.size) (cels (zs ++ nums T))) → Kpt (w.grownBy w' v.ownBlock) → wpList Try.prog ops Q rest (a.put o.dst v') w') : wpList Try.prog ops Q (o :: rest) a w := by
  obtain ⟨i0, hi0, hz0, hz1, hz2⟩ := info_parts Try.info5
  refine Lib.wpList_append_own_string (P := Try.prog) w hgd d s 25 9 ho base 5 i0 Try.underlying25 Try.underlying9 hi0 hz0 hz1 hz2 v n (cels zs) hd hown T hs (by unfold maxLen; omega) (by omega) hb ?_
  intro v' w' ho' hg' _
  exact h v' w' ⟨by rw [cels_append, ← strCells_nums]; exact ho'⟩ ⟨hg'⟩
theorem size_app (a b : ByteArray) : (a ++ b).size = a.size + b.size := by simp
theorem fill_size (S : ByteArray) (n : Nat) (h : S.size ≤ n) : (fillS S n).size = n := by unfold fillS; rw [size_app, sps_size]; omega
set_option maxRecDepth 100000 in
set_option maxHeartbeats 2000000 in
theorem vit_131 (i : In) (w : World) (h1 : i.ve.size ≤ 8) (h2 : i.se.size ≤ 20) : Calls Try.prog 31 #[.agg i.vals, .int .u8 131] w fun e w' => ∃ v, e = .returned v ∧ Got w w' v (vitL i 131) := by
  obtain ⟨i0, hi0, hz0, hz1, hz2⟩ := info_parts Try.info5
  obtain ⟨ve, pr, re, se, pt⟩ := i
  simp only at h1 h2
  have HF := Kpt.mk (fun W => fill_any ve 8 W h1 (by decide))
  have hfs := fill_size ve 8 h1
  rw [show vitL ⟨ve, pr, re, se, pt⟩ 131 = ([2, 1, 0, (((fillS ve 8 ++ se).size : Nat) : Int)] : List Int) ++ nums (fillS ve 8 ++ se) from rfl]
  obtain ⟨F, hF⟩ : ∃ F, F = fillS ve 8 := ⟨_, rfl⟩
  rw [← hF] at HF hfs ⊢
  have hlim : ¬ 9223372036854775807 < F.size + se.size := by omega
  have hT : (F ++ se).size ≤ 28 := by rw [size_app]; omega
  obtain ⟨T, hTT⟩ : ∃ T, T = F ++ se := ⟨_, rfl⟩
  rw [← hTT] at hT ⊢
  simp only [In.vals]
  replace hTT := Kpt.mk hTT
  clear hF hfs
  go_enter Try.func31, Try.ntmps31
  go_wp2_with fail
  obtain ⟨w1, hw1⟩ : ∃ w1, w1 = w.alloc (.cells #[.string ve, .string pr, .string re, .string se, .int .u8 pt] 23) := ⟨_, rfl⟩
  have hs1 : w1.heap.size = w.heap.size + 1 := by rw [hw1]; simp
  have hb1 : Below w.heap.size w w1 := by rw [hw1]; exact (Below.refl _ _).alloc (Nat.le_refl _) _
  have z0 : w1.cell? ⟨w.heap.size, 0, none⟩ = some (.string ve) := by rw [hw1]; simp
  have z3 : w1.cell? ⟨w.heap.size, 3, none⟩ = some (.string se) := by rw [hw1]; simp
  rw [← hw1]
  clear hw1
  refine wp_region_any (by kernel_rfl) ?_
  refine wpAny_of_C (C := fun W => W.cell? ⟨w.heap.size, 0, none⟩ = some (.string ve) ∧ W.cell? ⟨w.heap.size, 3, none⟩ = some (.string se)) _ _ _ _ ?_
  refine wpAnyC_take 0 (.pointer (some ⟨w.heap.size, 0, none⟩)) rfl (by kernel_rfl) (by kernel_rfl) (by kernel_rfl) (fun _ _ _ h => h) (wanted_free rfl _) (fun W hW => by go_simp) ?_
  simp only [Act.put, List.getElem_toArray, List.getElem_cons_succ, List.getElem_cons_zero, List.setIfInBounds_toArray, List.set_cons_succ, List.set_cons_zero]
  refine wpAnyC_take 1 (.string ve) rfl (by kernel_rfl) (by kernel_rfl) (by kernel_rfl) (fun _ _ _ h => h) (wanted_free rfl _) (fun W hW => by obtain ⟨y0, y3⟩ := hW; go_simp) ?_
  simp only [Act.put, List.getElem_toArray, List.getElem_cons_succ, List.getElem_cons_zero, List.setIfInBounds_toArray, List.set_cons_succ, List.set_cons_zero]
  refine wpAnyC_take 3 (.pointer (some ⟨w.heap.size, 3, none⟩)) rfl (by kernel_rfl) (by kernel_rfl) (by kernel_rfl) (fun _ _ _ h => h) (wanted_free rfl _) (fun W hW => by go_simp) ?_
  simp only [Act.put, List.getElem_toArray, List.getElem_cons_succ, List.getElem_cons_zero, List.setIfInBounds_toArray, List.set_cons_succ, List.set_cons_zero]
  refine wpAnyC_take 4 (.string se) rfl (by kernel_rfl) (by kernel_rfl) (by kernel_rfl) (fun _ _ _ h => h) (wanted_free rfl _) (fun W hW => by obtain ⟨y0, y3⟩ := hW; go_simp) ?_
  simp only [Act.put, List.getElem_toArray, List.getElem_cons_succ, List.getElem_cons_zero, List.setIfInBounds_toArray, List.set_cons_succ, List.set_cons_zero]
  refine wpAnyC_one 2 ⟨z0, z3⟩ rfl (by kernel_rfl) (wanted_free rfl _) (fun KA hKA => ?_)
  go_simp
  refine (HF.out _).mono ?_
  rintro e w2 ⟨rfl, rfl⟩
  refine hKA _ _ ?_
  clear hKA KA
  try simp only [Act.put, List.getElem_toArray, List.getElem_cons_succ, List.getElem_cons_zero, List.setIfInBounds_toArray, List.set_cons_succ, List.set_cons_zero]
  refine wpAnyC_take 5 (.string T) rfl (by kernel_rfl) (by kernel_rfl) (by kernel_rfl) (fun _ _ _ h => h) (wanted_free rfl _) (fun W hW => by rw [hTT.out]; go_simp) ?_
  simp only [Act.put, List.getElem_toArray, List.getElem_cons_succ, List.getElem_cons_zero, List.setIfInBounds_toArray, List.set_cons_succ, List.set_cons_zero]
  refine wpAnyC_take 6 (.string T) rfl (by kernel_rfl) (by kernel_rfl) (by kernel_rfl) (fun _ _ _ h => h) (wanted_free rfl _) (fun W hW => by go_simp) ?_
  simp only [Act.put, List.getElem_toArray, List.getElem_cons_succ, List.getElem_cons_zero, List.setIfInBounds_toArray, List.set_cons_succ, List.set_cons_zero]
  refine wpAnyC_done ⟨z0, z3⟩ (by kernel_rfl) ?_
  have hb2 : Kpt (Below w.heap.size w w1.drew) := ⟨hb1.drew⟩
  obtain ⟨w3, hw3⟩ : ∃ w3, w3 = w1.drew := ⟨_, rfl⟩
  have hs3 : w3.heap.size = w.heap.size + 1 := by rw [hw3]; exact hs1
  rw [← hw3] at hb2
  obtain ⟨n, hn⟩ : ∃ n, n = T.size := ⟨_, rfl⟩
  have v1 : IntKind.u8.wrap (n : Int) = n := by rw [IntKind.wrap_u8]; omega
  have hs4 : Kpt ((w3.alloc (.cells #[.int .u8 2, .int .u8 1, .int .u8 0, .int .u8 n] 5)).ownsRow w.heap.size 5 1 (.slice (some ⟨w.heap.size + 1, 0, none⟩) 4 4) 4 (cels [2, 1, 0, (n : Int)])) := ⟨own_alloc w3 (w.heap.size + 1) 4 w.heap.size [2, 1, 0, (n : Int)] hs3.symm rfl (by decide) (Nat.le_succ _)⟩
  have hb4 : Kpt (Below w.heap.size w (w3.alloc (.cells #[.int .u8 2, .int .u8 1, .int .u8 0, .int .u8 n] 5))) := ⟨hb2.out.alloc (by omega) _⟩
  have hnT : Kpt (n = T.size) := ⟨hn⟩
  have hTn : T.size = n := hn.symm
  clear hn z0 z3 hb1 hb2 HF
  rw [hw3] at hs4 hb4
  clear hw3 hs3
  go_wp2_with (refine wpList_append_str rfl (.tmp 26) (.tmp 27) rfl w.heap.size _ [2, 1, 0, (n : Int)] 4 T rfl rfl hs4.out (by omega) hb4.out.size ?_; intro v' w5 ho5 hg5)
  go_ret
  obtain ⟨g, k, hv, hbg, hlg⟩ := own_shape ho5.out (by omega)
  subst hv
  have hb5 : Below w.heap.size w w5 := by
    have h4 := hb4.out
    exact h4.grown hg5.out h4.size (fun q hq => by cases hq; exact Nat.le_succ _)
  have ho6 : w5.ownsRow w.heap.size 5 1 (.slice (some ⟨g, 0, none⟩) (4 + T.size) k) (4 + T.size) (cels ([2, 1, 0, ((T.size : Nat) : Int)] ++ nums T)) := by have := ho5.out; rw [hnT.out] at this; exact this
  exact ⟨_, rfl, got_own ho6 hb5⟩

theorem vit_some (i : In) (p : Int) (w : World) (hf : i.form = true) (hp : isVit p) : Calls Try.prog 31 #[.agg i.vals, .int .u8 p] w fun e w' => ∃ v, e = .returned v ∧ Got w w' v (vitL i p) := by
  unfold In.form plainB at hf
  simp only [Bool.and_eq_true, decide_eq_true_eq] at hf
  obtain ⟨⟨⟨⟨⟨⟨_, h1⟩, _⟩, _⟩, h4⟩, _, h5⟩, _⟩ := hf
  rcases hp with rfl | rfl | rfl | rfl | rfl
  · exact vit_0 i w
  · exact vit_128 i w h4
  · exact vit_131 i w (by omega) (by omega)
  · exact vit_176 i w
  · exact vit_178 i w
end Go.Proofs.Yteoaadpilaljnaa
