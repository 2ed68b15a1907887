/-
  The contracts of word, limits.
-/
import Derived.Test.YteoaadpilaljnaaIOwn
namespace Go.Proofs.Yteoaadpilaljnaa
open Go.RowKit
set_option linter.unusedVariables false
set_option linter.unusedSimpArgs false
theorem wp_copy_at {w : World} {o : Oper} {a : Act} {K : Act → World → Prop} {Q : Exit → Act → World → Prop} (d s : Operand)
    (ho : o.op = .call { callee := .builtin .copy, args := #[d, s], argTypes := #[25, 25] })
    (base g off n dLen dCap : Nat) (zs ds : List Int) (sv : Value) (hd : a.eval d = .slice (some ⟨g, off, none⟩) dLen dCap) (hs : a.eval s = sv)
    (hown : w.ownsRow base 5 1 (.slice (some ⟨g, 0, none⟩) n n) n (cels zs)) (hrd : RdAt w sv ds) (hdl : ds.length ≤ dLen) (hfit : off + ds.length ≤ n) (hpos : 0 < ds.length)
    (h : ∀ w', w'.ownsRow base 5 1 (.slice (some ⟨g, 0, none⟩) n n) n (cels (over zs off ds)) → w.grownBy w' (some g) → K (a.put o.dst (goInt ds.length)) w') : o.wp Try.prog a w K Q := by
  obtain ⟨sa, sc, rfl, hsn, hsl, hsr⟩ := hrd
  rcases hsr with h1 | ⟨b, soff, rfl, hc⟩
  · omega
  have hz : zs.length = n := by have := hown.1; simpa using this
  rcases hown.2 with ⟨hx, _⟩ | ⟨g', cap', cur, hx, hbg, hg, hnc, hcm, hcs, htake⟩
  · cases hx
  simp only [Value.slice.injEq, Option.some.injEq, Addr.mk.injEq, and_true, true_and] at hx
  obtain ⟨rfl, rfl⟩ := hx
  have hrun := run_copy_row (P := Try.prog) w 25 25 o.type 5 g off dLen dCap ⟨b, soff, none⟩ ds.length sc cur 5 (cels ds) Try.underlying25 B.Try.size5 hg
    (by simp only [cels_length]; exact (Nat.min_eq_left hdl).symm) (fun j u hu => by rw [Go.WideShapes.add_plain]; exact hc j u hu) (by simp; omega) (cels_one _)
  unfold Oper.wp
  simp [execOp, ho, resolve, invoke, builtin, hd, hs, hrun, Result.andThen]
  rw [cels_length] at *
  refine h _ ⟨?_, .inr ⟨g, n, _, rfl, hbg, setRow_heap w g cur _ 5 _ hg, Nat.le_refl _, hcm, ?_, ?_⟩⟩ ⟨rfl, rfl, rfl, by simp, fun j _ hk => setRow_other w g j _ (fun e => hk (by rw [e]))⟩
  · simp [over_length zs ds off (by omega), hz]
  · simp; omega
  · simp only [Nat.mul_one] at htake ⊢
    obtain ⟨R, hl⟩ : ∃ R, cur.toList = cels zs ++ R := ⟨cur.toList.drop n, by rw [← htake, List.take_append_drop]⟩
    have e1 : (cels zs ++ R).take off = (cels zs).take off := List.take_append_of_le_length (by simp; omega)
    have e2 : (cels zs ++ R).drop (off + ds.length) = (cels zs).drop (off + ds.length) ++ R := List.drop_append_of_le_length (by simp; omega)
    rw [hl, e1, e2]
    simp only [← List.append_assoc]
    rw [List.take_append_of_le_length (by simp; omega), List.take_of_length_le (by simp; omega)]
    simp [over, cels, List.map_take, List.map_drop]


set_option maxHeartbeats 1000000 in
theorem word_any (v : Int) (w : World) (hv : 0 ≤ v) (hv2 : v < 4294967296) :
    Calls Try.prog 36 #[.int .u64 v] w fun e w' => ∃ g, e = .returned (.slice (some ⟨g, 0, none⟩) 4 4) ∧ w.heap.size ≤ g ∧ w'.ownsRow w.heap.size 5 1 (.slice (some ⟨g, 0, none⟩) 4 4) 4 (cels (B.asc [0, 0, 0, 0] 0 4 v 4)) ∧ Below w.heap.size w w' := by
  obtain ⟨i0, hi0, hz0, hz1, hz2⟩ := info_parts Try.info5
  have hnm : 4 ≤ maxLen := by unfold maxLen; omega
  have hf : (v / 2 ^ (8 * 4) != 0) = false := by
    have : v / 4294967296 = 0 := by omega
    simp; exact this
  go_enter Try.func36, Try.ntmps36
  go_wp2_with (first
    | (go_at_call 46; refine (B.put_ok w.heap.size 0 4 4 0 4 v [0, 0, 0, 0] w1 rfl (by decide) (by decide) (by decide) (by decide) hv hf (fun j hj => by rw [Nat.zero_add]; exact own_facts hown1.out j hj)).mono ?_; rintro e w2 ⟨g, rfl, ho2, hb2⟩; replace ho2 := Kpt.mk ho2; replace hb2 := Kpt.mk hb2)
    | (at_make; refine wpList_make_full _ rfl _ _ 25 rfl w.heap.size 5 i0 (.int .u8 0) 1 Try.underlying25 hi0 hz0 hz1 .i64 .i64 _ _ 4 rfl rfl rfl rfl (by rw [hz2]; omega) hnm (Nat.le_refl _) ?_; intro w1 hown1 hg1; have hb1 : Kpt (Below w.heap.size w w1) := ⟨(Below.refl _ _).grown hg1 (Nat.le_refl _) (fun k h => by cases h)⟩; rw [made_u8] at hown1; replace hown1 := Kpt.mk hown1; clear hg1))
  go_ret
  have hg := (World.ownsRow.lt ho2.out g rfl).1
  exact ⟨g, rfl, Nat.le_trans hb1.out.size hg, own_base ho2.out hb1.out.size, hb1.out.trans (hb2.out.mono hb1.out.size)⟩
def limL : List Int := [0, 255, 0, 0, 0, 0, 1, 0, 0, 0, 0, 0, 0, 0, 0, 0, 0, 0, 1, 0, 0, 0, 0, 8, 0, 0, 0, 0, 0, 0, 0, 0, 0, 0, 0, 0, 0, 0, 0, 0, 0, 0, 0, 0, 0, 0, 0, 0, 0, 0, 0, 0, 0, 0, 0, 0, 0, 0, 0, 0]
set_option maxRecDepth 100000 in
set_option maxHeartbeats 2000000 in
theorem limits_any (w : World) :
    Calls Try.prog 44 #[] w fun e w' => ∃ g, e = .returned (.slice (some ⟨g, 0, none⟩) 60 60) ∧ w.heap.size ≤ g ∧ w'.ownsRow w.heap.size 5 1 (.slice (some ⟨g, 0, none⟩) 60 60) 60 (cels limL) ∧ Below w.heap.size w w' := by
  obtain ⟨i0, hi0, hz0, hz1, hz2⟩ := info_parts Try.info5
  have hnm : 60 ≤ maxLen := by unfold maxLen; omega
  go_enter Try.func44, Try.ntmps44
  go_wp2_with (at_make; refine wpList_make_full _ rfl _ _ 25 rfl w.heap.size 5 i0 (.int .u8 0) 1 Try.underlying25 hi0 hz0 hz1 .i64 .i64 _ _ 60 rfl rfl rfl rfl (by rw [hz2]; omega) hnm (Nat.le_refl _) ?_; intro w1 hown1 hg1; have hb1 : Kpt (Below w.heap.size w w1) := ⟨(Below.refl _ _).grown hg1 (Nat.le_refl _) (fun k h => by cases h)⟩; rw [made_u8] at hown1; have c1 := own_facts hown1 1 (by decide); have f1 := hown1.frozenAt 1; have HO := Kpt.mk hown1; clear hg1 hown1)
  obtain ⟨w2, hw2⟩ : ∃ w2, w2 = w1.setCell ⟨w.heap.size, 1, none⟩ (.int .u8 255) := ⟨_, rfl⟩
  have ho2 : w2.ownsRow w.heap.size 5 1 (.slice (some ⟨w.heap.size, 0, none⟩) 60 60) 60 (cels ((List.replicate 60 0).set 1 255)) := by rw [hw2]; exact own_set HO.out 1 255
  have hb2 : Below w.heap.size w w2 := by rw [hw2]; exact hb1.out.setCell (p := ⟨w.heap.size, 1, none⟩) (Nat.le_refl _) _
  rw [← hw2]
  clear hw2 c1 f1 HO hb1
  refine wp_region_any (by kernel_rfl) ?_
  refine wpAny_of_C (C := fun _ => True) _ _ _ _ ?_
  refine wpAnyC_take 0 (.slice (some ⟨w.heap.size, 0, none⟩) 60 60) rfl (by kernel_rfl) (by kernel_rfl) (by kernel_rfl) (fun _ _ _ h => h) (wanted_free rfl _) (fun W hW => by go_simp) ?_
  simp only [Act.put, List.getElem_toArray, List.getElem_cons_succ, List.getElem_cons_zero, List.setIfInBounds_toArray, List.set_cons_succ, List.set_cons_zero]
  refine wpAnyC_take 1 (.slice (some ⟨w.heap.size, 4, none⟩) 56 56) rfl (by kernel_rfl) (by kernel_rfl) (by kernel_rfl) (fun _ _ _ h => h) (wanted_free rfl _) (fun W hW => by go_simp) ?_
  simp only [Act.put, List.getElem_toArray, List.getElem_cons_succ, List.getElem_cons_zero, List.setIfInBounds_toArray, List.set_cons_succ, List.set_cons_zero]
  refine wpAnyC_one 2 trivial rfl (by kernel_rfl) (wanted_free rfl _) (fun KA hKA => ?_)
  go_simp
  refine (word_any 256 _ (by decide) (by decide)).mono ?_
  rintro e w3 ⟨g, rfl, hg, ho3, hb3⟩
  replace hb3 := below_undrew hb3
  have hl2 := (World.ownsRow.lt ho2 w.heap.size rfl).2
  have ho2' := own_of_block ho2 (fun q hq => by cases hq; exact hb3.block _ hl2)
  have hrd := own_rd ho3
  have hgne : w.heap.size < g := Nat.lt_of_lt_of_le hl2 hg
  refine hKA _ _ ?_
  clear hKA KA
  try simp only [Act.put, List.getElem_toArray, List.getElem_cons_succ, List.getElem_cons_zero, List.setIfInBounds_toArray, List.set_cons_succ, List.set_cons_zero]
  refine wpAnyC_one 3 trivial rfl (by kernel_rfl) (wanted_free rfl _) (fun KA hKA => ?_)
  refine wp_copy_at (.tmp 6) (.tmp 7) rfl w.heap.size w.heap.size 4 60 56 56 _ _ _ rfl rfl ho2' hrd (show 4 ≤ 56 by decide) (show 4 + 4 ≤ 60 by decide) (show 0 < 4 by decide) ?_
  intro w4 ho4 hg4
  have hb4 : Below w.heap.size w w4 := (hb2.trans (hb3.mono hb2.size)).grown hg4 (Nat.le_trans hb2.size hb3.size) (fun q hq => by cases hq; exact Nat.le_refl _)
  refine hKA _ _ ?_
  clear hKA KA
  try simp only [Act.put, List.getElem_toArray, List.getElem_cons_succ, List.getElem_cons_zero, List.setIfInBounds_toArray, List.set_cons_succ, List.set_cons_zero]
  refine wpAnyC_done trivial (by kernel_rfl) ?_
  clear ho2 hb2 ho3 hb3 ho2' hrd hg hgne hl2 hg4
  have ho2 := ho4
  have hb2 := hb4
  clear ho4 hb4
  replace ho2 := Kpt.mk ho2
  replace hb2 := Kpt.mk hb2
  go_wp2_with fail
  replace ho2 := ho2.out
  replace hb2 := hb2.out
  refine wp_region_any (by kernel_rfl) ?_
  refine wpAny_of_C (C := fun _ => True) _ _ _ _ ?_
  refine wpAnyC_take 0 (.slice (some ⟨w.heap.size, 0, none⟩) 60 60) rfl (by kernel_rfl) (by kernel_rfl) (by kernel_rfl) (fun _ _ _ h => h) (wanted_free rfl _) (fun W hW => by go_simp) ?_
  simp only [Act.put, List.getElem_toArray, List.getElem_cons_succ, List.getElem_cons_zero, List.setIfInBounds_toArray, List.set_cons_succ, List.set_cons_zero]
  refine wpAnyC_take 1 (.slice (some ⟨w.heap.size, 16, none⟩) 44 44) rfl (by kernel_rfl) (by kernel_rfl) (by kernel_rfl) (fun _ _ _ h => h) (wanted_free rfl _) (fun W hW => by go_simp) ?_
  simp only [Act.put, List.getElem_toArray, List.getElem_cons_succ, List.getElem_cons_zero, List.setIfInBounds_toArray, List.set_cons_succ, List.set_cons_zero]
  refine wpAnyC_one 2 trivial rfl (by kernel_rfl) (wanted_free rfl _) (fun KA hKA => ?_)
  go_simp
  refine (word_any 256 _ (by decide) (by decide)).mono ?_
  rintro e w3 ⟨g, rfl, hg, ho3, hb3⟩
  replace hb3 := below_undrew hb3
  have hl2 := (World.ownsRow.lt ho2 w.heap.size rfl).2
  have ho2' := own_of_block ho2 (fun q hq => by cases hq; exact hb3.block _ hl2)
  have hrd := own_rd ho3
  have hgne : w.heap.size < g := Nat.lt_of_lt_of_le hl2 hg
  refine hKA _ _ ?_
  clear hKA KA
  try simp only [Act.put, List.getElem_toArray, List.getElem_cons_succ, List.getElem_cons_zero, List.setIfInBounds_toArray, List.set_cons_succ, List.set_cons_zero]
  refine wpAnyC_one 3 trivial rfl (by kernel_rfl) (wanted_free rfl _) (fun KA hKA => ?_)
  refine wp_copy_at (.tmp 10) (.tmp 11) rfl w.heap.size w.heap.size 16 60 44 44 _ _ _ rfl rfl ho2' hrd (show 4 ≤ 44 by decide) (show 16 + 4 ≤ 60 by decide) (show 0 < 4 by decide) ?_
  intro w4 ho4 hg4
  have hb4 : Below w.heap.size w w4 := (hb2.trans (hb3.mono hb2.size)).grown hg4 (Nat.le_trans hb2.size hb3.size) (fun q hq => by cases hq; exact Nat.le_refl _)
  refine hKA _ _ ?_
  clear hKA KA
  try simp only [Act.put, List.getElem_toArray, List.getElem_cons_succ, List.getElem_cons_zero, List.setIfInBounds_toArray, List.set_cons_succ, List.set_cons_zero]
  refine wpAnyC_done trivial (by kernel_rfl) ?_
  clear ho2 hb2 ho3 hb3 ho2' hrd hg hgne hl2 hg4
  have ho2 := ho4
  have hb2 := hb4
  clear ho4 hb4
  replace ho2 := Kpt.mk ho2
  replace hb2 := Kpt.mk hb2
  go_wp2_with fail
  replace ho2 := ho2.out
  replace hb2 := hb2.out
  refine wp_region_any (by kernel_rfl) ?_
  refine wpAny_of_C (C := fun _ => True) _ _ _ _ ?_
  refine wpAnyC_take 0 (.slice (some ⟨w.heap.size, 0, none⟩) 60 60) rfl (by kernel_rfl) (by kernel_rfl) (by kernel_rfl) (fun _ _ _ h => h) (wanted_free rfl _) (fun W hW => by go_simp) ?_
  simp only [Act.put, List.getElem_toArray, List.getElem_cons_succ, List.getElem_cons_zero, List.setIfInBounds_toArray, List.set_cons_succ, List.set_cons_zero]
  refine wpAnyC_take 1 (.slice (some ⟨w.heap.size, 20, none⟩) 40 40) rfl (by kernel_rfl) (by kernel_rfl) (by kernel_rfl) (fun _ _ _ h => h) (wanted_free rfl _) (fun W hW => by go_simp) ?_
  simp only [Act.put, List.getElem_toArray, List.getElem_cons_succ, List.getElem_cons_zero, List.setIfInBounds_toArray, List.set_cons_succ, List.set_cons_zero]
  refine wpAnyC_one 2 trivial rfl (by kernel_rfl) (wanted_free rfl _) (fun KA hKA => ?_)
  go_simp
  refine (word_any 8 _ (by decide) (by decide)).mono ?_
  rintro e w3 ⟨g, rfl, hg, ho3, hb3⟩
  replace hb3 := below_undrew hb3
  have hl2 := (World.ownsRow.lt ho2 w.heap.size rfl).2
  have ho2' := own_of_block ho2 (fun q hq => by cases hq; exact hb3.block _ hl2)
  have hrd := own_rd ho3
  have hgne : w.heap.size < g := Nat.lt_of_lt_of_le hl2 hg
  refine hKA _ _ ?_
  clear hKA KA
  try simp only [Act.put, List.getElem_toArray, List.getElem_cons_succ, List.getElem_cons_zero, List.setIfInBounds_toArray, List.set_cons_succ, List.set_cons_zero]
  refine wpAnyC_one 3 trivial rfl (by kernel_rfl) (wanted_free rfl _) (fun KA hKA => ?_)
  refine wp_copy_at (.tmp 14) (.tmp 15) rfl w.heap.size w.heap.size 20 60 40 40 _ _ _ rfl rfl ho2' hrd (show 4 ≤ 40 by decide) (show 20 + 4 ≤ 60 by decide) (show 0 < 4 by decide) ?_
  intro w4 ho4 hg4
  have hb4 : Below w.heap.size w w4 := (hb2.trans (hb3.mono hb2.size)).grown hg4 (Nat.le_trans hb2.size hb3.size) (fun q hq => by cases hq; exact Nat.le_refl _)
  refine hKA _ _ ?_
  clear hKA KA
  try simp only [Act.put, List.getElem_toArray, List.getElem_cons_succ, List.getElem_cons_zero, List.setIfInBounds_toArray, List.set_cons_succ, List.set_cons_zero]
  refine wpAnyC_done trivial (by kernel_rfl) ?_
  clear ho2 hb2 ho3 hb3 ho2' hrd hg hgne hl2 hg4
  have ho2 := ho4
  have hb2 := hb4
  clear ho4 hb4
  replace ho2 := Kpt.mk ho2
  replace hb2 := Kpt.mk hb2
  go_wp2_with fail
  replace ho2 := ho2.out
  replace hb2 := hb2.out
  go_ret
  exact ⟨w.heap.size, rfl, Nat.le_refl _, ho2, hb2⟩
end Go.Proofs.Yteoaadpilaljnaa
