/-
  A unit and a piece, laid.
-/
import Derived.Test.YtnebcbfjlkhimaaDoorJSam
import Derived.Test.YtnebcbfjlkhimaaDoorJRep
import Derived.Lib.BufferWrite
namespace Go.Proofs.YtnebcbfjlkhimaaDoor
open Go.RowKit
set_option linter.unusedVariables false
set_option linter.unusedSimpArgs false
theorem asc_over (Z : List Int) (i n : Nat) (v : Int) (hi : i + n ≤ Z.length) : B.asc Z i n v n = over Z i (bigB v n) := by
  refine List.ext_getElem? (fun j => ?_)
  rw [B.asc_get Z i n v hi n (Nat.le_refl _)]
  unfold over
  by_cases h : i ≤ j ∧ j < i + n
  · rw [if_pos h, List.getElem?_append_right (by simp; omega), List.getElem?_append_left (by simp [bigB_len]; omega)]
    have hl : j - (Z.take i).length = j - i := by simp; omega
    rw [hl]
    simp only [bigB]
    rw [List.getElem?_map, List.getElem?_range (by omega)]
    simp only [Option.map_some]
    rw [Int.pow_mul]
    rfl
  · rw [if_neg h]
    by_cases h2 : j < i
    · rw [List.getElem?_append_left (by simp; omega), List.getElem?_take_of_lt h2]
    · rw [List.getElem?_append_right (by simp; omega), List.getElem?_append_right (by simp [bigB_len]; omega), List.getElem?_drop]
      congr 1
      simp [bigB_len]
      omega
theorem nums_app (A B : ByteArray) : nums (A ++ B) = nums A ++ nums B := by
  unfold nums
  rw [← List.map_append, ← Array.toList_append, ← ByteArray.data_append]
theorem put_row (base g i n L : Nat) (zs : List Int) (x : Int) (w : World) (hz : zs.length = L) (hL : L ≤ 5000) (ho : w.ownsRow base 5 1 (.slice (some ⟨g, 0, none⟩) L L) L (cels zs)) (hn1 : 1 ≤ n) (hn2 : n ≤ 8) (hi : i + n ≤ L) (hx : 0 ≤ x) (hx2 : x < 2 ^ (8 * n)) :
    Calls Tryd.prog 22 #[.slice (some ⟨g, 0, none⟩) L L, .int .i64 i, .int .i64 n, .int .u64 x] w fun e w' => ∃ g', e = .returned (.slice (some ⟨g', 0, none⟩) L L) ∧ w'.ownsRow w.heap.size 5 1 (.slice (some ⟨g', 0, none⟩) L L) L (cels (over zs i (bigB x n))) ∧ Below w.heap.size w w' := by
  have hP := Kpt.mk (B.put_ok g 0 L L i n x zs w hz (by omega) hn1 hn2 hi hx (by rw [Int.ediv_eq_zero_of_lt hx hx2]; rfl) (fun j hj => by rw [Nat.zero_add]; exact own_facts ho j hj))
  rw [asc_over _ _ _ _ (by omega)] at hP
  clear ho hx hx2
  go_enter Tryd.func22, Tryd.ntmps22
  go_wp2_with (go_at_call 34; refine hP.out.mono ?_; rintro e w' ⟨g', rfl, ho', hb'⟩; replace ho' := Kpt.mk ho'; replace hb' := Kpt.mk hb')
  go_ret
  exact ⟨_, rfl, ho'.out, hb'.out⟩
/-- A text is copied to the front of a row of one's own. -/
theorem wpList_copy_str {w : World} {ops : Array Oper} {rest : List Oper} {o : Oper} {a : Act} {Q : Exit → Act → World → Prop} (hgd : o.guard = none) (d s : Operand)
    (ho : o.op = .call { callee := .builtin .copy, args := #[d, s], argTypes := #[22, 9] })
    (S : ByteArray) (base g n : Nat) (zs : List Int) (hd : a.eval d = .slice (some ⟨g, 0, none⟩) n n) (hs : a.eval s = .string S)
    (hown : w.ownsRow base 5 1 (.slice (some ⟨g, 0, none⟩) n n) n (cels zs)) (hn : S.size ≤ n)
    (h : ∀ w', w'.ownsRow base 5 1 (.slice (some ⟨g, 0, none⟩) n n) n (cels (over zs 0 (nums S))) → w.grownBy w' (some g) → wpList Tryd.prog ops Q rest (a.put o.dst (goInt S.size)) w') : wpList Tryd.prog ops Q (o :: rest) a w := by
  refine wpList_plain hgd fun K hK => ?_
  have hz : zs.length = n := by have := hown.1; simpa using this
  rcases hown.2 with ⟨hx, _⟩ | ⟨g', cap', cur, hx, hbg, hg, hnc, hcm, hcs, htake⟩
  · cases hx
  simp only [Value.slice.injEq, Option.some.injEq, Addr.mk.injEq, and_true, true_and] at hx
  obtain ⟨rfl, rfl⟩ := hx
  have hsn : S.data.toList.length = S.size := by rw [Array.length_toList]; rfl
  have hrun := Lib.run_copy_row_string (P := Tryd.prog) w 22 9 o.type 5 g 0 n n S cur 5 Tryd.underlying22 Tryd.size5 hg hn (by omega)
  have e3 : Lib.byteCells S.data.toList = cels (nums S) := by unfold nums cels; rw [List.map_map]; rfl
  unfold Oper.wp
  simp [execOp, ho, resolve, invoke, builtin, hd, hs, hrun, Result.andThen]
  refine hK _ _ (h _ ⟨?_, .inr ⟨g, n, _, rfl, hbg, setRow_heap w g cur _ 5 _ hg, Nat.le_refl _, hcm, ?_, ?_⟩⟩ ⟨rfl, rfl, rfl, by simp, fun j _ hk => setRow_other w g j _ (fun e => hk (by rw [e]))⟩)
  · rw [cels_length, over_length zs _ 0 (by rw [nums_len]; omega), hz, Nat.mul_one]
  · rw [e3]; simp [cels_length, nums_len]; omega
  · simp only [Nat.mul_one] at htake ⊢
    obtain ⟨R, hl⟩ : ∃ R, cur.toList = cels zs ++ R := ⟨cur.toList.drop n, by rw [← htake, List.take_append_drop]⟩
    have e2 : (cels zs ++ R).drop S.size = (cels zs).drop S.size ++ R := List.drop_append_of_le_length (by simp; omega)
    rw [hl, e3]
    rw [e2, ← List.append_assoc]
    rw [List.take_append_of_le_length (by simp [nums_len]; omega), List.take_of_length_le (by simp [nums_len]; omega)]
    simp [over, cels, List.map_drop, nums_len]
theorem wpList_made {w : World} {ops : Array Oper} {rest : List Oper} {o : Oper} {a : Act} {Q : Exit → Act → World → Prop} (hgd : o.guard = none) (x y : Operand) (ho : o.op = .makeSlice 22 x y) (n : Nat) (hl : a.eval x = .int .i64 n) (hc : a.eval y = .int .i64 n) (hn : n ≤ 1000)
    (h : ∀ g w', w.heap.size ≤ g → w'.ownsRow w.heap.size 5 1 (.slice (some ⟨g, 0, none⟩) n n) n (cels (List.replicate n 0)) → Below w.heap.size w w' → wpList Tryd.prog ops Q rest (a.put o.dst (.slice (some ⟨g, 0, none⟩) n n)) w') : wpList Tryd.prog ops Q (o :: rest) a w := by
  obtain ⟨i0, hi0, hz0, hz1, hz2⟩ := info_parts Tryd.info5
  refine wpList_make_full _ hgd _ _ 22 ho w.heap.size 5 i0 (.int .u8 0) 1 Tryd.underlying22 hi0 hz0 hz1 .i64 .i64 _ _ n hl hc rfl rfl (by rw [hz2]; omega) (by unfold maxLen; omega) (Nat.le_refl _) ?_
  intro w1 hown1 hg1
  rw [made_u8] at hown1
  exact h _ _ (Nat.le_refl _) hown1 ((Below.refl _ _).grown hg1 (Nat.le_refl _) (fun k h => by cases h))
theorem sps_nums (n : Nat) : nums (sps n) = List.replicate n 32 := by
  unfold nums sps
  simp
theorem fr_nums : nums (⟨#[228, 0, 0, 0, 2, 1, 0, 20]⟩ : ByteArray) = front := rfl
theorem unit_is {s : List Int} (h : s.length ≤ 20) : over (over (List.replicate 32 0) 0 (front ++ padB s)) 29 (bigB 16 3) = unitB s := by
  have hl := padB_len h
  have hf : (front ++ padB s).length = 28 := by rw [List.length_append, hl]; rfl
  have e1 : over (List.replicate 32 0) 0 (front ++ padB s) = front ++ padB s ++ [0, 0, 0, 0] := by
    unfold over
    rw [hf]
    rfl
  have e2 : bigB 16 3 = [0, 0, 16] := by decide
  rw [e1, e2]
  unfold over unitB
  rw [List.take_append, List.take_of_length_le (by rw [hf]; decide), hf, List.drop_of_length_le (by simp only [List.length_append, List.length_cons, List.length_nil, hl]; decide), List.append_assoc]
  rfl
set_option maxRecDepth 100000 in
set_option maxHeartbeats 4000000 in
theorem layUnit_any (S : ByteArray) (w : World) (hS : S.size ≤ 20) :
    Calls Tryd.prog 23 #[.string S] w fun e w' => ∃ g, e = .returned (.slice (some ⟨g, 0, none⟩) 32 32) ∧ w'.ownsRow w.heap.size 5 1 (.slice (some ⟨g, 0, none⟩) 32 32) 32 (cels (unitB (nums S))) ∧ Below w.heap.size w w' := by
  obtain ⟨k, hk⟩ : ∃ k : Nat, (20 : Int) - S.size = k := ⟨20 - S.size, by omega⟩
  have hR := Kpt.mk (rep_any k w (by omega))
  have hlf : ¬ 9223372036854775807 < (⟨#[228, 0, 0, 0, 2, 1, 0, 20]⟩ : ByteArray).size + S.size := by rw [show (⟨#[228, 0, 0, 0, 2, 1, 0, 20]⟩ : ByteArray).size = 8 from rfl]; omega
  obtain ⟨E1, hE1⟩ : ∃ E, E = (⟨#[228, 0, 0, 0, 2, 1, 0, 20]⟩ : ByteArray) ++ S := ⟨_, rfl⟩
  obtain ⟨E0, hE0⟩ : ∃ E, E = sps k := ⟨_, rfl⟩
  rw [← hE0] at hR
  have z1 : E1.size = 8 + S.size := by rw [hE1, ByteArray.size_append]; rfl
  have z0 : E0.size = k := by rw [hE0]; exact sps_size k
  obtain ⟨E2, hE2⟩ : ∃ E, E = E1 ++ E0 := ⟨_, rfl⟩
  have z2 : E2.size = 28 := by rw [hE2, ByteArray.size_append]; omega
  have hlg : ¬ 9223372036854775807 < E1.size + E0.size := by omega
  have hfin : Kpt (over (over (List.replicate 32 0) 0 (nums E2)) 29 (bigB 16 3) = unitB (nums S)) := ⟨by
    rw [hE2, nums_app, hE1, nums_app, fr_nums, hE0, sps_nums, List.append_assoc, show k = 20 - (nums S).length by rw [nums_len]; omega]
    exact unit_is (by rw [nums_len]; exact hS)⟩
  have q1 := hE1.symm
  have q2 := hE2.symm
  clear hE1 hE2 hE0
  go_enter Tryd.func23, Tryd.ntmps23
  go_wp2_with (first
    | (go_at_call 22; have hm := m2; go_must (refine (put_row _ _ 29 3 32 _ 16 _ (by rw [over_length _ _ 0 (by rw [nums_len, z2]; decide)]; rfl) (by decide) ho2.out (by decide) (by decide) (by decide) (by decide) (by decide)).mono ?_; rintro e w4 ⟨g4, rfl, ho4, hb4⟩; replace ho4 := Kpt.mk (own_base ho4 hb.out.size); replace hb := Kpt.mk (hb.out.trans (hb4.mono hb.out.size)); clear hb4 hm))
    | (refine (?_ : wpList _ _ _ (Oper.mk _ (Op.call { callee := .builtin .copy, args := _, argTypes := _ }) _ _ _ _ :: _) _ _); go_must (refine wpList_copy_str rfl _ _ rfl E2 w.heap.size G 32 _ rfl rfl ho1.out (by rw [z2]; decide) ?_; intro w2 ho2 hg2; replace ho2 := Kpt.mk ho2; replace hb := Kpt.mk (hb.out.trans (bel_own hg2 hb.out.size hG.out)); have m2 : Kpt True := ⟨trivial⟩; clear hg2 ho1))
    | (at_make; go_must (refine wpList_made rfl _ _ rfl 32 rfl rfl (by decide) ?_; intro G w1 hG ho1 hb1; replace ho1 := Kpt.mk ho1; have hb := Kpt.mk hb1; replace hG := Kpt.mk hG; clear hb1))
    | (go_at_call 35; go_must (refine hR.out.mono ?_; rintro e w ⟨rfl, rfl⟩))
    | fail)
  go_ret
  exact ⟨_, rfl, hfin.out ▸ ho4.out, hb.out⟩
theorem seg_is (g : Sg) : over (over (over (over (over (over (List.replicate 28 0) 0 [2, 0, 0, 24]) 4 (bigB g.fr 2)) 6 (bigB g.to 2)) 10 (bigB g.bl 2)) 12 (bigB g.src 8)) 20 (bigB g.dst 8) = segB g := by
  obtain ⟨a, b, ha⟩ : ∃ a b, bigB g.fr 2 = [a, b] := ⟨_, _, rfl⟩
  obtain ⟨a2, b2, hb⟩ : ∃ a b, bigB g.to 2 = [a, b] := ⟨_, _, rfl⟩
  obtain ⟨a3, b3, hc⟩ : ∃ a b, bigB g.bl 2 = [a, b] := ⟨_, _, rfl⟩
  obtain ⟨s1, s2, s3, s4, s5, s6, s7, s8, hs⟩ : ∃ s1 s2 s3 s4 s5 s6 s7 s8, bigB g.src 8 = [s1, s2, s3, s4, s5, s6, s7, s8] := ⟨_, _, _, _, _, _, _, _, rfl⟩
  obtain ⟨d1, d2, d3, d4, d5, d6, d7, d8, hd⟩ : ∃ s1 s2 s3 s4 s5 s6 s7 s8, bigB g.dst 8 = [s1, s2, s3, s4, s5, s6, s7, s8] := ⟨_, _, _, _, _, _, _, _, rfl⟩
  rw [segB, ha, hb, hc, hs, hd]
  rfl
theorem over_len {zs ds : List Int} {o n : Nat} (h : zs.length = n) (h2 : o + ds.length ≤ n) : (over zs o ds).length = n := by rw [over_length _ _ _ (by omega), h]
theorem sgm_nums : nums (⟨#[2, 0, 0, 24]⟩ : ByteArray) = [2, 0, 0, 24] := rfl
set_option maxRecDepth 100000 in
set_option maxHeartbeats 4000000 in
theorem lay_any (F T B S D : Int) (w : World) (hF : 0 ≤ F ∧ F < 65536) (hT : 0 ≤ T ∧ T < 65536) (hB : 0 ≤ B ∧ B < 65536) (hS : 0 ≤ S ∧ S < 18446744073709551616) (hD : 0 ≤ D ∧ D < 18446744073709551616) :
    Calls Tryd.prog 24 #[.agg (Sg.vals ⟨F, T, B, S, D⟩)] w fun e w' => ∃ g, e = .returned (.slice (some ⟨g, 0, none⟩) 28 28) ∧ w'.ownsRow w.heap.size 5 1 (.slice (some ⟨g, 0, none⟩) 28 28) 28 (cels (segB ⟨F, T, B, S, D⟩)) ∧ Below w.heap.size w w' := by
  have hfin := Kpt.mk (seg_is ⟨F, T, B, S, D⟩)
  have w1 : IntKind.u64.wrap F = F := by rw [IntKind.wrap_u64]; omega
  have w2 : IntKind.u64.wrap T = T := by rw [IntKind.wrap_u64]; omega
  have w3 : IntKind.u64.wrap B = B := by rw [IntKind.wrap_u64]; omega
  have hF' := Kpt.mk hF
  have hT' := Kpt.mk hT
  have hB' := Kpt.mk hB
  have hS' := Kpt.mk hS
  have hD' := Kpt.mk hD
  go_enter Tryd.func24, Tryd.ntmps24
  have hb := Kpt.mk (Below.refl w.heap.size w)
  go_wp2_with (first
      | (go_at_call 22; have hm := m7; go_must (refine (put_row _ _ 20 8 28 _ D _ hl1.out (by decide) ho1.out (by decide) (by decide) (by decide) hD'.out.1 (by have := hD'.out.2; simpa using this)).mono ?_; rintro e w9 ⟨g9, rfl, ho_, hb_⟩; replace ho1 := Kpt.mk (own_base ho_ hb.out.size); replace hl1 := Kpt.mk (over_len hl1.out (by rw [bigB_len]; decide : 20 + (bigB D 8).length ≤ 28)); replace Ox := Kpt.mk (Ox.out.below hb_ Ox.out.lt); replace cx0 := sg_c0 Ox.out; replace cx1 := sg_c1 Ox.out; replace cx2 := sg_c2 Ox.out; replace cx3 := sg_c3 Ox.out; replace cx4 := sg_c4 Ox.out; replace hb := Kpt.mk (hb.out.trans (hb_.mono hb.out.size)); clear ho_ hb_; clear hm m7; have m8 : Kpt True := ⟨trivial⟩))
      | (go_at_call 22; have hm := m6; go_must (refine (put_row _ _ 12 8 28 _ S _ hl1.out (by decide) ho1.out (by decide) (by decide) (by decide) hS'.out.1 (by have := hS'.out.2; simpa using this)).mono ?_; rintro e w9 ⟨g9, rfl, ho_, hb_⟩; replace ho1 := Kpt.mk (own_base ho_ hb.out.size); replace hl1 := Kpt.mk (over_len hl1.out (by rw [bigB_len]; decide : 12 + (bigB S 8).length ≤ 28)); replace Ox := Kpt.mk (Ox.out.below hb_ Ox.out.lt); replace cx0 := sg_c0 Ox.out; replace cx1 := sg_c1 Ox.out; replace cx2 := sg_c2 Ox.out; replace cx3 := sg_c3 Ox.out; replace cx4 := sg_c4 Ox.out; replace hb := Kpt.mk (hb.out.trans (hb_.mono hb.out.size)); clear ho_ hb_; clear hm m6; have m7 : Kpt True := ⟨trivial⟩))
      | (go_at_call 22; have hm := m5; go_must (refine (put_row _ _ 10 2 28 _ B _ hl1.out (by decide) ho1.out (by decide) (by decide) (by decide) hB'.out.1 (by have := hB'.out.2; simpa using this)).mono ?_; rintro e w9 ⟨g9, rfl, ho_, hb_⟩; replace ho1 := Kpt.mk (own_base ho_ hb.out.size); replace hl1 := Kpt.mk (over_len hl1.out (by rw [bigB_len]; decide : 10 + (bigB B 2).length ≤ 28)); replace Ox := Kpt.mk (Ox.out.below hb_ Ox.out.lt); replace cx0 := sg_c0 Ox.out; replace cx1 := sg_c1 Ox.out; replace cx2 := sg_c2 Ox.out; replace cx3 := sg_c3 Ox.out; replace cx4 := sg_c4 Ox.out; replace hb := Kpt.mk (hb.out.trans (hb_.mono hb.out.size)); clear ho_ hb_; clear hm m5; have m6 : Kpt True := ⟨trivial⟩))
      | (go_at_call 22; have hm := m4; go_must (refine (put_row _ _ 6 2 28 _ T _ hl1.out (by decide) ho1.out (by decide) (by decide) (by decide) hT'.out.1 (by have := hT'.out.2; simpa using this)).mono ?_; rintro e w9 ⟨g9, rfl, ho_, hb_⟩; replace ho1 := Kpt.mk (own_base ho_ hb.out.size); replace hl1 := Kpt.mk (over_len hl1.out (by rw [bigB_len]; decide : 6 + (bigB T 2).length ≤ 28)); replace Ox := Kpt.mk (Ox.out.below hb_ Ox.out.lt); replace cx0 := sg_c0 Ox.out; replace cx1 := sg_c1 Ox.out; replace cx2 := sg_c2 Ox.out; replace cx3 := sg_c3 Ox.out; replace cx4 := sg_c4 Ox.out; replace hb := Kpt.mk (hb.out.trans (hb_.mono hb.out.size)); clear ho_ hb_; clear hm m4; have m5 : Kpt True := ⟨trivial⟩))
      | (go_at_call 22; have hm := m3; go_must (refine (put_row _ _ 4 2 28 _ F _ hl1.out (by decide) ho1.out (by decide) (by decide) (by decide) hF'.out.1 (by have := hF'.out.2; simpa using this)).mono ?_; rintro e w9 ⟨g9, rfl, ho_, hb_⟩; replace ho1 := Kpt.mk (own_base ho_ hb.out.size); replace hl1 := Kpt.mk (over_len hl1.out (by rw [bigB_len]; decide : 4 + (bigB F 2).length ≤ 28)); replace Ox := Kpt.mk (Ox.out.below hb_ Ox.out.lt); replace cx0 := sg_c0 Ox.out; replace cx1 := sg_c1 Ox.out; replace cx2 := sg_c2 Ox.out; replace cx3 := sg_c3 Ox.out; replace cx4 := sg_c4 Ox.out; replace hb := Kpt.mk (hb.out.trans (hb_.mono hb.out.size)); clear ho_ hb_; clear hm m3; have m4 : Kpt True := ⟨trivial⟩))
      | (refine (?_ : wpList _ _ _ (Oper.mk _ (Op.call { callee := .builtin .copy, args := _, argTypes := _ }) _ _ _ _ :: _) _ _); have hm := m2; go_must (refine wpList_copy_str rfl _ _ rfl ⟨#[2, 0, 0, 24]⟩ w.heap.size G 28 _ rfl rfl ho1.out (by decide) ?_; intro w9 ho_ hg_; rw [sgm_nums] at ho_; replace ho1 := Kpt.mk ho_; replace hl1 := Kpt.mk (over_len hl1.out (by decide : 0 + ([2, 0, 0, 24] : List Int).length ≤ 28)); replace Ox := Kpt.mk (Ox.out.grown hg_ (fun e => by injection e with e; omega)); replace cx0 := sg_c0 Ox.out; replace cx1 := sg_c1 Ox.out; replace cx2 := sg_c2 Ox.out; replace cx3 := sg_c3 Ox.out; replace cx4 := sg_c4 Ox.out; replace hb := Kpt.mk (hb.out.trans (bel_own hg_ hb.out.size hG.out)); clear hg_ ho_; clear hm m2; have m3 : Kpt True := ⟨trivial⟩))
      | (at_make; have hm := m1; go_must (refine wpList_made rfl _ _ rfl 28 rfl rfl (by decide) ?_; intro G w9 hG ho1 hb1; replace ho1 := Kpt.mk (own_base ho1 hb.out.size); have hxG : bx < G := Nat.lt_of_lt_of_le Ox.out.lt hG; replace Ox := Kpt.mk (Ox.out.below hb1 Ox.out.lt); replace cx0 := sg_c0 Ox.out; replace cx1 := sg_c1 Ox.out; replace cx2 := sg_c2 Ox.out; replace cx3 := sg_c3 Ox.out; replace cx4 := sg_c4 Ox.out; replace hG := Kpt.mk (Nat.le_trans hb.out.size hG); replace hb := Kpt.mk (hb.out.trans (hb1.mono hb.out.size)); have hl1 : Kpt ((List.replicate 28 (0 : Int)).length = 28) := ⟨by simp⟩; clear hb1; clear hm m1; have m2 : Kpt True := ⟨trivial⟩))
      | (refine wpList_box rfl 50 _ rfl (Sg.vals ⟨F, T, B, S, D⟩) rfl ?_; intro bx w_x hl_ hX_ h_ _; have lx := Kpt.mk (Nat.le_trans hb.out.size hl_); replace hb := Kpt.mk (hb.out.trans (h_.mono hb.out.size)); have Ox := Kpt.mk hX_; have cx0 := sg_c0 Ox.out; have cx1 := sg_c1 Ox.out; have cx2 := sg_c2 Ox.out; have cx3 := sg_c3 Ox.out; have cx4 := sg_c4 Ox.out; clear hl_ hX_ h_; have m1 : Kpt True := ⟨trivial⟩)
      | fail)
  go_ret
  exact ⟨_, rfl, hfin.out ▸ ho1.out, hb.out⟩
end Go.Proofs.YtnebcbfjlkhimaaDoor
