/-
  sess: Encode without data and sums; head; refuse.
-/
import Derived.Test.YtdplndlmdhpfaabEHed
namespace Go.Proofs.Ytdplndlmdhpfaab
open Go.RowKit
set_option linter.unusedVariables false
set_option linter.unusedSimpArgs false

theorem wp_copy_cap {w : World} {o : Oper} {a : Act} {K : Act → World → Prop} {Q : Exit → Act → World → Prop} (d s : Operand)
    (ho : o.op = .call { callee := .builtin .copy, args := #[d, s], argTypes := #[30, 30] })
    (base g off n cap dLen dCap : Nat) (zs ds : List Int) (sv : Value) (hd : a.eval d = .slice (some ⟨g, off, none⟩) dLen dCap) (hs : a.eval s = sv)
    (hown : w.ownsRow base 5 1 (.slice (some ⟨g, 0, none⟩) n cap) n (cels zs)) (hrd : RdAt w sv ds) (hdl : ds.length ≤ dLen) (hfit : off + ds.length ≤ n) (hpos : 0 < ds.length)
    (h : ∀ w', w'.ownsRow base 5 1 (.slice (some ⟨g, 0, none⟩) n cap) n (cels (over zs off ds)) → w.grownBy w' (some g) → K (a.put o.dst (goInt ds.length)) w') : o.wp Try.prog a w K Q := by
  obtain ⟨sa, sc, rfl, hsn, hsl, hsr⟩ := hrd
  rcases hsr with h1 | ⟨b, soff, rfl, hc⟩
  · omega
  have hz : zs.length = n := by have := hown.1; simpa using this
  rcases hown.2 with ⟨hx, _⟩ | ⟨g', cap', cur, hx, hbg, hg, hnc, hcm, hcs, htake⟩
  · cases hx
  simp only [Value.slice.injEq, Option.some.injEq, Addr.mk.injEq, and_true, true_and] at hx
  obtain ⟨rfl, rfl⟩ := hx
  have hrun := run_copy_row (P := Try.prog) w 30 30 o.type 5 g off dLen dCap ⟨b, soff, none⟩ ds.length sc cur 5 (cels ds) Try.underlying30 Try.size5 hg
    (by simp only [cels_length]; exact (Nat.min_eq_left hdl).symm) (fun j u hu => by rw [Go.WideShapes.add_plain]; exact hc j u hu) (by simp; omega) (cels_one _)
  unfold Oper.wp
  simp [execOp, ho, resolve, invoke, builtin, hd, hs, hrun, Result.andThen]
  rw [cels_length] at *
  refine h _ ⟨?_, .inr ⟨g, cap, _, rfl, hbg, setRow_heap w g cur _ 5 _ hg, hnc, hcm, ?_, ?_⟩⟩ ⟨rfl, rfl, rfl, by simp, fun j _ hk => setRow_other w g j _ (fun e => hk (by rw [e]))⟩
  · simp [over_length zs ds off (by omega), hz]
  · simp; omega
  · simp only [Nat.mul_one] at htake ⊢
    obtain ⟨R, hl⟩ : ∃ R, cur.toList = cels zs ++ R := ⟨cur.toList.drop n, by rw [← htake, List.take_append_drop]⟩
    have e1 : (cels zs ++ R).take off = (cels zs).take off := List.take_append_of_le_length (by simp; omega)
    have e2 : (cels zs ++ R).drop (off + ds.length) = (cels zs).drop (off + ds.length) ++ R := List.drop_append_of_le_length (by simp; omega)
    rw [hl, e1, e2]
    simp only [← List.append_assoc]
    rw [List.take_append_of_le_length (by simp; omega), List.take_of_length_le (by simp; omega)]
    simp [over, cels, List.map_take, List.map_drop]

theorem wp_made {w : World} {o : Oper} {a : Act} {K : Act → World → Prop} {Q : Exit → Act → World → Prop} (l c : Operand) (ho : o.op = .makeSlice 30 l c) (n : Nat) (hl : a.eval l = .int .i64 n) (hc : a.eval c = .int .i64 n) (hn : n ≤ 100000)
    (h : ∀ g w', w.heap.size ≤ g → w'.ownsRow w.heap.size 5 1 (.slice (some ⟨g, 0, none⟩) n n) n (cels (List.replicate n 0)) → Below w.heap.size w w' → K (a.put o.dst (.slice (some ⟨g, 0, none⟩) n n)) w') : o.wp Try.prog a w K Q := by
  obtain ⟨i0, hi0, hz0, hz1, hz2⟩ := info_parts Try.info5
  obtain ⟨w', hrun, r1, r2⟩ := run_make_full (P := Try.prog) w w.heap.size 30 5 i0 (.int .u8 0) 1 Try.underlying30 hi0 hz0 hz1 .i64 .i64 n (by rw [hz2]; omega) (by unfold maxLen; omega) (Nat.le_refl _)
  unfold Oper.wp
  simp [execOp, ho, hl, hc, hrun, Result.andThen]
  rw [made_u8] at r1
  exact h _ _ (Nat.le_refl _) r1 ((Below.refl _ _).grown r2 (Nat.le_refl _) (fun k h => by cases h))

theorem wpList_copy_cap {w : World} {ops : Array Oper} {rest : List Oper} {o : Oper} {a : Act} {Q : Exit → Act → World → Prop} (hgd : o.guard = none) (d s : Operand)
    (ho : o.op = .call { callee := .builtin .copy, args := #[d, s], argTypes := #[30, 30] })
    (base g off n cap dLen dCap : Nat) (zs ds : List Int) (sv : Value) (hd : a.eval d = .slice (some ⟨g, off, none⟩) dLen dCap) (hs : a.eval s = sv)
    (hown : w.ownsRow base 5 1 (.slice (some ⟨g, 0, none⟩) n cap) n (cels zs)) (hrd : RdAt w sv ds) (hdl : ds.length ≤ dLen) (hfit : off + ds.length ≤ n) (h0 : 0 < ds.length)
    (h : ∀ w', w'.ownsRow base 5 1 (.slice (some ⟨g, 0, none⟩) n cap) n (cels (over zs off ds)) → w.grownBy w' (some g) → wpList Try.prog ops Q rest (a.put o.dst (goInt ds.length)) w') : wpList Try.prog ops Q (o :: rest) a w :=
  wpList_plain hgd fun K hK => wp_copy_cap d s ho base g off n cap dLen dCap zs ds sv hd hs hown hrd hdl hfit h0 (fun w' h1 h2 => hK _ _ (h w' h1 h2))
theorem over_front (zs ds : List Int) (off j : Nat) (hj : j < off) (hz : off ≤ zs.length) : (over zs off ds).getD j 0 = zs.getD j 0 := by
  unfold over
  rw [List.getD_eq_getElem?_getD, List.getD_eq_getElem?_getD, List.getElem?_append_left (by rw [List.length_take]; omega), List.getElem?_take_of_lt hj]

theorem pad_zero (w : World) : Calls Try.prog 70 #[.int .i64 0] w fun e w' => e = .returned (.int .i64 0) ∧ w' = w := by
  go_enter Try.func70, Try.ntmps70
  go_wp2
  go_ret
  exact ⟨rfl, rfl⟩

set_option maxHeartbeats 1000000 in
theorem part_w (base : Nat) (v pv : Value) (xs zs : List Int) (w : World) (hown : w.ownsRow base 5 1 v xs.length (cels xs)) (hrd : RdAt w pv zs) (hx : xs.length ≤ 100000) (hz : zs.length ≤ 100000) (hbase : base ≤ w.heap.size) :
    Calls Try.prog 71 #[v, pv, .bool false] w fun e w' => ∃ v', e = .returned v' ∧ w'.ownsRow base 5 1 v' (xs ++ zs).length (cels (xs ++ zs)) ∧ Below base w w' := by
  have hlt := fun g (h : v.ownBlock = some g) => (World.ownsRow.lt hown g h).1
  replace hown := Kpt.mk hown
  replace hrd := Kpt.mk hrd
  go_enter Try.func71, Try.ntmps71
  go_wp2_with (at_builtin; go_must (refine wpList_append_rd rfl _ _ rfl base v xs rfl hown.out pv zs rfl hrd.out (by omega) hbase ?_; intro v1 w1 ho1 hg1; replace ho1 := Kpt.mk ho1; replace hg1 := Kpt.mk hg1))
  go_ret
  exact ⟨v1, rfl, ho1.out, (Below.refl _ _).grown hg1.out hbase (fun k h => hlt k h)⟩

set_option maxRecDepth 100000 in
set_option maxHeartbeats 4000000 in
theorem enc_w (p : Pd) (w : World) (hda : p.da = .slice none 0 0) (hu : p.all32) :
    Calls Try.prog 54 #[.agg p.v, .bool false, .bool false] w fun e w' => ∃ g cap zs, e = .returned (.tuple #[.slice (some ⟨g, 0, none⟩) 48 cap, .int .i64 0]) ∧ w'.ownsRow w.heap.size 5 1 (.slice (some ⟨g, 0, none⟩) 48 cap) 48 (cels zs) ∧ Below w.heap.size w w' ∧ zs.getD 0 0 = p.op ∧ zs.getD 1 0 = p.fl := by
  have hH : Kpt (∀ W, Calls Try.prog 72 #[.agg p.v] W fun e w' => ∃ g zs, e = .returned (.slice (some ⟨g, 0, none⟩) 48 48) ∧ w'.ownsRow W.heap.size 5 1 (.slice (some ⟨g, 0, none⟩) 48 48) 48 (cels zs) ∧ Below W.heap.size W w' ∧ zs.getD 0 0 = p.op ∧ zs.getD 1 0 = p.fl) := ⟨fun W => phead_w p W hda hu⟩
  have hPd : Kpt (∀ W, Calls Try.prog 70 #[.int .i64 0] W fun e w' => e = .returned (.int .i64 0) ∧ w' = W) := ⟨pad_zero⟩
  have hdaK := Kpt.mk hda
  clear hda hu
  go_enter Try.func54, Try.ntmps54
  go_upto_region 3 with (refine (?_ : wpList _ _ _ (Oper.mk _ (Op.box 42 _) _ _ _ _ :: _) _ _); go_must (refine wpList_box rfl 42 _ rfl p.v rfl ?_; intro P w1 hP hB hb1 _; have c13 := hB.cells 13 (by simp [Pd.v]); simp [Pd.v] at c13; rw [hdaK.out] at c13; replace hb1 := Kpt.mk hb1; replace hB := Kpt.mk hB; clear hP))
  refine wp_region_any (by kernel_rfl) ?_
  refine wpAny_of_C (C := fun W => Bx W P p.v) _ _ _ _ ?_
  refine wpAnyC_take 0 (.pointer (some ⟨P, 13, none⟩)) rfl (by kernel_rfl) (by kernel_rfl) (by kernel_rfl) (fun _ _ _ h => h) (wanted_free rfl _) (fun W hW => by go_simp) ?_
  try simp only [Act.put, List.getElem_toArray, List.getElem_cons_succ, List.getElem_cons_zero, List.setIfInBounds_toArray, List.set_cons_succ, List.set_cons_zero]
  refine wpAnyC_take 1 (.slice none 0 0) rfl (by kernel_rfl) (by kernel_rfl) (by kernel_rfl) (fun _ _ _ h => h) (wanted_free rfl _) (fun W hW => by have c := hW.cells 13 (by simp [Pd.v]); simp [Pd.v] at c; rw [hdaK.out] at c; go_simp) ?_
  try simp only [Act.put, List.getElem_toArray, List.getElem_cons_succ, List.getElem_cons_zero, List.setIfInBounds_toArray, List.set_cons_succ, List.set_cons_zero]
  refine wpAnyC_take 2 (.int .i64 0) rfl (by kernel_rfl) (by kernel_rfl) (by kernel_rfl) (fun _ _ _ h => h) (wanted_free rfl _) (fun W hW => by go_simp) ?_
  try simp only [Act.put, List.getElem_toArray, List.getElem_cons_succ, List.getElem_cons_zero, List.setIfInBounds_toArray, List.set_cons_succ, List.set_cons_zero]
  refine wpAnyC_take 3 (.pointer (some ⟨P, 13, none⟩)) rfl (by kernel_rfl) (by kernel_rfl) (by kernel_rfl) (fun _ _ _ h => h) (wanted_free rfl _) (fun W hW => by go_simp) ?_
  try simp only [Act.put, List.getElem_toArray, List.getElem_cons_succ, List.getElem_cons_zero, List.setIfInBounds_toArray, List.set_cons_succ, List.set_cons_zero]
  refine wpAnyC_take 4 (.slice none 0 0) rfl (by kernel_rfl) (by kernel_rfl) (by kernel_rfl) (fun _ _ _ h => h) (wanted_free rfl _) (fun W hW => by have c := hW.cells 13 (by simp [Pd.v]); simp [Pd.v] at c; rw [hdaK.out] at c; go_simp) ?_
  try simp only [Act.put, List.getElem_toArray, List.getElem_cons_succ, List.getElem_cons_zero, List.setIfInBounds_toArray, List.set_cons_succ, List.set_cons_zero]
  refine wpAnyC_take 5 (.int .i64 0) rfl (by kernel_rfl) (by kernel_rfl) (by kernel_rfl) (fun _ _ _ h => h) (wanted_free rfl _) (fun W hW => by go_simp) ?_
  try simp only [Act.put, List.getElem_toArray, List.getElem_cons_succ, List.getElem_cons_zero, List.setIfInBounds_toArray, List.set_cons_succ, List.set_cons_zero]
  have hB1 := Kpt.mk hB.out.drew
  have hb1d : Kpt (Below w.heap.size w w1.drew) := ⟨hb1.out.trans ((below_drew w1).mono hb1.out.size)⟩
  obtain ⟨W0, hW0⟩ : ∃ W, W = w1.drew := ⟨_, rfl⟩
  rw [← hW0] at hB1 hb1d
  refine wpAnyC_world hW0 ?_
  clear hW0
  refine wpAnyC_one 6 (hB1.out) rfl (by kernel_rfl) (wanted_free rfl _) (fun KA hKA => ?_)
  go_simp
  refine (hPd.out _).mono ?_
  intro e wx hh
  rw [hh.1, hh.2]
  clear hh
  refine hKA _ _ ?_
  clear hKA KA
  try simp only [Act.put, List.getElem_toArray, List.getElem_cons_succ, List.getElem_cons_zero, List.setIfInBounds_toArray, List.set_cons_succ, List.set_cons_zero]
  refine wpAnyC_take 7 (.int .i64 0) rfl (by kernel_rfl) (by kernel_rfl) (by kernel_rfl) (fun _ _ _ h => h) (wanted_free rfl _) (fun W hW => by go_simp; try rfl) ?_
  try simp only [Act.put, List.getElem_toArray, List.getElem_cons_succ, List.getElem_cons_zero, List.setIfInBounds_toArray, List.set_cons_succ, List.set_cons_zero]
  refine wpAnyC_one 8 (hB1.out) rfl (by kernel_rfl) (wanted_free rfl _) (fun KA hKA => ?_)
  refine wp_made (.tmp 21) (.tmp 21) rfl 0 rfl rfl (by omega) ?_
  intro bg W2 hbg hob hbb
  have hB2 := Kpt.mk (hB1.out.below hbb hB1.out.lt)
  have hb2 := Kpt.mk (hb1d.out.trans (hbb.mono hb1d.out.size))
  clear hob hbb hbg
  refine hKA _ _ ?_
  clear hKA KA
  try simp only [Act.put, List.getElem_toArray, List.getElem_cons_succ, List.getElem_cons_zero, List.setIfInBounds_toArray, List.set_cons_succ, List.set_cons_zero]
  refine wpAnyC_one 9 (hB2.out) rfl (by kernel_rfl) (wanted_free rfl _) (fun KA hKA => ?_)
  go_simp
  refine hKA _ _ ?_
  clear hKA KA
  try simp only [Act.put, List.getElem_toArray, List.getElem_cons_succ, List.getElem_cons_zero, List.setIfInBounds_toArray, List.set_cons_succ, List.set_cons_zero]
  refine wpAnyC_done (hB2.out) (by kernel_rfl) ?_
  have d13 := hB2.out.cells 13 (by simp [Pd.v])
  simp [Pd.v] at d13
  rw [hdaK.out] at d13
  go_wp2_with (first
    | (refine (?_ : wpList _ _ _ (Oper.mk (some 26) _ _ _ _ _ :: _) _ _); go_must (refine wpList_copy_nothing rfl (.tmp 23) (.tmp 25) 30 30 rfl 5 Try.underlying30 Try.size5 (some ⟨bg, 0, none⟩) none 0 0 0 0 rfl rfl rfl ?_; have hm := hdaK))
    | (refine (?_ : wpList _ _ _ (Oper.mk _ (Op.load 42 _) _ _ _ _ :: _) _ _); go_must (refine wpList_load_bx rfl 42 _ rfl P p.v rfl hB2.out _ Try.underlying42 rfl szPdu ?_; have hm2 := hdaK))
    | (go_at_call 72; go_must (refine (hH.out _).mono ?_; rintro e w3 ⟨hg, hzs, rfl, ho3, hb3, z0, z1⟩; have hl3 := own_len ho3; have hb3w := Kpt.mk (hb2.out.trans (hb3.mono hb2.out.size)); replace ho3 := Kpt.mk ho3; replace z0 := Kpt.mk z0; replace z1 := Kpt.mk z1; clear hb3))
    | (go_at_call 71; have m := ho4; go_must (refine (part_w w.heap.size v4 (.slice (some ⟨bg, 0, none⟩) 0 0) hzs [] _ ho4.out ⟨some ⟨bg, 0, none⟩, 0, rfl, (fun e => by cases e), Nat.le_refl _, .inl rfl⟩ (by omega) (by simp) hb4.out.size).mono ?_; rintro e w5 ⟨v5, rfl, ho5, hb5'⟩; rw [List.append_nil] at ho5; replace ho5 := Kpt.mk ho5; have hb5 := Kpt.mk (hb4.out.trans hb5'); clear m hb5'))
    | (go_at_call 71; go_must (refine (part_w w.heap.size (.slice none 0 0) (.slice (some ⟨hg, 0, none⟩) 48 48) [] hzs _ (World.ownsRow_nil _ _ _ _) (own_rd ho3.out) (by simp) (by omega) hb3w.out.size).mono ?_; rintro e w4 ⟨v4, rfl, ho4, hb4'⟩; rw [List.nil_append] at ho4; replace ho4 := Kpt.mk ho4; have hb4 := Kpt.mk (hb3w.out.trans hb4'); clear hb4')))
  go_ret2
  rw [hl3] at ho5
  obtain ⟨g5, cap5, hv5, _, _⟩ := own_shape ho5.out (by omega)
  subst hv5
  exact ⟨g5, cap5, hzs, rfl, ho5.out, hb5.out, z0.out, z1.out⟩

theorem own_cap {w : World} {b n g c : Nat} {xs : List Value} (h : w.ownsRow b 5 1 (.slice (some ⟨g, 0, none⟩) n c) n xs) : n ≤ c ∧ c ≤ maxLen := by
  rcases h.2 with ⟨hx, _⟩ | ⟨g', cap', cur, hx, _, _, h1, h2, _⟩
  · cases hx
  · simp only [Value.slice.injEq] at hx
    obtain ⟨_, _, rfl⟩ := hx
    exact ⟨h1, h2⟩

set_option maxRecDepth 100000 in
set_option maxHeartbeats 4000000 in
theorem head_w (p : Pd) (a : Option Addr) (n c : Nat) (w : World) (hda : p.da = .slice a n c) (hn : n ≤ 100000) (hu : p.all32) :
    Calls Try.prog 39 #[.agg p.v] w fun e w' => ∃ g cap zs, e = .returned (.slice (some ⟨g, 0, none⟩) 48 cap) ∧ w'.ownsRow w.heap.size 5 1 (.slice (some ⟨g, 0, none⟩) 48 cap) 48 (cels zs) ∧ Below w.heap.size w w' ∧ zs.getD 0 0 = p.op ∧ zs.getD 1 0 = p.fl := by
  have hE : Kpt (∀ W, Calls Try.prog 54 #[.agg ({ p with da := .slice none 0 0 } : Pd).v, .bool false, .bool false] W fun e w' => ∃ g cap zs, e = .returned (.tuple #[.slice (some ⟨g, 0, none⟩) 48 cap, .int .i64 0]) ∧ w'.ownsRow W.heap.size 5 1 (.slice (some ⟨g, 0, none⟩) 48 cap) 48 (cels zs) ∧ Below W.heap.size W w' ∧ zs.getD 0 0 = p.op ∧ zs.getD 1 0 = p.fl) := ⟨fun W => enc_w { p with da := .slice none 0 0 } W rfl hu⟩
  have hdaK := Kpt.mk hda
  clear hda hu
  go_enter Try.func39, Try.ntmps39
  go_wp2_with (first
    | (go_at_call 54; go_must (refine (hE.out _).mono ?_; rintro e w3 ⟨g, cap, zs, rfl, ho3, hb3', z0, z1⟩; have hb3 := Kpt.mk (hb2.out.trans (hb3'.mono hb2.out.size)); have hcap := own_cap ho3; have hc5 : ¬ cap = 5 := (by omega); have hc5i : (5 : Int) ≤ cap := (by omega); have hc48 : (48 : Int) ≤ cap := (by omega); have hlt3 := World.ownsRow.lt ho3 g rfl; replace ho3 := Kpt.mk (own_base ho3 hb2.out.size); replace z0 := Kpt.mk z0; replace z1 := Kpt.mk z1; clear hb3'))
    | (refine (?_ : wpList _ _ _ (Oper.mk (some 26) _ _ _ _ _ :: _) _ _); go_must (refine wpList_copy_cap rfl (.tmp 16) (.tmp 25) rfl w.heap.size g 5 48 cap 43 (cap - 5) zs [(n : Int) / 65536, (n : Int) / 256 % 256, (n : Int) % 256] (.slice (some ⟨w3.heap.size, 0, none⟩) 3 3) rfl rfl (ho3.out.alloc _) (own_rd (own_alloc w3 w3.heap.size 3 0 [(n : Int) / 65536, (n : Int) / 256 % 256, (n : Int) % 256] rfl rfl (by omega) (Nat.zero_le _))) (by simp) (by simp) (by simp) ?_; intro w4 ho4 hg4; have hb4 : Kpt (Below w.heap.size w w4) := ⟨(hb3.out.alloc hb3.out.size _).grown hg4 (by have := hb3.out.size; simp; omega) (fun q e => by injection e with e; subst e; exact Nat.le_trans hb2.out.size hlt3.1)⟩; replace ho4 := Kpt.mk ho4; clear hg4))
    | (refine (?_ : wpList _ _ _ (Oper.mk _ (Op.load 42 _) _ _ _ _ :: _) _ _); go_must (refine wpList_load_bx rfl 42 _ rfl P ({ p with da := .slice none 0 0 } : Pd).v rfl hB2.out _ Try.underlying42 rfl szPdu ?_; have hm2 := hdaK))
    | (refine (?_ : wpList _ _ _ (Oper.mk _ (Op.box 42 _) _ _ _ _ :: _) _ _); go_must (refine wpList_box rfl 42 _ rfl p.v rfl ?_; intro P w1 hP hB hb1 _; have c13 := hB.cells 13 (by simp [Pd.v]); have f13 := hB.free 13; simp [Pd.v] at c13; rw [hdaK.out] at c13; have hB2 : Kpt (Bx (w1.setCell ⟨P, 13, none⟩ (.slice none 0 0)) P ({ p with da := .slice none 0 0 } : Pd).v) := ⟨by have := bx_setC (.slice none 0 0) hB (j := 13) (by simp [Pd.v]); simpa [Pd.v] using this⟩; have hb2 : Kpt (Below w.heap.size w (w1.setCell ⟨P, 13, none⟩ (.slice none 0 0))) := ⟨hb1.setCell (p := ⟨P, 13, none⟩) hP _⟩; clear hB hb1 hP)))
  go_ret
  have hzl := own_len ho3.out
  exact ⟨g, cap, _, rfl, ho4.out, hb4.out, (over_front _ _ 5 0 (by omega) (by omega)).trans z0.out, (over_front _ _ 5 1 (by omega) (by omega)).trans z1.out⟩

/-- What a PDU that is refused is answered. -/
def rej (why : Int) (d : Value) : Pd := { zP with op := 63, fl := 128, rs := why, tg := 4294967295, da := d }

set_option maxRecDepth 100000 in
set_option maxHeartbeats 4000000 in
theorem refuse_any (S : Nat) (s : Se) (H O T : List (Array Value)) (p : Pd) (why : Int) (a : Option Addr) (n c : Nat) (w : World) (h : Ss w S s H O T) (hda : p.da = .slice a n c) (hnn : n ≤ 100000) (hu : p.all32) (hn : 0 ≤ s.next ∧ s.next < 4294967296) (s' : Se) (hs' : s' = { s with stat := (s.stat + 1) % 4294967296 }) :
    Calls Try.prog 23 #[.pointer (some ⟨S, 0, none⟩), .agg p.v, .int .u8 why] w fun e w' => ∃ v d zs, e = .returned v ∧ Ss w' S s' H O T ∧ St S w w' s s' ∧ Ou w w' S s' v 42 ((rej why d).num s).v ∧ Dt (s'.X S) w' d zs ∧ zs.length = 48 ∧ zs.getD 0 0 = p.op ∧ zs.getD 1 0 = p.fl := by
  have hH : Kpt (∀ W, Calls Try.prog 39 #[.agg p.v] W fun e w' => ∃ g cap zs, e = .returned (.slice (some ⟨g, 0, none⟩) 48 cap) ∧ w'.ownsRow W.heap.size 5 1 (.slice (some ⟨g, 0, none⟩) 48 cap) 48 (cels zs) ∧ Below W.heap.size W w' ∧ zs.getD 0 0 = p.op ∧ zs.getD 1 0 = p.fl) := ⟨fun W => head_w p a n c W hda hnn hu⟩
  have hA : Kpt (∀ (W : World) (q : Pd) (a : Option Addr) (n c : Nat), Ss W S s H O T → q.da = .slice a n c → Calls Try.prog 38 #[.pointer (some ⟨S, 0, none⟩), .agg q.v] W fun e w' => ∃ v, e = .returned v ∧ Ss w' S s' H O T ∧ St S W w' s s' ∧ Ou W w' S s' v 42 (q.num s).v) := ⟨fun W q a n c h hq => answer_any S s H O T q a n c W h hq hn s' hs'⟩
  have k0 := Kpt.mk (Lo.start h)
  clear h hda hu hs'
  go_enter Try.func23, Try.ntmps23
  go_wp2_with (first
    | (go_at_call 39; go_must (refine (hH.out _).mono ?_; rintro e w2 ⟨g, cap, zs, rfl, ho2, hb2, z0, z1⟩; have k2 := Kpt.mk (k1.out.below hb2); have hl2 := own_len ho2; have D2 : Kpt (Dt (s.X S) w2 (.slice (some ⟨g, 0, none⟩) 48 cap) zs) := ⟨⟨own_rd ho2, fun _ q hq => by have := World.ownsRow.lt ho2 q hq; exact ⟨this.2, fun e => by have := k1.out.ss.lt q e; omega⟩⟩⟩; replace z0 := Kpt.mk z0; replace z1 := Kpt.mk z1; clear ho2 hb2))
    | (go_at_call 38; go_must (refine (hA.out _ (rej why (.slice (some ⟨g, 0, none⟩) 48 cap)) _ _ _ k2.out.ss rfl).mono ?_; rintro e w3 ⟨v, rfl, hs3, ht3, ho3⟩; have k3 := Kpt.mk (k2.out.turn hs3 ht3); have D3 := Kpt.mk (D2.out.st ht3); replace ho3 := Kpt.mk ho3; clear hs3 ht3))
    | (refine (?_ : wpList _ _ _ (Oper.mk _ (Op.load 42 _) _ _ _ _ :: _) _ _); go_must (refine wpList_load_bx rfl 42 _ rfl P p.v rfl k1.out.b0 _ Try.underlying42 rfl szPdu ?_; have hm := hnn))
    | (refine (?_ : wpList _ _ _ (Oper.mk _ (Op.box 42 _) _ _ _ _ :: _) _ _); go_must (refine wpList_box rfl 42 _ rfl p.v rfl ?_; intro P w1 hP hB hb _; have k1 := Kpt.mk (k0.out.add hb hP hB); clear hb hP hB)))
  go_ret
  obtain ⟨b, hv, hb, hh, hx⟩ := ho3.out.at_
  exact ⟨v, _, zs, rfl, k3.out.ss, k3.out.st, ⟨b, hv, Nat.le_trans k2.out.st.fr.size hb, hh, hx⟩, D3.out, hl2, z0.out, z1.out⟩
end Go.Proofs.Ytdplndlmdhpfaab
