/-
  sess: slices.Delete of one struct, and take.
-/
import Derived.Test.YtdplndlmdhpfaabEBeg
namespace Go.Proofs.Ytdplndlmdhpfaab
open Go.RowKit
set_option linter.unusedVariables false
set_option linter.unusedSimpArgs false

theorem wp_append_fits {w : World} {o : Oper} {a : Act} {K : Act → World → Prop} {Q : Exit → Act → World → Prop} (sl ty k by' : Nat) (Z : Value) (hu : Try.prog.underlying sl = some (.slice ty)) (hinf : (Try.prog.info? ty).map (fun i => (i.zero, i.size, i.bytes)) = some (some Z, k, by')) (d s : Operand)
    (ho : o.op = .call { callee := .builtin .append, args := #[d, s], argTypes := #[sl, sl] })
    (g n cap m c : Nat) (zs ds : List (Array Value)) (ad : Addr) (hd : a.eval d = .slice (some ⟨g, 0, none⟩) n cap) (hs : a.eval s = .slice (some ad) m c)
    (hown : w.ownsRow 0 ty k (.slice (some ⟨g, 0, none⟩) n cap) n (chs zs)) (hwd : Wide k ds) (hl : ds.length = m) (hnews : ∀ j u, (chs ds)[j]? = some u → w.cell? (ad.add j) = some u) (hroom : n + m ≤ cap)
    (h : ∀ w', w'.ownsRow 0 ty k (.slice (some ⟨g, 0, none⟩) (n + m) cap) (n + m) (chs (zs ++ ds)) → w.grownBy w' (some g) → K (a.put o.dst (.slice (some ⟨g, 0, none⟩) (n + m) cap)) w') : o.wp Try.prog a w K Q := by
  obtain ⟨i0, hi0, hz0, hz1, hz2⟩ := info_parts hinf
  obtain ⟨w', hrun, ho', hg'⟩ := run_append_fits (P := Try.prog) (w := w) 0 sl o.type ty i0 k hu hi0 hz1 g n cap (chs zs) hown ad m c (chs ds) (by rw [chs_length hwd, hl]) hnews (chs_oneC hwd) hroom
  unfold Oper.wp
  simp [execOp, ho, resolve, invoke, builtin, hd, hs, hrun, Result.andThen]
  exact h w' (by rw [chs_append]; exact ho') hg'
theorem own_takeR {ty k : Nat} {w : World} {g n cap : Nat} {zs : List (Array Value)} (hw : Wide k zs) (hz : zs.length = n) (h : w.ownsRow 0 ty k (.slice (some ⟨g, 0, none⟩) n cap) n (chs zs)) (i : Nat) (hi : i ≤ n) : w.ownsRow 0 ty k (.slice (some ⟨g, 0, none⟩) i cap) i (chs (zs.take i)) := by
  rcases h.2 with ⟨hx, _⟩ | ⟨g', cap', cur, hx, hb, hg, hc, hm, hs, ht⟩
  · cases hx
  · simp only [Value.slice.injEq, Option.some.injEq, Addr.mk.injEq, and_true, true_and] at hx
    obtain ⟨rfl, rfl⟩ := hx
    refine ⟨by rw [chs_length (hw.take i), List.length_take, Nat.min_eq_left (by omega)], .inr ⟨g, cap, cur, rfl, hb, hg, by omega, hm, hs, ?_⟩⟩
    have e : cur.toList.take (i * k) = (cur.toList.take (n * k)).take (i * k) := by rw [List.take_take, Nat.min_eq_left (Nat.mul_le_mul_right k hi)]
    rw [e, ht, chs_take zs hw]
theorem own_roomR {ty k : Nat} {w : World} {g n cap : Nat} {xs : List Value} (h : w.ownsRow 0 ty k (.slice (some ⟨g, 0, none⟩) n cap) n xs) (j : Nat) (hj : j < cap * k) : (w.cell? ⟨g, j, none⟩).isSome = true := by
  rcases h.2 with ⟨h', _⟩ | ⟨g', cap', cur, h', _, hg, _, _, hs, htake⟩
  · simp at h'
  · simp only [Value.slice.injEq, Option.some.injEq, Addr.mk.injEq, and_true, true_and] at h'
    obtain ⟨rfl, rfl⟩ := h'
    rw [cell_of_row w g j cur ty (0, 0) hg]
    have : j < cur.size := by omega
    simp [this]
theorem own_behindR {ty k g n cap : Nat} {xs : List Value} : ∀ (vs : List Value) (o : Nat) (w : World), n * k ≤ o → w.ownsRow 0 ty k (.slice (some ⟨g, 0, none⟩) n cap) n xs → (w.setCells g o vs).ownsRow 0 ty k (.slice (some ⟨g, 0, none⟩) n cap) n xs ∧ w.grownBy (w.setCells g o vs) (some g)
  | [], _, w, _, h => ⟨h, ⟨rfl, rfl, rfl, Nat.le_refl _, fun _ _ _ => rfl⟩⟩
  | v :: r, o, w, ho, h => by
    obtain ⟨h1, h2⟩ := h.stored o v
    rw [List.set_eq_of_length_le (by rw [h.1]; exact ho)] at h1
    obtain ⟨h3, h4⟩ := own_behindR r (o + 1) (w.setCell ⟨g, o, none⟩ v) (by omega) h1
    exact ⟨h3, World.grownBy.trans h2 h4⟩

theorem zeroP (w : World) : (zeroValue 42).run Try.prog w = .ok (.agg zP.v) w := by
  obtain ⟨i0, hi0, hz0, _⟩ := info_parts infoPdu
  simp [zeroValue, typeInfo, hi0, hz0]
theorem run_clearP (w : World) (ty : TypeId) (g o c : Nat) (hc : ∀ j, j < 14 → (w.cell? ⟨g, o + j, none⟩).isSome = true) (hf : ∀ j, j < 14 → w.frozen? ⟨g, o + j, none⟩ = false) :
    Sem.run Try.prog (Builtin.clear_ #[36] ty #[.slice (some ⟨g, o, none⟩) 1 c]) w = .ok (.tuple #[]) (w.setCells g o zP.v.toList) := by
  have hst := run_storeCells_cells (P := Try.prog) g o zP.v.toList 0 w (by intro j hj; rw [Nat.add_zero]; exact hc j hj) (by intro j hj; rw [Nat.add_zero]; exact hf j hj) (by have := (Pd.one (p := zP) rfl).2; rw [Array.all_eq_true_iff_forall_mem] at this; intro v hv; exact this v (by simpa using hv))
  simp only [Nat.add_zero] at hst
  have hzc : (Builtin.zeroCells (Value.agg zP.v).cells 1).toList = zP.v.toList := by first | kernel_rfl | decide
  rw [← hzc] at hst
  conv at hst => rhs; rw [hzc]
  simp [Builtin.clear_, run_underlying Try.underlying36, zeroP]
  refine (congrArg (fun r => Result.andThen r _) hst).trans ?_
  rfl

set_option maxRecDepth 100000 in
set_option maxHeartbeats 2000000 in
theorem delP_any (g cap i m : Nat) (zs : List (Array Value)) (w : World) (hw : Wide 14 zs) (hz : zs.length = m) (h : w.ownsRow 0 42 14 (.slice (some ⟨g, 0, none⟩) m cap) m (chs zs)) (hi : i < m) (hl : m ≤ 10000) (hcap : m ≤ cap) (hcm : cap ≤ 9223372036854775807) :
    Calls Try.prog 63 #[.slice (some ⟨g, 0, none⟩) m cap, .int .i64 i, .int .i64 ((i : Int) + 1)] w fun e w' => e = .returned (.slice (some ⟨g, 0, none⟩) (m - 1) cap) ∧ OwnR 42 14 w' (.slice (some ⟨g, 0, none⟩) (m - 1) cap) (zs.eraseIdx i) ∧ w.grownBy w' (some g) := by
  have hT := Kpt.mk (own_takeR hw hz h i (Nat.le_of_lt hi))
  have hK := Kpt.mk h
  have hzK := Kpt.mk hz
  have hwK := Kpt.mk hw
  obtain ⟨k, hk⟩ : ∃ k, m = k + 1 := ⟨m - 1, by omega⟩
  rw [show m - 1 = k from by omega]
  have hkK := Kpt.mk hk
  have e7 : (k : Int) < m := by omega
  have e8 : (k : Int) < cap := by omega
  have e9 : m - k = 1 := by omega
  clear hk
  have e1 : (i : Int) < m := by omega
  have e2 : (m : Int) ≤ cap := by omega
  have e3 : (i : Int) + 1 ≤ m := by omega
  have e4 : (i : Int) + 1 ≤ cap := by omega
  have e5 : ¬ (i : Int) = (i : Int) + 1 := by omega
  clear h hz hw
  go_enter Try.func63, Try.ntmps63
  go_wp2_with fail
  obtain ⟨ad, had⟩ : ∃ ad : Addr, ad = if cap = i + 1 then (⟨g, 0, none⟩ : Addr) else ⟨g, (i + 1) * 14, none⟩ := ⟨_, rfl⟩
  have hnews : ∀ W : World, W.heap = w.heap → ∀ j u, (chs (zs.drop (i + 1)))[j]? = some u → W.cell? (ad.add j) = some u := fun W hW j u hu => by
    have hj : j < (zs.length - (i + 1)) * 14 := by have := (List.getElem?_eq_some_iff.1 hu).1; rw [chs_length (hwK.out.drop _), List.length_drop] at this; exact this
    have hne : ¬ cap = i + 1 := by have := hzK.out; omega
    rw [had, if_neg hne, Go.WideShapes.add_plain]
    have := World.ownsRow.cellAt hK.out ((i + 1) * 14 + j) (by have := hzK.out; omega)
    have e : W.cell? ⟨g, (i + 1) * 14 + j, none⟩ = w.cell? ⟨g, (i + 1) * 14 + j, none⟩ := World.cell?_of_block (by rw [hW])
    rw [e, this, ← hu, ← chs_drop zs hwK.out, List.getElem?_drop]
  replace hnews := Kpt.mk hnews
  have hadK := Kpt.mk had
  clear had
  refine wp_region_any (by kernel_rfl) ?_
  refine wpAny_of_C (C := fun W => True) _ _ _ _ ?_
  refine wpAnyC_take 0 (.slice (some ⟨g, 0, none⟩) m cap) rfl (by kernel_rfl) (by kernel_rfl) (by kernel_rfl) (fun _ _ _ h => h) (wanted_free rfl _) (fun W hW => by go_simp) ?_
  try simp only [Act.put, List.getElem_toArray, List.getElem_cons_succ, List.getElem_cons_zero, List.setIfInBounds_toArray, List.set_cons_succ, List.set_cons_zero]
  refine wpAnyC_take 1 (.int .i64 i) rfl (by kernel_rfl) (by kernel_rfl) (by kernel_rfl) (fun _ _ _ h => h) (wanted_free rfl _) (fun W hW => by go_simp) ?_
  try simp only [Act.put, List.getElem_toArray, List.getElem_cons_succ, List.getElem_cons_zero, List.setIfInBounds_toArray, List.set_cons_succ, List.set_cons_zero]
  refine wpAnyC_take 2 (.slice (some ⟨g, 0, none⟩) i cap) rfl (by kernel_rfl) (by kernel_rfl) (by kernel_rfl) (fun _ _ _ h => h) (wanted_free rfl _) (fun W hW => by go_simp; try (intro hx; omega)) ?_
  try simp only [Act.put, List.getElem_toArray, List.getElem_cons_succ, List.getElem_cons_zero, List.setIfInBounds_toArray, List.set_cons_succ, List.set_cons_zero]
  refine wpAnyC_take 3 (.slice (some ⟨g, 0, none⟩) m cap) rfl (by kernel_rfl) (by kernel_rfl) (by kernel_rfl) (fun _ _ _ h => h) (wanted_free rfl _) (fun W hW => by go_simp) ?_
  try simp only [Act.put, List.getElem_toArray, List.getElem_cons_succ, List.getElem_cons_zero, List.setIfInBounds_toArray, List.set_cons_succ, List.set_cons_zero]
  refine wpAnyC_take 4 (.int .i64 ((i : Int) + 1)) rfl (by kernel_rfl) (by kernel_rfl) (by kernel_rfl) (fun _ _ _ h => h) (wanted_free rfl _) (fun W hW => by go_simp) ?_
  try simp only [Act.put, List.getElem_toArray, List.getElem_cons_succ, List.getElem_cons_zero, List.setIfInBounds_toArray, List.set_cons_succ, List.set_cons_zero]
  refine wpAnyC_take 5 (.slice (some ad) (m - (i + 1)) (cap - (i + 1))) rfl (by kernel_rfl) (by kernel_rfl) (by kernel_rfl) (fun _ _ _ h => h) (wanted_free rfl _) (fun W hW => by
    rw [hadK.out]
    by_cases hc1 : cap = i + 1
    · rw [if_pos hc1]
      subst hc1
      go_simp
      try (intro hx; omega)
    · rw [if_neg hc1]
      have e6 : (i : Int) + 1 < cap := by omega
      go_simp
      intro hx
      omega) ?_
  try simp only [Act.put, List.getElem_toArray, List.getElem_cons_succ, List.getElem_cons_zero, List.setIfInBounds_toArray, List.set_cons_succ, List.set_cons_zero]
  refine wpAnyC_one 6 trivial rfl (by kernel_rfl) (wanted_free rfl _) (fun K hKK => ?_)
  refine wp_append_fits 36 42 14 64 _ Try.underlying36 infoPdu _ _ rfl g i cap (m - (i + 1)) (cap - (i + 1)) (zs.take i) (zs.drop (i + 1)) ad (by kernel_rfl) (by kernel_rfl) ?_ (hwK.out.drop _) (by simp [hzK.out]) (hnews.out _ rfl) (by omega) (fun w1 ho1 hg1 => hKK _ _ ?_)
  · exact hT.out
  replace ho1 : w1.ownsRow 0 42 14 (.slice (some ⟨g, 0, none⟩) k cap) k (chs (zs.eraseIdx i)) := by
    rw [List.eraseIdx_eq_take_drop_succ]
    rw [show i + (m - (i + 1)) = k from by have := hkK.out; omega] at ho1
    exact ho1
  rw [show i + (m - (i + 1)) = k from by have := hkK.out; omega]
  replace hg1 : w.grownBy w1 (some g) := ⟨hg1.os, hg1.tape, hg1.output, hg1.size, hg1.block⟩
  simp only [Act.put, List.setIfInBounds_toArray, List.set_cons_succ, List.set_cons_zero]
  refine wpAnyC_take 7 (.slice (some ⟨g, 0, none⟩) k cap) rfl (by kernel_rfl) (by kernel_rfl) (by kernel_rfl) (fun _ _ _ h => h) (wanted_free rfl _) (fun W hW => by go_simp) ?_
  try simp only [Act.put, List.getElem_toArray, List.getElem_cons_succ, List.getElem_cons_zero, List.setIfInBounds_toArray, List.set_cons_succ, List.set_cons_zero]
  refine wpAnyC_done trivial (by kernel_rfl) ?_
  replace ho1 := Kpt.mk ho1
  replace hg1 := Kpt.mk hg1
  clear hKK K
  go_wp2_with fail
  rw [run_clearP w1 _ g (k * 14) _ (fun j hj => own_roomR ho1.out (k * 14 + j) (by omega)) (fun j hj => ho1.out.frozenAt (k * 14 + j))]
  obtain ⟨ho2, hg2⟩ := own_behindR zP.v.toList (k * 14) w1 (Nat.le_refl _) ho1.out
  have hg3 := Kpt.mk (World.grownBy.trans hg1.out hg2)
  replace ho2 := Kpt.mk ho2
  clear hg2
  obtain ⟨w2, hw2⟩ : ∃ w2, w2 = w1.setCells g (k * 14) zP.v.toList := ⟨_, rfl⟩
  rw [← hw2] at ho2 hg3 ⊢
  replace hw2 := Kpt.mk hw2
  simp only [Result.andThen, Oper.upon]
  go_wp2
  go_ret
  exact ⟨rfl, ⟨by have e : (zs.eraseIdx i).length = k := (by rw [List.length_eraseIdx, hzK.out, if_pos hi]; have := hkK.out; omega); rw [e]; exact ho2.out, hwK.out.erase i⟩, hg3.out⟩

theorem zeroC (w : World) : (zeroValue 74).run Try.prog w = .ok (.agg (Cm.v ⟨0, 0, false, 0⟩)) w := by
  obtain ⟨i0, hi0, hz0, _⟩ := info_parts infoCmd
  simp [zeroValue, typeInfo, hi0, hz0]
theorem run_clearC (w : World) (ty : TypeId) (g o c : Nat) (hc : ∀ j, j < 4 → (w.cell? ⟨g, o + j, none⟩).isSome = true) (hf : ∀ j, j < 4 → w.frozen? ⟨g, o + j, none⟩ = false) :
    Sem.run Try.prog (Builtin.clear_ #[62] ty #[.slice (some ⟨g, o, none⟩) 1 c]) w = .ok (.tuple #[]) (w.setCells g o (Cm.v ⟨0, 0, false, 0⟩).toList) := by
  have hst := run_storeCells_cells (P := Try.prog) g o (Cm.v ⟨0, 0, false, 0⟩).toList 0 w (by intro j hj; rw [Nat.add_zero]; exact hc j hj) (by intro j hj; rw [Nat.add_zero]; exact hf j hj) (by have := (Cm.one ⟨0, 0, false, 0⟩).2; rw [Array.all_eq_true_iff_forall_mem] at this; intro v hv; exact this v (by simpa using hv))
  simp only [Nat.add_zero] at hst
  have hzc : (Builtin.zeroCells (Value.agg (Cm.v ⟨0, 0, false, 0⟩)).cells 1).toList = (Cm.v ⟨0, 0, false, 0⟩).toList := by first | kernel_rfl | decide
  rw [← hzc] at hst
  conv at hst => rhs; rw [hzc]
  simp [Builtin.clear_, run_underlying Try.underlying62, zeroC]
  refine (congrArg (fun r => Result.andThen r _) hst).trans ?_
  rfl

set_option maxRecDepth 100000 in
set_option maxHeartbeats 2000000 in
theorem delC_any (g cap i m : Nat) (zs : List (Array Value)) (w : World) (hw : Wide 4 zs) (hz : zs.length = m) (h : w.ownsRow 0 74 4 (.slice (some ⟨g, 0, none⟩) m cap) m (chs zs)) (hi : i < m) (hl : m ≤ 10000) (hcap : m ≤ cap) (hcm : cap ≤ 9223372036854775807) :
    Calls Try.prog 66 #[.slice (some ⟨g, 0, none⟩) m cap, .int .i64 i, .int .i64 ((i : Int) + 1)] w fun e w' => e = .returned (.slice (some ⟨g, 0, none⟩) (m - 1) cap) ∧ OwnR 74 4 w' (.slice (some ⟨g, 0, none⟩) (m - 1) cap) (zs.eraseIdx i) ∧ w.grownBy w' (some g) := by
  have hT := Kpt.mk (own_takeR hw hz h i (Nat.le_of_lt hi))
  have hK := Kpt.mk h
  have hzK := Kpt.mk hz
  have hwK := Kpt.mk hw
  obtain ⟨k, hk⟩ : ∃ k, m = k + 1 := ⟨m - 1, by omega⟩
  rw [show m - 1 = k from by omega]
  have hkK := Kpt.mk hk
  have e7 : (k : Int) < m := by omega
  have e8 : (k : Int) < cap := by omega
  have e9 : m - k = 1 := by omega
  clear hk
  have e1 : (i : Int) < m := by omega
  have e2 : (m : Int) ≤ cap := by omega
  have e3 : (i : Int) + 1 ≤ m := by omega
  have e4 : (i : Int) + 1 ≤ cap := by omega
  have e5 : ¬ (i : Int) = (i : Int) + 1 := by omega
  clear h hz hw
  go_enter Try.func66, Try.ntmps66
  go_wp2_with fail
  obtain ⟨ad, had⟩ : ∃ ad : Addr, ad = if cap = i + 1 then (⟨g, 0, none⟩ : Addr) else ⟨g, (i + 1) * 4, none⟩ := ⟨_, rfl⟩
  have hnews : ∀ W : World, W.heap = w.heap → ∀ j u, (chs (zs.drop (i + 1)))[j]? = some u → W.cell? (ad.add j) = some u := fun W hW j u hu => by
    have hj : j < (zs.length - (i + 1)) * 4 := by have := (List.getElem?_eq_some_iff.1 hu).1; rw [chs_length (hwK.out.drop _), List.length_drop] at this; exact this
    have hne : ¬ cap = i + 1 := by have := hzK.out; omega
    rw [had, if_neg hne, Go.WideShapes.add_plain]
    have := World.ownsRow.cellAt hK.out ((i + 1) * 4 + j) (by have := hzK.out; omega)
    have e : W.cell? ⟨g, (i + 1) * 4 + j, none⟩ = w.cell? ⟨g, (i + 1) * 4 + j, none⟩ := World.cell?_of_block (by rw [hW])
    rw [e, this, ← hu, ← chs_drop zs hwK.out, List.getElem?_drop]
  replace hnews := Kpt.mk hnews
  have hadK := Kpt.mk had
  clear had
  refine wp_region_any (by kernel_rfl) ?_
  refine wpAny_of_C (C := fun W => True) _ _ _ _ ?_
  refine wpAnyC_take 0 (.slice (some ⟨g, 0, none⟩) m cap) rfl (by kernel_rfl) (by kernel_rfl) (by kernel_rfl) (fun _ _ _ h => h) (wanted_free rfl _) (fun W hW => by go_simp) ?_
  try simp only [Act.put, List.getElem_toArray, List.getElem_cons_succ, List.getElem_cons_zero, List.setIfInBounds_toArray, List.set_cons_succ, List.set_cons_zero]
  refine wpAnyC_take 1 (.int .i64 i) rfl (by kernel_rfl) (by kernel_rfl) (by kernel_rfl) (fun _ _ _ h => h) (wanted_free rfl _) (fun W hW => by go_simp) ?_
  try simp only [Act.put, List.getElem_toArray, List.getElem_cons_succ, List.getElem_cons_zero, List.setIfInBounds_toArray, List.set_cons_succ, List.set_cons_zero]
  refine wpAnyC_take 2 (.slice (some ⟨g, 0, none⟩) i cap) rfl (by kernel_rfl) (by kernel_rfl) (by kernel_rfl) (fun _ _ _ h => h) (wanted_free rfl _) (fun W hW => by go_simp; try (intro hx; omega)) ?_
  try simp only [Act.put, List.getElem_toArray, List.getElem_cons_succ, List.getElem_cons_zero, List.setIfInBounds_toArray, List.set_cons_succ, List.set_cons_zero]
  refine wpAnyC_take 3 (.slice (some ⟨g, 0, none⟩) m cap) rfl (by kernel_rfl) (by kernel_rfl) (by kernel_rfl) (fun _ _ _ h => h) (wanted_free rfl _) (fun W hW => by go_simp) ?_
  try simp only [Act.put, List.getElem_toArray, List.getElem_cons_succ, List.getElem_cons_zero, List.setIfInBounds_toArray, List.set_cons_succ, List.set_cons_zero]
  refine wpAnyC_take 4 (.int .i64 ((i : Int) + 1)) rfl (by kernel_rfl) (by kernel_rfl) (by kernel_rfl) (fun _ _ _ h => h) (wanted_free rfl _) (fun W hW => by go_simp) ?_
  try simp only [Act.put, List.getElem_toArray, List.getElem_cons_succ, List.getElem_cons_zero, List.setIfInBounds_toArray, List.set_cons_succ, List.set_cons_zero]
  refine wpAnyC_take 5 (.slice (some ad) (m - (i + 1)) (cap - (i + 1))) rfl (by kernel_rfl) (by kernel_rfl) (by kernel_rfl) (fun _ _ _ h => h) (wanted_free rfl _) (fun W hW => by
    rw [hadK.out]
    by_cases hc1 : cap = i + 1
    · rw [if_pos hc1]
      subst hc1
      go_simp
      try (intro hx; omega)
    · rw [if_neg hc1]
      have e6 : (i : Int) + 1 < cap := by omega
      go_simp
      intro hx
      omega) ?_
  try simp only [Act.put, List.getElem_toArray, List.getElem_cons_succ, List.getElem_cons_zero, List.setIfInBounds_toArray, List.set_cons_succ, List.set_cons_zero]
  refine wpAnyC_one 6 trivial rfl (by kernel_rfl) (wanted_free rfl _) (fun K hKK => ?_)
  refine wp_append_fits 62 74 4 16 _ Try.underlying62 infoCmd _ _ rfl g i cap (m - (i + 1)) (cap - (i + 1)) (zs.take i) (zs.drop (i + 1)) ad (by kernel_rfl) (by kernel_rfl) ?_ (hwK.out.drop _) (by simp [hzK.out]) (hnews.out _ rfl) (by omega) (fun w1 ho1 hg1 => hKK _ _ ?_)
  · exact hT.out
  replace ho1 : w1.ownsRow 0 74 4 (.slice (some ⟨g, 0, none⟩) k cap) k (chs (zs.eraseIdx i)) := by
    rw [List.eraseIdx_eq_take_drop_succ]
    rw [show i + (m - (i + 1)) = k from by have := hkK.out; omega] at ho1
    exact ho1
  rw [show i + (m - (i + 1)) = k from by have := hkK.out; omega]
  replace hg1 : w.grownBy w1 (some g) := ⟨hg1.os, hg1.tape, hg1.output, hg1.size, hg1.block⟩
  simp only [Act.put, List.setIfInBounds_toArray, List.set_cons_succ, List.set_cons_zero]
  refine wpAnyC_take 7 (.slice (some ⟨g, 0, none⟩) k cap) rfl (by kernel_rfl) (by kernel_rfl) (by kernel_rfl) (fun _ _ _ h => h) (wanted_free rfl _) (fun W hW => by go_simp) ?_
  try simp only [Act.put, List.getElem_toArray, List.getElem_cons_succ, List.getElem_cons_zero, List.setIfInBounds_toArray, List.set_cons_succ, List.set_cons_zero]
  refine wpAnyC_done trivial (by kernel_rfl) ?_
  replace ho1 := Kpt.mk ho1
  replace hg1 := Kpt.mk hg1
  clear hKK K
  go_wp2_with fail
  rw [run_clearC w1 _ g (k * 4) _ (fun j hj => own_roomR ho1.out (k * 4 + j) (by omega)) (fun j hj => ho1.out.frozenAt (k * 4 + j))]
  obtain ⟨ho2, hg2⟩ := own_behindR (Cm.v ⟨0, 0, false, 0⟩).toList (k * 4) w1 (Nat.le_refl _) ho1.out
  have hg3 := Kpt.mk (World.grownBy.trans hg1.out hg2)
  replace ho2 := Kpt.mk ho2
  clear hg2
  obtain ⟨w2, hw2⟩ : ∃ w2, w2 = w1.setCells g (k * 4) (Cm.v ⟨0, 0, false, 0⟩).toList := ⟨_, rfl⟩
  rw [← hw2] at ho2 hg3 ⊢
  replace hw2 := Kpt.mk hw2
  simp only [Result.andThen, Oper.upon]
  go_wp2
  go_ret
  exact ⟨rfl, ⟨by have e : (zs.eraseIdx i).length = k := (by rw [List.length_eraseIdx, hzK.out, if_pos hi]; have := hkK.out; omega); rw [e]; exact ho2.out, hwK.out.erase i⟩, hg3.out⟩
end Go.Proofs.Ytdplndlmdhpfaab
