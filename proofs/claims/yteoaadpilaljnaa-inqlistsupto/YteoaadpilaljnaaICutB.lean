/-
  Cut in general; InqLists: the walk.
-/
import Derived.Test.YteoaadpilaljnaaILunB
import Derived.Test.YteoaadpilaljnaaISup
namespace Go.Proofs.Yteoaadpilaljnaa
open Go.RowKit
set_option linter.unusedVariables false
set_option linter.unusedSimpArgs false

theorem wp_copy_min {w : World} {o : Oper} {a : Act} {K : Act → World → Prop} {Q : Exit → Act → World → Prop} (d s : Operand)
    (ho : o.op = .call { callee := .builtin .copy, args := #[d, s], argTypes := #[25, 25] })
    (base g m sl sc b soff : Nat) (ds : List Int) (hd : a.eval d = .slice (some ⟨g, 0, none⟩) m m) (hs : a.eval s = .slice (some ⟨b, soff, none⟩) sl sc) (hsl : ds.length = sl) (hm : m ≤ sl) (hpos : 0 < m)
    (hown : w.ownsRow base 5 1 (.slice (some ⟨g, 0, none⟩) m m) m (cels (List.replicate m 0))) (hc : ∀ j u, (cels ds)[j]? = some u → w.cell? ⟨b, soff + j, none⟩ = some u)
    (h : ∀ w', w'.ownsRow base 5 1 (.slice (some ⟨g, 0, none⟩) m m) m (cels (ds.take m)) → w.grownBy w' (some g) → K (a.put o.dst (goInt m)) w') : o.wp Try.prog a w K Q := by
  rcases id hown.2 with ⟨hx, _⟩ | ⟨g', cap', cur, hx, hbg, hg, hnc, hcm, hcs, htake⟩
  · cases hx
  simp only [Value.slice.injEq, Option.some.injEq, Addr.mk.injEq, and_true, true_and] at hx
  obtain ⟨rfl, rfl⟩ := hx
  have hlt : (ds.take m).length = m := by rw [List.length_take]; omega
  have hrun := run_copy_row (P := Try.prog) w 25 25 o.type 5 g 0 m m ⟨b, soff, none⟩ sl sc cur 5 (cels (ds.take m)) Try.underlying25 B.Try.size5 hg
    (by simp only [cels_length, hlt]; exact (Nat.min_eq_right hm).symm) (fun j u hu => by
      rw [Go.WideShapes.add_plain]
      refine hc j u ?_
      rw [cels, List.getElem?_map] at hu ⊢
      rw [List.getElem?_take] at hu
      split at hu
      · exact hu
      · simp at hu) (by simp only [cels_length, hlt]; omega) (cels_one _)
  unfold Oper.wp
  simp [execOp, ho, resolve, invoke, builtin, hd, hs, hrun, Result.andThen]
  have hcl : (cels (ds.take m)).length = m := by rw [cels_length, hlt]
  have hmin : min m ds.length = m := by omega
  have hX := h (w.setRow g (cur.toList.take 0 ++ cels (ds.take m) ++ cur.toList.drop (0 + (cels (ds.take m)).length)).toArray) ⟨by rw [cels_length, hlt]; omega, .inr ⟨g, m, _, rfl, hbg, setRow_heap w g cur _ 5 _ hg, Nat.le_refl _, hcm, by simp [hmin]; omega, by
    rw [List.take_zero, List.nil_append, Nat.mul_one]
    show ((cels (ds.take m) ++ _ : List Value).toArray.toList.take m) = _
    rw [List.toList_toArray, List.take_append_of_le_length (by rw [hcl]; exact Nat.le_refl _), List.take_of_length_le (by rw [hcl]; exact Nat.le_refl _)]⟩⟩ ⟨rfl, rfl, rfl, by simp, fun j _ hk => setRow_other w g j _ (fun e => hk (by rw [e]))⟩
  simp [hmin] at hX ⊢
  exact hX

set_option maxRecDepth 100000 in
set_option maxHeartbeats 2000000 in
theorem cut_any (a : Option Addr) (n k : Nat) (zs : List Int) (x : Int) (w : World) (h : RdAt w (.slice a n k) zs) (hn : zs.length = n) (hm : n ≤ 1048576) :
    Calls Try.prog 19 #[.slice a n k, .int .i64 x] w fun e w' => ∃ v, e = .returned v ∧ RdAt w' v (zs.take (cutN n x)) ∧ Below w.heap.size w w' := by
  obtain ⟨i0', hi0, hz0, hz1, hz2⟩ := info_parts Try.info5
  by_cases hx : x < 0
  · rw [show cutN n x = 0 from by unfold cutN; omega]
    have e1 : (0 : Int) ≤ n := by omega
    have e2 : ¬ (n : Int) < 0 := by omega
    have f1 : max x 0 = 0 := by omega
    have f2 : max 0 x = 0 := by omega
    have f3 : min (n : Int) 0 = 0 := by omega
    have f4 : min 0 (n : Int) = 0 := by omega
    clear h
    go_enter Try.func19, Try.ntmps19
    go_wp2_with (first | (refine wpList_copy_nothing rfl (.tmp 12) (.tmp 13) 25 25 rfl 5 Try.underlying25 Try.size5 _ _ 0 0 n k rfl rfl (by simp) ?_) | (at_make; refine wpList_make_full _ rfl _ _ 25 rfl w.heap.size 5 i0' (.int .u8 0) 1 Try.underlying25 hi0 hz0 hz1 .i64 .i64 _ _ 0 rfl rfl rfl rfl (by rw [hz2]; omega) (Nat.zero_le _) (Nat.le_refl _) ?_; intro w1 hown1 hg1; have hb1 : Kpt (Below w.heap.size w w1) := ⟨(Below.refl _ _).grown hg1 (Nat.le_refl _) (fun k h => by cases h)⟩; clear hown1 hg1))
    go_ret
    exact ⟨_, rfl, ⟨_, 0, rfl, (fun e => by cases e), Nat.le_refl _, .inl rfl⟩, hb1.out⟩
  · obtain ⟨m, rfl⟩ : ∃ m : Nat, x = m := ⟨x.toNat, by omega⟩
    have e0 : (0 : Int) ≤ m := by omega
    have f1 : max (m : Int) 0 = m := by omega
    have f2 : max 0 (m : Int) = m := by omega
    clear hx
    by_cases h1 : m ≤ n
    · rw [show cutN n (m : Int) = m from by unfold cutN; omega]
      have e1 : (m : Int) ≤ n := by omega
      have f3 : min (n : Int) m = m := by omega
      have f4 : min (m : Int) n = m := by omega
      by_cases h0 : m = 0
      · subst h0
        clear f1 f2 f3 f4
        have f3 : min (n : Int) 0 = 0 := by omega
        have f4 : min 0 (n : Int) = 0 := by omega
        have e2 : (0 : Int) ≤ n := by omega
        clear h
        go_enter Try.func19, Try.ntmps19
        go_wp2_with (first | (refine wpList_copy_nothing rfl (.tmp 12) (.tmp 13) 25 25 rfl 5 Try.underlying25 Try.size5 _ _ 0 0 n k rfl rfl (by simp) ?_) | (at_make; refine wpList_make_full _ rfl _ _ 25 rfl w.heap.size 5 i0' (.int .u8 0) 1 Try.underlying25 hi0 hz0 hz1 .i64 .i64 _ _ 0 rfl rfl rfl rfl (by rw [hz2]; omega) (Nat.zero_le _) (Nat.le_refl _) ?_; intro w1 hown1 hg1; have hb1 : Kpt (Below w.heap.size w w1) := ⟨(Below.refl _ _).grown hg1 (Nat.le_refl _) (fun k h => by cases h)⟩; clear hown1 hg1))
        go_ret
        exact ⟨_, rfl, ⟨_, 0, rfl, (fun e => by cases e), Nat.le_refl _, .inl rfl⟩, hb1.out⟩
      · obtain ⟨a', c', hv, ha, hlc, hr⟩ := h
        simp only [Value.slice.injEq] at hv
        obtain ⟨rfl, hq9, rfl⟩ := hv
        clear hq9
        rcases hr with h3 | ⟨b, off, rfl, hc⟩
        · omega
        have hbl := World.block_lt_of_cell? w ⟨b, off + 0, none⟩ (hc 0 ((cels zs)[0]'(by rw [cels_length]; omega)) (by rw [List.getElem?_eq_getElem]))
        simp only at hbl
        replace hc := Kpt.mk hc
        replace hn := Kpt.mk hn
        clear ha hlc
        go_enter Try.func19, Try.ntmps19
        go_wp2_with (first | (refine wpList_plain rfl fun KK hKK => wp_copy_min (.tmp 12) (.tmp 13) rfl w.heap.size w.heap.size m n k b off zs rfl rfl hn.out (by omega) (by omega) hown1.out (fun j u hu => (World.cell?_of_block (w := w) (a := ⟨b, off + j, none⟩) (hg1.out.block b hbl (fun e => by cases e))).trans (hc.out j u hu)) (fun w2 ho2 hg2 => hKK _ _ ?_); replace ho2 := Kpt.mk ho2; replace hg2 := Kpt.mk hg2) | (at_make; refine wpList_make_full _ rfl _ _ 25 rfl w.heap.size 5 i0' (.int .u8 0) 1 Try.underlying25 hi0 hz0 hz1 .i64 .i64 _ _ m rfl rfl rfl rfl (by rw [hz2]; omega) (by unfold maxLen; omega) (Nat.le_refl _) ?_; intro w1 hown1 hg1; have hb1 : Kpt (Below w.heap.size w w1) := ⟨(Below.refl _ _).grown hg1 (Nat.le_refl _) (fun k h => by cases h)⟩; rw [made_u8] at hown1; replace hown1 := Kpt.mk hown1; replace hg1 := Kpt.mk hg1))
        go_ret
        exact ⟨_, rfl, own_rd ho2.out, hb1.out.grown hg2.out hb1.out.size (fun q hq => by cases hq; exact Nat.le_refl _)⟩
    · rw [show cutN n (m : Int) = n from by unfold cutN; omega]
      have e1 : (n : Int) ≤ m := by omega
      have e3 : ¬ (m : Int) ≤ n := by omega
      have f3 : min (n : Int) m = n := by omega
      have f4 : min (m : Int) n = n := by omega
      by_cases h0 : n = 0
      · subst h0
        clear h f3 f4
        have f3 : min 0 (m : Int) = 0 := by omega
        have f4 : min (m : Int) 0 = 0 := by omega
        go_enter Try.func19, Try.ntmps19
        go_wp2_with (first | (refine wpList_copy_nothing rfl (.tmp 12) (.tmp 13) 25 25 rfl 5 Try.underlying25 Try.size5 _ _ 0 0 0 k rfl rfl (by simp) ?_) | (at_make; refine wpList_make_full _ rfl _ _ 25 rfl w.heap.size 5 i0' (.int .u8 0) 1 Try.underlying25 hi0 hz0 hz1 .i64 .i64 _ _ 0 rfl rfl rfl rfl (by rw [hz2]; omega) (Nat.zero_le _) (Nat.le_refl _) ?_; intro w1 hown1 hg1; have hb1 : Kpt (Below w.heap.size w w1) := ⟨(Below.refl _ _).grown hg1 (Nat.le_refl _) (fun k h => by cases h)⟩; clear hown1 hg1))
        go_ret
        exact ⟨_, rfl, ⟨_, 0, rfl, (fun e => by cases e), Nat.le_refl _, .inl rfl⟩, hb1.out⟩
      · obtain ⟨a', c', hv, ha, hlc, hr⟩ := h
        simp only [Value.slice.injEq] at hv
        obtain ⟨rfl, hq9, rfl⟩ := hv
        clear hq9
        rcases hr with h3 | ⟨b, off, rfl, hc⟩
        · omega
        have hbl := World.block_lt_of_cell? w ⟨b, off + 0, none⟩ (hc 0 ((cels zs)[0]'(by rw [cels_length]; omega)) (by rw [List.getElem?_eq_getElem]))
        simp only at hbl
        replace hc := Kpt.mk hc
        replace hn := Kpt.mk hn
        clear ha hlc
        go_enter Try.func19, Try.ntmps19
        go_wp2_with (first | (refine wpList_plain rfl fun KK hKK => wp_copy_min (.tmp 12) (.tmp 13) rfl w.heap.size w.heap.size n n k b off zs rfl rfl hn.out (by omega) (by omega) hown1.out (fun j u hu => (World.cell?_of_block (w := w) (a := ⟨b, off + j, none⟩) (hg1.out.block b hbl (fun e => by cases e))).trans (hc.out j u hu)) (fun w2 ho2 hg2 => hKK _ _ ?_); replace ho2 := Kpt.mk ho2; replace hg2 := Kpt.mk hg2) | (at_make; refine wpList_make_full _ rfl _ _ 25 rfl w.heap.size 5 i0' (.int .u8 0) 1 Try.underlying25 hi0 hz0 hz1 .i64 .i64 _ _ n rfl rfl rfl rfl (by rw [hz2]; omega) (by unfold maxLen; omega) (Nat.le_refl _) ?_; intro w1 hown1 hg1; have hb1 : Kpt (Below w.heap.size w w1) := ⟨(Below.refl _ _).grown hg1 (Nat.le_refl _) (fun k h => by cases h)⟩; rw [made_u8] at hown1; replace hown1 := Kpt.mk hown1; replace hg1 := Kpt.mk hg1))
        go_ret
        exact ⟨_, rfl, own_rd ho2.out, hb1.out.grown hg2.out hb1.out.size (fun q hq => by cases hq; exact Nat.le_refl _)⟩
end Go.Proofs.Yteoaadpilaljnaa
