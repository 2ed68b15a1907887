/-
  The contract of awake.
-/
import Derived.Test.YtklboieemljmiabVLaw
namespace Go.Proofs.Ytklboieemljmiab
open Go.RowKit
set_option linter.unusedVariables false
set_option linter.unusedSimpArgs false
theorem Fx.obs {w W W' : World} {B : Nat} {tag tag' : Tags} {st : St} {f : ByteArray} {S D N : Nat} {k : Int} {ca : Bool} {g n cap : Nat} {zs : List Int} (h : Fx w W B tag tag' st f S D N k ca) (hr : W'.ownsRow W.heap.size 5 1 (.slice (some ⟨g, 0, none⟩) n cap) n (cels zs)) : Ob w W' tag' g n cap zs :=
  ⟨own_base hr h.st.size, wd_none h.dv.wd (own_lo hr).1⟩
theorem Step.belowT {w w' : World} {tag tag' : Tags} (s : Step w w' tag tag' (fun _ => True)) {n : Nat} (hn : n ≤ w.heap.size) (ht : ∀ i, i < n → tag i = none) : Below n w w' ∧ ∀ i, i < n → tag' i = none :=
  ⟨⟨s.os, s.tape, s.output, s.size, fun i hi => s.block i (by omega) (by simp [ht i hi])⟩, fun i hi => s.bare i (by omega) (ht i hi)⟩
theorem resV_at {w : World} {b : Nat} {q : Int} {s : Sn} {v : Value} (h : Bx w b (resV q s v)) : w.cell? ⟨b, 0, none⟩ = some (.int .u8 q) ∧ w.cell? ⟨b, 9, none⟩ = some v ∧ b < w.heap.size :=
  ⟨h.cells 0 (show 0 < 10 by decide), h.cells 9 (show 9 < 10 by decide), h.lt⟩
theorem exec_conv {W : World} {o : Oper} {a : Act} (x : Operand) (ho : o.op = .convert 22 9 x) (v : Value) (zs : List Int) (hx : a.eval x = v) (hr : RdAt W v zs) : (execOp a.eval o).run Try.prog W = .ok (.value (.string (strOfNums zs))) W := by
  have := conv_rd hr
  unfold execOp
  simp only [ho, hx]
  simp [this]
def zA : List Int := List.replicate 16 170
theorem zA_bytes : Bytes zA := fun j => by
  unfold zA
  rw [List.getD_eq_getElem?_getD, List.getElem?_replicate]
  split <;> simp
def stA : St := wrF st0 nmF 1 (prL 0 1 (unBs false zA 1)) true false
theorem fineA : Fine 5 stA nmF := by
  have := (fine0 nmF).write 1 (prL 0 1 (unBs false zA 1)) (prL_ok 0 1 _ (unBs_ok false zA 1 zA_bytes rfl)) true false
  rw [prL_len, unBs_len] at this
  exact this
theorem blkA : blkAt (stA.seen nmF) 1 = prB 0 1 ⟨zA, 0, 0, 0⟩ := by
  have := wrF_view (f := nmF) (st := st0) good_none 1 (prL 0 1 (unBs false zA 1)) (prL_ok 0 1 _ (unBs_ok false zA 1 zA_bytes rfl)) true false 1
  unfold stA
  rw [this, if_pos (by decide)]
  rfl
theorem packA : packL false (rdL (stA.seen nmF) 1 1) = zA := by
  simp only [rdL, List.range_one, List.map_cons, List.map_nil, packL, pkL, List.flatten_cons, List.flatten_nil]
  rw [show (1 + 0 : Nat) = 1 from rfl, blkA]
  rfl
theorem lookA : lookS 0 0 1 (rdL (stA.seen nmF) 1 1) = noS := look_all 0 0 1 _ (fun i b _ _ => by unfold checkC; rw [if_pos (by decide)])

set_option maxRecDepth 100000 in
set_option maxHeartbeats 1000000 in
theorem awake_any (w : World) : Calls Try.prog 4 #[] w fun e w' => e = .returned (.bool true) ∧ Below w.heap.size w w' := by
  have HD := Kpt.mk (device_any 4 0 true w (by decide) (by decide))
  have HBy := Kpt.mk (fun W => bytes_any 16 170 W (by decide))
  have HW : Kpt (∀ W B tag S D g cp, Dv W B tag st0 nmF S D 4 0 true → RdAt W (.slice (some ⟨g, 0, none⟩) 16 cp) zA → Calls Try.prog 6 #[.pointer (some ⟨D, 0, none⟩), .agg (Cm.vals ⟨8, false, 1, 1, 0, false, 0, false, false, 0, 0, false, 0, 0, false⟩), .slice (some ⟨g, 0, none⟩) 16 cp] W fun e w' => e = .returned (.agg (resV 0 noS (.slice none 0 0))) ∧ Aft W w' B tag stA) :=
    ⟨fun W B tag S D g cp h hr => doWrite_8 W B tag st0 nmF S D 4 0 true 1 1 16 cp (some ⟨g, 0, none⟩) zA ⟨8, false, 1, 1, 0, false, 0, false, false, 0, 0, false, 0, 0, false⟩ h (by decide) (by decide) (by decide) (by decide) (by decide) (fun _ => rfl) (fun c hc => by cases hc) (by decide) (by decide) rfl rfl rfl (by decide) hr rfl zA_bytes rfl rfl⟩
  have HR : Kpt (∀ W B tag S D, Dv W B tag stA nmF S D 4 0 true → Calls Try.prog 6 #[.pointer (some ⟨D, 0, none⟩), .agg (Cm.vals ⟨7, false, 1, 1, 0, false, 0, false, false, 0, 0, false, 0, 0, false⟩), .slice none 0 0] W fun e w' => ∃ g cap, e = .returned (.agg (resV 0 noS (.slice (some ⟨g, 0, none⟩) 16 cap))) ∧ Got W w' B tag (rdSt stA 1) g 16 cap zA) :=
    ⟨fun W B tag S D h => by
      have := doRead W B tag stA nmF S D 4 0 true 1 1 ⟨7, false, 1, 1, 0, false, 0, false, false, 0, 0, false, 0, 0, false⟩ (.slice none 0 0) h (by decide) (by decide) (by decide) (by have := fineA.cnt; omega) fineA.fails fineA.good (by decide) (by decide) (by decide) (by decide) (by decide) rfl rfl rfl (by decide) lookA
      rw [show packL ((Cm.pr ⟨7, false, 1, 1, 0, false, 0, false, false, 0, 0, false, 0, 0, false⟩) != 0) (rdL (stA.seen nmF) 1 1) = zA from packA] at this
      exact this⟩
  obtain ⟨z, hz⟩ : ∃ z, z = zA := ⟨_, rfl⟩
  rw [← hz] at HW HR
  rw [show List.replicate 16 (170 : Int) = z from hz.symm] at HBy
  obtain ⟨sA, hsA⟩ : ∃ sA, sA = stA := ⟨_, rfl⟩
  rw [← hsA] at HW HR
  clear hz hsA
  simp only [Cm.vals] at HW HR
  go_enter Try.func4, Try.ntmps4
  go_wp2_with fail
  refine HD.out.mono ?_
  rintro e w1 ⟨D, B, S, tag, rfl, hdv, hb1, ht1⟩
  have F := Kpt.mk hdv.fx
  have hSl := hdv.sto.lt
  have hDl := hdv.bx.lt
  have hbT := Kpt.mk (And.intro hb1 ht1)
  clear HD hdv hb1 ht1
  go_wp2_with (first
      | (have hm := m6; refine wpList_store_bx rfl 34 _ _ rfl bv _ (resV 0 noS (.slice (some ⟨gd, 0, none⟩) 16 cd)) rfl rfl Ov.out.bx rfl infoR (resV_one _ _ _ _ _) rfl ?_; intro w7 hX_ hg_; replace Oa := Kpt.mk (Oa.out.other hg_ (by omega)); replace Rp := Kpt.mk (Rp.out.other hg_ (by omega)); replace Rd := Kpt.mk (Rd.out.other hg_ (by omega)); replace F := Kpt.mk (F.out.own Ov.out hg_ hSl hDl); replace Ov := Kpt.mk (Ov.out.set hX_); clear hX_ hg_; clear hm m6; have m7 : Kpt True := ⟨trivial⟩)
      | (have hm := m5; refine wpList_var rfl 34 rfl zeroR zeroRi ?_; intro bv w_v hl_ hX_ h_; have q_a_v : ba < bv := Nat.lt_of_lt_of_le Oa.out.bx.lt hl_; have q_p_v : gp < bv := Nat.lt_of_lt_of_le Rp.out.lt hl_; have q_d_v : gd < bv := Nat.lt_of_lt_of_le Rd.out.lt hl_; have Ov := Kpt.mk (F.out.new hl_ hX_); replace Oa := Kpt.mk (Oa.out.below h_); replace Rp := Kpt.mk (Rp.out.below h_); replace Rd := Kpt.mk (Rd.out.below h_); replace F := Kpt.mk (F.out.below h_); clear hl_ hX_ h_; clear hm m5; have m6 : Kpt True := ⟨trivial⟩)
      | (go_at_call 6; have hm := m4; go_must (refine (HR.out _ _ _ _ _ F.out.dv).mono ?_; rintro e w5 ⟨gd, cd, rfl, tag4, hW_, s_, hrow_, hgn_⟩; have q_a_d : ba < gd := Nat.lt_of_lt_of_le Oa.out.bx.lt (own_lo hrow_).1; have q_p_d : gp < gd := Nat.lt_of_lt_of_le Rp.out.lt (own_lo hrow_).1; have Rd_ := Kpt.mk (Ob.mk (w := w1) (tag' := tag4) (own_base hrow_ F.out.st.size) hgn_); replace Oa := Kpt.mk (Oa.out.call s_); replace Rp := Kpt.mk (Rp.out.call s_); replace F := Kpt.mk (F.out.call hW_ s_); have Rd := Rd_; clear Rd_; clear hW_ s_ hrow_ hgn_; clear hm m4; have m5 : Kpt True := ⟨trivial⟩))
      | (have hm := m3; refine wpList_store_bx rfl 34 _ _ rfl ba _ (resV 0 noS (.slice none 0 0)) rfl rfl Oa.out.bx rfl infoR (resV_one _ _ _ _ _) rfl ?_; intro w4 hX_ hg_; replace Rp := Kpt.mk (Rp.out.other hg_ (by omega)); replace F := Kpt.mk (F.out.own Oa.out hg_ hSl hDl); replace Oa := Kpt.mk (Oa.out.set hX_); clear hX_ hg_; clear hm m3; have m4 : Kpt True := ⟨trivial⟩)
      | (have hm := m2; refine wpList_var rfl 34 rfl zeroR zeroRi ?_; intro ba w_a hl_ hX_ h_; have q_p_a : gp < ba := Nat.lt_of_lt_of_le Rp.out.lt hl_; have Oa := Kpt.mk (F.out.new hl_ hX_); replace Rp := Kpt.mk (Rp.out.below h_); replace F := Kpt.mk (F.out.below h_); clear hl_ hX_ h_; clear hm m2; have m3 : Kpt True := ⟨trivial⟩)
      | (go_at_call 6; have hm := m1; go_must (refine (HW.out _ _ _ _ _ _ _ F.out.dv (own_rd Rp.out.own)).mono ?_; rintro e w3 ⟨rfl, tag3, hW_, s_⟩; replace Rp := Kpt.mk (Rp.out.call s_); replace F := Kpt.mk (F.out.call hW_ s_); clear hW_ s_; clear hm m1; have m2 : Kpt True := ⟨trivial⟩))
      | (go_at_call 7; go_must (refine (HBy.out _).mono ?_; rintro e w2 ⟨gp, rfl, hrow_, h_⟩; have Rp := Kpt.mk (F.out.obs hrow_); replace F := Kpt.mk (F.out.below h_); clear h_ hrow_; have m1 : Kpt True := ⟨trivial⟩))
      | fail)
  obtain ⟨a0, a9, al⟩ := resV_at Oa.out.bx
  obtain ⟨v0, v9, vl⟩ := resV_at Ov.out.bx
  have hrd := own_rd Rd.out.own
  refine wp_region_any (by kernel_rfl) ?_
  refine wpAny_of_C (C := fun W => W.cell? ⟨ba, 0, none⟩ = some (.int .u8 0) ∧ W.cell? ⟨bv, 0, none⟩ = some (.int .u8 0) ∧ W.cell? ⟨bv, 9, none⟩ = some (.slice (some ⟨gd, 0, none⟩) 16 cd) ∧ RdAt W (.slice (some ⟨gd, 0, none⟩) 16 cd) z) _ _ _ _ ?_
  refine wpAnyC_take 0 (.pointer (some ⟨ba, 0, none⟩)) rfl (by kernel_rfl) (by kernel_rfl) (by kernel_rfl) (fun _ _ _ h => h) (wanted_free rfl _) (fun W hW => by obtain ⟨q1, q2, q3, q4⟩ := hW; go_simp) ?_
  try simp only [Act.put, List.getElem_toArray, List.getElem_cons_succ, List.getElem_cons_zero, List.setIfInBounds_toArray, List.set_cons_succ, List.set_cons_zero]
  refine wpAnyC_take 1 (.int .u8 0) rfl (by kernel_rfl) (by kernel_rfl) (by kernel_rfl) (fun _ _ _ h => h) (wanted_free rfl _) (fun W hW => by obtain ⟨q1, q2, q3, q4⟩ := hW; go_simp) ?_
  try simp only [Act.put, List.getElem_toArray, List.getElem_cons_succ, List.getElem_cons_zero, List.setIfInBounds_toArray, List.set_cons_succ, List.set_cons_zero]
  refine wpAnyC_take 2 (.bool true) rfl (by kernel_rfl) (by kernel_rfl) (by kernel_rfl) (fun _ _ _ h => h) (wanted_free rfl _) (fun W hW => by obtain ⟨q1, q2, q3, q4⟩ := hW; go_simp) ?_
  try simp only [Act.put, List.getElem_toArray, List.getElem_cons_succ, List.getElem_cons_zero, List.setIfInBounds_toArray, List.set_cons_succ, List.set_cons_zero]
  refine wpAnyC_take 3 (.bool true) rfl (by kernel_rfl) (by kernel_rfl) (by kernel_rfl) (fun _ _ _ h => h) (wanted_free rfl _) (fun W hW => by obtain ⟨q1, q2, q3, q4⟩ := hW; go_simp) ?_
  try simp only [Act.put, List.getElem_toArray, List.getElem_cons_succ, List.getElem_cons_zero, List.setIfInBounds_toArray, List.set_cons_succ, List.set_cons_zero]
  refine wpAnyC_take 4 (.pointer (some ⟨bv, 0, none⟩)) rfl (by kernel_rfl) (by kernel_rfl) (by kernel_rfl) (fun _ _ _ h => h) (wanted_at true rfl rfl rfl rfl) (fun W hW => by obtain ⟨q1, q2, q3, q4⟩ := hW; go_simp) ?_
  try simp only [Act.put, List.getElem_toArray, List.getElem_cons_succ, List.getElem_cons_zero, List.setIfInBounds_toArray, List.set_cons_succ, List.set_cons_zero]
  refine wpAnyC_take 5 (.int .u8 0) rfl (by kernel_rfl) (by kernel_rfl) (by kernel_rfl) (fun _ _ _ h => h) (wanted_at true rfl rfl rfl rfl) (fun W hW => by obtain ⟨q1, q2, q3, q4⟩ := hW; go_simp) ?_
  try simp only [Act.put, List.getElem_toArray, List.getElem_cons_succ, List.getElem_cons_zero, List.setIfInBounds_toArray, List.set_cons_succ, List.set_cons_zero]
  refine wpAnyC_take 6 (.bool true) rfl (by kernel_rfl) (by kernel_rfl) (by kernel_rfl) (fun _ _ _ h => h) (wanted_at true rfl rfl rfl rfl) (fun W hW => by obtain ⟨q1, q2, q3, q4⟩ := hW; go_simp) ?_
  try simp only [Act.put, List.getElem_toArray, List.getElem_cons_succ, List.getElem_cons_zero, List.setIfInBounds_toArray, List.set_cons_succ, List.set_cons_zero]
  refine wpAnyC_take 7 (.bool true) rfl (by kernel_rfl) (by kernel_rfl) (by kernel_rfl) (fun _ _ _ h => h) (wanted_free rfl _) (fun W hW => by obtain ⟨q1, q2, q3, q4⟩ := hW; go_simp) ?_
  try simp only [Act.put, List.getElem_toArray, List.getElem_cons_succ, List.getElem_cons_zero, List.setIfInBounds_toArray, List.set_cons_succ, List.set_cons_zero]
  refine wpAnyC_take 8 (.bool true) rfl (by kernel_rfl) (by kernel_rfl) (by kernel_rfl) (fun _ _ _ h => h) (wanted_free rfl _) (fun W hW => by obtain ⟨q1, q2, q3, q4⟩ := hW; go_simp) ?_
  try simp only [Act.put, List.getElem_toArray, List.getElem_cons_succ, List.getElem_cons_zero, List.setIfInBounds_toArray, List.set_cons_succ, List.set_cons_zero]
  refine wpAnyC_take 9 (.pointer (some ⟨bv, 9, none⟩)) rfl (by kernel_rfl) (by kernel_rfl) (by kernel_rfl) (fun _ _ _ h => h) (wanted_at true rfl rfl rfl rfl) (fun W hW => by obtain ⟨q1, q2, q3, q4⟩ := hW; go_simp) ?_
  try simp only [Act.put, List.getElem_toArray, List.getElem_cons_succ, List.getElem_cons_zero, List.setIfInBounds_toArray, List.set_cons_succ, List.set_cons_zero]
  refine wpAnyC_take 10 (.slice (some ⟨gd, 0, none⟩) 16 cd) rfl (by kernel_rfl) (by kernel_rfl) (by kernel_rfl) (fun _ _ _ h => h) (wanted_at true rfl rfl rfl rfl) (fun W hW => by obtain ⟨q1, q2, q3, q4⟩ := hW; go_simp) ?_
  try simp only [Act.put, List.getElem_toArray, List.getElem_cons_succ, List.getElem_cons_zero, List.setIfInBounds_toArray, List.set_cons_succ, List.set_cons_zero]
  refine wpAnyC_take 11 (.string (strOfNums z)) rfl (by kernel_rfl) (by kernel_rfl) (by kernel_rfl) (fun _ _ _ h => h) (wanted_at true rfl rfl rfl rfl) (fun W hW => exec_conv (.tmp 28) rfl (.slice (some ⟨gd, 0, none⟩) 16 cd) z rfl hW.2.2.2) ?_
  try simp only [Act.put, List.getElem_toArray, List.getElem_cons_succ, List.getElem_cons_zero, List.setIfInBounds_toArray, List.set_cons_succ, List.set_cons_zero]
  refine wpAnyC_one 12 (⟨a0, v0, v9, hrd⟩) rfl (by kernel_rfl) (wanted_at true rfl rfl rfl rfl) (fun KA hKA => ?_)
  go_simp
  refine (HBy.out _).mono ?_
  rintro e w9 ⟨g9, rfl, hrow9, h9⟩
  have h_ := below_undrew h9
  replace Oa := Kpt.mk (Oa.out.below h_)
  replace Ov := Kpt.mk (Ov.out.below h_)
  replace Rp := Kpt.mk (Rp.out.below h_)
  replace Rd := Kpt.mk (Rd.out.below h_)
  replace F := Kpt.mk (F.out.below h_)
  have hr9 := own_rd hrow9
  refine hKA _ _ ?_
  clear hKA KA
  try simp only [Act.put, List.getElem_toArray, List.getElem_cons_succ, List.getElem_cons_zero, List.setIfInBounds_toArray, List.set_cons_succ, List.set_cons_zero]
  refine wpAnyC_mono (C' := fun W => (W.cell? ⟨ba, 0, none⟩ = some (.int .u8 0) ∧ W.cell? ⟨bv, 0, none⟩ = some (.int .u8 0) ∧ W.cell? ⟨bv, 9, none⟩ = some (.slice (some ⟨gd, 0, none⟩) 16 cd) ∧ RdAt W (.slice (some ⟨gd, 0, none⟩) 16 cd) z) ∧ RdAt W (.slice (some ⟨g9, 0, none⟩) 16 16) z) (fun W h => h.1) _ _ _ _ ?_
  refine wpAnyC_take 13 (.string (strOfNums z)) rfl (by kernel_rfl) (by kernel_rfl) (by kernel_rfl) (fun _ _ _ h => h) (wanted_at true rfl rfl rfl rfl) (fun W hW => exec_conv (.tmp 30) rfl (.slice (some ⟨g9, 0, none⟩) 16 16) z rfl hW.2) ?_
  try simp only [Act.put, List.getElem_toArray, List.getElem_cons_succ, List.getElem_cons_zero, List.setIfInBounds_toArray, List.set_cons_succ, List.set_cons_zero]
  refine wpAnyC_take 14 (.bool true) rfl (by kernel_rfl) (by kernel_rfl) (by kernel_rfl) (fun _ _ _ h => h) (wanted_at true rfl rfl rfl rfl) (fun W hW => by go_simp) ?_
  try simp only [Act.put, List.getElem_toArray, List.getElem_cons_succ, List.getElem_cons_zero, List.setIfInBounds_toArray, List.set_cons_succ, List.set_cons_zero]
  refine wpAnyC_take 15 (.bool true) rfl (by kernel_rfl) (by kernel_rfl) (by kernel_rfl) (fun _ _ _ h => h) (wanted_free rfl _) (fun W hW => by go_simp) ?_
  try simp only [Act.put, List.getElem_toArray, List.getElem_cons_succ, List.getElem_cons_zero, List.setIfInBounds_toArray, List.set_cons_succ, List.set_cons_zero]
  refine wpAnyC_take 16 (.bool true) rfl (by kernel_rfl) (by kernel_rfl) (by kernel_rfl) (fun _ _ _ h => h) (wanted_free rfl _) (fun W hW => by go_simp) ?_
  try simp only [Act.put, List.getElem_toArray, List.getElem_cons_succ, List.getElem_cons_zero, List.setIfInBounds_toArray, List.set_cons_succ, List.set_cons_zero]
  refine wpAnyC_done (⟨⟨(resV_at Oa.out.bx).1, (resV_at Ov.out.bx).1, (resV_at Ov.out.bx).2.1, own_rd Rd.out.own⟩, hr9⟩) (by kernel_rfl) ?_
  clear a0 a9 v0 v9 hrd hr9 hrow9 h9 h_
  go_wp2
  go_ret
  exact ⟨rfl, hbT.out.1.trans (F.out.st.belowT hbT.out.1.size hbT.out.2).1⟩
end Go.Proofs.Ytklboieemljmiab
