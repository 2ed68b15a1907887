/-
  ModePlays: the walk.
-/
import Derived.Test.YtdojhgapdocngaaMBoth
import Derived.Deep.CutRange
namespace Go.Proofs.Ytdojhgapdocngaa
open Go.RowKit
set_option linter.unusedVariables false
set_option linter.unusedSimpArgs false
theorem wpList_load_at {w : World} {ops : Array Oper} {rest : List Oper} {o : Oper} {a : Act} {Q : Exit → Act → World → Prop} (hgd : o.guard = none) (ty : TypeId) (x : Operand)
    (ho : o.op = .load ty x) (b k : Nat) (cs : Array Value) (hx : a.eval x = .pointer (some ⟨b, k, none⟩)) (hR : w.rangeAt b k cs.toList) (d : TypeDesc)
    (hu : Try.prog.underlying ty = some d) (hd : d.isRow = true) (hi : (Try.prog.info? ty).map (·.size) = some cs.size)
    (h : wpList Try.prog ops Q rest (a.put o.dst (.agg cs)) w) : wpList Try.prog ops Q (o :: rest) a w :=
  wpList_load_mid hgd ty x ho b k hx cs.toList d hR hu hd (by rw [Array.length_toList]; exact hi) (by simpa using h)
theorem range_bel {w W : World} {b o n : Nat} {l : List Value} (h : w.rangeAt b o l) (hb : Below n w W) (hl : b < n) : W.rangeAt b o l := fun j v hv => (hb.cell (p := ⟨b, o + j, none⟩) hl).trans (h j v hv)
theorem wp_box_any {w : World} {o : Oper} {a : Act} {K : Act → World → Prop} {Q : Exit → Act → World → Prop} (ty : TypeId) (x : Operand) (ho : o.op = .box ty x) (V : Array Value) (hx : a.eval x = .agg V)
    (h : ∀ b w', w.heap.size ≤ b → Bx w' b V → Below w.heap.size w w' → K (a.put o.dst (.pointer (some ⟨b, 0, none⟩))) w') : o.wp Try.prog a w K Q := by
  unfold Oper.wp
  rw [exec_box ty x ho V hx]
  exact h _ _ (Nat.le_refl _) (bx_new w V ty) ((Below.refl _ _).alloc (Nat.le_refl _) _)
theorem RPg.drew {w : World} {B : Nat} {n s : Vs} (h : RPg w B n s) : RPg w.drew B n s := ⟨h.lt, h.c0, h.c1, h.free⟩
theorem bitsv_any (v : Vs) (w : World) : Calls Try.prog 11 #[.agg v.vals] w fun e w' => e = .returned (.int .i64 (vB v)) ∧ Below w.heap.size w w' := bits_any v w
theorem dfl_any (w : World) : Calls Try.prog 9 #[] w fun e w' => e = .returned (.agg #[.bool true, .bool false, .bool false]) ∧ Below w.heap.size w w' := default_any w
/-- Bytes that can be read whatever comes behind block m. -/
def RdB (m : Nat) (W : World) (v : Value) (R : List Int) : Prop := ∀ W' : World, (∀ q, q < m → W'.heap[q]? = W.heap[q]?) → RdAt W' v R
theorem RdB.rd {m : Nat} {W : World} {v : Value} {R : List Int} (h : RdB m W v R) : RdAt W v R := h W (fun _ _ => rfl)
theorem RdB.of {W : World} {v : Value} {R : List Int} (h : RdAt W v R) : RdB W.heap.size W v R := fun W' hq => by
  obtain ⟨a, c, rfl, ha, hlc, h⟩ := h
  refine ⟨a, c, rfl, ha, hlc, ?_⟩
  rcases h with h | ⟨b, off, rfl, hc⟩
  · exact .inl h
  · refine .inr ⟨b, off, rfl, fun j u hu => ?_⟩
    have h1 := hc j u hu
    rw [World.cell?_of_block (w := W) (w' := W') (a := ⟨b, off + j, none⟩) (hq b (World.block_lt_of_cell? W ⟨b, off + j, none⟩ h1))]
    exact h1
theorem RdB.below {m : Nat} {W W' : World} {v : Value} {R : List Int} (h : RdB m W v R) (hb : Below W.heap.size W W') (hm : m ≤ W.heap.size) : RdB m W' v R := fun W2 h2 => h W2 (fun q hq => (h2 q hq).trans (hb.block q (by omega)))
theorem RdB.grown {m b : Nat} {W W' : World} {v : Value} {R : List Int} (h : RdB m W v R) (hg : W.grownBy W' (some b)) (hb : m ≤ b) (hm : m ≤ W.heap.size) : RdB m W' v R := fun W2 h2 => h W2 (fun q hq => (h2 q hq).trans (hg.block q (by omega) (fun e => by have e' : q = b := Option.some.inj e; omega)))
theorem neq_dv (W : World) : (binOp .neq 23 (.agg #[.bool true, .bool false, .bool false]) (.agg #[.bool true, .bool false, .bool false])).run Try.prog W = .ok (.bool false) W := neq_vs true false false true false false W

set_option maxRecDepth 100000 in
set_option maxHeartbeats 60000000 in
theorem plays_any (v : Vs) (a : Option Addr) (len cap : Nat) (w : World) (hA : Acts w a len) :
    Calls Try.prog 3 #[.agg v.vals, .slice a len cap] w fun e w' => e = .returned (.bool true) ∧ Below w.heap.size w w' := by
  obtain ⟨hlm, hrow⟩ := hA
  unfold maxLen at hlm
  replace hrow := Kpt.mk hrow
  have hnd := neq_dv
  have hb := Kpt.mk (Below.refl w.heap.size w)
  go_enter Try.func3, Try.ntmps3
  go_upto_region 4 with (first
      | (go_at_call 10; have hm := m3; go_must (refine (new_any v _).mono ?_; rintro e wm ⟨bM, rfl, hl_, hP_, h_⟩; have q_V_M : bV < bM := Nat.lt_of_lt_of_le OV.out.lt hl_; have lM := Kpt.mk (Nat.le_trans hb.out.size hl_); replace OV := Kpt.mk (OV.out.below h_ OV.out.lt); replace hb := Kpt.mk (hb.out.trans (h_.mono hb.out.size)); have hP := Kpt.mk hP_; clear hl_ hP_ h_; clear hm m3; have m4 : Kpt True := ⟨trivial⟩))
      | (refine wpList_load_bx rfl 23 _ rfl bV v.vals rfl OV.out _ Try.underlying23 rfl infoV ?_)
      | (go_at_call 9; have hm := m2; go_must (refine (dfl_any _).mono ?_; rintro e w_ ⟨rfl, h_⟩; replace OV := Kpt.mk (OV.out.below h_ OV.out.lt); replace hb := Kpt.mk (hb.out.trans (h_.mono hb.out.size)); clear h_; clear hm m2; have m3 : Kpt True := ⟨trivial⟩))
      | (go_at_call 8; have hm := m1; go_must (refine (awake_any _).mono ?_; rintro e w_ ⟨rfl, h_⟩; replace OV := Kpt.mk (OV.out.below h_ OV.out.lt); replace hb := Kpt.mk (hb.out.trans (h_.mono hb.out.size)); clear h_; clear hm m1; have m2 : Kpt True := ⟨trivial⟩))
      | (refine wpList_box rfl 23 _ rfl v.vals rfl ?_; intro bV w_V hl_ hX_ h_ _; have lV := Kpt.mk (Nat.le_trans hb.out.size hl_); replace hb := Kpt.mk (hb.out.trans (h_.mono hb.out.size)); have OV := Kpt.mk hX_; clear hl_ hX_ h_; have m1 : Kpt True := ⟨trivial⟩)
      | fail)
  clear hnd
  go_cut [6] from 30 to 35 (fun t6 wx => ∃ bX : Nat, t6 = .pointer (some ⟨bX, 0, none⟩) ∧ Kpt (w.heap.size ≤ bX) ∧ bM < bX ∧ Kpt (Pg wx bM v v) ∧ Kpt (RPg wx bX v v) ∧ Kpt (Below w.heap.size w wx))
  case first =>
    refine wp_region_any (by kernel_rfl) ?_
    refine wpAny_of_C (C := fun W => Bx W bV v.vals) _ _ _ _ ?_
    replace OV := Kpt.mk OV.out.drew
    replace hP := Kpt.mk hP.out.drew
    replace hb := Kpt.mk (bel_drw hb.out)
    obtain ⟨W0, hW0⟩ : ∃ W, W = wm.drew := ⟨_, rfl⟩
    rw [← hW0] at OV hP hb
    refine wpAnyC_world hW0 ?_
    clear hW0
    refine wpAnyC_take 0 (.agg v.vals) rfl (by kernel_rfl) (by kernel_rfl) (by kernel_rfl) (fun _ _ _ h => h) (wanted_free rfl _) (fun W hW => exec_load_bx 23 _ rfl bV v.vals rfl hW _ Try.underlying23 rfl infoV) ?_
    try simp only [Act.put, List.getElem_toArray, List.getElem_cons_succ, List.getElem_cons_zero, List.setIfInBounds_toArray, List.set_cons_succ, List.set_cons_zero]
    refine wpAnyC_take 2 (.agg v.vals) rfl (by kernel_rfl) (by kernel_rfl) (by kernel_rfl) (fun _ _ _ h => h) (wanted_free rfl _) (fun W hW => exec_load_bx 23 _ rfl bV v.vals rfl hW _ Try.underlying23 rfl infoV) ?_
    try simp only [Act.put, List.getElem_toArray, List.getElem_cons_succ, List.getElem_cons_zero, List.setIfInBounds_toArray, List.set_cons_succ, List.set_cons_zero]
    refine wpAnyC_one 1 OV.out rfl (by kernel_rfl) (wanted_free rfl _) (fun KA hKA => ?_)
    go_simp
    refine (bitsv_any v _).mono ?_
    rintro e w1 ⟨rfl, h_⟩
    replace OV := Kpt.mk (OV.out.below h_ OV.out.lt)
    replace hP := Kpt.mk (hP.out.below' h_)
    replace hb := Kpt.mk (hb.out.trans (h_.mono hb.out.size))
    clear h_
    refine hKA _ _ ?_
    clear hKA KA
    try simp only [Act.put, List.getElem_toArray, List.getElem_cons_succ, List.getElem_cons_zero, List.setIfInBounds_toArray, List.set_cons_succ, List.set_cons_zero]
    refine wpAnyC_one 3 OV.out rfl (by kernel_rfl) (wanted_free rfl _) (fun KA hKA => ?_)
    go_simp
    refine (bitsv_any v _).mono ?_
    rintro e w2 ⟨rfl, h_⟩
    replace OV := Kpt.mk (OV.out.below h_ OV.out.lt)
    replace hP := Kpt.mk (hP.out.below' h_)
    replace hb := Kpt.mk (hb.out.trans (h_.mono hb.out.size))
    clear h_
    refine hKA _ _ ?_
    clear hKA KA
    try simp only [Act.put, List.getElem_toArray, List.getElem_cons_succ, List.getElem_cons_zero, List.setIfInBounds_toArray, List.set_cons_succ, List.set_cons_zero]
    refine wpAnyC_take 4 (.agg #[.int .i64 (vB v), .int .i64 (vB v)]) rfl (by kernel_rfl) (by kernel_rfl) (by kernel_rfl) (fun _ _ _ h => h) (wanted_free rfl _) (fun W hW => by go_simp) ?_
    try simp only [Act.put, List.getElem_toArray, List.getElem_cons_succ, List.getElem_cons_zero, List.setIfInBounds_toArray, List.set_cons_succ, List.set_cons_zero]
    refine wpAnyC_one 5 OV.out rfl (by kernel_rfl) (wanted_free rfl _) (fun KA hKA => ?_)
    refine wp_box_any 32 _ rfl #[.int .i64 (vB v), .int .i64 (vB v)] rfl ?_
    intro bX wx hl_ hX_ h_
    have q_M_X : bM < bX := Nat.lt_of_lt_of_le hP.out.lt hl_
    have lX := Kpt.mk (Nat.le_trans hb.out.size hl_)
    replace OV := Kpt.mk (OV.out.below h_ OV.out.lt)
    replace hP := Kpt.mk (hP.out.below' h_)
    replace hb := Kpt.mk (hb.out.trans (h_.mono hb.out.size))
    have hX := Kpt.mk (bx_rp hX_)
    clear hl_ hX_ h_
    refine hKA _ _ ?_
    clear hKA KA
    try simp only [Act.put, List.getElem_toArray, List.getElem_cons_succ, List.getElem_cons_zero, List.setIfInBounds_toArray, List.set_cons_succ, List.set_cons_zero]
    refine wpAnyC_take 6 (.pointer (some ⟨bX, 0, none⟩)) rfl (by kernel_rfl) (by kernel_rfl) (by kernel_rfl) (fun _ _ _ h => h) (wanted_free rfl _) (fun W hW => by go_simp) ?_
    try simp only [Act.put, List.getElem_toArray, List.getElem_cons_succ, List.getElem_cons_zero, List.setIfInBounds_toArray, List.set_cons_succ, List.set_cons_zero]
    refine wpAnyC_done OV.out (by kernel_rfl) ?_
    go_wp2_with fail
    go_meet
    exact ⟨bX, rfl, lX, q_M_X, hP, hX, hb⟩
  case rest =>
    obtain ⟨bX, rfl, lX, q_M_X, hP2, hX, hb2⟩ := hcut
    clear OV hP hb
    have hP := hP2
    have hb := hb2
    clear hP2 hb2
    go_wp2_with fail
    go_loopw [7] (fun t7 wr => ∃ (i : Nat) (n s : Vs), t7 = .int .i64 i ∧ Kpt (Pg wr bM n s) ∧ Kpt (RPg wr bX n s) ∧ Kpt (Below w.heap.size w wr)) (fun t7 _ => len - (intOf t7).toNat)
    case atStart => exact ⟨0, v, v, rfl, hP, hX, hb⟩
    case round =>
      clear hP hX hb
      obtain ⟨i, n, s, rfl, hP, hX, hb⟩ := hrel
      by_cases hil : i < len
      · have e1 : (i : Int) < len := by omega
        by_cases hi1 : i < 100
        · have e2 : (i : Int) < 100 := by omega
          obtain ⟨b, off, rfl, hbl, S, c, pa, pl, pk, hrg, hpb, hpg, hct⟩ := hrow.out i hil
          have hrgK : Kpt (∀ W, Below w.heap.size w W → W.rangeAt b (off + i * 17) (actA S c pa pl pk).toList) := ⟨fun W h => range_bel hrg h hbl⟩
          obtain ⟨ch, sn, ok, n', s', hS1, hS2⟩ := sel_both n s c pa pl pk w hpb
          obtain ⟨R, sm, om, hT1, hT2⟩ := sen_both n s c
          replace hS1 := Kpt.mk hS1
          replace hS2 := Kpt.mk hS2
          replace hT1 := Kpt.mk hT1
          replace hT2 := Kpt.mk hT2
          clear hrg hpg hct hpb hrow
          cases S
          · have hq1 : (ch != ch) = false := by simp
            have hq2 : (ok != ok) = false := by simp
            have hq3 : (om != om) = false := by simp
            clear hS1 hS2
            go_upto_region 18 with (first
                | (refine wpList_want (wanted_at false rfl rfl rfl rfl) (exec_neq_s _ _ rfl sm.vals sm.vals true (eq_sn sm) rfl rfl) ?_)
                | (refine wpList_want (wanted_at false rfl rfl rfl rfl) (exec_load_bx 42 _ rfl bq sm.vals rfl Oq.out _ Try.underlying42 rfl infoS) ?_)
                | (refine wpList_want (wanted_at false rfl rfl rfl rfl) (exec_load_bx 42 _ rfl bp sm.vals rfl Op.out _ Try.underlying42 rfl infoS) ?_)
                | (refine wpList_want (wanted_free rfl _) (exec_conv_rd _ rfl rfl HQ.out.rd) ?_)
                | (refine wpList_want (wanted_free rfl _) (exec_conv_rd _ rfl rfl HR.out.rd) ?_)
                | (have hm := m11; refine wpList_store_bx rfl 42 _ _ rfl bq _ sm.vals rfl rfl Oq.out rfl infoS (Sn.vals_one sm) rfl ?_; intro w12 hX_ hg_; replace OA := Kpt.mk (OA.out.grown hg_ (by simp; omega)); replace Op := Kpt.mk (Op.out.grown hg_ (by simp; omega)); replace hb := Kpt.mk (hb.out.trans (bel_own hg_ hb.out.size lq.out)); replace Oq := Kpt.mk hX_; replace cA0 := act_c0 OA.out; replace cA16 := act_c16 OA.out; replace hP := Kpt.mk (hP.out.grown hg_ (by simp; omega)); replace hX := Kpt.mk (hX.out.grown hg_ (by simp; omega)); replace HR := Kpt.mk (HR.out.grown hg_ (by omega) hmR.out); replace hmR := Kpt.mk (Nat.le_trans hmR.out hg_.size); replace HQ := Kpt.mk (HQ.out.grown hg_ (by omega) hmQ.out); replace hmQ := Kpt.mk (Nat.le_trans hmQ.out hg_.size); clear hX_ hg_; clear hm m11; have m12 : Kpt True := ⟨trivial⟩)
                | (have hm := m10; refine wpList_var rfl 42 rfl zeroS zeroSi ?_; intro bq w_q hl_ hX_ h_; have q_A_q : bA < bq := Nat.lt_of_lt_of_le OA.out.lt hl_; have q_p_q : bp < bq := Nat.lt_of_lt_of_le Op.out.lt hl_; have q_M_q : bM < bq := Nat.lt_of_lt_of_le hP.out.lt hl_; have q_X_q : bX < bq := Nat.lt_of_lt_of_le hX.out.lt hl_; have q_R_q : mR ≤ bq := Nat.le_trans hmR.out hl_; have q_Q_q : mQ ≤ bq := Nat.le_trans hmQ.out hl_; have lq := Kpt.mk (Nat.le_trans hb.out.size hl_); replace OA := Kpt.mk (OA.out.below h_ OA.out.lt); replace Op := Kpt.mk (Op.out.below h_ Op.out.lt); replace hb := Kpt.mk (hb.out.trans (h_.mono hb.out.size)); replace cA0 := act_c0 OA.out; replace cA16 := act_c16 OA.out; replace hP := Kpt.mk (hP.out.below' h_); replace hX := Kpt.mk (hX.out.below' h_); replace HR := Kpt.mk (HR.out.below h_ hmR.out); replace hmR := Kpt.mk (Nat.le_trans hmR.out (h_).size); replace HQ := Kpt.mk (HQ.out.below h_ hmQ.out); replace hmQ := Kpt.mk (Nat.le_trans hmQ.out (h_).size); have Oq := Kpt.mk hX_; clear hl_ hX_ h_; clear hm m10; have m11 : Kpt True := ⟨trivial⟩)
                | (go_at_call 15; have hm := m9; go_must (refine (hT2.out _ bX hX.out).mono ?_; rintro e w_ ⟨vQ, rfl, hr_, h_⟩; replace OA := Kpt.mk (OA.out.below h_ OA.out.lt); replace Op := Kpt.mk (Op.out.below h_ Op.out.lt); replace hb := Kpt.mk (hb.out.trans (h_.mono hb.out.size)); replace cA0 := act_c0 OA.out; replace cA16 := act_c16 OA.out; replace hP := Kpt.mk (hP.out.below' h_); replace hX := Kpt.mk (hX.out.below' h_); replace HR := Kpt.mk (HR.out.below h_ hmR.out); replace hmR := Kpt.mk (Nat.le_trans hmR.out (h_).size); obtain ⟨mQ, hme_⟩ : ∃ m, m = w_.heap.size := ⟨_, rfl⟩; have HQ := Kpt.mk (RdB.of hr_); rw [← hme_] at HQ; have hmQ : Kpt (mQ ≤ w_.heap.size) := ⟨Nat.le_of_eq hme_⟩; clear hr_ hme_ h_; clear hm m9; have m10 : Kpt True := ⟨trivial⟩))
                | (have hm := m8; refine wpList_store_bx rfl 42 _ _ rfl bp _ sm.vals rfl rfl Op.out rfl infoS (Sn.vals_one sm) rfl ?_; intro w9 hX_ hg_; replace OA := Kpt.mk (OA.out.grown hg_ (by simp; omega)); replace hb := Kpt.mk (hb.out.trans (bel_own hg_ hb.out.size lp.out)); replace Op := Kpt.mk hX_; replace cA0 := act_c0 OA.out; replace cA16 := act_c16 OA.out; replace hP := Kpt.mk (hP.out.grown hg_ (by simp; omega)); replace hX := Kpt.mk (hX.out.grown hg_ (by simp; omega)); replace HR := Kpt.mk (HR.out.grown hg_ (by omega) hmR.out); replace hmR := Kpt.mk (Nat.le_trans hmR.out hg_.size); clear hX_ hg_; clear hm m8; have m9 : Kpt True := ⟨trivial⟩)
                | (have hm := m7; refine wpList_var rfl 42 rfl zeroS zeroSi ?_; intro bp w_p hl_ hX_ h_; have q_A_p : bA < bp := Nat.lt_of_lt_of_le OA.out.lt hl_; have q_M_p : bM < bp := Nat.lt_of_lt_of_le hP.out.lt hl_; have q_X_p : bX < bp := Nat.lt_of_lt_of_le hX.out.lt hl_; have q_R_p : mR ≤ bp := Nat.le_trans hmR.out hl_; have lp := Kpt.mk (Nat.le_trans hb.out.size hl_); replace OA := Kpt.mk (OA.out.below h_ OA.out.lt); replace hb := Kpt.mk (hb.out.trans (h_.mono hb.out.size)); replace cA0 := act_c0 OA.out; replace cA16 := act_c16 OA.out; replace hP := Kpt.mk (hP.out.below' h_); replace hX := Kpt.mk (hX.out.below' h_); replace HR := Kpt.mk (HR.out.below h_ hmR.out); replace hmR := Kpt.mk (Nat.le_trans hmR.out (h_).size); have Op := Kpt.mk hX_; clear hl_ hX_ h_; clear hm m7; have m8 : Kpt True := ⟨trivial⟩)
                | (go_at_call 14; have hm := m6; go_must (refine (hT1.out _ bM hP.out).mono ?_; rintro e w_ ⟨vR, rfl, hr_, h_⟩; replace OA := Kpt.mk (OA.out.below h_ OA.out.lt); replace hb := Kpt.mk (hb.out.trans (h_.mono hb.out.size)); replace cA0 := act_c0 OA.out; replace cA16 := act_c16 OA.out; replace hP := Kpt.mk (hP.out.below' h_); replace hX := Kpt.mk (hX.out.below' h_); obtain ⟨mR, hme_⟩ : ∃ m, m = w_.heap.size := ⟨_, rfl⟩; have HR := Kpt.mk (RdB.of hr_); rw [← hme_] at HR; have hmR : Kpt (mR ≤ w_.heap.size) := ⟨Nat.le_of_eq hme_⟩; clear hr_ hme_ h_; clear hm m6; have m7 : Kpt True := ⟨trivial⟩))
                | (refine wpList_load_at rfl 36 _ rfl bA 1 c.vals rfl (act_cmd OA.out) _ Try.underlying36 rfl infoC ?_)
                | (have hm := m5; refine wpList_store_bx rfl 39 _ _ rfl bA _ (actA false c pa pl pk) rfl rfl OA.out rfl infoA (actA_one _ _ _ _ _) rfl ?_; intro w6 hX_ hg_; replace hb := Kpt.mk (hb.out.trans (bel_own hg_ hb.out.size lA.out)); replace OA := Kpt.mk hX_; replace cA0 := act_c0 OA.out; replace cA16 := act_c16 OA.out; replace hP := Kpt.mk (hP.out.grown hg_ (by simp; omega)); replace hX := Kpt.mk (hX.out.grown hg_ (by simp; omega)); clear hX_ hg_; clear hm m5; have m6 : Kpt True := ⟨trivial⟩)
                | (have hm := m4; refine wpList_var rfl 39 rfl zeroA zeroAi ?_; intro bA w_A hl_ hX_ h_; have q_M_A : bM < bA := Nat.lt_of_lt_of_le hP.out.lt hl_; have q_X_A : bX < bA := Nat.lt_of_lt_of_le hX.out.lt hl_; have lA := Kpt.mk (Nat.le_trans hb.out.size hl_); replace hb := Kpt.mk (hb.out.trans (h_.mono hb.out.size)); replace hP := Kpt.mk (hP.out.below' h_); replace hX := Kpt.mk (hX.out.below' h_); have OA := Kpt.mk hX_; clear hl_ hX_ h_; clear hm m4; have m5 : Kpt True := ⟨trivial⟩)
                | (refine wpList_load_at rfl 39 _ rfl b (off + i * 17) (actA false c pa pl pk) rfl (hrgK.out _ hb.out) _ Try.underlying39 rfl infoA ?_)
                | fail)
            refine wp_region_any (by kernel_rfl) ?_
            refine wpAny_of_C (C := fun W => Pg W bM n s ∧ RPg W bX n s) _ _ _ _ ?_
            replace hP := Kpt.mk hP.out.drew
            replace hX := Kpt.mk hX.out.drew
            replace hb := Kpt.mk (bel_drw hb.out)
            obtain ⟨W0, hW0⟩ : ∃ W, W = w12.drew := ⟨_, rfl⟩
            rw [← hW0] at hP hX hb
            refine wpAnyC_world hW0 ?_
            clear hW0
            obtain ⟨xn, hxn⟩ : ∃ x, x = vB n := ⟨_, rfl⟩
            obtain ⟨xs, hxs⟩ : ∃ x, x = vB s := ⟨_, rfl⟩
            have hBn := Kpt.mk (bitsv_any n)
            have hBs := Kpt.mk (bitsv_any s)
            rw [← hxn] at hBn
            rw [← hxs] at hBs
            replace hxn := Kpt.mk hxn
            replace hxs := Kpt.mk hxs
            have hqn : (xn != xn) = false := by simp
            have hqs : (xs != xs) = false := by simp
            refine wpAnyC_take 0 (.pointer (some ⟨bM, 0, none⟩)) rfl (by kernel_rfl) (by kernel_rfl) (by kernel_rfl) (fun _ _ _ h => h) (wanted_free rfl _) (fun W hW => by go_simp) ?_
            try simp only [Act.put, List.getElem_toArray, List.getElem_cons_succ, List.getElem_cons_zero, List.setIfInBounds_toArray, List.set_cons_succ, List.set_cons_zero]
            refine wpAnyC_take 3 (.pointer (some ⟨bX, 0, none⟩)) rfl (by kernel_rfl) (by kernel_rfl) (by kernel_rfl) (fun _ _ _ h => h) (wanted_free rfl _) (fun W hW => by go_simp) ?_
            try simp only [Act.put, List.getElem_toArray, List.getElem_cons_succ, List.getElem_cons_zero, List.setIfInBounds_toArray, List.set_cons_succ, List.set_cons_zero]
            refine wpAnyC_take 4 (.pointer (some ⟨bX, 0, none⟩)) rfl (by kernel_rfl) (by kernel_rfl) (by kernel_rfl) (fun _ _ _ h => h) (wanted_free rfl _) (fun W hW => by go_simp) ?_
            try simp only [Act.put, List.getElem_toArray, List.getElem_cons_succ, List.getElem_cons_zero, List.setIfInBounds_toArray, List.set_cons_succ, List.set_cons_zero]
            refine wpAnyC_take 5 (.pointer (some ⟨bX, 0, none⟩)) rfl (by kernel_rfl) (by kernel_rfl) (by kernel_rfl) (fun _ _ _ h => h) (wanted_free rfl _) (fun W hW => by go_simp) ?_
            try simp only [Act.put, List.getElem_toArray, List.getElem_cons_succ, List.getElem_cons_zero, List.setIfInBounds_toArray, List.set_cons_succ, List.set_cons_zero]
            refine wpAnyC_take 6 (.int .i64 xn) rfl (by kernel_rfl) (by kernel_rfl) (by kernel_rfl) (fun _ _ _ h => h) (wanted_free rfl _) (fun W hW => by have y0 := hW.2.c0; rw [← hxn.out] at y0; go_simp) ?_
            try simp only [Act.put, List.getElem_toArray, List.getElem_cons_succ, List.getElem_cons_zero, List.setIfInBounds_toArray, List.set_cons_succ, List.set_cons_zero]
            refine wpAnyC_one 1 ⟨hP.out, hX.out⟩ rfl (by kernel_rfl) (wanted_free rfl _) (fun KA hKA => ?_)
            go_simp
            refine (now_any bM n s _ hP.out).mono ?_
            rintro e w_ ⟨rfl, h_⟩
            replace hP := Kpt.mk (hP.out.below' h_)
            replace hX := Kpt.mk (hX.out.below' h_)
            replace hb := Kpt.mk (hb.out.trans (h_.mono hb.out.size))
            clear h_
            refine hKA _ _ ?_
            clear hKA KA
            try simp only [Act.put, List.getElem_toArray, List.getElem_cons_succ, List.getElem_cons_zero, List.setIfInBounds_toArray, List.set_cons_succ, List.set_cons_zero]
            refine wpAnyC_one 2 ⟨hP.out, hX.out⟩ rfl (by kernel_rfl) (wanted_free rfl _) (fun KA hKA => ?_)
            go_simp
            refine (hBn.out _).mono ?_
            rintro e w_ ⟨rfl, h_⟩
            replace hP := Kpt.mk (hP.out.below' h_)
            replace hX := Kpt.mk (hX.out.below' h_)
            replace hb := Kpt.mk (hb.out.trans (h_.mono hb.out.size))
            clear h_
            refine hKA _ _ ?_
            clear hKA KA
            try simp only [Act.put, List.getElem_toArray, List.getElem_cons_succ, List.getElem_cons_zero, List.setIfInBounds_toArray, List.set_cons_succ, List.set_cons_zero]
            refine wpAnyC_take 7 (.bool false) rfl (by kernel_rfl) (by kernel_rfl) (by kernel_rfl) (fun _ _ _ h => h) (wanted_free rfl _) (fun W hW => by go_simp) ?_
            try simp only [Act.put, List.getElem_toArray, List.getElem_cons_succ, List.getElem_cons_zero, List.setIfInBounds_toArray, List.set_cons_succ, List.set_cons_zero]
            refine wpAnyC_take 8 (.bool false) rfl (by kernel_rfl) (by kernel_rfl) (by kernel_rfl) (fun _ _ _ h => h) (wanted_free rfl _) (fun W hW => by go_simp) ?_
            try simp only [Act.put, List.getElem_toArray, List.getElem_cons_succ, List.getElem_cons_zero, List.setIfInBounds_toArray, List.set_cons_succ, List.set_cons_zero]
            refine wpAnyC_take 9 (.pointer (some ⟨bM, 0, none⟩)) rfl (by kernel_rfl) (by kernel_rfl) (by kernel_rfl) (fun _ _ _ h => h) (wanted_at false rfl rfl rfl rfl) (fun W hW => by go_simp) ?_
            try simp only [Act.put, List.getElem_toArray, List.getElem_cons_succ, List.getElem_cons_zero, List.setIfInBounds_toArray, List.set_cons_succ, List.set_cons_zero]
            refine wpAnyC_take 12 (.pointer (some ⟨bX, 0, none⟩)) rfl (by kernel_rfl) (by kernel_rfl) (by kernel_rfl) (fun _ _ _ h => h) (wanted_at false rfl rfl rfl rfl) (fun W hW => by go_simp) ?_
            try simp only [Act.put, List.getElem_toArray, List.getElem_cons_succ, List.getElem_cons_zero, List.setIfInBounds_toArray, List.set_cons_succ, List.set_cons_zero]
            refine wpAnyC_take 13 (.pointer (some ⟨bX, 0, none⟩)) rfl (by kernel_rfl) (by kernel_rfl) (by kernel_rfl) (fun _ _ _ h => h) (wanted_at false rfl rfl rfl rfl) (fun W hW => by go_simp) ?_
            try simp only [Act.put, List.getElem_toArray, List.getElem_cons_succ, List.getElem_cons_zero, List.setIfInBounds_toArray, List.set_cons_succ, List.set_cons_zero]
            refine wpAnyC_take 14 (.pointer (some ⟨bX, 1, none⟩)) rfl (by kernel_rfl) (by kernel_rfl) (by kernel_rfl) (fun _ _ _ h => h) (wanted_at false rfl rfl rfl rfl) (fun W hW => by go_simp) ?_
            try simp only [Act.put, List.getElem_toArray, List.getElem_cons_succ, List.getElem_cons_zero, List.setIfInBounds_toArray, List.set_cons_succ, List.set_cons_zero]
            refine wpAnyC_take 15 (.int .i64 xs) rfl (by kernel_rfl) (by kernel_rfl) (by kernel_rfl) (fun _ _ _ h => h) (wanted_at false rfl rfl rfl rfl) (fun W hW => by have y1 := hW.2.c1; rw [← hxs.out] at y1; go_simp) ?_
            try simp only [Act.put, List.getElem_toArray, List.getElem_cons_succ, List.getElem_cons_zero, List.setIfInBounds_toArray, List.set_cons_succ, List.set_cons_zero]
            refine wpAnyC_one 10 ⟨hP.out, hX.out⟩ rfl (by kernel_rfl) (wanted_at false rfl rfl rfl rfl) (fun KA hKA => ?_)
            go_simp
            refine (saved_any bM n s _ hP.out).mono ?_
            rintro e w_ ⟨rfl, h_⟩
            replace hP := Kpt.mk (hP.out.below' h_)
            replace hX := Kpt.mk (hX.out.below' h_)
            replace hb := Kpt.mk (hb.out.trans (h_.mono hb.out.size))
            clear h_
            refine hKA _ _ ?_
            clear hKA KA
            try simp only [Act.put, List.getElem_toArray, List.getElem_cons_succ, List.getElem_cons_zero, List.setIfInBounds_toArray, List.set_cons_succ, List.set_cons_zero]
            refine wpAnyC_one 11 ⟨hP.out, hX.out⟩ rfl (by kernel_rfl) (wanted_at false rfl rfl rfl rfl) (fun KA hKA => ?_)
            go_simp
            refine (hBs.out _).mono ?_
            rintro e w_ ⟨rfl, h_⟩
            replace hP := Kpt.mk (hP.out.below' h_)
            replace hX := Kpt.mk (hX.out.below' h_)
            replace hb := Kpt.mk (hb.out.trans (h_.mono hb.out.size))
            clear h_
            refine hKA _ _ ?_
            clear hKA KA
            try simp only [Act.put, List.getElem_toArray, List.getElem_cons_succ, List.getElem_cons_zero, List.setIfInBounds_toArray, List.set_cons_succ, List.set_cons_zero]
            refine wpAnyC_take 16 (.bool false) rfl (by kernel_rfl) (by kernel_rfl) (by kernel_rfl) (fun _ _ _ h => h) (wanted_at false rfl rfl rfl rfl) (fun W hW => by go_simp) ?_
            try simp only [Act.put, List.getElem_toArray, List.getElem_cons_succ, List.getElem_cons_zero, List.setIfInBounds_toArray, List.set_cons_succ, List.set_cons_zero]
            refine wpAnyC_take 17 (.bool false) rfl (by kernel_rfl) (by kernel_rfl) (by kernel_rfl) (fun _ _ _ h => h) (wanted_free rfl _) (fun W hW => by go_simp) ?_
            try simp only [Act.put, List.getElem_toArray, List.getElem_cons_succ, List.getElem_cons_zero, List.setIfInBounds_toArray, List.set_cons_succ, List.set_cons_zero]
            refine wpAnyC_done ⟨hP.out, hX.out⟩ (by kernel_rfl) ?_
            go_wp2_with fail
            go_roundw
            case rel => exact ⟨i + 1, n, s, by go_num, hP, hX, hb⟩
            case measure => simp [intOf]; omega
          · have hq1 : (ch != ch) = false := by simp
            have hq2 : (ok != ok) = false := by simp
            have hq3 : (om != om) = false := by simp
            clear hT1 hT2
            go_upto_region 18 with (first
                | (refine wpList_want (wanted_at false rfl rfl rfl rfl) (exec_neq_s _ _ rfl sn.vals sn.vals true (eq_sn sn) rfl rfl) ?_)
                | (refine wpList_want (wanted_at false rfl rfl rfl rfl) (exec_load_bx 42 _ rfl bq sn.vals rfl Oq.out _ Try.underlying42 rfl infoS) ?_)
                | (refine wpList_want (wanted_at false rfl rfl rfl rfl) (exec_load_bx 42 _ rfl bp sn.vals rfl Op.out _ Try.underlying42 rfl infoS) ?_)
                | (have hm := m11; refine wpList_store_bx rfl 42 _ _ rfl bq _ sn.vals rfl rfl Oq.out rfl infoS (Sn.vals_one sn) rfl ?_; intro w12 hX_ hg_; replace OA := Kpt.mk (OA.out.grown hg_ (by simp; omega)); replace Op := Kpt.mk (Op.out.grown hg_ (by simp; omega)); replace hb := Kpt.mk (hb.out.trans (bel_own hg_ hb.out.size lq.out)); replace Oq := Kpt.mk hX_; replace cA0 := act_c0 OA.out; replace cA16 := act_c16 OA.out; replace hP := Kpt.mk (hP.out.grown hg_ (by simp; omega)); replace hX := Kpt.mk (hX.out.grown hg_ (by simp; omega)); clear hX_ hg_; clear hm m11; have m12 : Kpt True := ⟨trivial⟩)
                | (have hm := m10; refine wpList_var rfl 42 rfl zeroS zeroSi ?_; intro bq w_q hl_ hX_ h_; have q_A_q : bA < bq := Nat.lt_of_lt_of_le OA.out.lt hl_; have q_p_q : bp < bq := Nat.lt_of_lt_of_le Op.out.lt hl_; have q_M_q : bM < bq := Nat.lt_of_lt_of_le hP.out.lt hl_; have q_X_q : bX < bq := Nat.lt_of_lt_of_le hX.out.lt hl_; have lq := Kpt.mk (Nat.le_trans hb.out.size hl_); replace OA := Kpt.mk (OA.out.below h_ OA.out.lt); replace Op := Kpt.mk (Op.out.below h_ Op.out.lt); replace hb := Kpt.mk (hb.out.trans (h_.mono hb.out.size)); replace cA0 := act_c0 OA.out; replace cA16 := act_c16 OA.out; replace hP := Kpt.mk (hP.out.below' h_); replace hX := Kpt.mk (hX.out.below' h_); have Oq := Kpt.mk hX_; clear hl_ hX_ h_; clear hm m10; have m11 : Kpt True := ⟨trivial⟩)
                | (go_at_call 13; have hm := m9; go_must (refine (hS2.out _ bX hb.out lX.out hX.out).mono ?_; rintro e w_ ⟨rfl, hX_, hg_⟩; replace OA := Kpt.mk (OA.out.grown hg_ (by simp; omega)); replace Op := Kpt.mk (Op.out.grown hg_ (by simp; omega)); replace hP := Kpt.mk (hP.out.grown hg_ (by simp; omega)); replace hb := Kpt.mk (hb.out.trans (bel_own hg_ hb.out.size lX.out)); replace hX := Kpt.mk hX_; replace cA0 := act_c0 OA.out; replace cA16 := act_c16 OA.out; clear hX_ hg_; clear hm m9; have m10 : Kpt True := ⟨trivial⟩))
                | (have hm := m8; refine wpList_store_bx rfl 42 _ _ rfl bp _ sn.vals rfl rfl Op.out rfl infoS (Sn.vals_one sn) rfl ?_; intro w9 hX_ hg_; replace OA := Kpt.mk (OA.out.grown hg_ (by simp; omega)); replace hb := Kpt.mk (hb.out.trans (bel_own hg_ hb.out.size lp.out)); replace Op := Kpt.mk hX_; replace cA0 := act_c0 OA.out; replace cA16 := act_c16 OA.out; replace hP := Kpt.mk (hP.out.grown hg_ (by simp; omega)); replace hX := Kpt.mk (hX.out.grown hg_ (by simp; omega)); clear hX_ hg_; clear hm m8; have m9 : Kpt True := ⟨trivial⟩)
                | (have hm := m7; refine wpList_var rfl 42 rfl zeroS zeroSi ?_; intro bp w_p hl_ hX_ h_; have q_A_p : bA < bp := Nat.lt_of_lt_of_le OA.out.lt hl_; have q_M_p : bM < bp := Nat.lt_of_lt_of_le hP.out.lt hl_; have q_X_p : bX < bp := Nat.lt_of_lt_of_le hX.out.lt hl_; have lp := Kpt.mk (Nat.le_trans hb.out.size hl_); replace OA := Kpt.mk (OA.out.below h_ OA.out.lt); replace hb := Kpt.mk (hb.out.trans (h_.mono hb.out.size)); replace cA0 := act_c0 OA.out; replace cA16 := act_c16 OA.out; replace hP := Kpt.mk (hP.out.below' h_); replace hX := Kpt.mk (hX.out.below' h_); have Op := Kpt.mk hX_; clear hl_ hX_ h_; clear hm m7; have m8 : Kpt True := ⟨trivial⟩)
                | (go_at_call 12; have hm := m6; go_must (refine (hS1.out _ bM hb.out lM.out hP.out).mono ?_; rintro e w_ ⟨rfl, hP_, hg_⟩; replace OA := Kpt.mk (OA.out.grown hg_ (by simp; omega)); replace hX := Kpt.mk (hX.out.grown hg_ (by simp; omega)); replace hb := Kpt.mk (hb.out.trans (bel_own hg_ hb.out.size lM.out)); replace hP := Kpt.mk hP_; replace cA0 := act_c0 OA.out; replace cA16 := act_c16 OA.out; clear hP_ hg_; clear hm m6; have m7 : Kpt True := ⟨trivial⟩))
                | (refine wpList_load_at rfl 36 _ rfl bA 1 c.vals rfl (act_cmd OA.out) _ Try.underlying36 rfl infoC ?_)
                | (have hm := m5; refine wpList_store_bx rfl 39 _ _ rfl bA _ (actA true c pa pl pk) rfl rfl OA.out rfl infoA (actA_one _ _ _ _ _) rfl ?_; intro w6 hX_ hg_; replace hb := Kpt.mk (hb.out.trans (bel_own hg_ hb.out.size lA.out)); replace OA := Kpt.mk hX_; replace cA0 := act_c0 OA.out; replace cA16 := act_c16 OA.out; replace hP := Kpt.mk (hP.out.grown hg_ (by simp; omega)); replace hX := Kpt.mk (hX.out.grown hg_ (by simp; omega)); clear hX_ hg_; clear hm m5; have m6 : Kpt True := ⟨trivial⟩)
                | (have hm := m4; refine wpList_var rfl 39 rfl zeroA zeroAi ?_; intro bA w_A hl_ hX_ h_; have q_M_A : bM < bA := Nat.lt_of_lt_of_le hP.out.lt hl_; have q_X_A : bX < bA := Nat.lt_of_lt_of_le hX.out.lt hl_; have lA := Kpt.mk (Nat.le_trans hb.out.size hl_); replace hb := Kpt.mk (hb.out.trans (h_.mono hb.out.size)); replace hP := Kpt.mk (hP.out.below' h_); replace hX := Kpt.mk (hX.out.below' h_); have OA := Kpt.mk hX_; clear hl_ hX_ h_; clear hm m4; have m5 : Kpt True := ⟨trivial⟩)
                | (refine wpList_load_at rfl 39 _ rfl b (off + i * 17) (actA true c pa pl pk) rfl (hrgK.out _ hb.out) _ Try.underlying39 rfl infoA ?_)
                | fail)
            refine wp_region_any (by kernel_rfl) ?_
            refine wpAny_of_C (C := fun W => Pg W bM n' s' ∧ RPg W bX n' s') _ _ _ _ ?_
            replace hP := Kpt.mk hP.out.drew
            replace hX := Kpt.mk hX.out.drew
            replace hb := Kpt.mk (bel_drw hb.out)
            obtain ⟨W0, hW0⟩ : ∃ W, W = w12.drew := ⟨_, rfl⟩
            rw [← hW0] at hP hX hb
            refine wpAnyC_world hW0 ?_
            clear hW0
            obtain ⟨xn, hxn⟩ : ∃ x, x = vB n' := ⟨_, rfl⟩
            obtain ⟨xs, hxs⟩ : ∃ x, x = vB s' := ⟨_, rfl⟩
            have hBn := Kpt.mk (bitsv_any n')
            have hBs := Kpt.mk (bitsv_any s')
            rw [← hxn] at hBn
            rw [← hxs] at hBs
            replace hxn := Kpt.mk hxn
            replace hxs := Kpt.mk hxs
            have hqn : (xn != xn) = false := by simp
            have hqs : (xs != xs) = false := by simp
            refine wpAnyC_take 0 (.pointer (some ⟨bM, 0, none⟩)) rfl (by kernel_rfl) (by kernel_rfl) (by kernel_rfl) (fun _ _ _ h => h) (wanted_free rfl _) (fun W hW => by go_simp) ?_
            try simp only [Act.put, List.getElem_toArray, List.getElem_cons_succ, List.getElem_cons_zero, List.setIfInBounds_toArray, List.set_cons_succ, List.set_cons_zero]
            refine wpAnyC_take 3 (.pointer (some ⟨bX, 0, none⟩)) rfl (by kernel_rfl) (by kernel_rfl) (by kernel_rfl) (fun _ _ _ h => h) (wanted_free rfl _) (fun W hW => by go_simp) ?_
            try simp only [Act.put, List.getElem_toArray, List.getElem_cons_succ, List.getElem_cons_zero, List.setIfInBounds_toArray, List.set_cons_succ, List.set_cons_zero]
            refine wpAnyC_take 4 (.pointer (some ⟨bX, 0, none⟩)) rfl (by kernel_rfl) (by kernel_rfl) (by kernel_rfl) (fun _ _ _ h => h) (wanted_free rfl _) (fun W hW => by go_simp) ?_
            try simp only [Act.put, List.getElem_toArray, List.getElem_cons_succ, List.getElem_cons_zero, List.setIfInBounds_toArray, List.set_cons_succ, List.set_cons_zero]
            refine wpAnyC_take 5 (.pointer (some ⟨bX, 0, none⟩)) rfl (by kernel_rfl) (by kernel_rfl) (by kernel_rfl) (fun _ _ _ h => h) (wanted_free rfl _) (fun W hW => by go_simp) ?_
            try simp only [Act.put, List.getElem_toArray, List.getElem_cons_succ, List.getElem_cons_zero, List.setIfInBounds_toArray, List.set_cons_succ, List.set_cons_zero]
            refine wpAnyC_take 6 (.int .i64 xn) rfl (by kernel_rfl) (by kernel_rfl) (by kernel_rfl) (fun _ _ _ h => h) (wanted_free rfl _) (fun W hW => by have y0 := hW.2.c0; rw [← hxn.out] at y0; go_simp) ?_
            try simp only [Act.put, List.getElem_toArray, List.getElem_cons_succ, List.getElem_cons_zero, List.setIfInBounds_toArray, List.set_cons_succ, List.set_cons_zero]
            refine wpAnyC_one 1 ⟨hP.out, hX.out⟩ rfl (by kernel_rfl) (wanted_free rfl _) (fun KA hKA => ?_)
            go_simp
            refine (now_any bM n' s' _ hP.out).mono ?_
            rintro e w_ ⟨rfl, h_⟩
            replace hP := Kpt.mk (hP.out.below' h_)
            replace hX := Kpt.mk (hX.out.below' h_)
            replace hb := Kpt.mk (hb.out.trans (h_.mono hb.out.size))
            clear h_
            refine hKA _ _ ?_
            clear hKA KA
            try simp only [Act.put, List.getElem_toArray, List.getElem_cons_succ, List.getElem_cons_zero, List.setIfInBounds_toArray, List.set_cons_succ, List.set_cons_zero]
            refine wpAnyC_one 2 ⟨hP.out, hX.out⟩ rfl (by kernel_rfl) (wanted_free rfl _) (fun KA hKA => ?_)
            go_simp
            refine (hBn.out _).mono ?_
            rintro e w_ ⟨rfl, h_⟩
            replace hP := Kpt.mk (hP.out.below' h_)
            replace hX := Kpt.mk (hX.out.below' h_)
            replace hb := Kpt.mk (hb.out.trans (h_.mono hb.out.size))
            clear h_
            refine hKA _ _ ?_
            clear hKA KA
            try simp only [Act.put, List.getElem_toArray, List.getElem_cons_succ, List.getElem_cons_zero, List.setIfInBounds_toArray, List.set_cons_succ, List.set_cons_zero]
            refine wpAnyC_take 7 (.bool false) rfl (by kernel_rfl) (by kernel_rfl) (by kernel_rfl) (fun _ _ _ h => h) (wanted_free rfl _) (fun W hW => by go_simp) ?_
            try simp only [Act.put, List.getElem_toArray, List.getElem_cons_succ, List.getElem_cons_zero, List.setIfInBounds_toArray, List.set_cons_succ, List.set_cons_zero]
            refine wpAnyC_take 8 (.bool false) rfl (by kernel_rfl) (by kernel_rfl) (by kernel_rfl) (fun _ _ _ h => h) (wanted_free rfl _) (fun W hW => by go_simp) ?_
            try simp only [Act.put, List.getElem_toArray, List.getElem_cons_succ, List.getElem_cons_zero, List.setIfInBounds_toArray, List.set_cons_succ, List.set_cons_zero]
            refine wpAnyC_take 9 (.pointer (some ⟨bM, 0, none⟩)) rfl (by kernel_rfl) (by kernel_rfl) (by kernel_rfl) (fun _ _ _ h => h) (wanted_at false rfl rfl rfl rfl) (fun W hW => by go_simp) ?_
            try simp only [Act.put, List.getElem_toArray, List.getElem_cons_succ, List.getElem_cons_zero, List.setIfInBounds_toArray, List.set_cons_succ, List.set_cons_zero]
            refine wpAnyC_take 12 (.pointer (some ⟨bX, 0, none⟩)) rfl (by kernel_rfl) (by kernel_rfl) (by kernel_rfl) (fun _ _ _ h => h) (wanted_at false rfl rfl rfl rfl) (fun W hW => by go_simp) ?_
            try simp only [Act.put, List.getElem_toArray, List.getElem_cons_succ, List.getElem_cons_zero, List.setIfInBounds_toArray, List.set_cons_succ, List.set_cons_zero]
            refine wpAnyC_take 13 (.pointer (some ⟨bX, 0, none⟩)) rfl (by kernel_rfl) (by kernel_rfl) (by kernel_rfl) (fun _ _ _ h => h) (wanted_at false rfl rfl rfl rfl) (fun W hW => by go_simp) ?_
            try simp only [Act.put, List.getElem_toArray, List.getElem_cons_succ, List.getElem_cons_zero, List.setIfInBounds_toArray, List.set_cons_succ, List.set_cons_zero]
            refine wpAnyC_take 14 (.pointer (some ⟨bX, 1, none⟩)) rfl (by kernel_rfl) (by kernel_rfl) (by kernel_rfl) (fun _ _ _ h => h) (wanted_at false rfl rfl rfl rfl) (fun W hW => by go_simp) ?_
            try simp only [Act.put, List.getElem_toArray, List.getElem_cons_succ, List.getElem_cons_zero, List.setIfInBounds_toArray, List.set_cons_succ, List.set_cons_zero]
            refine wpAnyC_take 15 (.int .i64 xs) rfl (by kernel_rfl) (by kernel_rfl) (by kernel_rfl) (fun _ _ _ h => h) (wanted_at false rfl rfl rfl rfl) (fun W hW => by have y1 := hW.2.c1; rw [← hxs.out] at y1; go_simp) ?_
            try simp only [Act.put, List.getElem_toArray, List.getElem_cons_succ, List.getElem_cons_zero, List.setIfInBounds_toArray, List.set_cons_succ, List.set_cons_zero]
            refine wpAnyC_one 10 ⟨hP.out, hX.out⟩ rfl (by kernel_rfl) (wanted_at false rfl rfl rfl rfl) (fun KA hKA => ?_)
            go_simp
            refine (saved_any bM n' s' _ hP.out).mono ?_
            rintro e w_ ⟨rfl, h_⟩
            replace hP := Kpt.mk (hP.out.below' h_)
            replace hX := Kpt.mk (hX.out.below' h_)
            replace hb := Kpt.mk (hb.out.trans (h_.mono hb.out.size))
            clear h_
            refine hKA _ _ ?_
            clear hKA KA
            try simp only [Act.put, List.getElem_toArray, List.getElem_cons_succ, List.getElem_cons_zero, List.setIfInBounds_toArray, List.set_cons_succ, List.set_cons_zero]
            refine wpAnyC_one 11 ⟨hP.out, hX.out⟩ rfl (by kernel_rfl) (wanted_at false rfl rfl rfl rfl) (fun KA hKA => ?_)
            go_simp
            refine (hBs.out _).mono ?_
            rintro e w_ ⟨rfl, h_⟩
            replace hP := Kpt.mk (hP.out.below' h_)
            replace hX := Kpt.mk (hX.out.below' h_)
            replace hb := Kpt.mk (hb.out.trans (h_.mono hb.out.size))
            clear h_
            refine hKA _ _ ?_
            clear hKA KA
            try simp only [Act.put, List.getElem_toArray, List.getElem_cons_succ, List.getElem_cons_zero, List.setIfInBounds_toArray, List.set_cons_succ, List.set_cons_zero]
            refine wpAnyC_take 16 (.bool false) rfl (by kernel_rfl) (by kernel_rfl) (by kernel_rfl) (fun _ _ _ h => h) (wanted_at false rfl rfl rfl rfl) (fun W hW => by go_simp) ?_
            try simp only [Act.put, List.getElem_toArray, List.getElem_cons_succ, List.getElem_cons_zero, List.setIfInBounds_toArray, List.set_cons_succ, List.set_cons_zero]
            refine wpAnyC_take 17 (.bool false) rfl (by kernel_rfl) (by kernel_rfl) (by kernel_rfl) (fun _ _ _ h => h) (wanted_free rfl _) (fun W hW => by go_simp) ?_
            try simp only [Act.put, List.getElem_toArray, List.getElem_cons_succ, List.getElem_cons_zero, List.setIfInBounds_toArray, List.set_cons_succ, List.set_cons_zero]
            refine wpAnyC_done ⟨hP.out, hX.out⟩ (by kernel_rfl) ?_
            go_wp2_with fail
            go_roundw
            case rel => exact ⟨i + 1, n', s', by go_num, hP, hX, hb⟩
            case measure => simp [intOf]; omega
        · have e2 : ¬ (i : Int) < 100 := by omega
          go_wp2_with fail
          refine bodyPost_ret (v := .bool true) (by simp [results, Try.results3]) rfl ⟨rfl, hb.out⟩
      · have e1 : ¬ (i : Int) < len := by omega
        go_wp2_with fail
        refine bodyPost_ret (v := .bool true) (by simp [results, Try.results3]) rfl ⟨rfl, hb.out⟩
end Go.Proofs.Ytdojhgapdocngaa
