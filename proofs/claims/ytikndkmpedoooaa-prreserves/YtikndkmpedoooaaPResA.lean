/-
  PrReserves: the walk.
-/
import Derived.Test.YtikndkmpedoooaaPRes
namespace Go.Proofs.Ytikndkmpedoooaa.prReserves
open Go.Proofs.Ytikndkmpedoooaa
open Go.RowKit
set_option linter.unusedVariables false
set_option linter.unusedSimpArgs false

set_option maxRecDepth 100000 in
set_option maxHeartbeats 2000000 in
theorem res_1_false (a0 x : Int) (w : World) (h0 : 0 ≤ a0 ∧ a0 < 256) (hm : a0 % 6 = 0) (hx : x ≠ 0) (hxr : 0 ≤ x ∧ x < 18446744073709551616) :
    Calls Try.prog 7 #[.int .u8 a0, .int .u64 x, .bool false] w fun e w' => e = .returned (.bool true) ∧ Below w.heap.size w w' := by
  have hxb : ((x : Int) == 0) = false := by simp [hx]
  have e1 : Kpt (zeroT.doR 0 ⟨0, 0, 0, x, false⟩ = (0, 0)) := ⟨reg_R zeroT 0 x (by omega) rfl⟩
  have t1 : Kpt (zeroT.doT 0 ⟨0, 0, 0, x, false⟩ = ⟨upd (fun _ => 0) 0 x, 0, 0, 1, false⟩) := ⟨(reg_T zeroT 0 x (by omega) rfl hx).trans rfl⟩
  have t2 : Kpt (((⟨upd (fun _ => 0) 0 x, 0, 0, 1, false⟩ : Tb)) = ⟨keysO x false, 0, 0, 1, false⟩) := ⟨rfl⟩
  have hk0 : keysO x false 0 = x := by simp [keysO, upd]
  have hk1 : keysO x false 1 = 0 := by simp [keysO, upd]
  have e3 : Kpt (Tb.doR ⟨keysO x false, 0, 0, 1, false⟩ 0 ⟨1, 1, x, 0, false⟩ = (0, 0)) := ⟨rsv_R ⟨keysO x false, 0, 0, 1, false⟩ 0 x 1 (by omega) hk0 hx rfl rfl⟩
  have t3 : Kpt (Tb.doT ⟨keysO x false, 0, 0, 1, false⟩ 0 ⟨1, 1, x, 0, false⟩ = ⟨keysO x false, 1, 0, 1, false⟩) := ⟨rsv_T ⟨keysO x false, 0, 0, 1, false⟩ 0 x 1 (by omega) hk0 hx rfl rfl⟩
  have q1 : Tb.holds ⟨keysO x false, 1, 0, 1, false⟩ 0 = true := by simp [Tb.holds, isAll, Tb.reg, hk0, hx]
  have q1K := Kpt.mk q1
  have q2 : Kpt (Tb.holds ⟨keysO x false, 1, 0, 1, false⟩ 1 = false) := ⟨by simp [Tb.holds, isAll, Tb.reg, hk1, hx]⟩
  have q3 : Kpt (Tb.conf ⟨keysO x false, 1, 0, 1, false⟩ 1 1 = false) := ⟨by simp [Tb.conf, q2.out, Tb.reg, hk1, hx]⟩
  have q4 : Kpt (Tb.conf ⟨keysO x false, 1, 0, 1, false⟩ 1 2 = true) := ⟨by simp [Tb.conf, q2.out, Tb.reg, hk1, hx]⟩
  have e4 : Kpt (Tb.doR ⟨keysO x false, 1, 0, 1, false⟩ 0 ⟨2, 1, x, 0, false⟩ = (0, 0)) := ⟨rel_R ⟨keysO x false, 1, 0, 1, false⟩ 0 x 1 (by omega) hk0 hx rfl⟩
  have t4 : Kpt (Tb.doT ⟨keysO x false, 1, 0, 1, false⟩ 0 ⟨2, 1, x, 0, false⟩ = ⟨keysO x false, 0, 0, 1, false⟩) := ⟨rel_T ⟨keysO x false, 1, 0, 1, false⟩ 0 x 1 (by omega) hk0 hx rfl q1⟩
  have E4 : Kpt (Tb.doE ⟨keysO x false, 1, 0, 1, false⟩ 0 ⟨2, 1, x, 0, false⟩ = []) := ⟨(rel_E ⟨keysO x false, 1, 0, 1, false⟩ 0 x 1 (by omega) hk0 hx rfl q1).trans (by simp [Tb.endE, Tb.regs, keysO_regs x hx, othersL])⟩
  have q5 : Kpt (Tb.res ⟨keysO x false, 0, 0, 1, false⟩ = (0, -1)) := ⟨rfl⟩
  have q6 : Kpt (Tb.conf ⟨keysO x false, 0, 0, 1, false⟩ 1 2 = false) := ⟨by simp [Tb.conf]⟩
  have qa : Kpt (isAll 1 = false) := ⟨rfl⟩
  replace hx := Kpt.mk hx
  replace hxr := Kpt.mk hxr
  clear q1 hk0 hk1
  go_enter Try.func7, Try.ntmps7
  go_wp2_with fail
  refine (awake_any _).mono ?_
  rintro e w1 ⟨rfl, hb1⟩
  replace hb1 := Kpt.mk hb1
  go_wp2_with fail
  refine (new_from (w0 := w) (by first | exact hb1.out | exact hb1.out.alloc hb1.out.size _)).mono ?_
  rintro e w2 ⟨B, rfl, hS, _, _⟩
  replace hS := Kpt.mk hS
  clear hb1
  go_wp2_with fail
  refine (ss_do hS.out 0 ⟨0, 0, 0, x, false⟩ hxr.out).mono ?_
  rw [e1.out, t1.out]
  rintro e w3 ⟨v3, rfl, _, hS3, _⟩
  replace hS3 := Kpt.mk hS3
  clear hS e1 t1
  dsimp only
  have hS4 : Kpt (Ss w w3 B ⟨keysO x false, 0, 0, 1, false⟩) := ⟨hS3.out⟩
  clear hS3 t2
  go_wp2_with fail
  refine (ss_do hS4.out 0 ⟨1, 1, x, 0, false⟩ (by simp)).mono ?_
  rw [e3.out, t3.out]
  rintro e w5 ⟨v5, rfl, _, hS5, _⟩
  have hT5 := Kpt.mk hS5.tab
  replace hS5 := Kpt.mk hS5
  clear hS4 e3 t3
  dsimp only
  go_wp2_with fail
  refine (holds_any B _ 0 _ hT5.out).mono ?_
  rw [q1K.out]
  rintro e w5 ⟨rfl, rfl⟩
  go_wp2_with fail
  refine (holds_any B _ 1 _ hT5.out).mono ?_
  rw [q2.out]
  rintro e w5 ⟨rfl, rfl⟩
  go_wp2_with fail
  refine (conflict_any B _ 1 1 _ hT5.out).mono ?_
  rw [q3.out]
  rintro e w5 ⟨rfl, rfl⟩
  go_wp2_with fail
  refine (conflict_any B _ 1 2 _ hT5.out).mono ?_
  rw [q4.out]
  rintro e w5 ⟨rfl, rfl⟩
  go_wp2_with fail
  refine (ss_do hS5.out 0 ⟨2, 1, x, 0, false⟩ (by simp)).mono ?_
  rw [e4.out, t4.out, E4.out]
  rintro e w6 ⟨v6, rfl, hO6, hS6, _⟩
  obtain ⟨a6, c6, hv6⟩ := own_len hO6
  subst hv6
  have hT6 := Kpt.mk hS6.tab
  replace hS6 := Kpt.mk hS6
  clear hS5 hT5 e4 t4 E4 hO6
  dsimp only [List.length_cons, List.length_nil]
  go_wp2_with fail
  refine (reserved_any B _ _ hT6.out).mono ?_
  rw [q5.out]
  rintro e w7 ⟨rfl, q, hq⟩
  have hT7 : Kpt (Tab w7 B _) := ⟨by rw [hq]; exact hT6.out.drewN q⟩
  have hB7 : Kpt (Below w.heap.size w w7) := ⟨by rw [hq]; exact below_drewN hS6.out.bel q⟩
  clear hq hS6 hT6
  dsimp only
  go_wp2_with fail
  refine (conflict_any B _ 1 2 _ hT7.out).mono ?_
  rw [q6.out]
  rintro e w7 ⟨rfl, rfl⟩
  go_wp2
  go_ret
  exact ⟨rfl, hB7.out⟩

set_option maxRecDepth 100000 in
set_option maxHeartbeats 2000000 in
theorem res_1_true (a0 x : Int) (w : World) (h0 : 0 ≤ a0 ∧ a0 < 256) (hm : a0 % 6 = 0) (hx : x ≠ 0) (hxr : 0 ≤ x ∧ x < 18446744073709551616) :
    Calls Try.prog 7 #[.int .u8 a0, .int .u64 x, .bool true] w fun e w' => e = .returned (.bool true) ∧ Below w.heap.size w w' := by
  have hxb : ((x : Int) == 0) = false := by simp [hx]
  have e1 : Kpt (zeroT.doR 0 ⟨0, 0, 0, x, false⟩ = (0, 0)) := ⟨reg_R zeroT 0 x (by omega) rfl⟩
  have t1 : Kpt (zeroT.doT 0 ⟨0, 0, 0, x, false⟩ = ⟨upd (fun _ => 0) 0 x, 0, 0, 1, false⟩) := ⟨(reg_T zeroT 0 x (by omega) rfl hx).trans rfl⟩
  have e2 : Kpt (Tb.doR ⟨upd (fun _ => 0) 0 x, 0, 0, 1, false⟩ 1 ⟨6, 0, 0, x, false⟩ = (0, 0)) := ⟨ign_R _ 1 x false (by omega)⟩
  have t2 : Kpt (Tb.doT ⟨upd (fun _ => 0) 0 x, 0, 0, 1, false⟩ 1 ⟨6, 0, 0, x, false⟩ = ⟨keysO x true, 0, 0, 2, false⟩) := ⟨(ign_T _ 1 x false (by omega) hx).trans rfl⟩
  have hk0 : keysO x true 0 = x := by simp [keysO, upd]
  have hk1 : keysO x true 1 = x := by simp [keysO, upd]
  have e3 : Kpt (Tb.doR ⟨keysO x true, 0, 0, 2, false⟩ 0 ⟨1, 1, x, 0, false⟩ = (0, 0)) := ⟨rsv_R ⟨keysO x true, 0, 0, 2, false⟩ 0 x 1 (by omega) hk0 hx rfl rfl⟩
  have t3 : Kpt (Tb.doT ⟨keysO x true, 0, 0, 2, false⟩ 0 ⟨1, 1, x, 0, false⟩ = ⟨keysO x true, 1, 0, 2, false⟩) := ⟨rsv_T ⟨keysO x true, 0, 0, 2, false⟩ 0 x 1 (by omega) hk0 hx rfl rfl⟩
  have q1 : Tb.holds ⟨keysO x true, 1, 0, 2, false⟩ 0 = true := by simp [Tb.holds, isAll, Tb.reg, hk0, hx]
  have q1K := Kpt.mk q1
  have q2 : Kpt (Tb.holds ⟨keysO x true, 1, 0, 2, false⟩ 1 = false) := ⟨by simp [Tb.holds, isAll, Tb.reg, hk1, hx]⟩
  have q3 : Kpt (Tb.conf ⟨keysO x true, 1, 0, 2, false⟩ 1 1 = false) := ⟨by simp [Tb.conf, q2.out, Tb.reg, hk1, hx]⟩
  have q4 : Kpt (Tb.conf ⟨keysO x true, 1, 0, 2, false⟩ 1 2 = true) := ⟨by simp [Tb.conf, q2.out, Tb.reg, hk1, hx]⟩
  have e4 : Kpt (Tb.doR ⟨keysO x true, 1, 0, 2, false⟩ 0 ⟨2, 1, x, 0, false⟩ = (0, 0)) := ⟨rel_R ⟨keysO x true, 1, 0, 2, false⟩ 0 x 1 (by omega) hk0 hx rfl⟩
  have t4 : Kpt (Tb.doT ⟨keysO x true, 1, 0, 2, false⟩ 0 ⟨2, 1, x, 0, false⟩ = ⟨keysO x true, 0, 0, 2, false⟩) := ⟨rel_T ⟨keysO x true, 1, 0, 2, false⟩ 0 x 1 (by omega) hk0 hx rfl q1⟩
  have E4 : Kpt (Tb.doE ⟨keysO x true, 1, 0, 2, false⟩ 0 ⟨2, 1, x, 0, false⟩ = []) := ⟨(rel_E ⟨keysO x true, 1, 0, 2, false⟩ 0 x 1 (by omega) hk0 hx rfl q1).trans (by simp [Tb.endE, Tb.regs, keysO_regs x hx, othersL])⟩
  have q5 : Kpt (Tb.res ⟨keysO x true, 0, 0, 2, false⟩ = (0, -1)) := ⟨rfl⟩
  have q6 : Kpt (Tb.conf ⟨keysO x true, 0, 0, 2, false⟩ 1 2 = false) := ⟨by simp [Tb.conf]⟩
  have qa : Kpt (isAll 1 = false) := ⟨rfl⟩
  replace hx := Kpt.mk hx
  replace hxr := Kpt.mk hxr
  clear q1 hk0 hk1
  go_enter Try.func7, Try.ntmps7
  go_wp2_with fail
  refine (awake_any _).mono ?_
  rintro e w1 ⟨rfl, hb1⟩
  replace hb1 := Kpt.mk hb1
  go_wp2_with fail
  refine (new_from (w0 := w) (by first | exact hb1.out | exact hb1.out.alloc hb1.out.size _)).mono ?_
  rintro e w2 ⟨B, rfl, hS, _, _⟩
  replace hS := Kpt.mk hS
  clear hb1
  go_wp2_with fail
  refine (ss_do hS.out 0 ⟨0, 0, 0, x, false⟩ hxr.out).mono ?_
  rw [e1.out, t1.out]
  rintro e w3 ⟨v3, rfl, _, hS3, _⟩
  replace hS3 := Kpt.mk hS3
  clear hS e1 t1
  dsimp only
  go_wp2_with fail
  refine (ss_do hS3.out 1 ⟨6, 0, 0, x, false⟩ hxr.out).mono ?_
  rw [e2.out, t2.out]
  rintro e w4 ⟨v4, rfl, _, hS4, _⟩
  replace hS4 := Kpt.mk hS4
  clear hS3 e2 t2
  dsimp only
  go_wp2_with fail
  refine (ss_do hS4.out 0 ⟨1, 1, x, 0, false⟩ (by simp)).mono ?_
  rw [e3.out, t3.out]
  rintro e w5 ⟨v5, rfl, _, hS5, _⟩
  have hT5 := Kpt.mk hS5.tab
  replace hS5 := Kpt.mk hS5
  clear hS4 e3 t3
  dsimp only
  go_wp2_with fail
  refine (holds_any B _ 0 _ hT5.out).mono ?_
  rw [q1K.out]
  rintro e w5 ⟨rfl, rfl⟩
  go_wp2_with fail
  refine (holds_any B _ 1 _ hT5.out).mono ?_
  rw [q2.out]
  rintro e w5 ⟨rfl, rfl⟩
  go_wp2_with fail
  refine (all_any 1 _).mono ?_
  rw [qa.out]
  rintro e w5 ⟨rfl, rfl⟩
  go_wp2_with fail
  refine (conflict_any B _ 1 1 _ hT5.out).mono ?_
  rw [q3.out]
  rintro e w5 ⟨rfl, rfl⟩
  go_wp2_with fail
  refine (conflict_any B _ 1 2 _ hT5.out).mono ?_
  rw [q4.out]
  rintro e w5 ⟨rfl, rfl⟩
  go_wp2_with fail
  refine (ss_do hS5.out 0 ⟨2, 1, x, 0, false⟩ (by simp)).mono ?_
  rw [e4.out, t4.out, E4.out]
  rintro e w6 ⟨v6, rfl, hO6, hS6, _⟩
  obtain ⟨a6, c6, hv6⟩ := own_len hO6
  subst hv6
  have hT6 := Kpt.mk hS6.tab
  replace hS6 := Kpt.mk hS6
  clear hS5 hT5 e4 t4 E4 hO6
  dsimp only [List.length_cons, List.length_nil]
  go_wp2_with fail
  refine (reserved_any B _ _ hT6.out).mono ?_
  rw [q5.out]
  rintro e w7 ⟨rfl, q, hq⟩
  have hT7 : Kpt (Tab w7 B _) := ⟨by rw [hq]; exact hT6.out.drewN q⟩
  have hB7 : Kpt (Below w.heap.size w w7) := ⟨by rw [hq]; exact below_drewN hS6.out.bel q⟩
  clear hq hS6 hT6
  dsimp only
  go_wp2_with fail
  refine (conflict_any B _ 1 2 _ hT7.out).mono ?_
  rw [q6.out]
  rintro e w7 ⟨rfl, rfl⟩
  go_wp2
  go_ret
  exact ⟨rfl, hB7.out⟩

set_option maxRecDepth 100000 in
set_option maxHeartbeats 2000000 in
theorem res_3_false (a0 x : Int) (w : World) (h0 : 0 ≤ a0 ∧ a0 < 256) (hm : a0 % 6 = 1) (hx : x ≠ 0) (hxr : 0 ≤ x ∧ x < 18446744073709551616) :
    Calls Try.prog 7 #[.int .u8 a0, .int .u64 x, .bool false] w fun e w' => e = .returned (.bool true) ∧ Below w.heap.size w w' := by
  have hxb : ((x : Int) == 0) = false := by simp [hx]
  have e1 : Kpt (zeroT.doR 0 ⟨0, 0, 0, x, false⟩ = (0, 0)) := ⟨reg_R zeroT 0 x (by omega) rfl⟩
  have t1 : Kpt (zeroT.doT 0 ⟨0, 0, 0, x, false⟩ = ⟨upd (fun _ => 0) 0 x, 0, 0, 1, false⟩) := ⟨(reg_T zeroT 0 x (by omega) rfl hx).trans rfl⟩
  have t2 : Kpt (((⟨upd (fun _ => 0) 0 x, 0, 0, 1, false⟩ : Tb)) = ⟨keysO x false, 0, 0, 1, false⟩) := ⟨rfl⟩
  have hk0 : keysO x false 0 = x := by simp [keysO, upd]
  have hk1 : keysO x false 1 = 0 := by simp [keysO, upd]
  have e3 : Kpt (Tb.doR ⟨keysO x false, 0, 0, 1, false⟩ 0 ⟨1, 3, x, 0, false⟩ = (0, 0)) := ⟨rsv_R ⟨keysO x false, 0, 0, 1, false⟩ 0 x 3 (by omega) hk0 hx rfl rfl⟩
  have t3 : Kpt (Tb.doT ⟨keysO x false, 0, 0, 1, false⟩ 0 ⟨1, 3, x, 0, false⟩ = ⟨keysO x false, 3, 0, 1, false⟩) := ⟨rsv_T ⟨keysO x false, 0, 0, 1, false⟩ 0 x 3 (by omega) hk0 hx rfl rfl⟩
  have q1 : Tb.holds ⟨keysO x false, 3, 0, 1, false⟩ 0 = true := by simp [Tb.holds, isAll, Tb.reg, hk0, hx]
  have q1K := Kpt.mk q1
  have q2 : Kpt (Tb.holds ⟨keysO x false, 3, 0, 1, false⟩ 1 = false) := ⟨by simp [Tb.holds, isAll, Tb.reg, hk1, hx]⟩
  have q3 : Kpt (Tb.conf ⟨keysO x false, 3, 0, 1, false⟩ 1 1 = true) := ⟨by simp [Tb.conf, q2.out, Tb.reg, hk1, hx]⟩
  have q4 : Kpt (Tb.conf ⟨keysO x false, 3, 0, 1, false⟩ 1 2 = true) := ⟨by simp [Tb.conf, q2.out, Tb.reg, hk1, hx]⟩
  have e4 : Kpt (Tb.doR ⟨keysO x false, 3, 0, 1, false⟩ 0 ⟨2, 3, x, 0, false⟩ = (0, 0)) := ⟨rel_R ⟨keysO x false, 3, 0, 1, false⟩ 0 x 3 (by omega) hk0 hx rfl⟩
  have t4 : Kpt (Tb.doT ⟨keysO x false, 3, 0, 1, false⟩ 0 ⟨2, 3, x, 0, false⟩ = ⟨keysO x false, 0, 0, 1, false⟩) := ⟨rel_T ⟨keysO x false, 3, 0, 1, false⟩ 0 x 3 (by omega) hk0 hx rfl q1⟩
  have E4 : Kpt (Tb.doE ⟨keysO x false, 3, 0, 1, false⟩ 0 ⟨2, 3, x, 0, false⟩ = []) := ⟨(rel_E ⟨keysO x false, 3, 0, 1, false⟩ 0 x 3 (by omega) hk0 hx rfl q1).trans (by simp [Tb.endE, Tb.regs, keysO_regs x hx, othersL])⟩
  have q5 : Kpt (Tb.res ⟨keysO x false, 0, 0, 1, false⟩ = (0, -1)) := ⟨rfl⟩
  have q6 : Kpt (Tb.conf ⟨keysO x false, 0, 0, 1, false⟩ 1 2 = false) := ⟨by simp [Tb.conf]⟩
  have qa : Kpt (isAll 3 = false) := ⟨rfl⟩
  replace hx := Kpt.mk hx
  replace hxr := Kpt.mk hxr
  clear q1 hk0 hk1
  go_enter Try.func7, Try.ntmps7
  go_wp2_with fail
  refine (awake_any _).mono ?_
  rintro e w1 ⟨rfl, hb1⟩
  replace hb1 := Kpt.mk hb1
  go_wp2_with fail
  refine (new_from (w0 := w) (by first | exact hb1.out | exact hb1.out.alloc hb1.out.size _)).mono ?_
  rintro e w2 ⟨B, rfl, hS, _, _⟩
  replace hS := Kpt.mk hS
  clear hb1
  go_wp2_with fail
  refine (ss_do hS.out 0 ⟨0, 0, 0, x, false⟩ hxr.out).mono ?_
  rw [e1.out, t1.out]
  rintro e w3 ⟨v3, rfl, _, hS3, _⟩
  replace hS3 := Kpt.mk hS3
  clear hS e1 t1
  dsimp only
  have hS4 : Kpt (Ss w w3 B ⟨keysO x false, 0, 0, 1, false⟩) := ⟨hS3.out⟩
  clear hS3 t2
  go_wp2_with fail
  refine (ss_do hS4.out 0 ⟨1, 3, x, 0, false⟩ (by simp)).mono ?_
  rw [e3.out, t3.out]
  rintro e w5 ⟨v5, rfl, _, hS5, _⟩
  have hT5 := Kpt.mk hS5.tab
  replace hS5 := Kpt.mk hS5
  clear hS4 e3 t3
  dsimp only
  go_wp2_with fail
  refine (holds_any B _ 0 _ hT5.out).mono ?_
  rw [q1K.out]
  rintro e w5 ⟨rfl, rfl⟩
  go_wp2_with fail
  refine (holds_any B _ 1 _ hT5.out).mono ?_
  rw [q2.out]
  rintro e w5 ⟨rfl, rfl⟩
  go_wp2_with fail
  refine (conflict_any B _ 1 1 _ hT5.out).mono ?_
  rw [q3.out]
  rintro e w5 ⟨rfl, rfl⟩
  go_wp2_with fail
  refine (conflict_any B _ 1 2 _ hT5.out).mono ?_
  rw [q4.out]
  rintro e w5 ⟨rfl, rfl⟩
  go_wp2_with fail
  refine (ss_do hS5.out 0 ⟨2, 3, x, 0, false⟩ (by simp)).mono ?_
  rw [e4.out, t4.out, E4.out]
  rintro e w6 ⟨v6, rfl, hO6, hS6, _⟩
  obtain ⟨a6, c6, hv6⟩ := own_len hO6
  subst hv6
  have hT6 := Kpt.mk hS6.tab
  replace hS6 := Kpt.mk hS6
  clear hS5 hT5 e4 t4 E4 hO6
  dsimp only [List.length_cons, List.length_nil]
  go_wp2_with fail
  refine (reserved_any B _ _ hT6.out).mono ?_
  rw [q5.out]
  rintro e w7 ⟨rfl, q, hq⟩
  have hT7 : Kpt (Tab w7 B _) := ⟨by rw [hq]; exact hT6.out.drewN q⟩
  have hB7 : Kpt (Below w.heap.size w w7) := ⟨by rw [hq]; exact below_drewN hS6.out.bel q⟩
  clear hq hS6 hT6
  dsimp only
  go_wp2_with fail
  refine (conflict_any B _ 1 2 _ hT7.out).mono ?_
  rw [q6.out]
  rintro e w7 ⟨rfl, rfl⟩
  go_wp2
  go_ret
  exact ⟨rfl, hB7.out⟩

set_option maxRecDepth 100000 in
set_option maxHeartbeats 2000000 in
theorem res_3_true (a0 x : Int) (w : World) (h0 : 0 ≤ a0 ∧ a0 < 256) (hm : a0 % 6 = 1) (hx : x ≠ 0) (hxr : 0 ≤ x ∧ x < 18446744073709551616) :
    Calls Try.prog 7 #[.int .u8 a0, .int .u64 x, .bool true] w fun e w' => e = .returned (.bool true) ∧ Below w.heap.size w w' := by
  have hxb : ((x : Int) == 0) = false := by simp [hx]
  have e1 : Kpt (zeroT.doR 0 ⟨0, 0, 0, x, false⟩ = (0, 0)) := ⟨reg_R zeroT 0 x (by omega) rfl⟩
  have t1 : Kpt (zeroT.doT 0 ⟨0, 0, 0, x, false⟩ = ⟨upd (fun _ => 0) 0 x, 0, 0, 1, false⟩) := ⟨(reg_T zeroT 0 x (by omega) rfl hx).trans rfl⟩
  have e2 : Kpt (Tb.doR ⟨upd (fun _ => 0) 0 x, 0, 0, 1, false⟩ 1 ⟨6, 0, 0, x, false⟩ = (0, 0)) := ⟨ign_R _ 1 x false (by omega)⟩
  have t2 : Kpt (Tb.doT ⟨upd (fun _ => 0) 0 x, 0, 0, 1, false⟩ 1 ⟨6, 0, 0, x, false⟩ = ⟨keysO x true, 0, 0, 2, false⟩) := ⟨(ign_T _ 1 x false (by omega) hx).trans rfl⟩
  have hk0 : keysO x true 0 = x := by simp [keysO, upd]
  have hk1 : keysO x true 1 = x := by simp [keysO, upd]
  have e3 : Kpt (Tb.doR ⟨keysO x true, 0, 0, 2, false⟩ 0 ⟨1, 3, x, 0, false⟩ = (0, 0)) := ⟨rsv_R ⟨keysO x true, 0, 0, 2, false⟩ 0 x 3 (by omega) hk0 hx rfl rfl⟩
  have t3 : Kpt (Tb.doT ⟨keysO x true, 0, 0, 2, false⟩ 0 ⟨1, 3, x, 0, false⟩ = ⟨keysO x true, 3, 0, 2, false⟩) := ⟨rsv_T ⟨keysO x true, 0, 0, 2, false⟩ 0 x 3 (by omega) hk0 hx rfl rfl⟩
  have q1 : Tb.holds ⟨keysO x true, 3, 0, 2, false⟩ 0 = true := by simp [Tb.holds, isAll, Tb.reg, hk0, hx]
  have q1K := Kpt.mk q1
  have q2 : Kpt (Tb.holds ⟨keysO x true, 3, 0, 2, false⟩ 1 = false) := ⟨by simp [Tb.holds, isAll, Tb.reg, hk1, hx]⟩
  have q3 : Kpt (Tb.conf ⟨keysO x true, 3, 0, 2, false⟩ 1 1 = true) := ⟨by simp [Tb.conf, q2.out, Tb.reg, hk1, hx]⟩
  have q4 : Kpt (Tb.conf ⟨keysO x true, 3, 0, 2, false⟩ 1 2 = true) := ⟨by simp [Tb.conf, q2.out, Tb.reg, hk1, hx]⟩
  have e4 : Kpt (Tb.doR ⟨keysO x true, 3, 0, 2, false⟩ 0 ⟨2, 3, x, 0, false⟩ = (0, 0)) := ⟨rel_R ⟨keysO x true, 3, 0, 2, false⟩ 0 x 3 (by omega) hk0 hx rfl⟩
  have t4 : Kpt (Tb.doT ⟨keysO x true, 3, 0, 2, false⟩ 0 ⟨2, 3, x, 0, false⟩ = ⟨keysO x true, 0, 0, 2, false⟩) := ⟨rel_T ⟨keysO x true, 3, 0, 2, false⟩ 0 x 3 (by omega) hk0 hx rfl q1⟩
  have E4 : Kpt (Tb.doE ⟨keysO x true, 3, 0, 2, false⟩ 0 ⟨2, 3, x, 0, false⟩ = []) := ⟨(rel_E ⟨keysO x true, 3, 0, 2, false⟩ 0 x 3 (by omega) hk0 hx rfl q1).trans (by simp [Tb.endE, Tb.regs, keysO_regs x hx, othersL])⟩
  have q5 : Kpt (Tb.res ⟨keysO x true, 0, 0, 2, false⟩ = (0, -1)) := ⟨rfl⟩
  have q6 : Kpt (Tb.conf ⟨keysO x true, 0, 0, 2, false⟩ 1 2 = false) := ⟨by simp [Tb.conf]⟩
  have qa : Kpt (isAll 3 = false) := ⟨rfl⟩
  replace hx := Kpt.mk hx
  replace hxr := Kpt.mk hxr
  clear q1 hk0 hk1
  go_enter Try.func7, Try.ntmps7
  go_wp2_with fail
  refine (awake_any _).mono ?_
  rintro e w1 ⟨rfl, hb1⟩
  replace hb1 := Kpt.mk hb1
  go_wp2_with fail
  refine (new_from (w0 := w) (by first | exact hb1.out | exact hb1.out.alloc hb1.out.size _)).mono ?_
  rintro e w2 ⟨B, rfl, hS, _, _⟩
  replace hS := Kpt.mk hS
  clear hb1
  go_wp2_with fail
  refine (ss_do hS.out 0 ⟨0, 0, 0, x, false⟩ hxr.out).mono ?_
  rw [e1.out, t1.out]
  rintro e w3 ⟨v3, rfl, _, hS3, _⟩
  replace hS3 := Kpt.mk hS3
  clear hS e1 t1
  dsimp only
  go_wp2_with fail
  refine (ss_do hS3.out 1 ⟨6, 0, 0, x, false⟩ hxr.out).mono ?_
  rw [e2.out, t2.out]
  rintro e w4 ⟨v4, rfl, _, hS4, _⟩
  replace hS4 := Kpt.mk hS4
  clear hS3 e2 t2
  dsimp only
  go_wp2_with fail
  refine (ss_do hS4.out 0 ⟨1, 3, x, 0, false⟩ (by simp)).mono ?_
  rw [e3.out, t3.out]
  rintro e w5 ⟨v5, rfl, _, hS5, _⟩
  have hT5 := Kpt.mk hS5.tab
  replace hS5 := Kpt.mk hS5
  clear hS4 e3 t3
  dsimp only
  go_wp2_with fail
  refine (holds_any B _ 0 _ hT5.out).mono ?_
  rw [q1K.out]
  rintro e w5 ⟨rfl, rfl⟩
  go_wp2_with fail
  refine (holds_any B _ 1 _ hT5.out).mono ?_
  rw [q2.out]
  rintro e w5 ⟨rfl, rfl⟩
  go_wp2_with fail
  refine (all_any 3 _).mono ?_
  rw [qa.out]
  rintro e w5 ⟨rfl, rfl⟩
  go_wp2_with fail
  refine (conflict_any B _ 1 1 _ hT5.out).mono ?_
  rw [q3.out]
  rintro e w5 ⟨rfl, rfl⟩
  go_wp2_with fail
  refine (conflict_any B _ 1 2 _ hT5.out).mono ?_
  rw [q4.out]
  rintro e w5 ⟨rfl, rfl⟩
  go_wp2_with fail
  refine (ss_do hS5.out 0 ⟨2, 3, x, 0, false⟩ (by simp)).mono ?_
  rw [e4.out, t4.out, E4.out]
  rintro e w6 ⟨v6, rfl, hO6, hS6, _⟩
  obtain ⟨a6, c6, hv6⟩ := own_len hO6
  subst hv6
  have hT6 := Kpt.mk hS6.tab
  replace hS6 := Kpt.mk hS6
  clear hS5 hT5 e4 t4 E4 hO6
  dsimp only [List.length_cons, List.length_nil]
  go_wp2_with fail
  refine (reserved_any B _ _ hT6.out).mono ?_
  rw [q5.out]
  rintro e w7 ⟨rfl, q, hq⟩
  have hT7 : Kpt (Tab w7 B _) := ⟨by rw [hq]; exact hT6.out.drewN q⟩
  have hB7 : Kpt (Below w.heap.size w w7) := ⟨by rw [hq]; exact below_drewN hS6.out.bel q⟩
  clear hq hS6 hT6
  dsimp only
  go_wp2_with fail
  refine (conflict_any B _ 1 2 _ hT7.out).mono ?_
  rw [q6.out]
  rintro e w7 ⟨rfl, rfl⟩
  go_wp2
  go_ret
  exact ⟨rfl, hB7.out⟩

end Go.Proofs.Ytikndkmpedoooaa.prReserves
