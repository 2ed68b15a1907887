/-
  The contract of Parse, where the bytes are whole.
-/
import Derived.Test.YtcgojpnjaloofaaCParse
namespace Go.Proofs.Ytcgojpnjaloofaa
open Go.RowKit
set_option linter.unusedVariables false
set_option linter.unusedSimpArgs false
set_option maxRecDepth 100000 in
set_option maxHeartbeats 2000000 in
theorem parse_odd (b off n cap m : Nat) (ms : List Int) (op y1 oa ob ua ub : Int) (R : Cm) (w : World) (HC : Kpt (∀ W, Below w.heap.size w W → W.cell? ⟨b, off, none⟩ = some (.int .u8 op) ∧ W.cell? ⟨b, off + 1, none⟩ = some (.int .u8 y1))) (h2 : 2 ≤ m) (hmn : m ≤ n) (hnc : n ≤ cap) (hml : m ≤ 16)
    (HW : Kpt (∀ W, Below w.heap.size w W → Calls Try.prog 17 #[.slice (some ⟨b, off, none⟩) n cap] W fun e w' => ∃ g, e = .returned (.tuple #[.slice (some ⟨g, 0, none⟩) m m, .agg zeroS, .bool true]) ∧ B.RowAt w' (some ⟨g, 0, none⟩) m ms ∧ Below W.heap.size W w'))
    (HO : Kpt (∀ W g, Below w.heap.size w W → B.RowAt W (some ⟨g, 0, none⟩) m ms → Calls Try.prog 18 #[.slice (some ⟨b, off, none⟩) m cap, .slice (some ⟨g, 0, none⟩) m m] W fun e w' => e = .returned (.tuple #[.int .i64 oa, .int .i64 ob]) ∧ w' = W)) (hoa : 0 ≤ oa) :
    Calls Try.prog 10 #[.slice (some ⟨b, off, none⟩) n cap] w fun e w' => e = .returned (.tuple #[.agg noC.vals, .agg (faultS oa ob).vals, .bool false]) ∧ Below w.heap.size w w' := by
  have HF := fun w => Kpt.mk (fault_any oa ob w)
  generalize hR : faultS oa ob = F at *
  clear hR
  have e1 : (m : Int) ≤ (n : Int) := by omega
  have e2 : (n : Int) ≤ (cap : Int) := by omega
  have e3 : (2 : Int) ≤ (m : Int) := by omega
  have e4 : (m : Int) ≤ (cap : Int) := by omega
  go_enter Try.func10, Try.ntmps10
  go_wp2_with (first
    | (go_at_call 17; refine (HW.out _ (by repeat (first | refine Below.setCell ?_ (by simp) _ | refine Below.alloc ?_ (by simp) _ | exact Below.refl _ _))).mono ?_; rintro e w1 ⟨g, rfl, hrow, hb⟩; have HB : Kpt (Below w.heap.size w w1) := ⟨Below.trans (by repeat (first | refine Below.setCell ?_ (by simp) _ | refine Below.alloc ?_ (by simp) _ | exact Below.refl _ _)) (hb.mono (by simp; omega))⟩; have B2 : Kpt (Bx w1 w.heap.size zeroC) := ⟨((bx_new w zeroC 27).alloc _).below hb (by simp; omega)⟩; have B3 : Kpt (Bx w1 (w.heap.size + 1) zeroS) := ⟨(bx_new2 w _ zeroS 30).below hb (by simp)⟩; replace hrow := Kpt.mk hrow; clear hb)
    | (refine wpList_store_bx rfl 30 (.tmp 6) (.tmp 17) rfl w1.heap.size zeroS zeroS rfl rfl (bx_new w1 zeroS 30) rfl infoS (Sn.vals_one noS) rfl ?_; intro w2 h6 hg2; have hx := below_store hg2; have HB2 : Kpt (Below w.heap.size w w2) := ⟨HB.out.trans (hx.mono HB.out.size)⟩; have C2 : Kpt (Bx w2 w.heap.size zeroC) := ⟨B2.out.below hx B2.out.lt⟩; have C3 : Kpt (Bx w2 (w.heap.size + 1) zeroS) := ⟨B3.out.below hx B3.out.lt⟩; have hrow2 := Kpt.mk (hrow.out.below hx); obtain ⟨k0, k1⟩ := HC.out w2 HB2.out; clear hx hg2 h6 hrow)
    | (go_at_call 18; refine (HO.out w2 g HB2.out hrow2.out).mono ?_; rintro e w' ⟨rfl, rfl⟩)
    | (go_at_call 14; refine (HF _).out.mono ?_; rintro e w3 ⟨rfl, hb3⟩; have HB3 : Kpt (Below w.heap.size w w3) := ⟨HB2.out.trans (hb3.mono HB2.out.size)⟩; have D2 : Kpt (Bx w3 w.heap.size zeroC) := ⟨C2.out.below hb3 C2.out.lt⟩; have D3 : Kpt (Bx w3 (w.heap.size + 1) zeroS) := ⟨C3.out.below hb3 C3.out.lt⟩; clear hb3)
    | (refine wpList_store_bx rfl 27 (.tmp 2) (.tmp 35) rfl w.heap.size zeroC noC.vals rfl rfl D2.out rfl infoC (Cm.vals_one _) rfl ?_; intro w4 E2 hg4; have E3 : Kpt (Bx w4 (w.heap.size + 1) zeroS) := ⟨D3.out.grown hg4 (by simp)⟩; have HB4 : Kpt (Below w.heap.size w w4) := ⟨HB3.out.grown hg4 (Nat.le_of_lt D2.out.lt) (fun k h => by cases h; exact Nat.le_refl _)⟩; replace E2 := Kpt.mk E2; clear hg4)
    | (refine wpList_store_bx rfl 30 (.tmp 3) (.tmp 38) rfl (w.heap.size + 1) zeroS F.vals rfl rfl E3.out rfl infoS (Sn.vals_one _) rfl ?_; intro w5 G3 hg5; have G2 : Kpt (Bx w5 w.heap.size noC.vals) := ⟨E2.out.grown hg5 (by simp)⟩; have HB5 : Kpt (Below w.heap.size w w5) := ⟨HB4.out.grown hg5 (Nat.le_of_lt E2.out.lt) (fun k h => by cases h; omega)⟩; replace G3 := Kpt.mk G3; clear hg5))
  refine bodyPost_ret (v := .tuple #[.agg noC.vals, .agg F.vals, .bool false]) (by simp [results, Try.results10, asAddr, run_res G2.out 27 _ Try.underlying27 rfl infoC, run_res G3.out 30 _ Try.underlying30 rfl infoS]) rfl ⟨rfl, HB5.out⟩

set_option maxRecDepth 100000 in
set_option maxHeartbeats 2000000 in
theorem parse_serv (b off n cap m : Nat) (ms : List Int) (op y1 oa ob ua ub : Int) (R : Cm) (w : World) (HC : Kpt (∀ W, Below w.heap.size w W → W.cell? ⟨b, off, none⟩ = some (.int .u8 op) ∧ W.cell? ⟨b, off + 1, none⟩ = some (.int .u8 y1))) (h2 : 2 ≤ m) (hmn : m ≤ n) (hnc : n ≤ cap) (hml : m ≤ 16)
    (HW : Kpt (∀ W, Below w.heap.size w W → Calls Try.prog 17 #[.slice (some ⟨b, off, none⟩) n cap] W fun e w' => ∃ g, e = .returned (.tuple #[.slice (some ⟨g, 0, none⟩) m m, .agg zeroS, .bool true]) ∧ B.RowAt w' (some ⟨g, 0, none⟩) m ms ∧ Below W.heap.size W w'))
    (HO : Kpt (∀ W g, Below w.heap.size w W → B.RowAt W (some ⟨g, 0, none⟩) m ms → Calls Try.prog 18 #[.slice (some ⟨b, off, none⟩) m cap, .slice (some ⟨g, 0, none⟩) m m] W fun e w' => e = .returned (.tuple #[.int .i64 oa, .int .i64 ob]) ∧ w' = W)) (hoa : oa < 0) (hsv : servB op y1 = false) :
    Calls Try.prog 10 #[.slice (some ⟨b, off, none⟩) n cap] w fun e w' => e = .returned (.tuple #[.agg noC.vals, .agg (faultS 1 4).vals, .bool false]) ∧ Below w.heap.size w w' := by
  have HF := fun w => Kpt.mk (fault_any 1 4 w)
  generalize hR : faultS 1 4 = F at *
  clear hR
  have e1 : (m : Int) ≤ (n : Int) := by omega
  have e2 : (n : Int) ≤ (cap : Int) := by omega
  have e3 : (2 : Int) ≤ (m : Int) := by omega
  have e4 : (m : Int) ≤ (cap : Int) := by omega
  have hoa' : ¬ 0 ≤ oa := by omega
  go_enter Try.func10, Try.ntmps10
  go_wp2_with (first
    | (go_at_call 17; refine (HW.out _ (by repeat (first | refine Below.setCell ?_ (by simp) _ | refine Below.alloc ?_ (by simp) _ | exact Below.refl _ _))).mono ?_; rintro e w1 ⟨g, rfl, hrow, hb⟩; have HB : Kpt (Below w.heap.size w w1) := ⟨Below.trans (by repeat (first | refine Below.setCell ?_ (by simp) _ | refine Below.alloc ?_ (by simp) _ | exact Below.refl _ _)) (hb.mono (by simp; omega))⟩; have B2 : Kpt (Bx w1 w.heap.size zeroC) := ⟨((bx_new w zeroC 27).alloc _).below hb (by simp; omega)⟩; have B3 : Kpt (Bx w1 (w.heap.size + 1) zeroS) := ⟨(bx_new2 w _ zeroS 30).below hb (by simp)⟩; replace hrow := Kpt.mk hrow; clear hb)
    | (refine wpList_store_bx rfl 30 (.tmp 6) (.tmp 17) rfl w1.heap.size zeroS zeroS rfl rfl (bx_new w1 zeroS 30) rfl infoS (Sn.vals_one noS) rfl ?_; intro w2 h6 hg2; have hx := below_store hg2; have HB2 : Kpt (Below w.heap.size w w2) := ⟨HB.out.trans (hx.mono HB.out.size)⟩; have C2 : Kpt (Bx w2 w.heap.size zeroC) := ⟨B2.out.below hx B2.out.lt⟩; have C3 : Kpt (Bx w2 (w.heap.size + 1) zeroS) := ⟨B3.out.below hx B3.out.lt⟩; have hrow2 := Kpt.mk (hrow.out.below hx); obtain ⟨k0, k1⟩ := HC.out w2 HB2.out; clear hx hg2 h6 hrow)
    | (go_at_call 18; refine (HO.out w2 g HB2.out hrow2.out).mono ?_; rintro e w' ⟨rfl, rfl⟩))
  go_quiet ((go_at_call 19; exact Calls.quiet_of_same (serves_any _ _ _)))
  obtain ⟨W3, hW3⟩ : ∃ W, W = w'.drewN nq := ⟨_, rfl⟩
  rw [← hW3]
  have HB3 : Kpt (Below w.heap.size w W3) := ⟨by rw [hW3]; exact Below.drewN' HB2.out nq⟩
  have D2 : Kpt (Bx W3 w.heap.size zeroC) := ⟨by rw [hW3]; exact C2.out.drewN nq⟩
  have D3 : Kpt (Bx W3 (w.heap.size + 1) zeroS) := ⟨by rw [hW3]; exact C3.out.drewN nq⟩
  clear hW3 k0 k1
  go_wp2_with (first
    | (go_at_call 14; refine (HF _).out.mono ?_; rintro e w9 ⟨rfl, hb3⟩; have HB9 : Kpt (Below w.heap.size w w9) := ⟨HB3.out.trans (hb3.mono HB3.out.size)⟩; have P2 : Kpt (Bx w9 w.heap.size zeroC) := ⟨D2.out.below hb3 D2.out.lt⟩; have P3 : Kpt (Bx w9 (w.heap.size + 1) zeroS) := ⟨D3.out.below hb3 D3.out.lt⟩; clear hb3)
    | (refine wpList_store_bx rfl 27 (.tmp 2) (.tmp 47) rfl w.heap.size zeroC noC.vals rfl rfl P2.out rfl infoC (Cm.vals_one _) rfl ?_; intro w4 E2 hg4; have E3 : Kpt (Bx w4 (w.heap.size + 1) zeroS) := ⟨P3.out.grown hg4 (by simp)⟩; have HB4 : Kpt (Below w.heap.size w w4) := ⟨HB9.out.grown hg4 (Nat.le_of_lt P2.out.lt) (fun k h => by cases h; exact Nat.le_refl _)⟩; replace E2 := Kpt.mk E2; clear hg4)
    | (refine wpList_store_bx rfl 30 (.tmp 3) (.tmp 48) rfl (w.heap.size + 1) zeroS F.vals rfl rfl E3.out rfl infoS (Sn.vals_one _) rfl ?_; intro w5 G3 hg5; have G2 : Kpt (Bx w5 w.heap.size noC.vals) := ⟨E2.out.grown hg5 (by simp)⟩; have HB5 : Kpt (Below w.heap.size w w5) := ⟨HB4.out.grown hg5 (Nat.le_of_lt E2.out.lt) (fun k h => by cases h; omega)⟩; replace G3 := Kpt.mk G3; clear hg5))
  refine bodyPost_ret (v := .tuple #[.agg noC.vals, .agg F.vals, .bool false]) (by simp [results, Try.results10, asAddr, run_res G2.out 27 _ Try.underlying27 rfl infoC, run_res G3.out 30 _ Try.underlying30 rfl infoS]) rfl ⟨rfl, HB5.out⟩

set_option maxRecDepth 100000 in
set_option maxHeartbeats 2000000 in
theorem parse_unfit (b off n cap m : Nat) (ms : List Int) (op y1 oa ob ua ub : Int) (R : Cm) (w : World) (HC : Kpt (∀ W, Below w.heap.size w W → W.cell? ⟨b, off, none⟩ = some (.int .u8 op) ∧ W.cell? ⟨b, off + 1, none⟩ = some (.int .u8 y1))) (h2 : 2 ≤ m) (hmn : m ≤ n) (hnc : n ≤ cap) (hml : m ≤ 16)
    (HW : Kpt (∀ W, Below w.heap.size w W → Calls Try.prog 17 #[.slice (some ⟨b, off, none⟩) n cap] W fun e w' => ∃ g, e = .returned (.tuple #[.slice (some ⟨g, 0, none⟩) m m, .agg zeroS, .bool true]) ∧ B.RowAt w' (some ⟨g, 0, none⟩) m ms ∧ Below W.heap.size W w'))
    (HO : Kpt (∀ W g, Below w.heap.size w W → B.RowAt W (some ⟨g, 0, none⟩) m ms → Calls Try.prog 18 #[.slice (some ⟨b, off, none⟩) m cap, .slice (some ⟨g, 0, none⟩) m m] W fun e w' => e = .returned (.tuple #[.int .i64 oa, .int .i64 ob]) ∧ w' = W))
    (HT : Kpt (∀ W, Below w.heap.size w W → Calls Try.prog 20 #[.slice (some ⟨b, off, none⟩) m cap] W fun e w' => e = .returned (.agg R.vals) ∧ Below W.heap.size W w'))
    (HU : Kpt (∀ W, Below w.heap.size w W → Calls Try.prog 21 #[.agg R.vals, .slice (some ⟨b, off, none⟩) m cap] W fun e w' => e = .returned (.tuple #[.int .i64 ua, .int .i64 ub]) ∧ Below W.heap.size W w')) (hoa : oa < 0) (hsv : servB op y1 = true) (hua : 0 ≤ ua) :
    Calls Try.prog 10 #[.slice (some ⟨b, off, none⟩) n cap] w fun e w' => e = .returned (.tuple #[.agg noC.vals, .agg (faultS ua ub).vals, .bool false]) ∧ Below w.heap.size w w' := by
  have HF := fun w => Kpt.mk (fault_any ua ub w)
  generalize hR : faultS ua ub = F at *
  clear hR
  have e1 : (m : Int) ≤ (n : Int) := by omega
  have e2 : (n : Int) ≤ (cap : Int) := by omega
  have e3 : (2 : Int) ≤ (m : Int) := by omega
  have e4 : (m : Int) ≤ (cap : Int) := by omega
  have hoa' : ¬ 0 ≤ oa := by omega
  go_enter Try.func10, Try.ntmps10
  go_wp2_with (first
    | (go_at_call 17; refine (HW.out _ (by repeat (first | refine Below.setCell ?_ (by simp) _ | refine Below.alloc ?_ (by simp) _ | exact Below.refl _ _))).mono ?_; rintro e w1 ⟨g, rfl, hrow, hb⟩; have HB : Kpt (Below w.heap.size w w1) := ⟨Below.trans (by repeat (first | refine Below.setCell ?_ (by simp) _ | refine Below.alloc ?_ (by simp) _ | exact Below.refl _ _)) (hb.mono (by simp; omega))⟩; have B2 : Kpt (Bx w1 w.heap.size zeroC) := ⟨((bx_new w zeroC 27).alloc _).below hb (by simp; omega)⟩; have B3 : Kpt (Bx w1 (w.heap.size + 1) zeroS) := ⟨(bx_new2 w _ zeroS 30).below hb (by simp)⟩; replace hrow := Kpt.mk hrow; clear hb)
    | (refine wpList_store_bx rfl 30 (.tmp 6) (.tmp 17) rfl w1.heap.size zeroS zeroS rfl rfl (bx_new w1 zeroS 30) rfl infoS (Sn.vals_one noS) rfl ?_; intro w2 h6 hg2; have hx := below_store hg2; have HB2 : Kpt (Below w.heap.size w w2) := ⟨HB.out.trans (hx.mono HB.out.size)⟩; have C2 : Kpt (Bx w2 w.heap.size zeroC) := ⟨B2.out.below hx B2.out.lt⟩; have C3 : Kpt (Bx w2 (w.heap.size + 1) zeroS) := ⟨B3.out.below hx B3.out.lt⟩; have hrow2 := Kpt.mk (hrow.out.below hx); obtain ⟨k0, k1⟩ := HC.out w2 HB2.out; clear hx hg2 h6 hrow)
    | (go_at_call 18; refine (HO.out w2 g HB2.out hrow2.out).mono ?_; rintro e w' ⟨rfl, rfl⟩))
  go_quiet ((go_at_call 19; exact Calls.quiet_of_same (serves_any _ _ _)))
  obtain ⟨W3, hW3⟩ : ∃ W, W = w'.drewN nq := ⟨_, rfl⟩
  rw [← hW3]
  have HB3 : Kpt (Below w.heap.size w W3) := ⟨by rw [hW3]; exact Below.drewN' HB2.out nq⟩
  have D2 : Kpt (Bx W3 w.heap.size zeroC) := ⟨by rw [hW3]; exact C2.out.drewN nq⟩
  have D3 : Kpt (Bx W3 (w.heap.size + 1) zeroS) := ⟨by rw [hW3]; exact C3.out.drewN nq⟩
  clear hW3 k0 k1
  go_wp2_with (first
    | (go_at_call 20; refine (HT.out W3 HB3.out).mono ?_; rintro e w4 ⟨rfl, hb4⟩; have HB4 : Kpt (Below w.heap.size w w4) := ⟨HB3.out.trans (hb4.mono HB3.out.size)⟩; have I2 : Kpt (Bx w4 w.heap.size zeroC) := ⟨D2.out.below hb4 D2.out.lt⟩; have I3 : Kpt (Bx w4 (w.heap.size + 1) zeroS) := ⟨D3.out.below hb4 D3.out.lt⟩; clear hb4)
    | (refine wpList_store_bx rfl 27 (.tmp 10) (.tmp 50) rfl w4.heap.size zeroC R.vals rfl rfl (bx_new w4 zeroC 27) rfl infoC (Cm.vals_one _) rfl ?_; intro w5 h10 hg5; have hx := below_store hg5; have HB5' : Kpt (Below w.heap.size w w5) := ⟨HB4.out.trans (hx.mono HB4.out.size)⟩; have J2 : Kpt (Bx w5 w.heap.size zeroC) := ⟨I2.out.below hx I2.out.lt⟩; have J3 : Kpt (Bx w5 (w.heap.size + 1) zeroS) := ⟨I3.out.below hx I3.out.lt⟩; replace h10 := Kpt.mk h10; clear hx hg5)
    | (go_at_call 21; refine (HU.out w5 HB5'.out).mono ?_; rintro e w6 ⟨rfl, hb6⟩; have m6 : Kpt True := ⟨trivial⟩; have HB6 : Kpt (Below w.heap.size w w6) := ⟨HB5'.out.trans (hb6.mono HB5'.out.size)⟩; have L2 : Kpt (Bx w6 w.heap.size zeroC) := ⟨J2.out.below hb6 J2.out.lt⟩; have L3 : Kpt (Bx w6 (w.heap.size + 1) zeroS) := ⟨J3.out.below hb6 J3.out.lt⟩; have h10b : Kpt (Bx w6 w4.heap.size R.vals) := ⟨h10.out.below hb6 h10.out.lt⟩; clear hb6)
    | (have hm := m6; refine wpList_load_bx rfl 27 (.tmp 10) rfl w4.heap.size R.vals rfl h10b.out _ Try.underlying27 rfl infoC ?_)
    | (refine wpList_load_bx rfl 27 (.tmp 10) rfl w4.heap.size R.vals rfl h10.out _ Try.underlying27 rfl infoC ?_)
    | (go_at_call 14; refine (HF _).out.mono ?_; rintro e w9 ⟨rfl, hb3⟩; have HB9 : Kpt (Below w.heap.size w w9) := ⟨HB6.out.trans (hb3.mono HB6.out.size)⟩; have P2 : Kpt (Bx w9 w.heap.size zeroC) := ⟨L2.out.below hb3 L2.out.lt⟩; have P3 : Kpt (Bx w9 (w.heap.size + 1) zeroS) := ⟨L3.out.below hb3 L3.out.lt⟩; clear hb3)
    | (refine wpList_store_bx rfl 27 (.tmp 2) (.tmp 59) rfl w.heap.size zeroC noC.vals rfl rfl P2.out rfl infoC (Cm.vals_one _) rfl ?_; intro w7 E2 hg4; have E3 : Kpt (Bx w7 (w.heap.size + 1) zeroS) := ⟨P3.out.grown hg4 (by simp)⟩; have HB7 : Kpt (Below w.heap.size w w7) := ⟨HB9.out.grown hg4 (Nat.le_of_lt P2.out.lt) (fun k h => by cases h; exact Nat.le_refl _)⟩; replace E2 := Kpt.mk E2; clear hg4)
    | (refine wpList_store_bx rfl 30 (.tmp 3) (.tmp 62) rfl (w.heap.size + 1) zeroS F.vals rfl rfl E3.out rfl infoS (Sn.vals_one _) rfl ?_; intro w8 G3 hg5; have G2 : Kpt (Bx w8 w.heap.size noC.vals) := ⟨E2.out.grown hg5 (by simp)⟩; have HB8 : Kpt (Below w.heap.size w w8) := ⟨HB7.out.grown hg5 (Nat.le_of_lt E2.out.lt) (fun k h => by cases h; omega)⟩; replace G3 := Kpt.mk G3; clear hg5))
  refine bodyPost_ret (v := .tuple #[.agg noC.vals, .agg F.vals, .bool false]) (by simp [results, Try.results10, asAddr, run_res G2.out 27 _ Try.underlying27 rfl infoC, run_res G3.out 30 _ Try.underlying30 rfl infoS]) rfl ⟨rfl, HB8.out⟩

set_option maxRecDepth 100000 in
set_option maxHeartbeats 2000000 in
theorem parse_ok (b off n cap m : Nat) (ms : List Int) (op y1 oa ob ua ub : Int) (R : Cm) (w : World) (HC : Kpt (∀ W, Below w.heap.size w W → W.cell? ⟨b, off, none⟩ = some (.int .u8 op) ∧ W.cell? ⟨b, off + 1, none⟩ = some (.int .u8 y1))) (h2 : 2 ≤ m) (hmn : m ≤ n) (hnc : n ≤ cap) (hml : m ≤ 16)
    (HW : Kpt (∀ W, Below w.heap.size w W → Calls Try.prog 17 #[.slice (some ⟨b, off, none⟩) n cap] W fun e w' => ∃ g, e = .returned (.tuple #[.slice (some ⟨g, 0, none⟩) m m, .agg zeroS, .bool true]) ∧ B.RowAt w' (some ⟨g, 0, none⟩) m ms ∧ Below W.heap.size W w'))
    (HO : Kpt (∀ W g, Below w.heap.size w W → B.RowAt W (some ⟨g, 0, none⟩) m ms → Calls Try.prog 18 #[.slice (some ⟨b, off, none⟩) m cap, .slice (some ⟨g, 0, none⟩) m m] W fun e w' => e = .returned (.tuple #[.int .i64 oa, .int .i64 ob]) ∧ w' = W))
    (HT : Kpt (∀ W, Below w.heap.size w W → Calls Try.prog 20 #[.slice (some ⟨b, off, none⟩) m cap] W fun e w' => e = .returned (.agg R.vals) ∧ Below W.heap.size W w'))
    (HU : Kpt (∀ W, Below w.heap.size w W → Calls Try.prog 21 #[.agg R.vals, .slice (some ⟨b, off, none⟩) m cap] W fun e w' => e = .returned (.tuple #[.int .i64 ua, .int .i64 ub]) ∧ Below W.heap.size W w')) (hoa : oa < 0) (hsv : servB op y1 = true) (hua : ua < 0) :
    Calls Try.prog 10 #[.slice (some ⟨b, off, none⟩) n cap] w fun e w' => e = .returned (.tuple #[.agg R.vals, .agg noS.vals, .bool true]) ∧ Below w.heap.size w w' := by
  have e1 : (m : Int) ≤ (n : Int) := by omega
  have e2 : (n : Int) ≤ (cap : Int) := by omega
  have e3 : (2 : Int) ≤ (m : Int) := by omega
  have e4 : (m : Int) ≤ (cap : Int) := by omega
  have hoa' : ¬ 0 ≤ oa := by omega
  have hua' : ¬ 0 ≤ ua := by omega
  go_enter Try.func10, Try.ntmps10
  go_wp2_with (first
    | (go_at_call 17; refine (HW.out _ (by repeat (first | refine Below.setCell ?_ (by simp) _ | refine Below.alloc ?_ (by simp) _ | exact Below.refl _ _))).mono ?_; rintro e w1 ⟨g, rfl, hrow, hb⟩; have HB : Kpt (Below w.heap.size w w1) := ⟨Below.trans (by repeat (first | refine Below.setCell ?_ (by simp) _ | refine Below.alloc ?_ (by simp) _ | exact Below.refl _ _)) (hb.mono (by simp; omega))⟩; have B2 : Kpt (Bx w1 w.heap.size zeroC) := ⟨((bx_new w zeroC 27).alloc _).below hb (by simp; omega)⟩; have B3 : Kpt (Bx w1 (w.heap.size + 1) zeroS) := ⟨(bx_new2 w _ zeroS 30).below hb (by simp)⟩; replace hrow := Kpt.mk hrow; clear hb)
    | (refine wpList_store_bx rfl 30 (.tmp 6) (.tmp 17) rfl w1.heap.size zeroS zeroS rfl rfl (bx_new w1 zeroS 30) rfl infoS (Sn.vals_one noS) rfl ?_; intro w2 h6 hg2; have hx := below_store hg2; have HB2 : Kpt (Below w.heap.size w w2) := ⟨HB.out.trans (hx.mono HB.out.size)⟩; have C2 : Kpt (Bx w2 w.heap.size zeroC) := ⟨B2.out.below hx B2.out.lt⟩; have C3 : Kpt (Bx w2 (w.heap.size + 1) zeroS) := ⟨B3.out.below hx B3.out.lt⟩; have hrow2 := Kpt.mk (hrow.out.below hx); obtain ⟨k0, k1⟩ := HC.out w2 HB2.out; clear hx hg2 h6 hrow)
    | (go_at_call 18; refine (HO.out w2 g HB2.out hrow2.out).mono ?_; rintro e w' ⟨rfl, rfl⟩))
  go_quiet ((go_at_call 19; exact Calls.quiet_of_same (serves_any _ _ _)))
  obtain ⟨W3, hW3⟩ : ∃ W, W = w'.drewN nq := ⟨_, rfl⟩
  rw [← hW3]
  have HB3 : Kpt (Below w.heap.size w W3) := ⟨by rw [hW3]; exact Below.drewN' HB2.out nq⟩
  have D2 : Kpt (Bx W3 w.heap.size zeroC) := ⟨by rw [hW3]; exact C2.out.drewN nq⟩
  have D3 : Kpt (Bx W3 (w.heap.size + 1) zeroS) := ⟨by rw [hW3]; exact C3.out.drewN nq⟩
  clear hW3 k0 k1
  go_wp2_with (first
    | (go_at_call 20; refine (HT.out W3 HB3.out).mono ?_; rintro e w4 ⟨rfl, hb4⟩; have HB4 : Kpt (Below w.heap.size w w4) := ⟨HB3.out.trans (hb4.mono HB3.out.size)⟩; have I2 : Kpt (Bx w4 w.heap.size zeroC) := ⟨D2.out.below hb4 D2.out.lt⟩; have I3 : Kpt (Bx w4 (w.heap.size + 1) zeroS) := ⟨D3.out.below hb4 D3.out.lt⟩; clear hb4)
    | (refine wpList_store_bx rfl 27 (.tmp 10) (.tmp 50) rfl w4.heap.size zeroC R.vals rfl rfl (bx_new w4 zeroC 27) rfl infoC (Cm.vals_one _) rfl ?_; intro w5 h10 hg5; have hx := below_store hg5; have HB5' : Kpt (Below w.heap.size w w5) := ⟨HB4.out.trans (hx.mono HB4.out.size)⟩; have J2 : Kpt (Bx w5 w.heap.size zeroC) := ⟨I2.out.below hx I2.out.lt⟩; have J3 : Kpt (Bx w5 (w.heap.size + 1) zeroS) := ⟨I3.out.below hx I3.out.lt⟩; replace h10 := Kpt.mk h10; clear hx hg5)
    | (go_at_call 21; refine (HU.out w5 HB5'.out).mono ?_; rintro e w6 ⟨rfl, hb6⟩; have m6 : Kpt True := ⟨trivial⟩; have HB6 : Kpt (Below w.heap.size w w6) := ⟨HB5'.out.trans (hb6.mono HB5'.out.size)⟩; have L2 : Kpt (Bx w6 w.heap.size zeroC) := ⟨J2.out.below hb6 J2.out.lt⟩; have L3 : Kpt (Bx w6 (w.heap.size + 1) zeroS) := ⟨J3.out.below hb6 J3.out.lt⟩; have h10b : Kpt (Bx w6 w4.heap.size R.vals) := ⟨h10.out.below hb6 h10.out.lt⟩; clear hb6)
    | (have hm := m6; refine wpList_load_bx rfl 27 (.tmp 10) rfl w4.heap.size R.vals rfl h10b.out _ Try.underlying27 rfl infoC ?_)
    | (refine wpList_load_bx rfl 27 (.tmp 10) rfl w4.heap.size R.vals rfl h10.out _ Try.underlying27 rfl infoC ?_)
    | (refine wpList_store_bx rfl 27 (.tmp 2) (.tmp 63) rfl w.heap.size zeroC R.vals rfl rfl L2.out rfl infoC (Cm.vals_one _) rfl ?_; intro w7 E2 hg4; have E3 : Kpt (Bx w7 (w.heap.size + 1) zeroS) := ⟨L3.out.grown hg4 (by simp)⟩; have HB7 : Kpt (Below w.heap.size w w7) := ⟨HB6.out.grown hg4 (Nat.le_of_lt L2.out.lt) (fun k h => by cases h; exact Nat.le_refl _)⟩; replace E2 := Kpt.mk E2; clear hg4)
    | (refine wpList_store_bx rfl 30 (.tmp 3) (.tmp 64) rfl (w.heap.size + 1) zeroS noS.vals rfl rfl E3.out rfl infoS (Sn.vals_one _) rfl ?_; intro w8 G3 hg5; have G2 : Kpt (Bx w8 w.heap.size R.vals) := ⟨E2.out.grown hg5 (by simp)⟩; have HB8 : Kpt (Below w.heap.size w w8) := ⟨HB7.out.grown hg5 (Nat.le_of_lt E2.out.lt) (fun k h => by cases h; omega)⟩; replace G3 := Kpt.mk G3; clear hg5))
  refine bodyPost_ret (v := .tuple #[.agg R.vals, .agg noS.vals, .bool true]) (by simp [results, Try.results10, asAddr, run_res G2.out 27 _ Try.underlying27 rfl infoC, run_res G3.out 30 _ Try.underlying30 rfl infoS]) rfl ⟨rfl, HB8.out⟩

end Go.Proofs.Ytcgojpnjaloofaa
