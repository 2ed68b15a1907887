/-
  The head of the parameters.
-/
import Derived.Test.YtnebcbfjlkhimaaDoorJSml
namespace Go.Proofs.YtnebcbfjlkhimaaDoor
open Go.RowKit
set_option linter.unusedVariables false
set_option linter.unusedSimpArgs false
theorem resS_run {w : World} {b : Nat} {s : Sn} (hB : Bx w b s.vals) : (loadVar 31 ⟨b, 0, none⟩).run Tryd.prog w = .ok (.agg s.vals) w := run_res hB 31 _ Tryd.underlying31 rfl infoS
set_option maxRecDepth 100000 in
set_option maxHeartbeats 1000000 in
theorem head_short (b off len cap : Nat) (zs : List Int) (w : World) (hl : len ≤ 140737488351232) (hb_ : Bytes zs) (hc : Cs w b off len zs)  (h0 : len < 16) :
    Calls Tryd.prog 13 #[.slice (some ⟨b, off, none⟩) len cap] w fun e w' => e = .returned (.tuple #[.agg (plS 5 6656).vals, .bool false]) ∧ Below w.heap.size w w' := by
  have hS1 := Kpt.mk (fun W => tooShort_any W)
  have hSm := Kpt.mk (fun W => tooMany_any W)
  have hSf := Kpt.mk (fun f W => fault_any f W)
  have hb := Kpt.mk (Below.refl w.heap.size w)
  go_enter Tryd.func13, Tryd.ntmps13
  go_wp2_with (first
      | (have hm := m2; refine wpList_store_bx rfl 31 _ _ rfl br _ (plS 5 6656).vals rfl rfl Or.out rfl infoS (Sn.vals_one _) rfl ?_; intro w3 hX_ hg_; replace hb := Kpt.mk (hb.out.trans (bel_own hg_ hb.out.size lr.out)); replace Or := Kpt.mk hX_; clear hX_ hg_; clear hm m2; have m3 : Kpt True := ⟨trivial⟩)
      | (go_at_call 26; have hm := m1; go_must (refine (hS1.out _).mono ?_; rintro e w_ ⟨rfl, h_⟩; replace Or := Kpt.mk (Or.out.below h_ Or.out.lt); replace hb := Kpt.mk (hb.out.trans (h_.mono hb.out.size)); clear h_; clear hm m1; have m2 : Kpt True := ⟨trivial⟩))
      | (refine wpList_var rfl 31 rfl zeroS zeroSi ?_; intro br w_r hl_ hX_ h_; have lr := Kpt.mk (Nat.le_trans hb.out.size hl_); replace hb := Kpt.mk (hb.out.trans (h_.mono hb.out.size)); have Or := Kpt.mk hX_; clear hl_ hX_ h_; have m1 : Kpt True := ⟨trivial⟩)
      | fail)
  refine bodyPost_ret (v := .tuple #[.agg (plS 5 6656).vals, .bool false]) (by simp [results, Tryd.results13, asAddr, Act.put, resS_run Or.out]) rfl ⟨rfl, hb.out⟩
set_option maxRecDepth 100000 in
set_option maxHeartbeats 1000000 in
theorem head_n0 (b off len cap : Nat) (zs : List Int) (w : World) (hl : len ≤ 140737488351232) (hb_ : Bytes zs) (hc : Cs w b off len zs) (h0 : ¬ (len < 16)) (h1 : num zs 0 2 ≠ 0) :
    Calls Tryd.prog 13 #[.slice (some ⟨b, off, none⟩) len cap] w fun e w' => e = .returned (.tuple #[.agg (paS 0).vals, .bool false]) ∧ Below w.heap.size w w' := by
  have hS1 := Kpt.mk (fun W => tooShort_any W)
  have hSm := Kpt.mk (fun W => tooMany_any W)
  have hSf := Kpt.mk (fun f W => fault_any f W)
  have hlm : len ≤ maxLen := by unfold maxLen; omega
  have hC := fun W (hb : Below w.heap.size w W) => hc.below hb hc.1
  have N2 : ∀ W, Below w.heap.size w W → Calls Tryd.prog 14 #[.slice (some ⟨b, off, none⟩) len cap, .int .i64 2, .int .i64 2] W fun e w' => e = .returned (.int .i64 (num zs 2 2)) ∧ w' = W := fun W hb => count_any b off len cap 2 2 zs W hlm (by decide) (by decide) (by omega) hb_ (hC W hb)
  have d2 := num2_bd zs hb_ 2
  have N8 : ∀ W, Below w.heap.size w W → Calls Tryd.prog 14 #[.slice (some ⟨b, off, none⟩) len cap, .int .i64 8, .int .i64 4] W fun e w' => e = .returned (.int .i64 (num zs 8 4)) ∧ w' = W := fun W hb => count_any b off len cap 8 4 zs W hlm (by decide) (by decide) (by omega) hb_ (hC W hb)
  have d8 := num4_bd zs hb_ 8
  have N0 : ∀ W, Below w.heap.size w W → Calls Tryd.prog 14 #[.slice (some ⟨b, off, none⟩) len cap, .int .i64 0, .int .i64 2] W fun e w' => e = .returned (.int .i64 (num zs 0 2)) ∧ w' = W := fun W hb => count_any b off len cap 0 2 zs W hlm (by decide) (by decide) (by omega) hb_ (hC W hb)
  have d0 := num2_bd zs hb_ 0
  have N4 : ∀ W, Below w.heap.size w W → Calls Tryd.prog 14 #[.slice (some ⟨b, off, none⟩) len cap, .int .i64 4, .int .i64 4] W fun e w' => e = .returned (.int .i64 (num zs 4 4)) ∧ w' = W := fun W hb => count_any b off len cap 4 4 zs W hlm (by decide) (by decide) (by omega) hb_ (hC W hb)
  have d4 := num4_bd zs hb_ 4
  have N12 : ∀ W, Below w.heap.size w W → Calls Tryd.prog 14 #[.slice (some ⟨b, off, none⟩) len cap, .int .i64 12, .int .i64 4] W fun e w' => e = .returned (.int .i64 (num zs 12 4)) ∧ w' = W := fun W hb => count_any b off len cap 12 4 zs W hlm (by decide) (by decide) (by omega) hb_ (hC W hb)
  have d12 := num4_bd zs hb_ 12
  obtain ⟨u2, hu2⟩ : ∃ x, x = num zs 2 2 := ⟨_, rfl⟩
  rw [← hu2] at N2 d2 
  replace N2 := Kpt.mk N2
  obtain ⟨u8, hu8⟩ : ∃ x, x = num zs 8 4 := ⟨_, rfl⟩
  rw [← hu8] at N8 d8 
  replace N8 := Kpt.mk N8
  obtain ⟨u0, hu0⟩ : ∃ x, x = num zs 0 2 := ⟨_, rfl⟩
  rw [← hu0] at N0 d0 h1
  replace N0 := Kpt.mk N0
  obtain ⟨u4, hu4⟩ : ∃ x, x = num zs 4 4 := ⟨_, rfl⟩
  rw [← hu4] at N4 d4 
  replace N4 := Kpt.mk N4
  obtain ⟨u12, hu12⟩ : ∃ x, x = num zs 12 4 := ⟨_, rfl⟩
  rw [← hu12] at N12 d12 
  replace N12 := Kpt.mk N12
  have hbq : (u0 == 0) = false := beq_eq_false_iff_ne.mpr h1
  obtain ⟨r2, hr2⟩ : ∃ x, u2 % 32 = x := ⟨_, rfl⟩
  obtain ⟨r8, hr8⟩ : ∃ x, u8 % 28 = x := ⟨_, rfl⟩
  clear hC hc hu2 hu8 hu0 hu4 hu12
  have hb := Kpt.mk (Below.refl w.heap.size w)
  go_enter Tryd.func13, Tryd.ntmps13
  go_wp2_with (first
      | (have hm := m5; refine wpList_store_bx rfl 31 _ _ rfl br _ (paS 0).vals rfl rfl Or.out rfl infoS (Sn.vals_one _) rfl ?_; intro w6 hX_ hg_; replace hb := Kpt.mk (hb.out.trans (bel_own hg_ hb.out.size lr.out)); replace Or := Kpt.mk hX_; clear hX_ hg_; clear hm m5; have m6 : Kpt True := ⟨trivial⟩)
      | (go_at_call 27; have hm := m4; go_must (refine (hSf.out _ _).mono ?_; rintro e w_ ⟨rfl, h_⟩; replace Or := Kpt.mk (Or.out.below h_ Or.out.lt); replace hb := Kpt.mk (hb.out.trans (h_.mono hb.out.size)); clear h_; clear hm m4; have m5 : Kpt True := ⟨trivial⟩))
      | (go_at_call 14; have hm := m3; go_must (refine (N0.out _ hb.out).mono ?_; rintro e w_ ⟨rfl, rfl⟩; clear hm m3; have m4 : Kpt True := ⟨trivial⟩))
      | (go_at_call 14; have hm := m2; go_must (refine (N8.out _ hb.out).mono ?_; rintro e w_ ⟨rfl, rfl⟩; clear hm m2; have m3 : Kpt True := ⟨trivial⟩))
      | (go_at_call 14; have hm := m1; go_must (refine (N2.out _ hb.out).mono ?_; rintro e w_ ⟨rfl, rfl⟩; clear hm m1; have m2 : Kpt True := ⟨trivial⟩))
      | (refine wpList_var rfl 31 rfl zeroS zeroSi ?_; intro br w_r hl_ hX_ h_; have lr := Kpt.mk (Nat.le_trans hb.out.size hl_); replace hb := Kpt.mk (hb.out.trans (h_.mono hb.out.size)); have Or := Kpt.mk hX_; clear hl_ hX_ h_; have m1 : Kpt True := ⟨trivial⟩)
      | fail)
  refine bodyPost_ret (v := .tuple #[.agg (paS 0).vals, .bool false]) (by simp [results, Tryd.results13, asAddr, Act.put, resS_run Or.out]) rfl ⟨rfl, hb.out⟩
set_option maxRecDepth 100000 in
set_option maxHeartbeats 1000000 in
theorem head_n4 (b off len cap : Nat) (zs : List Int) (w : World) (hl : len ≤ 140737488351232) (hb_ : Bytes zs) (hc : Cs w b off len zs) (h0 : ¬ (len < 16)) (h1 : ¬ (num zs 0 2 ≠ 0)) (h2 : num zs 4 4 ≠ 0) :
    Calls Tryd.prog 13 #[.slice (some ⟨b, off, none⟩) len cap] w fun e w' => e = .returned (.tuple #[.agg (paS 4).vals, .bool false]) ∧ Below w.heap.size w w' := by
  have hS1 := Kpt.mk (fun W => tooShort_any W)
  have hSm := Kpt.mk (fun W => tooMany_any W)
  have hSf := Kpt.mk (fun f W => fault_any f W)
  have hlm : len ≤ maxLen := by unfold maxLen; omega
  have hC := fun W (hb : Below w.heap.size w W) => hc.below hb hc.1
  have N2 : ∀ W, Below w.heap.size w W → Calls Tryd.prog 14 #[.slice (some ⟨b, off, none⟩) len cap, .int .i64 2, .int .i64 2] W fun e w' => e = .returned (.int .i64 (num zs 2 2)) ∧ w' = W := fun W hb => count_any b off len cap 2 2 zs W hlm (by decide) (by decide) (by omega) hb_ (hC W hb)
  have d2 := num2_bd zs hb_ 2
  have N8 : ∀ W, Below w.heap.size w W → Calls Tryd.prog 14 #[.slice (some ⟨b, off, none⟩) len cap, .int .i64 8, .int .i64 4] W fun e w' => e = .returned (.int .i64 (num zs 8 4)) ∧ w' = W := fun W hb => count_any b off len cap 8 4 zs W hlm (by decide) (by decide) (by omega) hb_ (hC W hb)
  have d8 := num4_bd zs hb_ 8
  have N0 : ∀ W, Below w.heap.size w W → Calls Tryd.prog 14 #[.slice (some ⟨b, off, none⟩) len cap, .int .i64 0, .int .i64 2] W fun e w' => e = .returned (.int .i64 (num zs 0 2)) ∧ w' = W := fun W hb => count_any b off len cap 0 2 zs W hlm (by decide) (by decide) (by omega) hb_ (hC W hb)
  have d0 := num2_bd zs hb_ 0
  have N4 : ∀ W, Below w.heap.size w W → Calls Tryd.prog 14 #[.slice (some ⟨b, off, none⟩) len cap, .int .i64 4, .int .i64 4] W fun e w' => e = .returned (.int .i64 (num zs 4 4)) ∧ w' = W := fun W hb => count_any b off len cap 4 4 zs W hlm (by decide) (by decide) (by omega) hb_ (hC W hb)
  have d4 := num4_bd zs hb_ 4
  have N12 : ∀ W, Below w.heap.size w W → Calls Tryd.prog 14 #[.slice (some ⟨b, off, none⟩) len cap, .int .i64 12, .int .i64 4] W fun e w' => e = .returned (.int .i64 (num zs 12 4)) ∧ w' = W := fun W hb => count_any b off len cap 12 4 zs W hlm (by decide) (by decide) (by omega) hb_ (hC W hb)
  have d12 := num4_bd zs hb_ 12
  obtain ⟨u2, hu2⟩ : ∃ x, x = num zs 2 2 := ⟨_, rfl⟩
  rw [← hu2] at N2 d2 
  replace N2 := Kpt.mk N2
  obtain ⟨u8, hu8⟩ : ∃ x, x = num zs 8 4 := ⟨_, rfl⟩
  rw [← hu8] at N8 d8 
  replace N8 := Kpt.mk N8
  obtain ⟨u0, hu0⟩ : ∃ x, x = num zs 0 2 := ⟨_, rfl⟩
  rw [← hu0] at N0 d0 h1
  replace N0 := Kpt.mk N0
  obtain ⟨u4, hu4⟩ : ∃ x, x = num zs 4 4 := ⟨_, rfl⟩
  rw [← hu4] at N4 d4 h2
  replace N4 := Kpt.mk N4
  obtain ⟨u12, hu12⟩ : ∃ x, x = num zs 12 4 := ⟨_, rfl⟩
  rw [← hu12] at N12 d12 
  replace N12 := Kpt.mk N12
  replace h1 : u0 = 0 := by omega
  have hbq : (u4 == 0) = false := beq_eq_false_iff_ne.mpr h2
  obtain ⟨r2, hr2⟩ : ∃ x, u2 % 32 = x := ⟨_, rfl⟩
  obtain ⟨r8, hr8⟩ : ∃ x, u8 % 28 = x := ⟨_, rfl⟩
  clear hC hc hu2 hu8 hu0 hu4 hu12
  have hb := Kpt.mk (Below.refl w.heap.size w)
  go_enter Tryd.func13, Tryd.ntmps13
  go_wp2_with (first
      | (have hm := m6; refine wpList_store_bx rfl 31 _ _ rfl br _ (paS 4).vals rfl rfl Or.out rfl infoS (Sn.vals_one _) rfl ?_; intro w7 hX_ hg_; replace hb := Kpt.mk (hb.out.trans (bel_own hg_ hb.out.size lr.out)); replace Or := Kpt.mk hX_; clear hX_ hg_; clear hm m6; have m7 : Kpt True := ⟨trivial⟩)
      | (go_at_call 27; have hm := m5; go_must (refine (hSf.out _ _).mono ?_; rintro e w_ ⟨rfl, h_⟩; replace Or := Kpt.mk (Or.out.below h_ Or.out.lt); replace hb := Kpt.mk (hb.out.trans (h_.mono hb.out.size)); clear h_; clear hm m5; have m6 : Kpt True := ⟨trivial⟩))
      | (go_at_call 14; have hm := m4; go_must (refine (N4.out _ hb.out).mono ?_; rintro e w_ ⟨rfl, rfl⟩; clear hm m4; have m5 : Kpt True := ⟨trivial⟩))
      | (go_at_call 14; have hm := m3; go_must (refine (N0.out _ hb.out).mono ?_; rintro e w_ ⟨rfl, rfl⟩; clear hm m3; have m4 : Kpt True := ⟨trivial⟩))
      | (go_at_call 14; have hm := m2; go_must (refine (N8.out _ hb.out).mono ?_; rintro e w_ ⟨rfl, rfl⟩; clear hm m2; have m3 : Kpt True := ⟨trivial⟩))
      | (go_at_call 14; have hm := m1; go_must (refine (N2.out _ hb.out).mono ?_; rintro e w_ ⟨rfl, rfl⟩; clear hm m1; have m2 : Kpt True := ⟨trivial⟩))
      | (refine wpList_var rfl 31 rfl zeroS zeroSi ?_; intro br w_r hl_ hX_ h_; have lr := Kpt.mk (Nat.le_trans hb.out.size hl_); replace hb := Kpt.mk (hb.out.trans (h_.mono hb.out.size)); have Or := Kpt.mk hX_; clear hl_ hX_ h_; have m1 : Kpt True := ⟨trivial⟩)
      | fail)
  refine bodyPost_ret (v := .tuple #[.agg (paS 4).vals, .bool false]) (by simp [results, Tryd.results13, asAddr, Act.put, resS_run Or.out]) rfl ⟨rfl, hb.out⟩
set_option maxRecDepth 100000 in
set_option maxHeartbeats 1000000 in
theorem head_n12 (b off len cap : Nat) (zs : List Int) (w : World) (hl : len ≤ 140737488351232) (hb_ : Bytes zs) (hc : Cs w b off len zs) (h0 : ¬ (len < 16)) (h1 : ¬ (num zs 0 2 ≠ 0)) (h2 : ¬ (num zs 4 4 ≠ 0)) (h3 : num zs 12 4 ≠ 0) :
    Calls Tryd.prog 13 #[.slice (some ⟨b, off, none⟩) len cap] w fun e w' => e = .returned (.tuple #[.agg (paS 12).vals, .bool false]) ∧ Below w.heap.size w w' := by
  have hS1 := Kpt.mk (fun W => tooShort_any W)
  have hSm := Kpt.mk (fun W => tooMany_any W)
  have hSf := Kpt.mk (fun f W => fault_any f W)
  have hlm : len ≤ maxLen := by unfold maxLen; omega
  have hC := fun W (hb : Below w.heap.size w W) => hc.below hb hc.1
  have N2 : ∀ W, Below w.heap.size w W → Calls Tryd.prog 14 #[.slice (some ⟨b, off, none⟩) len cap, .int .i64 2, .int .i64 2] W fun e w' => e = .returned (.int .i64 (num zs 2 2)) ∧ w' = W := fun W hb => count_any b off len cap 2 2 zs W hlm (by decide) (by decide) (by omega) hb_ (hC W hb)
  have d2 := num2_bd zs hb_ 2
  have N8 : ∀ W, Below w.heap.size w W → Calls Tryd.prog 14 #[.slice (some ⟨b, off, none⟩) len cap, .int .i64 8, .int .i64 4] W fun e w' => e = .returned (.int .i64 (num zs 8 4)) ∧ w' = W := fun W hb => count_any b off len cap 8 4 zs W hlm (by decide) (by decide) (by omega) hb_ (hC W hb)
  have d8 := num4_bd zs hb_ 8
  have N0 : ∀ W, Below w.heap.size w W → Calls Tryd.prog 14 #[.slice (some ⟨b, off, none⟩) len cap, .int .i64 0, .int .i64 2] W fun e w' => e = .returned (.int .i64 (num zs 0 2)) ∧ w' = W := fun W hb => count_any b off len cap 0 2 zs W hlm (by decide) (by decide) (by omega) hb_ (hC W hb)
  have d0 := num2_bd zs hb_ 0
  have N4 : ∀ W, Below w.heap.size w W → Calls Tryd.prog 14 #[.slice (some ⟨b, off, none⟩) len cap, .int .i64 4, .int .i64 4] W fun e w' => e = .returned (.int .i64 (num zs 4 4)) ∧ w' = W := fun W hb => count_any b off len cap 4 4 zs W hlm (by decide) (by decide) (by omega) hb_ (hC W hb)
  have d4 := num4_bd zs hb_ 4
  have N12 : ∀ W, Below w.heap.size w W → Calls Tryd.prog 14 #[.slice (some ⟨b, off, none⟩) len cap, .int .i64 12, .int .i64 4] W fun e w' => e = .returned (.int .i64 (num zs 12 4)) ∧ w' = W := fun W hb => count_any b off len cap 12 4 zs W hlm (by decide) (by decide) (by omega) hb_ (hC W hb)
  have d12 := num4_bd zs hb_ 12
  obtain ⟨u2, hu2⟩ : ∃ x, x = num zs 2 2 := ⟨_, rfl⟩
  rw [← hu2] at N2 d2 
  replace N2 := Kpt.mk N2
  obtain ⟨u8, hu8⟩ : ∃ x, x = num zs 8 4 := ⟨_, rfl⟩
  rw [← hu8] at N8 d8 
  replace N8 := Kpt.mk N8
  obtain ⟨u0, hu0⟩ : ∃ x, x = num zs 0 2 := ⟨_, rfl⟩
  rw [← hu0] at N0 d0 h1
  replace N0 := Kpt.mk N0
  obtain ⟨u4, hu4⟩ : ∃ x, x = num zs 4 4 := ⟨_, rfl⟩
  rw [← hu4] at N4 d4 h2
  replace N4 := Kpt.mk N4
  obtain ⟨u12, hu12⟩ : ∃ x, x = num zs 12 4 := ⟨_, rfl⟩
  rw [← hu12] at N12 d12 h3
  replace N12 := Kpt.mk N12
  replace h1 : u0 = 0 := by omega
  replace h2 : u4 = 0 := by omega
  have hbq : (u12 == 0) = false := beq_eq_false_iff_ne.mpr h3
  obtain ⟨r2, hr2⟩ : ∃ x, u2 % 32 = x := ⟨_, rfl⟩
  obtain ⟨r8, hr8⟩ : ∃ x, u8 % 28 = x := ⟨_, rfl⟩
  clear hC hc hu2 hu8 hu0 hu4 hu12
  have hb := Kpt.mk (Below.refl w.heap.size w)
  go_enter Tryd.func13, Tryd.ntmps13
  go_wp2_with (first
      | (have hm := m7; refine wpList_store_bx rfl 31 _ _ rfl br _ (paS 12).vals rfl rfl Or.out rfl infoS (Sn.vals_one _) rfl ?_; intro w8 hX_ hg_; replace hb := Kpt.mk (hb.out.trans (bel_own hg_ hb.out.size lr.out)); replace Or := Kpt.mk hX_; clear hX_ hg_; clear hm m7; have m8 : Kpt True := ⟨trivial⟩)
      | (go_at_call 27; have hm := m6; go_must (refine (hSf.out _ _).mono ?_; rintro e w_ ⟨rfl, h_⟩; replace Or := Kpt.mk (Or.out.below h_ Or.out.lt); replace hb := Kpt.mk (hb.out.trans (h_.mono hb.out.size)); clear h_; clear hm m6; have m7 : Kpt True := ⟨trivial⟩))
      | (go_at_call 14; have hm := m5; go_must (refine (N12.out _ hb.out).mono ?_; rintro e w_ ⟨rfl, rfl⟩; clear hm m5; have m6 : Kpt True := ⟨trivial⟩))
      | (go_at_call 14; have hm := m4; go_must (refine (N4.out _ hb.out).mono ?_; rintro e w_ ⟨rfl, rfl⟩; clear hm m4; have m5 : Kpt True := ⟨trivial⟩))
      | (go_at_call 14; have hm := m3; go_must (refine (N0.out _ hb.out).mono ?_; rintro e w_ ⟨rfl, rfl⟩; clear hm m3; have m4 : Kpt True := ⟨trivial⟩))
      | (go_at_call 14; have hm := m2; go_must (refine (N8.out _ hb.out).mono ?_; rintro e w_ ⟨rfl, rfl⟩; clear hm m2; have m3 : Kpt True := ⟨trivial⟩))
      | (go_at_call 14; have hm := m1; go_must (refine (N2.out _ hb.out).mono ?_; rintro e w_ ⟨rfl, rfl⟩; clear hm m1; have m2 : Kpt True := ⟨trivial⟩))
      | (refine wpList_var rfl 31 rfl zeroS zeroSi ?_; intro br w_r hl_ hX_ h_; have lr := Kpt.mk (Nat.le_trans hb.out.size hl_); replace hb := Kpt.mk (hb.out.trans (h_.mono hb.out.size)); have Or := Kpt.mk hX_; clear hl_ hX_ h_; have m1 : Kpt True := ⟨trivial⟩)
      | fail)
  refine bodyPost_ret (v := .tuple #[.agg (paS 12).vals, .bool false]) (by simp [results, Tryd.results13, asAddr, Act.put, resS_run Or.out]) rfl ⟨rfl, hb.out⟩
set_option maxRecDepth 100000 in
set_option maxHeartbeats 1000000 in
theorem head_u (b off len cap : Nat) (zs : List Int) (w : World) (hl : len ≤ 140737488351232) (hb_ : Bytes zs) (hc : Cs w b off len zs) (h0 : ¬ (len < 16)) (h1 : ¬ (num zs 0 2 ≠ 0)) (h2 : ¬ (num zs 4 4 ≠ 0)) (h3 : ¬ (num zs 12 4 ≠ 0)) (h4 : num zs 2 2 % 32 ≠ 0) :
    Calls Tryd.prog 13 #[.slice (some ⟨b, off, none⟩) len cap] w fun e w' => e = .returned (.tuple #[.agg (paS 2).vals, .bool false]) ∧ Below w.heap.size w w' := by
  have hS1 := Kpt.mk (fun W => tooShort_any W)
  have hSm := Kpt.mk (fun W => tooMany_any W)
  have hSf := Kpt.mk (fun f W => fault_any f W)
  have hlm : len ≤ maxLen := by unfold maxLen; omega
  have hC := fun W (hb : Below w.heap.size w W) => hc.below hb hc.1
  have N2 : ∀ W, Below w.heap.size w W → Calls Tryd.prog 14 #[.slice (some ⟨b, off, none⟩) len cap, .int .i64 2, .int .i64 2] W fun e w' => e = .returned (.int .i64 (num zs 2 2)) ∧ w' = W := fun W hb => count_any b off len cap 2 2 zs W hlm (by decide) (by decide) (by omega) hb_ (hC W hb)
  have d2 := num2_bd zs hb_ 2
  have N8 : ∀ W, Below w.heap.size w W → Calls Tryd.prog 14 #[.slice (some ⟨b, off, none⟩) len cap, .int .i64 8, .int .i64 4] W fun e w' => e = .returned (.int .i64 (num zs 8 4)) ∧ w' = W := fun W hb => count_any b off len cap 8 4 zs W hlm (by decide) (by decide) (by omega) hb_ (hC W hb)
  have d8 := num4_bd zs hb_ 8
  have N0 : ∀ W, Below w.heap.size w W → Calls Tryd.prog 14 #[.slice (some ⟨b, off, none⟩) len cap, .int .i64 0, .int .i64 2] W fun e w' => e = .returned (.int .i64 (num zs 0 2)) ∧ w' = W := fun W hb => count_any b off len cap 0 2 zs W hlm (by decide) (by decide) (by omega) hb_ (hC W hb)
  have d0 := num2_bd zs hb_ 0
  have N4 : ∀ W, Below w.heap.size w W → Calls Tryd.prog 14 #[.slice (some ⟨b, off, none⟩) len cap, .int .i64 4, .int .i64 4] W fun e w' => e = .returned (.int .i64 (num zs 4 4)) ∧ w' = W := fun W hb => count_any b off len cap 4 4 zs W hlm (by decide) (by decide) (by omega) hb_ (hC W hb)
  have d4 := num4_bd zs hb_ 4
  have N12 : ∀ W, Below w.heap.size w W → Calls Tryd.prog 14 #[.slice (some ⟨b, off, none⟩) len cap, .int .i64 12, .int .i64 4] W fun e w' => e = .returned (.int .i64 (num zs 12 4)) ∧ w' = W := fun W hb => count_any b off len cap 12 4 zs W hlm (by decide) (by decide) (by omega) hb_ (hC W hb)
  have d12 := num4_bd zs hb_ 12
  obtain ⟨u2, hu2⟩ : ∃ x, x = num zs 2 2 := ⟨_, rfl⟩
  rw [← hu2] at N2 d2 h4
  replace N2 := Kpt.mk N2
  obtain ⟨u8, hu8⟩ : ∃ x, x = num zs 8 4 := ⟨_, rfl⟩
  rw [← hu8] at N8 d8 
  replace N8 := Kpt.mk N8
  obtain ⟨u0, hu0⟩ : ∃ x, x = num zs 0 2 := ⟨_, rfl⟩
  rw [← hu0] at N0 d0 h1
  replace N0 := Kpt.mk N0
  obtain ⟨u4, hu4⟩ : ∃ x, x = num zs 4 4 := ⟨_, rfl⟩
  rw [← hu4] at N4 d4 h2
  replace N4 := Kpt.mk N4
  obtain ⟨u12, hu12⟩ : ∃ x, x = num zs 12 4 := ⟨_, rfl⟩
  rw [← hu12] at N12 d12 h3
  replace N12 := Kpt.mk N12
  replace h1 : u0 = 0 := by omega
  replace h2 : u4 = 0 := by omega
  replace h3 : u12 = 0 := by omega
  obtain ⟨r2, hr2⟩ : ∃ x, u2 % 32 = x := ⟨_, rfl⟩
  rw [hr2] at h4
  have hbq : (r2 == 0) = false := beq_eq_false_iff_ne.mpr h4
  obtain ⟨r8, hr8⟩ : ∃ x, u8 % 28 = x := ⟨_, rfl⟩
  clear hC hc hu2 hu8 hu0 hu4 hu12
  have hb := Kpt.mk (Below.refl w.heap.size w)
  go_enter Tryd.func13, Tryd.ntmps13
  go_wp2_with (first
      | (have hm := m7; refine wpList_store_bx rfl 31 _ _ rfl br _ (paS 2).vals rfl rfl Or.out rfl infoS (Sn.vals_one _) rfl ?_; intro w8 hX_ hg_; replace hb := Kpt.mk (hb.out.trans (bel_own hg_ hb.out.size lr.out)); replace Or := Kpt.mk hX_; clear hX_ hg_; clear hm m7; have m8 : Kpt True := ⟨trivial⟩)
      | (go_at_call 27; have hm := m6; go_must (refine (hSf.out _ _).mono ?_; rintro e w_ ⟨rfl, h_⟩; replace Or := Kpt.mk (Or.out.below h_ Or.out.lt); replace hb := Kpt.mk (hb.out.trans (h_.mono hb.out.size)); clear h_; clear hm m6; have m7 : Kpt True := ⟨trivial⟩))
      | (go_at_call 14; have hm := m5; go_must (refine (N12.out _ hb.out).mono ?_; rintro e w_ ⟨rfl, rfl⟩; clear hm m5; have m6 : Kpt True := ⟨trivial⟩))
      | (go_at_call 14; have hm := m4; go_must (refine (N4.out _ hb.out).mono ?_; rintro e w_ ⟨rfl, rfl⟩; clear hm m4; have m5 : Kpt True := ⟨trivial⟩))
      | (go_at_call 14; have hm := m3; go_must (refine (N0.out _ hb.out).mono ?_; rintro e w_ ⟨rfl, rfl⟩; clear hm m3; have m4 : Kpt True := ⟨trivial⟩))
      | (go_at_call 14; have hm := m2; go_must (refine (N8.out _ hb.out).mono ?_; rintro e w_ ⟨rfl, rfl⟩; clear hm m2; have m3 : Kpt True := ⟨trivial⟩))
      | (go_at_call 14; have hm := m1; go_must (refine (N2.out _ hb.out).mono ?_; rintro e w_ ⟨rfl, rfl⟩; clear hm m1; have m2 : Kpt True := ⟨trivial⟩))
      | (refine wpList_var rfl 31 rfl zeroS zeroSi ?_; intro br w_r hl_ hX_ h_; have lr := Kpt.mk (Nat.le_trans hb.out.size hl_); replace hb := Kpt.mk (hb.out.trans (h_.mono hb.out.size)); have Or := Kpt.mk hX_; clear hl_ hX_ h_; have m1 : Kpt True := ⟨trivial⟩)
      | fail)
  refine bodyPost_ret (v := .tuple #[.agg (paS 2).vals, .bool false]) (by simp [results, Tryd.results13, asAddr, Act.put, resS_run Or.out]) rfl ⟨rfl, hb.out⟩
set_option maxRecDepth 100000 in
set_option maxHeartbeats 1000000 in
theorem head_s (b off len cap : Nat) (zs : List Int) (w : World) (hl : len ≤ 140737488351232) (hb_ : Bytes zs) (hc : Cs w b off len zs) (h0 : ¬ (len < 16)) (h1 : ¬ (num zs 0 2 ≠ 0)) (h2 : ¬ (num zs 4 4 ≠ 0)) (h3 : ¬ (num zs 12 4 ≠ 0)) (h4 : ¬ (num zs 2 2 % 32 ≠ 0)) (h5 : num zs 8 4 % 28 ≠ 0) :
    Calls Tryd.prog 13 #[.slice (some ⟨b, off, none⟩) len cap] w fun e w' => e = .returned (.tuple #[.agg (paS 8).vals, .bool false]) ∧ Below w.heap.size w w' := by
  have hS1 := Kpt.mk (fun W => tooShort_any W)
  have hSm := Kpt.mk (fun W => tooMany_any W)
  have hSf := Kpt.mk (fun f W => fault_any f W)
  have hlm : len ≤ maxLen := by unfold maxLen; omega
  have hC := fun W (hb : Below w.heap.size w W) => hc.below hb hc.1
  have N2 : ∀ W, Below w.heap.size w W → Calls Tryd.prog 14 #[.slice (some ⟨b, off, none⟩) len cap, .int .i64 2, .int .i64 2] W fun e w' => e = .returned (.int .i64 (num zs 2 2)) ∧ w' = W := fun W hb => count_any b off len cap 2 2 zs W hlm (by decide) (by decide) (by omega) hb_ (hC W hb)
  have d2 := num2_bd zs hb_ 2
  have N8 : ∀ W, Below w.heap.size w W → Calls Tryd.prog 14 #[.slice (some ⟨b, off, none⟩) len cap, .int .i64 8, .int .i64 4] W fun e w' => e = .returned (.int .i64 (num zs 8 4)) ∧ w' = W := fun W hb => count_any b off len cap 8 4 zs W hlm (by decide) (by decide) (by omega) hb_ (hC W hb)
  have d8 := num4_bd zs hb_ 8
  have N0 : ∀ W, Below w.heap.size w W → Calls Tryd.prog 14 #[.slice (some ⟨b, off, none⟩) len cap, .int .i64 0, .int .i64 2] W fun e w' => e = .returned (.int .i64 (num zs 0 2)) ∧ w' = W := fun W hb => count_any b off len cap 0 2 zs W hlm (by decide) (by decide) (by omega) hb_ (hC W hb)
  have d0 := num2_bd zs hb_ 0
  have N4 : ∀ W, Below w.heap.size w W → Calls Tryd.prog 14 #[.slice (some ⟨b, off, none⟩) len cap, .int .i64 4, .int .i64 4] W fun e w' => e = .returned (.int .i64 (num zs 4 4)) ∧ w' = W := fun W hb => count_any b off len cap 4 4 zs W hlm (by decide) (by decide) (by omega) hb_ (hC W hb)
  have d4 := num4_bd zs hb_ 4
  have N12 : ∀ W, Below w.heap.size w W → Calls Tryd.prog 14 #[.slice (some ⟨b, off, none⟩) len cap, .int .i64 12, .int .i64 4] W fun e w' => e = .returned (.int .i64 (num zs 12 4)) ∧ w' = W := fun W hb => count_any b off len cap 12 4 zs W hlm (by decide) (by decide) (by omega) hb_ (hC W hb)
  have d12 := num4_bd zs hb_ 12
  obtain ⟨u2, hu2⟩ : ∃ x, x = num zs 2 2 := ⟨_, rfl⟩
  rw [← hu2] at N2 d2 h4
  replace N2 := Kpt.mk N2
  obtain ⟨u8, hu8⟩ : ∃ x, x = num zs 8 4 := ⟨_, rfl⟩
  rw [← hu8] at N8 d8 h5
  replace N8 := Kpt.mk N8
  obtain ⟨u0, hu0⟩ : ∃ x, x = num zs 0 2 := ⟨_, rfl⟩
  rw [← hu0] at N0 d0 h1
  replace N0 := Kpt.mk N0
  obtain ⟨u4, hu4⟩ : ∃ x, x = num zs 4 4 := ⟨_, rfl⟩
  rw [← hu4] at N4 d4 h2
  replace N4 := Kpt.mk N4
  obtain ⟨u12, hu12⟩ : ∃ x, x = num zs 12 4 := ⟨_, rfl⟩
  rw [← hu12] at N12 d12 h3
  replace N12 := Kpt.mk N12
  replace h1 : u0 = 0 := by omega
  replace h2 : u4 = 0 := by omega
  replace h3 : u12 = 0 := by omega
  obtain ⟨r2, hr2⟩ : ∃ x, u2 % 32 = x := ⟨_, rfl⟩
  rw [hr2] at h4
  replace h4 : r2 = 0 := by omega
  subst h4
  obtain ⟨r8, hr8⟩ : ∃ x, u8 % 28 = x := ⟨_, rfl⟩
  rw [hr8] at h5
  have hbq : (r8 == 0) = false := beq_eq_false_iff_ne.mpr h5
  clear hC hc hu2 hu8 hu0 hu4 hu12
  have hb := Kpt.mk (Below.refl w.heap.size w)
  go_enter Tryd.func13, Tryd.ntmps13
  go_wp2_with (first
      | (have hm := m7; refine wpList_store_bx rfl 31 _ _ rfl br _ (paS 8).vals rfl rfl Or.out rfl infoS (Sn.vals_one _) rfl ?_; intro w8 hX_ hg_; replace hb := Kpt.mk (hb.out.trans (bel_own hg_ hb.out.size lr.out)); replace Or := Kpt.mk hX_; clear hX_ hg_; clear hm m7; have m8 : Kpt True := ⟨trivial⟩)
      | (go_at_call 27; have hm := m6; go_must (refine (hSf.out _ _).mono ?_; rintro e w_ ⟨rfl, h_⟩; replace Or := Kpt.mk (Or.out.below h_ Or.out.lt); replace hb := Kpt.mk (hb.out.trans (h_.mono hb.out.size)); clear h_; clear hm m6; have m7 : Kpt True := ⟨trivial⟩))
      | (go_at_call 14; have hm := m5; go_must (refine (N12.out _ hb.out).mono ?_; rintro e w_ ⟨rfl, rfl⟩; clear hm m5; have m6 : Kpt True := ⟨trivial⟩))
      | (go_at_call 14; have hm := m4; go_must (refine (N4.out _ hb.out).mono ?_; rintro e w_ ⟨rfl, rfl⟩; clear hm m4; have m5 : Kpt True := ⟨trivial⟩))
      | (go_at_call 14; have hm := m3; go_must (refine (N0.out _ hb.out).mono ?_; rintro e w_ ⟨rfl, rfl⟩; clear hm m3; have m4 : Kpt True := ⟨trivial⟩))
      | (go_at_call 14; have hm := m2; go_must (refine (N8.out _ hb.out).mono ?_; rintro e w_ ⟨rfl, rfl⟩; clear hm m2; have m3 : Kpt True := ⟨trivial⟩))
      | (go_at_call 14; have hm := m1; go_must (refine (N2.out _ hb.out).mono ?_; rintro e w_ ⟨rfl, rfl⟩; clear hm m1; have m2 : Kpt True := ⟨trivial⟩))
      | (refine wpList_var rfl 31 rfl zeroS zeroSi ?_; intro br w_r hl_ hX_ h_; have lr := Kpt.mk (Nat.le_trans hb.out.size hl_); replace hb := Kpt.mk (hb.out.trans (h_.mono hb.out.size)); have Or := Kpt.mk hX_; clear hl_ hX_ h_; have m1 : Kpt True := ⟨trivial⟩)
      | fail)
  refine bodyPost_ret (v := .tuple #[.agg (paS 8).vals, .bool false]) (by simp [results, Tryd.results13, asAddr, Act.put, resS_run Or.out]) rfl ⟨rfl, hb.out⟩
set_option maxRecDepth 100000 in
set_option maxHeartbeats 1000000 in
theorem head_len (b off len cap : Nat) (zs : List Int) (w : World) (hl : len ≤ 140737488351232) (hb_ : Bytes zs) (hc : Cs w b off len zs) (h0 : ¬ (len < 16)) (h1 : ¬ (num zs 0 2 ≠ 0)) (h2 : ¬ (num zs 4 4 ≠ 0)) (h3 : ¬ (num zs 12 4 ≠ 0)) (h4 : ¬ (num zs 2 2 % 32 ≠ 0)) (h5 : ¬ (num zs 8 4 % 28 ≠ 0)) (h6 : (len : Int) ≠ 16 + num zs 2 2 + num zs 8 4) :
    Calls Tryd.prog 13 #[.slice (some ⟨b, off, none⟩) len cap] w fun e w' => e = .returned (.tuple #[.agg (plS 5 6656).vals, .bool false]) ∧ Below w.heap.size w w' := by
  have hS1 := Kpt.mk (fun W => tooShort_any W)
  have hSm := Kpt.mk (fun W => tooMany_any W)
  have hSf := Kpt.mk (fun f W => fault_any f W)
  have hlm : len ≤ maxLen := by unfold maxLen; omega
  have hC := fun W (hb : Below w.heap.size w W) => hc.below hb hc.1
  have N2 : ∀ W, Below w.heap.size w W → Calls Tryd.prog 14 #[.slice (some ⟨b, off, none⟩) len cap, .int .i64 2, .int .i64 2] W fun e w' => e = .returned (.int .i64 (num zs 2 2)) ∧ w' = W := fun W hb => count_any b off len cap 2 2 zs W hlm (by decide) (by decide) (by omega) hb_ (hC W hb)
  have d2 := num2_bd zs hb_ 2
  have N8 : ∀ W, Below w.heap.size w W → Calls Tryd.prog 14 #[.slice (some ⟨b, off, none⟩) len cap, .int .i64 8, .int .i64 4] W fun e w' => e = .returned (.int .i64 (num zs 8 4)) ∧ w' = W := fun W hb => count_any b off len cap 8 4 zs W hlm (by decide) (by decide) (by omega) hb_ (hC W hb)
  have d8 := num4_bd zs hb_ 8
  have N0 : ∀ W, Below w.heap.size w W → Calls Tryd.prog 14 #[.slice (some ⟨b, off, none⟩) len cap, .int .i64 0, .int .i64 2] W fun e w' => e = .returned (.int .i64 (num zs 0 2)) ∧ w' = W := fun W hb => count_any b off len cap 0 2 zs W hlm (by decide) (by decide) (by omega) hb_ (hC W hb)
  have d0 := num2_bd zs hb_ 0
  have N4 : ∀ W, Below w.heap.size w W → Calls Tryd.prog 14 #[.slice (some ⟨b, off, none⟩) len cap, .int .i64 4, .int .i64 4] W fun e w' => e = .returned (.int .i64 (num zs 4 4)) ∧ w' = W := fun W hb => count_any b off len cap 4 4 zs W hlm (by decide) (by decide) (by omega) hb_ (hC W hb)
  have d4 := num4_bd zs hb_ 4
  have N12 : ∀ W, Below w.heap.size w W → Calls Tryd.prog 14 #[.slice (some ⟨b, off, none⟩) len cap, .int .i64 12, .int .i64 4] W fun e w' => e = .returned (.int .i64 (num zs 12 4)) ∧ w' = W := fun W hb => count_any b off len cap 12 4 zs W hlm (by decide) (by decide) (by omega) hb_ (hC W hb)
  have d12 := num4_bd zs hb_ 12
  obtain ⟨u2, hu2⟩ : ∃ x, x = num zs 2 2 := ⟨_, rfl⟩
  rw [← hu2] at N2 d2 h4 h6
  replace N2 := Kpt.mk N2
  obtain ⟨u8, hu8⟩ : ∃ x, x = num zs 8 4 := ⟨_, rfl⟩
  rw [← hu8] at N8 d8 h5 h6
  replace N8 := Kpt.mk N8
  obtain ⟨u0, hu0⟩ : ∃ x, x = num zs 0 2 := ⟨_, rfl⟩
  rw [← hu0] at N0 d0 h1
  replace N0 := Kpt.mk N0
  obtain ⟨u4, hu4⟩ : ∃ x, x = num zs 4 4 := ⟨_, rfl⟩
  rw [← hu4] at N4 d4 h2
  replace N4 := Kpt.mk N4
  obtain ⟨u12, hu12⟩ : ∃ x, x = num zs 12 4 := ⟨_, rfl⟩
  rw [← hu12] at N12 d12 h3
  replace N12 := Kpt.mk N12
  replace h1 : u0 = 0 := by omega
  replace h2 : u4 = 0 := by omega
  replace h3 : u12 = 0 := by omega
  obtain ⟨r2, hr2⟩ : ∃ x, u2 % 32 = x := ⟨_, rfl⟩
  rw [hr2] at h4
  replace h4 : r2 = 0 := by omega
  subst h4
  obtain ⟨r8, hr8⟩ : ∃ x, u8 % 28 = x := ⟨_, rfl⟩
  rw [hr8] at h5
  replace h5 : r8 = 0 := by omega
  subst h5
  have hbq : ((len : Int) == 16 + u2 + u8) = false := beq_eq_false_iff_ne.mpr h6
  clear hC hc hu2 hu8 hu0 hu4 hu12
  have hb := Kpt.mk (Below.refl w.heap.size w)
  go_enter Tryd.func13, Tryd.ntmps13
  go_wp2_with (first
      | (have hm := m7; refine wpList_store_bx rfl 31 _ _ rfl br _ (plS 5 6656).vals rfl rfl Or.out rfl infoS (Sn.vals_one _) rfl ?_; intro w8 hX_ hg_; replace hb := Kpt.mk (hb.out.trans (bel_own hg_ hb.out.size lr.out)); replace Or := Kpt.mk hX_; clear hX_ hg_; clear hm m7; have m8 : Kpt True := ⟨trivial⟩)
      | (go_at_call 26; have hm := m6; go_must (refine (hS1.out _).mono ?_; rintro e w_ ⟨rfl, h_⟩; replace Or := Kpt.mk (Or.out.below h_ Or.out.lt); replace hb := Kpt.mk (hb.out.trans (h_.mono hb.out.size)); clear h_; clear hm m6; have m7 : Kpt True := ⟨trivial⟩))
      | (go_at_call 14; have hm := m5; go_must (refine (N12.out _ hb.out).mono ?_; rintro e w_ ⟨rfl, rfl⟩; clear hm m5; have m6 : Kpt True := ⟨trivial⟩))
      | (go_at_call 14; have hm := m4; go_must (refine (N4.out _ hb.out).mono ?_; rintro e w_ ⟨rfl, rfl⟩; clear hm m4; have m5 : Kpt True := ⟨trivial⟩))
      | (go_at_call 14; have hm := m3; go_must (refine (N0.out _ hb.out).mono ?_; rintro e w_ ⟨rfl, rfl⟩; clear hm m3; have m4 : Kpt True := ⟨trivial⟩))
      | (go_at_call 14; have hm := m2; go_must (refine (N8.out _ hb.out).mono ?_; rintro e w_ ⟨rfl, rfl⟩; clear hm m2; have m3 : Kpt True := ⟨trivial⟩))
      | (go_at_call 14; have hm := m1; go_must (refine (N2.out _ hb.out).mono ?_; rintro e w_ ⟨rfl, rfl⟩; clear hm m1; have m2 : Kpt True := ⟨trivial⟩))
      | (refine wpList_var rfl 31 rfl zeroS zeroSi ?_; intro br w_r hl_ hX_ h_; have lr := Kpt.mk (Nat.le_trans hb.out.size hl_); replace hb := Kpt.mk (hb.out.trans (h_.mono hb.out.size)); have Or := Kpt.mk hX_; clear hl_ hX_ h_; have m1 : Kpt True := ⟨trivial⟩)
      | fail)
  refine bodyPost_ret (v := .tuple #[.agg (plS 5 6656).vals, .bool false]) (by simp [results, Tryd.results13, asAddr, Act.put, resS_run Or.out]) rfl ⟨rfl, hb.out⟩
set_option maxRecDepth 100000 in
set_option maxHeartbeats 1000000 in
theorem head_many (b off len cap : Nat) (zs : List Int) (w : World) (hl : len ≤ 140737488351232) (hb_ : Bytes zs) (hc : Cs w b off len zs) (h0 : ¬ (len < 16)) (h1 : ¬ (num zs 0 2 ≠ 0)) (h2 : ¬ (num zs 4 4 ≠ 0)) (h3 : ¬ (num zs 12 4 ≠ 0)) (h4 : ¬ (num zs 2 2 % 32 ≠ 0)) (h5 : ¬ (num zs 8 4 % 28 ≠ 0)) (h6 : ¬ ((len : Int) ≠ 16 + num zs 2 2 + num zs 8 4)) (h7 : (224 < num zs 8 4 ∨ 256 < num zs 2 2)) :
    Calls Tryd.prog 13 #[.slice (some ⟨b, off, none⟩) len cap] w fun e w' => e = .returned (.tuple #[.agg (plS 5 9736).vals, .bool false]) ∧ Below w.heap.size w w' := by
  have hS1 := Kpt.mk (fun W => tooShort_any W)
  have hSm := Kpt.mk (fun W => tooMany_any W)
  have hSf := Kpt.mk (fun f W => fault_any f W)
  have hlm : len ≤ maxLen := by unfold maxLen; omega
  have hC := fun W (hb : Below w.heap.size w W) => hc.below hb hc.1
  have N2 : ∀ W, Below w.heap.size w W → Calls Tryd.prog 14 #[.slice (some ⟨b, off, none⟩) len cap, .int .i64 2, .int .i64 2] W fun e w' => e = .returned (.int .i64 (num zs 2 2)) ∧ w' = W := fun W hb => count_any b off len cap 2 2 zs W hlm (by decide) (by decide) (by omega) hb_ (hC W hb)
  have d2 := num2_bd zs hb_ 2
  have N8 : ∀ W, Below w.heap.size w W → Calls Tryd.prog 14 #[.slice (some ⟨b, off, none⟩) len cap, .int .i64 8, .int .i64 4] W fun e w' => e = .returned (.int .i64 (num zs 8 4)) ∧ w' = W := fun W hb => count_any b off len cap 8 4 zs W hlm (by decide) (by decide) (by omega) hb_ (hC W hb)
  have d8 := num4_bd zs hb_ 8
  have N0 : ∀ W, Below w.heap.size w W → Calls Tryd.prog 14 #[.slice (some ⟨b, off, none⟩) len cap, .int .i64 0, .int .i64 2] W fun e w' => e = .returned (.int .i64 (num zs 0 2)) ∧ w' = W := fun W hb => count_any b off len cap 0 2 zs W hlm (by decide) (by decide) (by omega) hb_ (hC W hb)
  have d0 := num2_bd zs hb_ 0
  have N4 : ∀ W, Below w.heap.size w W → Calls Tryd.prog 14 #[.slice (some ⟨b, off, none⟩) len cap, .int .i64 4, .int .i64 4] W fun e w' => e = .returned (.int .i64 (num zs 4 4)) ∧ w' = W := fun W hb => count_any b off len cap 4 4 zs W hlm (by decide) (by decide) (by omega) hb_ (hC W hb)
  have d4 := num4_bd zs hb_ 4
  have N12 : ∀ W, Below w.heap.size w W → Calls Tryd.prog 14 #[.slice (some ⟨b, off, none⟩) len cap, .int .i64 12, .int .i64 4] W fun e w' => e = .returned (.int .i64 (num zs 12 4)) ∧ w' = W := fun W hb => count_any b off len cap 12 4 zs W hlm (by decide) (by decide) (by omega) hb_ (hC W hb)
  have d12 := num4_bd zs hb_ 12
  obtain ⟨u2, hu2⟩ : ∃ x, x = num zs 2 2 := ⟨_, rfl⟩
  rw [← hu2] at N2 d2 h4 h6 h7
  replace N2 := Kpt.mk N2
  obtain ⟨u8, hu8⟩ : ∃ x, x = num zs 8 4 := ⟨_, rfl⟩
  rw [← hu8] at N8 d8 h5 h6 h7
  replace N8 := Kpt.mk N8
  obtain ⟨u0, hu0⟩ : ∃ x, x = num zs 0 2 := ⟨_, rfl⟩
  rw [← hu0] at N0 d0 h1
  replace N0 := Kpt.mk N0
  obtain ⟨u4, hu4⟩ : ∃ x, x = num zs 4 4 := ⟨_, rfl⟩
  rw [← hu4] at N4 d4 h2
  replace N4 := Kpt.mk N4
  obtain ⟨u12, hu12⟩ : ∃ x, x = num zs 12 4 := ⟨_, rfl⟩
  rw [← hu12] at N12 d12 h3
  replace N12 := Kpt.mk N12
  replace h1 : u0 = 0 := by omega
  replace h2 : u4 = 0 := by omega
  replace h3 : u12 = 0 := by omega
  obtain ⟨r2, hr2⟩ : ∃ x, u2 % 32 = x := ⟨_, rfl⟩
  rw [hr2] at h4
  replace h4 : r2 = 0 := by omega
  subst h4
  obtain ⟨r8, hr8⟩ : ∃ x, u8 % 28 = x := ⟨_, rfl⟩
  rw [hr8] at h5
  replace h5 : r8 = 0 := by omega
  subst h5
  replace h6 : (len : Int) = 16 + u2 + u8 := by omega
  have hbq6 : ((len : Int) == 16 + u2 + u8) = true := by simpa using h6
  replace h6 := Kpt.mk h6
  clear hC hc hu2 hu8 hu0 hu4 hu12
  have hb := Kpt.mk (Below.refl w.heap.size w)
  by_cases hq1 : 224 < u8
  · clear h7
    go_enter Tryd.func13, Tryd.ntmps13
    go_wp2_with (first
        | (have hm := m7; refine wpList_store_bx rfl 31 _ _ rfl br _ (plS 5 9736).vals rfl rfl Or.out rfl infoS (Sn.vals_one _) rfl ?_; intro w8 hX_ hg_; replace hb := Kpt.mk (hb.out.trans (bel_own hg_ hb.out.size lr.out)); replace Or := Kpt.mk hX_; clear hX_ hg_; clear hm m7; have m8 : Kpt True := ⟨trivial⟩)
        | (go_at_call 28; have hm := m6; go_must (refine (hSm.out _).mono ?_; rintro e w_ ⟨rfl, h_⟩; replace Or := Kpt.mk (Or.out.below h_ Or.out.lt); replace hb := Kpt.mk (hb.out.trans (h_.mono hb.out.size)); clear h_; clear hm m6; have m7 : Kpt True := ⟨trivial⟩))
        | (go_at_call 14; have hm := m5; go_must (refine (N12.out _ hb.out).mono ?_; rintro e w_ ⟨rfl, rfl⟩; clear hm m5; have m6 : Kpt True := ⟨trivial⟩))
        | (go_at_call 14; have hm := m4; go_must (refine (N4.out _ hb.out).mono ?_; rintro e w_ ⟨rfl, rfl⟩; clear hm m4; have m5 : Kpt True := ⟨trivial⟩))
        | (go_at_call 14; have hm := m3; go_must (refine (N0.out _ hb.out).mono ?_; rintro e w_ ⟨rfl, rfl⟩; clear hm m3; have m4 : Kpt True := ⟨trivial⟩))
        | (go_at_call 14; have hm := m2; go_must (refine (N8.out _ hb.out).mono ?_; rintro e w_ ⟨rfl, rfl⟩; clear hm m2; have m3 : Kpt True := ⟨trivial⟩))
        | (go_at_call 14; have hm := m1; go_must (refine (N2.out _ hb.out).mono ?_; rintro e w_ ⟨rfl, rfl⟩; clear hm m1; have m2 : Kpt True := ⟨trivial⟩))
        | (refine wpList_var rfl 31 rfl zeroS zeroSi ?_; intro br w_r hl_ hX_ h_; have lr := Kpt.mk (Nat.le_trans hb.out.size hl_); replace hb := Kpt.mk (hb.out.trans (h_.mono hb.out.size)); have Or := Kpt.mk hX_; clear hl_ hX_ h_; have m1 : Kpt True := ⟨trivial⟩)
        | fail)
    refine bodyPost_ret (v := .tuple #[.agg (plS 5 9736).vals, .bool false]) (by simp [results, Tryd.results13, asAddr, Act.put, resS_run Or.out]) rfl ⟨rfl, hb.out⟩
  · have hq2 : 256 < u2 := h7.resolve_left hq1
    clear h7
    go_enter Tryd.func13, Tryd.ntmps13
    go_wp2_with (first
        | (have hm := m7; refine wpList_store_bx rfl 31 _ _ rfl br _ (plS 5 9736).vals rfl rfl Or.out rfl infoS (Sn.vals_one _) rfl ?_; intro w8 hX_ hg_; replace hb := Kpt.mk (hb.out.trans (bel_own hg_ hb.out.size lr.out)); replace Or := Kpt.mk hX_; clear hX_ hg_; clear hm m7; have m8 : Kpt True := ⟨trivial⟩)
        | (go_at_call 28; have hm := m6; go_must (refine (hSm.out _).mono ?_; rintro e w_ ⟨rfl, h_⟩; replace Or := Kpt.mk (Or.out.below h_ Or.out.lt); replace hb := Kpt.mk (hb.out.trans (h_.mono hb.out.size)); clear h_; clear hm m6; have m7 : Kpt True := ⟨trivial⟩))
        | (go_at_call 14; have hm := m5; go_must (refine (N12.out _ hb.out).mono ?_; rintro e w_ ⟨rfl, rfl⟩; clear hm m5; have m6 : Kpt True := ⟨trivial⟩))
        | (go_at_call 14; have hm := m4; go_must (refine (N4.out _ hb.out).mono ?_; rintro e w_ ⟨rfl, rfl⟩; clear hm m4; have m5 : Kpt True := ⟨trivial⟩))
        | (go_at_call 14; have hm := m3; go_must (refine (N0.out _ hb.out).mono ?_; rintro e w_ ⟨rfl, rfl⟩; clear hm m3; have m4 : Kpt True := ⟨trivial⟩))
        | (go_at_call 14; have hm := m2; go_must (refine (N8.out _ hb.out).mono ?_; rintro e w_ ⟨rfl, rfl⟩; clear hm m2; have m3 : Kpt True := ⟨trivial⟩))
        | (go_at_call 14; have hm := m1; go_must (refine (N2.out _ hb.out).mono ?_; rintro e w_ ⟨rfl, rfl⟩; clear hm m1; have m2 : Kpt True := ⟨trivial⟩))
        | (refine wpList_var rfl 31 rfl zeroS zeroSi ?_; intro br w_r hl_ hX_ h_; have lr := Kpt.mk (Nat.le_trans hb.out.size hl_); replace hb := Kpt.mk (hb.out.trans (h_.mono hb.out.size)); have Or := Kpt.mk hX_; clear hl_ hX_ h_; have m1 : Kpt True := ⟨trivial⟩)
        | fail)
    refine bodyPost_ret (v := .tuple #[.agg (plS 5 9736).vals, .bool false]) (by simp [results, Tryd.results13, asAddr, Act.put, resS_run Or.out]) rfl ⟨rfl, hb.out⟩
set_option maxRecDepth 100000 in
set_option maxHeartbeats 1000000 in
theorem head_ok (b off len cap : Nat) (zs : List Int) (w : World) (hl : len ≤ 140737488351232) (hb_ : Bytes zs) (hc : Cs w b off len zs) (h0 : ¬ (len < 16)) (h1 : ¬ (num zs 0 2 ≠ 0)) (h2 : ¬ (num zs 4 4 ≠ 0)) (h3 : ¬ (num zs 12 4 ≠ 0)) (h4 : ¬ (num zs 2 2 % 32 ≠ 0)) (h5 : ¬ (num zs 8 4 % 28 ≠ 0)) (h6 : ¬ ((len : Int) ≠ 16 + num zs 2 2 + num zs 8 4)) (h7 : ¬ ((224 < num zs 8 4 ∨ 256 < num zs 2 2))) :
    Calls Tryd.prog 13 #[.slice (some ⟨b, off, none⟩) len cap] w fun e w' => e = .returned (.tuple #[.agg (noS).vals, .bool true]) ∧ Below w.heap.size w w' := by
  have hS1 := Kpt.mk (fun W => tooShort_any W)
  have hSm := Kpt.mk (fun W => tooMany_any W)
  have hSf := Kpt.mk (fun f W => fault_any f W)
  have hlm : len ≤ maxLen := by unfold maxLen; omega
  have hC := fun W (hb : Below w.heap.size w W) => hc.below hb hc.1
  have N2 : ∀ W, Below w.heap.size w W → Calls Tryd.prog 14 #[.slice (some ⟨b, off, none⟩) len cap, .int .i64 2, .int .i64 2] W fun e w' => e = .returned (.int .i64 (num zs 2 2)) ∧ w' = W := fun W hb => count_any b off len cap 2 2 zs W hlm (by decide) (by decide) (by omega) hb_ (hC W hb)
  have d2 := num2_bd zs hb_ 2
  have N8 : ∀ W, Below w.heap.size w W → Calls Tryd.prog 14 #[.slice (some ⟨b, off, none⟩) len cap, .int .i64 8, .int .i64 4] W fun e w' => e = .returned (.int .i64 (num zs 8 4)) ∧ w' = W := fun W hb => count_any b off len cap 8 4 zs W hlm (by decide) (by decide) (by omega) hb_ (hC W hb)
  have d8 := num4_bd zs hb_ 8
  have N0 : ∀ W, Below w.heap.size w W → Calls Tryd.prog 14 #[.slice (some ⟨b, off, none⟩) len cap, .int .i64 0, .int .i64 2] W fun e w' => e = .returned (.int .i64 (num zs 0 2)) ∧ w' = W := fun W hb => count_any b off len cap 0 2 zs W hlm (by decide) (by decide) (by omega) hb_ (hC W hb)
  have d0 := num2_bd zs hb_ 0
  have N4 : ∀ W, Below w.heap.size w W → Calls Tryd.prog 14 #[.slice (some ⟨b, off, none⟩) len cap, .int .i64 4, .int .i64 4] W fun e w' => e = .returned (.int .i64 (num zs 4 4)) ∧ w' = W := fun W hb => count_any b off len cap 4 4 zs W hlm (by decide) (by decide) (by omega) hb_ (hC W hb)
  have d4 := num4_bd zs hb_ 4
  have N12 : ∀ W, Below w.heap.size w W → Calls Tryd.prog 14 #[.slice (some ⟨b, off, none⟩) len cap, .int .i64 12, .int .i64 4] W fun e w' => e = .returned (.int .i64 (num zs 12 4)) ∧ w' = W := fun W hb => count_any b off len cap 12 4 zs W hlm (by decide) (by decide) (by omega) hb_ (hC W hb)
  have d12 := num4_bd zs hb_ 12
  obtain ⟨u2, hu2⟩ : ∃ x, x = num zs 2 2 := ⟨_, rfl⟩
  rw [← hu2] at N2 d2 h4 h6 h7
  replace N2 := Kpt.mk N2
  obtain ⟨u8, hu8⟩ : ∃ x, x = num zs 8 4 := ⟨_, rfl⟩
  rw [← hu8] at N8 d8 h5 h6 h7
  replace N8 := Kpt.mk N8
  obtain ⟨u0, hu0⟩ : ∃ x, x = num zs 0 2 := ⟨_, rfl⟩
  rw [← hu0] at N0 d0 h1
  replace N0 := Kpt.mk N0
  obtain ⟨u4, hu4⟩ : ∃ x, x = num zs 4 4 := ⟨_, rfl⟩
  rw [← hu4] at N4 d4 h2
  replace N4 := Kpt.mk N4
  obtain ⟨u12, hu12⟩ : ∃ x, x = num zs 12 4 := ⟨_, rfl⟩
  rw [← hu12] at N12 d12 h3
  replace N12 := Kpt.mk N12
  replace h1 : u0 = 0 := by omega
  replace h2 : u4 = 0 := by omega
  replace h3 : u12 = 0 := by omega
  obtain ⟨r2, hr2⟩ : ∃ x, u2 % 32 = x := ⟨_, rfl⟩
  rw [hr2] at h4
  replace h4 : r2 = 0 := by omega
  subst h4
  obtain ⟨r8, hr8⟩ : ∃ x, u8 % 28 = x := ⟨_, rfl⟩
  rw [hr8] at h5
  replace h5 : r8 = 0 := by omega
  subst h5
  replace h6 : (len : Int) = 16 + u2 + u8 := by omega
  have hbq6 : ((len : Int) == 16 + u2 + u8) = true := by simpa using h6
  replace h6 := Kpt.mk h6
  have hq1 : ¬ 224 < u8 := fun h => h7 (.inl h)
  have hq2 : ¬ 256 < u2 := fun h => h7 (.inr h)
  clear h7
  clear hC hc hu2 hu8 hu0 hu4 hu12
  have hb := Kpt.mk (Below.refl w.heap.size w)
  go_enter Tryd.func13, Tryd.ntmps13
  go_wp2_with (first
      | (have hm := m6; refine wpList_store_bx rfl 31 _ _ rfl br _ (noS).vals rfl rfl Or.out rfl infoS (Sn.vals_one _) rfl ?_; intro w7 hX_ hg_; replace hb := Kpt.mk (hb.out.trans (bel_own hg_ hb.out.size lr.out)); replace Or := Kpt.mk hX_; clear hX_ hg_; clear hm m6; have m7 : Kpt True := ⟨trivial⟩)
      | (go_at_call 14; have hm := m5; go_must (refine (N12.out _ hb.out).mono ?_; rintro e w_ ⟨rfl, rfl⟩; clear hm m5; have m6 : Kpt True := ⟨trivial⟩))
      | (go_at_call 14; have hm := m4; go_must (refine (N4.out _ hb.out).mono ?_; rintro e w_ ⟨rfl, rfl⟩; clear hm m4; have m5 : Kpt True := ⟨trivial⟩))
      | (go_at_call 14; have hm := m3; go_must (refine (N0.out _ hb.out).mono ?_; rintro e w_ ⟨rfl, rfl⟩; clear hm m3; have m4 : Kpt True := ⟨trivial⟩))
      | (go_at_call 14; have hm := m2; go_must (refine (N8.out _ hb.out).mono ?_; rintro e w_ ⟨rfl, rfl⟩; clear hm m2; have m3 : Kpt True := ⟨trivial⟩))
      | (go_at_call 14; have hm := m1; go_must (refine (N2.out _ hb.out).mono ?_; rintro e w_ ⟨rfl, rfl⟩; clear hm m1; have m2 : Kpt True := ⟨trivial⟩))
      | (refine wpList_var rfl 31 rfl zeroS zeroSi ?_; intro br w_r hl_ hX_ h_; have lr := Kpt.mk (Nat.le_trans hb.out.size hl_); replace hb := Kpt.mk (hb.out.trans (h_.mono hb.out.size)); have Or := Kpt.mk hX_; clear hl_ hX_ h_; have m1 : Kpt True := ⟨trivial⟩)
      | fail)
  refine bodyPost_ret (v := .tuple #[.agg (noS).vals, .bool true]) (by simp [results, Tryd.results13, asAddr, Act.put, resS_run Or.out]) rfl ⟨rfl, hb.out⟩
theorem head_any (b off len cap : Nat) (zs : List Int) (w : World) (hl : len ≤ 140737488351232) (hz : zs.length = len) (hb_ : Bytes zs) (hc : Cs w b off len zs) :
    Calls Tryd.prog 13 #[.slice (some ⟨b, off, none⟩) len cap] w fun e w' => e = .returned (.tuple #[.agg ((headX zs).getD noS).vals, .bool (headX zs).isNone]) ∧ Below w.heap.size w w' := by
  subst hz
  by_cases h0 : zs.length < 16
  · have e : headX zs = some (plS 5 6656) := by unfold headX; rw [if_pos h0]
    rw [e]
    exact head_short b off zs.length cap zs w hl hb_ hc h0
  by_cases h1 : num zs 0 2 ≠ 0
  · have e : headX zs = some (paS 0) := by unfold headX; rw [if_neg h0, if_pos h1]
    rw [e]
    exact head_n0 b off zs.length cap zs w hl hb_ hc h0 h1
  by_cases h2 : num zs 4 4 ≠ 0
  · have e : headX zs = some (paS 4) := by unfold headX; rw [if_neg h0, if_neg h1, if_pos h2]
    rw [e]
    exact head_n4 b off zs.length cap zs w hl hb_ hc h0 h1 h2
  by_cases h3 : num zs 12 4 ≠ 0
  · have e : headX zs = some (paS 12) := by unfold headX; rw [if_neg h0, if_neg h1, if_neg h2, if_pos h3]
    rw [e]
    exact head_n12 b off zs.length cap zs w hl hb_ hc h0 h1 h2 h3
  by_cases h4 : num zs 2 2 % 32 ≠ 0
  · have e : headX zs = some (paS 2) := by unfold headX; rw [if_neg h0, if_neg h1, if_neg h2, if_neg h3, if_pos h4]
    rw [e]
    exact head_u b off zs.length cap zs w hl hb_ hc h0 h1 h2 h3 h4
  by_cases h5 : num zs 8 4 % 28 ≠ 0
  · have e : headX zs = some (paS 8) := by unfold headX; rw [if_neg h0, if_neg h1, if_neg h2, if_neg h3, if_neg h4, if_pos h5]
    rw [e]
    exact head_s b off zs.length cap zs w hl hb_ hc h0 h1 h2 h3 h4 h5
  by_cases h6 : (zs.length : Int) ≠ 16 + num zs 2 2 + num zs 8 4
  · have e : headX zs = some (plS 5 6656) := by unfold headX; rw [if_neg h0, if_neg h1, if_neg h2, if_neg h3, if_neg h4, if_neg h5, if_pos h6]
    rw [e]
    exact head_len b off zs.length cap zs w hl hb_ hc h0 h1 h2 h3 h4 h5 h6
  by_cases h7 : (224 < num zs 8 4 ∨ 256 < num zs 2 2)
  · have e : headX zs = some (plS 5 9736) := by unfold headX; rw [if_neg h0, if_neg h1, if_neg h2, if_neg h3, if_neg h4, if_neg h5, if_neg h6, if_pos h7]
    rw [e]
    exact head_many b off zs.length cap zs w hl hb_ hc h0 h1 h2 h3 h4 h5 h6 h7
  have e : headX zs = none := by unfold headX; rw [if_neg h0, if_neg h1, if_neg h2, if_neg h3, if_neg h4, if_neg h5, if_neg h6, if_neg h7]
  rw [e]
  exact head_ok b off zs.length cap zs w hl hb_ hc h0 h1 h2 h3 h4 h5 h6 h7
end Go.Proofs.YtnebcbfjlkhimaaDoor
