/-
  The contract of the document's Parse.
-/
import Derived.Test.YtcgojpnjaloofaaCRpA
namespace Go.Proofs.Ytcgojpnjaloofaa
open Go.RowKit
set_option linter.unusedVariables false
set_option linter.unusedSimpArgs false

set_option maxRecDepth 100000 in
set_option maxHeartbeats 2000000 in
theorem rparse_dn (b off n cap m : Nat) (ms : List Int) (op y1 oa ob tf tb : Int) (R : Cm) (w : World) (hlt : b < w.heap.size) (HC : Kpt (∀ W, Below w.heap.size w W → W.cell? ⟨b, off, none⟩ = some (.int .u8 op) ∧ (2 ≤ n → W.cell? ⟨b, off + 1, none⟩ = some (.int .u8 y1)))) (hn : 0 < n) (h2 : 2 ≤ m) (hnc : n ≤ cap) (hml : m ≤ 16) (hy : 0 ≤ y1 ∧ y1 ≤ 255) (hnmax : n ≤ maxLen)
    (HU : Kpt (∀ s W, Calls Try.prog 13 #[.int .u8 op, .int .u8 s] W fun e w' => ∃ g cap', e = .returned (.tuple #[.slice (some ⟨g, 0, none⟩) m cap', .bool (servB op s)]) ∧ B.RowAt w' (some ⟨g, 0, none⟩) m ms ∧ Below W.heap.size W w')) (ht : tellB op = false) (hs : n < m) :
    Calls Try.prog 11 #[.slice (some ⟨b, off, none⟩) n cap] w fun e w' => e = .returned (.tuple #[.agg zeroC, .agg (faultS n (-1)).vals, .bool false]) ∧ Below w.heap.size w w' := by
  have HF := fun w => Kpt.mk (rfault_any (n) (-1) w)
  generalize hR : faultS (n) (-1) = F at *
  clear hR
  obtain ⟨c0, c1⟩ := HC.out w (Below.refl _ _)
  unfold maxLen at hnmax
  have i0 : ¬ (n : Int) = 0 := by omega
  have i1 : (0 : Int) < n := by omega
  have i2 : (n : Int) ≤ cap := by omega
  have i3 : (2 : Int) ≤ m := by omega
  have hnil := eq_nil
  have i4 : (n : Int) < m := by omega
  clear c1
  have hl1 : b < w.heap.size + 1 := by omega
  have hl2 : b < w.heap.size + 1 + 1 := by omega
  go_enter Try.func11, Try.ntmps11
  go_wp2_with (first
    | (go_at_call 22; refine (tells_any _ _).mono ?_; rintro e w' ⟨rfl, rfl⟩)
    | (go_at_call 13; refine (HU.out _ _).mono ?_; rintro e w1 ⟨g, cg, rfl, hrow, hb1⟩; have HB1 : Kpt (Below w.heap.size w w1) := ⟨(w0_b w).trans (hb1.mono (w0_b w).size)⟩; have P2 : Kpt (Bx w1 w.heap.size zeroC) := ⟨(w0_2 w).below hb1 (w0_2 w).lt⟩; have P3 : Kpt (Bx w1 (w.heap.size + 1) zeroS) := ⟨(w0_3 w).below hb1 (w0_3 w).lt⟩; have P5 : Kpt (Bx w1 (w.heap.size + 2) zeroC) := ⟨(w0_5 w).below hb1 (w0_5 w).lt⟩; replace hrow := Kpt.mk hrow; clear hb1 HU))
  refine wp_region_any (by kernel_rfl) ?_
  refine wpAny_of_C (C := fun W => Bx W (w.heap.size + 2) zeroC) _ _ _ _ ?_
  refine wpAnyC_take 0 (.agg zeroC) rfl (by kernel_rfl) (by kernel_rfl) (by kernel_rfl) (fun _ _ _ h => h) (by rfl) (fun W hW => exec_load_bx 27 (.tmp 5) rfl (w.heap.size + 2) zeroC rfl hW _ Try.underlying27 rfl infoC) ?_
  refine wpAnyC_take 1 (.slice (some ⟨b, off, none⟩) n cap) rfl (by kernel_rfl) (by kernel_rfl) (by kernel_rfl) (fun _ _ _ h => h) (by rfl) (fun W hW => by first | rfl | go_simp) ?_
  refine wpAnyC_take 2 (.int .i64 n) rfl (by kernel_rfl) (by kernel_rfl) (by kernel_rfl) (fun _ _ _ h => h) (by rfl) (fun W hW => by first | rfl | go_simp) ?_
  refine wpAnyC_one 3 P5.out.drew rfl (by kernel_rfl) (by rfl) (fun K hK => ?_)
  go_simp
  refine (HF _).out.mono ?_
  rintro e wf ⟨rfl, hbf⟩
  have HBf : Below w.heap.size w wf := HB1.out.drew.trans (hbf.mono HB1.out.drew.size)
  have F2 : Bx wf w.heap.size zeroC := P2.out.drew.below hbf P2.out.drew.lt
  have F3 : Bx wf (w.heap.size + 1) zeroS := P3.out.drew.below hbf P3.out.drew.lt
  have F5 : Bx wf (w.heap.size + 2) zeroC := P5.out.drew.below hbf P5.out.drew.lt
  refine hK _ _ ?_
  clear hK K
  refine wpAnyC_one 4 F5 rfl (by kernel_rfl) (by rfl) (fun K hK => ?_)
  refine wp_store_bx 27 (.tmp 2) (.tmp 52) rfl w.heap.size zeroC zeroC rfl rfl F2 rfl infoC (Cm.vals_one noC) ?_
  intro wg E2 hg4
  refine hK _ _ ?_
  clear hK K
  refine wpAnyC_one 5 (F5.grown hg4 (by simp)) rfl (by kernel_rfl) (by rfl) (fun K hK => ?_)
  refine wp_store_bx 30 (.tmp 3) (.tmp 55) rfl (w.heap.size + 1) zeroS F.vals rfl rfl (F3.grown hg4 (by simp)) rfl infoS (Sn.vals_one _) ?_
  intro wh G3 hg5
  have G2 := E2.grown hg5 (by simp)
  have HBh : Below w.heap.size w wh := (HBf.grown hg4 HBf.size (fun k h => by cases h; exact Nat.le_refl _)).grown hg5 (by have := E2.lt; omega) (fun k h => by cases h; omega)
  refine hK _ _ ?_
  clear hK K
  refine wpAnyC_one 6 ((F5.grown hg4 (by simp)).grown hg5 (by simp)) rfl (by kernel_rfl) (by rfl) (fun K hK => ?_)
  go_simp
  refine hK _ _ ?_
  clear hK K
  refine wpAnyC_done ((F5.grown hg4 (by simp)).grown hg5 (by simp)) (by kernel_rfl) ?_
  replace G2 := Kpt.mk G2
  replace G3 := Kpt.mk G3
  replace HBh := Kpt.mk HBh
  clear hg4 hg5 E2 F2 F3 F5 hbf HBf
  go_wp2
  refine bodyPost_ret (v := .tuple #[.agg zeroC, .agg F.vals, .bool false]) (by simp [results, Try.results11, asAddr, run_res G2.out 27 _ Try.underlying27 rfl infoC, run_res G3.out 30 _ Try.underlying30 rfl infoS]) rfl ⟨rfl, HBh.out⟩

set_option maxRecDepth 100000 in
set_option maxHeartbeats 2000000 in
theorem rparse_en (b off n cap m : Nat) (ms : List Int) (op y1 oa ob tf tb : Int) (R : Cm) (w : World) (hlt : b < w.heap.size) (HC : Kpt (∀ W, Below w.heap.size w W → W.cell? ⟨b, off, none⟩ = some (.int .u8 op) ∧ (2 ≤ n → W.cell? ⟨b, off + 1, none⟩ = some (.int .u8 y1)))) (hn : 0 < n) (h2 : 2 ≤ m) (hnc : n ≤ cap) (hml : m ≤ 16) (hy : 0 ≤ y1 ∧ y1 ≤ 255) (hnmax : n ≤ maxLen)
    (HU : Kpt (∀ s W, Calls Try.prog 13 #[.int .u8 op, .int .u8 s] W fun e w' => ∃ g cap', e = .returned (.tuple #[.slice (some ⟨g, 0, none⟩) m cap', .bool (servB op s)]) ∧ B.RowAt w' (some ⟨g, 0, none⟩) m ms ∧ Below W.heap.size W w'))
    (HO : Kpt (∀ W g cap', Below w.heap.size w W → B.RowAt W (some ⟨g, 0, none⟩) m ms → Calls Try.prog 23 #[.slice (some ⟨b, off, none⟩) m cap, .slice (some ⟨g, 0, none⟩) m cap'] W fun e w' => e = .returned (.tuple #[.int .i64 oa, .int .i64 ob]) ∧ w' = W)) (ht : tellB op = false) (hmn : m ≤ n) (hoa : 0 ≤ oa) :
    Calls Try.prog 11 #[.slice (some ⟨b, off, none⟩) n cap] w fun e w' => e = .returned (.tuple #[.agg zeroC, .agg (faultS oa ob).vals, .bool false]) ∧ Below w.heap.size w w' := by
  have HF := fun w => Kpt.mk (rfault_any (oa) (ob) w)
  generalize hR : faultS (oa) (ob) = F at *
  clear hR
  obtain ⟨c0, c1⟩ := HC.out w (Below.refl _ _)
  unfold maxLen at hnmax
  have i0 : ¬ (n : Int) = 0 := by omega
  have i1 : (0 : Int) < n := by omega
  have i2 : (n : Int) ≤ cap := by omega
  have i3 : (2 : Int) ≤ m := by omega
  have hnil := eq_nil
  have i4 : (m : Int) ≤ n := by omega
  have i5 : (m : Int) ≤ cap := by omega
  have i6 : ¬ (n : Int) < m := by omega
  clear c1
  have hl1 : b < w.heap.size + 1 := by omega
  have hl2 : b < w.heap.size + 1 + 1 := by omega
  go_enter Try.func11, Try.ntmps11
  go_wp2_with (first
    | (go_at_call 22; refine (tells_any _ _).mono ?_; rintro e w' ⟨rfl, rfl⟩)
    | (go_at_call 13; refine (HU.out _ _).mono ?_; rintro e w1 ⟨g, cg, rfl, hrow, hb1⟩; have HB1 : Kpt (Below w.heap.size w w1) := ⟨(w0_b w).trans (hb1.mono (w0_b w).size)⟩; have P2 : Kpt (Bx w1 w.heap.size zeroC) := ⟨(w0_2 w).below hb1 (w0_2 w).lt⟩; have P3 : Kpt (Bx w1 (w.heap.size + 1) zeroS) := ⟨(w0_3 w).below hb1 (w0_3 w).lt⟩; have P5 : Kpt (Bx w1 (w.heap.size + 2) zeroC) := ⟨(w0_5 w).below hb1 (w0_5 w).lt⟩; replace hrow := Kpt.mk hrow; clear hb1 HU)
    | (go_at_call 23; refine (HO.out _ g cg HB1.out hrow.out).mono ?_; rintro e w' ⟨rfl, rfl⟩))
  refine wp_region_any (by kernel_rfl) ?_
  refine wpAny_of_C (C := fun W => Bx W (w.heap.size + 2) zeroC) _ _ _ _ ?_
  refine wpAnyC_take 0 (.agg zeroC) rfl (by kernel_rfl) (by kernel_rfl) (by kernel_rfl) (fun _ _ _ h => h) (by rfl) (fun W hW => exec_load_bx 27 (.tmp 5) rfl (w.heap.size + 2) zeroC rfl hW _ Try.underlying27 rfl infoC) ?_
  refine wpAnyC_take 1 (.int .i64 oa) rfl (by kernel_rfl) (by kernel_rfl) (by kernel_rfl) (fun _ _ _ h => h) (by rfl) (fun W hW => by first | rfl | go_simp) ?_
  refine wpAnyC_take 2 (.int .i64 ob) rfl (by kernel_rfl) (by kernel_rfl) (by kernel_rfl) (fun _ _ _ h => h) (by rfl) (fun W hW => by first | rfl | go_simp) ?_
  refine wpAnyC_one 3 P5.out.drew rfl (by kernel_rfl) (by rfl) (fun K hK => ?_)
  go_simp
  refine (HF _).out.mono ?_
  rintro e wf ⟨rfl, hbf⟩
  have HBf : Below w.heap.size w wf := HB1.out.drew.trans (hbf.mono HB1.out.drew.size)
  have F2 : Bx wf w.heap.size zeroC := P2.out.drew.below hbf P2.out.drew.lt
  have F3 : Bx wf (w.heap.size + 1) zeroS := P3.out.drew.below hbf P3.out.drew.lt
  have F5 : Bx wf (w.heap.size + 2) zeroC := P5.out.drew.below hbf P5.out.drew.lt
  refine hK _ _ ?_
  clear hK K
  refine wpAnyC_one 4 F5 rfl (by kernel_rfl) (by rfl) (fun K hK => ?_)
  refine wp_store_bx 27 (.tmp 2) (.tmp 66) rfl w.heap.size zeroC zeroC rfl rfl F2 rfl infoC (Cm.vals_one noC) ?_
  intro wg E2 hg4
  refine hK _ _ ?_
  clear hK K
  refine wpAnyC_one 5 (F5.grown hg4 (by simp)) rfl (by kernel_rfl) (by rfl) (fun K hK => ?_)
  refine wp_store_bx 30 (.tmp 3) (.tmp 69) rfl (w.heap.size + 1) zeroS F.vals rfl rfl (F3.grown hg4 (by simp)) rfl infoS (Sn.vals_one _) ?_
  intro wh G3 hg5
  have G2 := E2.grown hg5 (by simp)
  have HBh : Below w.heap.size w wh := (HBf.grown hg4 HBf.size (fun k h => by cases h; exact Nat.le_refl _)).grown hg5 (by have := E2.lt; omega) (fun k h => by cases h; omega)
  refine hK _ _ ?_
  clear hK K
  refine wpAnyC_one 6 ((F5.grown hg4 (by simp)).grown hg5 (by simp)) rfl (by kernel_rfl) (by rfl) (fun K hK => ?_)
  go_simp
  refine hK _ _ ?_
  clear hK K
  refine wpAnyC_done ((F5.grown hg4 (by simp)).grown hg5 (by simp)) (by kernel_rfl) ?_
  replace G2 := Kpt.mk G2
  replace G3 := Kpt.mk G3
  replace HBh := Kpt.mk HBh
  clear hg4 hg5 E2 F2 F3 F5 hbf HBf
  go_wp2
  refine bodyPost_ret (v := .tuple #[.agg zeroC, .agg F.vals, .bool false]) (by simp [results, Try.results11, asAddr, run_res G2.out 27 _ Try.underlying27 rfl infoC, run_res G3.out 30 _ Try.underlying30 rfl infoS]) rfl ⟨rfl, HBh.out⟩

set_option maxRecDepth 100000 in
set_option maxHeartbeats 2000000 in
theorem rparse_gn (b off n cap m : Nat) (ms : List Int) (op y1 oa ob tf tb : Int) (R : Cm) (w : World) (hlt : b < w.heap.size) (HC : Kpt (∀ W, Below w.heap.size w W → W.cell? ⟨b, off, none⟩ = some (.int .u8 op) ∧ (2 ≤ n → W.cell? ⟨b, off + 1, none⟩ = some (.int .u8 y1)))) (hn : 0 < n) (h2 : 2 ≤ m) (hnc : n ≤ cap) (hml : m ≤ 16) (hy : 0 ≤ y1 ∧ y1 ≤ 255) (hnmax : n ≤ maxLen)
    (HU : Kpt (∀ s W, Calls Try.prog 13 #[.int .u8 op, .int .u8 s] W fun e w' => ∃ g cap', e = .returned (.tuple #[.slice (some ⟨g, 0, none⟩) m cap', .bool (servB op s)]) ∧ B.RowAt w' (some ⟨g, 0, none⟩) m ms ∧ Below W.heap.size W w'))
    (HO : Kpt (∀ W g cap', Below w.heap.size w W → B.RowAt W (some ⟨g, 0, none⟩) m ms → Calls Try.prog 23 #[.slice (some ⟨b, off, none⟩) m cap, .slice (some ⟨g, 0, none⟩) m cap'] W fun e w' => e = .returned (.tuple #[.int .i64 oa, .int .i64 ob]) ∧ w' = W))
    (HT : Kpt (∀ W, Below w.heap.size w W → Calls Try.prog 24 #[.slice (some ⟨b, off, none⟩) m cap, .int .u8 (0)] W fun e w' => e = .returned (.tuple #[.agg R.vals, .int .i64 tf, .int .i64 tb]) ∧ Below W.heap.size W w')) (ht : tellB op = false) (hmn : m ≤ n) (hoa : oa < 0) (hsv : servB op (0) = true) (htf : 0 ≤ tf) :
    Calls Try.prog 11 #[.slice (some ⟨b, off, none⟩) n cap] w fun e w' => e = .returned (.tuple #[.agg zeroC, .agg (faultS tf tb).vals, .bool false]) ∧ Below w.heap.size w w' := by
  have HF := fun w => Kpt.mk (rfault_any (tf) (tb) w)
  generalize hR : faultS (tf) (tb) = F at *
  clear hR
  obtain ⟨c0, c1⟩ := HC.out w (Below.refl _ _)
  unfold maxLen at hnmax
  have i0 : ¬ (n : Int) = 0 := by omega
  have i1 : (0 : Int) < n := by omega
  have i2 : (n : Int) ≤ cap := by omega
  have i3 : (2 : Int) ≤ m := by omega
  have hnil := eq_nil
  have i4 : (m : Int) ≤ n := by omega
  have i5 : (m : Int) ≤ cap := by omega
  have i6 : ¬ (n : Int) < m := by omega
  clear c1
  have hoa2 : ¬ 0 ≤ oa := by omega
  have hl1 : b < w.heap.size + 1 := by omega
  have hl2 : b < w.heap.size + 1 + 1 := by omega
  go_enter Try.func11, Try.ntmps11
  go_wp2_with (first
    | (go_at_call 22; refine (tells_any _ _).mono ?_; rintro e w' ⟨rfl, rfl⟩)
    | (go_at_call 13; refine (HU.out _ _).mono ?_; rintro e w1 ⟨g, cg, rfl, hrow, hb1⟩; have HB1 : Kpt (Below w.heap.size w w1) := ⟨(w0_b w).trans (hb1.mono (w0_b w).size)⟩; have P2 : Kpt (Bx w1 w.heap.size zeroC) := ⟨(w0_2 w).below hb1 (w0_2 w).lt⟩; have P3 : Kpt (Bx w1 (w.heap.size + 1) zeroS) := ⟨(w0_3 w).below hb1 (w0_3 w).lt⟩; have P5 : Kpt (Bx w1 (w.heap.size + 2) zeroC) := ⟨(w0_5 w).below hb1 (w0_5 w).lt⟩; replace hrow := Kpt.mk hrow; clear hb1 HU)
    | (go_at_call 23; refine (HO.out _ g cg HB1.out hrow.out).mono ?_; rintro e w' ⟨rfl, rfl⟩)
    | (go_at_call 24; refine (HT.out _ HB1.out).mono ?_; rintro e w3 ⟨rfl, hb3⟩; have HB3 : Kpt (Below w.heap.size w w3) := ⟨HB1.out.trans (hb3.mono HB1.out.size)⟩; have Q2 : Kpt (Bx w3 w.heap.size zeroC) := ⟨P2.out.below hb3 P2.out.lt⟩; have Q3 : Kpt (Bx w3 (w.heap.size + 1) zeroS) := ⟨P3.out.below hb3 P3.out.lt⟩; have Q5 : Kpt (Bx w3 (w.heap.size + 2) zeroC) := ⟨P5.out.below hb3 P5.out.lt⟩; clear hb3)
    | (refine wpList_store_bx rfl 27 (.tmp 13) (.tmp 80) rfl w3.heap.size zeroC R.vals rfl rfl (bx_new w3 zeroC 27) rfl infoC (Cm.vals_one _) rfl ?_; intro w4 h13 hg4; have hx := below_store hg4; have HB4 : Kpt (Below w.heap.size w w4) := ⟨HB3.out.trans (hx.mono HB3.out.size)⟩; have S2 : Kpt (Bx w4 w.heap.size zeroC) := ⟨Q2.out.below hx Q2.out.lt⟩; have S3 : Kpt (Bx w4 (w.heap.size + 1) zeroS) := ⟨Q3.out.below hx Q3.out.lt⟩; have S5 : Kpt (Bx w4 (w.heap.size + 2) zeroC) := ⟨Q5.out.below hx Q5.out.lt⟩; replace h13 := Kpt.mk h13; clear hx hg4))
  refine wp_region_any (by kernel_rfl) ?_
  refine wpAny_of_C (C := fun W => Bx W (w.heap.size + 2) zeroC) _ _ _ _ ?_
  refine wpAnyC_take 0 (.agg zeroC) rfl (by kernel_rfl) (by kernel_rfl) (by kernel_rfl) (fun _ _ _ h => h) (by rfl) (fun W hW => exec_load_bx 27 (.tmp 5) rfl (w.heap.size + 2) zeroC rfl hW _ Try.underlying27 rfl infoC) ?_
  refine wpAnyC_take 1 (.int .i64 tf) rfl (by kernel_rfl) (by kernel_rfl) (by kernel_rfl) (fun _ _ _ h => h) (by rfl) (fun W hW => by first | rfl | go_simp) ?_
  refine wpAnyC_take 2 (.int .i64 tb) rfl (by kernel_rfl) (by kernel_rfl) (by kernel_rfl) (fun _ _ _ h => h) (by rfl) (fun W hW => by first | rfl | go_simp) ?_
  refine wpAnyC_one 3 S5.out.drew rfl (by kernel_rfl) (by rfl) (fun K hK => ?_)
  go_simp
  refine (HF _).out.mono ?_
  rintro e wf ⟨rfl, hbf⟩
  have HBf : Below w.heap.size w wf := HB4.out.drew.trans (hbf.mono HB4.out.drew.size)
  have F2 : Bx wf w.heap.size zeroC := S2.out.drew.below hbf S2.out.drew.lt
  have F3 : Bx wf (w.heap.size + 1) zeroS := S3.out.drew.below hbf S3.out.drew.lt
  have F5 : Bx wf (w.heap.size + 2) zeroC := S5.out.drew.below hbf S5.out.drew.lt
  refine hK _ _ ?_
  clear hK K
  refine wpAnyC_one 4 F5 rfl (by kernel_rfl) (by rfl) (fun K hK => ?_)
  refine wp_store_bx 27 (.tmp 2) (.tmp 85) rfl w.heap.size zeroC zeroC rfl rfl F2 rfl infoC (Cm.vals_one noC) ?_
  intro wg E2 hg4
  refine hK _ _ ?_
  clear hK K
  refine wpAnyC_one 5 (F5.grown hg4 (by simp)) rfl (by kernel_rfl) (by rfl) (fun K hK => ?_)
  refine wp_store_bx 30 (.tmp 3) (.tmp 88) rfl (w.heap.size + 1) zeroS F.vals rfl rfl (F3.grown hg4 (by simp)) rfl infoS (Sn.vals_one _) ?_
  intro wh G3 hg5
  have G2 := E2.grown hg5 (by simp)
  have HBh : Below w.heap.size w wh := (HBf.grown hg4 HBf.size (fun k h => by cases h; exact Nat.le_refl _)).grown hg5 (by have := E2.lt; omega) (fun k h => by cases h; omega)
  refine hK _ _ ?_
  clear hK K
  refine wpAnyC_one 6 ((F5.grown hg4 (by simp)).grown hg5 (by simp)) rfl (by kernel_rfl) (by rfl) (fun K hK => ?_)
  go_simp
  refine hK _ _ ?_
  clear hK K
  refine wpAnyC_done ((F5.grown hg4 (by simp)).grown hg5 (by simp)) (by kernel_rfl) ?_
  replace G2 := Kpt.mk G2
  replace G3 := Kpt.mk G3
  replace HBh := Kpt.mk HBh
  clear hg4 hg5 E2 F2 F3 F5 hbf HBf
  go_wp2
  refine bodyPost_ret (v := .tuple #[.agg zeroC, .agg F.vals, .bool false]) (by simp [results, Try.results11, asAddr, run_res G2.out 27 _ Try.underlying27 rfl infoC, run_res G3.out 30 _ Try.underlying30 rfl infoS]) rfl ⟨rfl, HBh.out⟩

set_option maxRecDepth 100000 in
set_option maxHeartbeats 2000000 in
theorem rparse_hn (b off n cap m : Nat) (ms : List Int) (op y1 oa ob tf tb : Int) (R : Cm) (w : World) (hlt : b < w.heap.size) (HC : Kpt (∀ W, Below w.heap.size w W → W.cell? ⟨b, off, none⟩ = some (.int .u8 op) ∧ (2 ≤ n → W.cell? ⟨b, off + 1, none⟩ = some (.int .u8 y1)))) (hn : 0 < n) (h2 : 2 ≤ m) (hnc : n ≤ cap) (hml : m ≤ 16) (hy : 0 ≤ y1 ∧ y1 ≤ 255) (hnmax : n ≤ maxLen)
    (HU : Kpt (∀ s W, Calls Try.prog 13 #[.int .u8 op, .int .u8 s] W fun e w' => ∃ g cap', e = .returned (.tuple #[.slice (some ⟨g, 0, none⟩) m cap', .bool (servB op s)]) ∧ B.RowAt w' (some ⟨g, 0, none⟩) m ms ∧ Below W.heap.size W w'))
    (HO : Kpt (∀ W g cap', Below w.heap.size w W → B.RowAt W (some ⟨g, 0, none⟩) m ms → Calls Try.prog 23 #[.slice (some ⟨b, off, none⟩) m cap, .slice (some ⟨g, 0, none⟩) m cap'] W fun e w' => e = .returned (.tuple #[.int .i64 oa, .int .i64 ob]) ∧ w' = W))
    (HT : Kpt (∀ W, Below w.heap.size w W → Calls Try.prog 24 #[.slice (some ⟨b, off, none⟩) m cap, .int .u8 (0)] W fun e w' => e = .returned (.tuple #[.agg R.vals, .int .i64 tf, .int .i64 tb]) ∧ Below W.heap.size W w')) (ht : tellB op = false) (hmn : m ≤ n) (hoa : oa < 0) (hsv : servB op (0) = true) (htf : tf < 0) :
    Calls Try.prog 11 #[.slice (some ⟨b, off, none⟩) n cap] w fun e w' => e = .returned (.tuple #[.agg R.vals, .agg noS.vals, .bool true]) ∧ Below w.heap.size w w' := by
  obtain ⟨c0, c1⟩ := HC.out w (Below.refl _ _)
  unfold maxLen at hnmax
  have i0 : ¬ (n : Int) = 0 := by omega
  have i1 : (0 : Int) < n := by omega
  have i2 : (n : Int) ≤ cap := by omega
  have i3 : (2 : Int) ≤ m := by omega
  have hnil := eq_nil
  have i4 : (m : Int) ≤ n := by omega
  have i5 : (m : Int) ≤ cap := by omega
  have i6 : ¬ (n : Int) < m := by omega
  clear c1
  have hoa2 : ¬ 0 ≤ oa := by omega
  have htf2 : ¬ 0 ≤ tf := by omega
  have hl1 : b < w.heap.size + 1 := by omega
  have hl2 : b < w.heap.size + 1 + 1 := by omega
  go_enter Try.func11, Try.ntmps11
  go_wp2_with (first
    | (go_at_call 22; refine (tells_any _ _).mono ?_; rintro e w' ⟨rfl, rfl⟩)
    | (go_at_call 13; refine (HU.out _ _).mono ?_; rintro e w1 ⟨g, cg, rfl, hrow, hb1⟩; have HB1 : Kpt (Below w.heap.size w w1) := ⟨(w0_b w).trans (hb1.mono (w0_b w).size)⟩; have P2 : Kpt (Bx w1 w.heap.size zeroC) := ⟨(w0_2 w).below hb1 (w0_2 w).lt⟩; have P3 : Kpt (Bx w1 (w.heap.size + 1) zeroS) := ⟨(w0_3 w).below hb1 (w0_3 w).lt⟩; have P5 : Kpt (Bx w1 (w.heap.size + 2) zeroC) := ⟨(w0_5 w).below hb1 (w0_5 w).lt⟩; replace hrow := Kpt.mk hrow; clear hb1 HU)
    | (go_at_call 23; refine (HO.out _ g cg HB1.out hrow.out).mono ?_; rintro e w' ⟨rfl, rfl⟩)
    | (go_at_call 24; refine (HT.out _ HB1.out).mono ?_; rintro e w3 ⟨rfl, hb3⟩; have HB3 : Kpt (Below w.heap.size w w3) := ⟨HB1.out.trans (hb3.mono HB1.out.size)⟩; have Q2 : Kpt (Bx w3 w.heap.size zeroC) := ⟨P2.out.below hb3 P2.out.lt⟩; have Q3 : Kpt (Bx w3 (w.heap.size + 1) zeroS) := ⟨P3.out.below hb3 P3.out.lt⟩; have Q5 : Kpt (Bx w3 (w.heap.size + 2) zeroC) := ⟨P5.out.below hb3 P5.out.lt⟩; clear hb3)
    | (refine wpList_store_bx rfl 27 (.tmp 13) (.tmp 80) rfl w3.heap.size zeroC R.vals rfl rfl (bx_new w3 zeroC 27) rfl infoC (Cm.vals_one _) rfl ?_; intro w4 h13 hg4; have hx := below_store hg4; have HB4 : Kpt (Below w.heap.size w w4) := ⟨HB3.out.trans (hx.mono HB3.out.size)⟩; have S2 : Kpt (Bx w4 w.heap.size zeroC) := ⟨Q2.out.below hx Q2.out.lt⟩; have S3 : Kpt (Bx w4 (w.heap.size + 1) zeroS) := ⟨Q3.out.below hx Q3.out.lt⟩; have S5 : Kpt (Bx w4 (w.heap.size + 2) zeroC) := ⟨Q5.out.below hx Q5.out.lt⟩; replace h13 := Kpt.mk h13; clear hx hg4)
    | (refine wpList_load_bx rfl 27 (.tmp 13) rfl w3.heap.size R.vals rfl h13.out _ Try.underlying27 rfl infoC ?_)
    | (refine wpList_store_bx rfl 27 (.tmp 2) (.tmp 89) rfl w.heap.size zeroC R.vals rfl rfl S2.out rfl infoC (Cm.vals_one _) rfl ?_; intro w7 E2 hg7; have E3 : Kpt (Bx w7 (w.heap.size + 1) zeroS) := ⟨S3.out.grown hg7 (by simp)⟩; have HB7 : Kpt (Below w.heap.size w w7) := ⟨HB4.out.grown hg7 HB4.out.size (fun k h => by cases h; exact Nat.le_refl _)⟩; replace E2 := Kpt.mk E2; clear hg7)
    | (refine wpList_store_bx rfl 30 (.tmp 3) (.tmp 90) rfl (w.heap.size + 1) zeroS noS.vals rfl rfl E3.out rfl infoS (Sn.vals_one _) rfl ?_; intro w8 G3 hg8; have G2 : Kpt (Bx w8 w.heap.size R.vals) := ⟨E2.out.grown hg8 (by simp)⟩; have HB8 : Kpt (Below w.heap.size w w8) := ⟨HB7.out.grown hg8 HB7.out.size (fun k h => by cases h; omega)⟩; replace G3 := Kpt.mk G3; clear hg8))
  refine bodyPost_ret (v := .tuple #[.agg R.vals, .agg noS.vals, .bool true]) (by simp [results, Try.results11, asAddr, run_res G2.out 27 _ Try.underlying27 rfl infoC, run_res G3.out 30 _ Try.underlying30 rfl infoS]) rfl ⟨rfl, HB8.out⟩

end Go.Proofs.Ytcgojpnjaloofaa
