/-
  InqLists: the walk.
-/
import Derived.Test.YteoaadpilaljnaaICutB
import Derived.Test.YteoaadpilaljnaaIPages
namespace Go.Proofs.Yteoaadpilaljnaa
open Go.RowKit
set_option linter.unusedVariables false
set_option linter.unusedSimpArgs false

set_option maxRecDepth 100000 in
set_option maxHeartbeats 8000000 in
theorem lists_go (v1 v2 : Value) (x : Int) (w : World) (LS LC : List Int)
    (HL0 : ∀ W, Below w.heap.size w W → Calls Try.prog 17 #[v1] W fun e w' => ∃ v, e = .returned v ∧ RdAt w' v LS ∧ Below W.heap.size W w')
    (HM0 : ∀ W, Below w.heap.size w W → Calls Try.prog 18 #[v1] W fun e w' => ∃ v, e = .returned v ∧ RdAt w' v LS ∧ Below W.heap.size W w')
    (HC0 : ∀ W, Below w.heap.size w W → Calls Try.prog 19 #[v2, .int .i64 x] W fun e w' => ∃ v, e = .returned v ∧ RdAt w' v LC ∧ Below W.heap.size W w')
    (HD0 : ∀ W, Below w.heap.size w W → Calls Try.prog 20 #[v2, .int .i64 x] W fun e w' => ∃ v, e = .returned v ∧ RdAt w' v LC ∧ Below W.heap.size W w') :
    Calls Try.prog 4 #[v1, v2, .int .i64 x] w fun e w' => e = .returned (.bool true) ∧ Below w.heap.size w w' := by
  have HA := Kpt.mk awake_any
  have HL := Kpt.mk HL0
  have HM := Kpt.mk HM0
  have HC := Kpt.mk HC0
  have HD := Kpt.mk HD0
  have HS : Kpt (∀ W v, RdAt W v LS → (convert 25 9 v).run Try.prog W = .ok (.string (strOfNums LS)) W) := ⟨fun W v h => conv_rd h⟩
  have HT : Kpt (∀ W v, RdAt W v LC → (convert 25 9 v).run Try.prog W = .ok (.string (strOfNums LC)) W) := ⟨fun W v h => conv_rd h⟩
  generalize strOfNums LS = SS at *
  generalize strOfNums LC = SC at *
  clear HL0 HM0 HC0 HD0
  go_enter Try.func4, Try.ntmps4
  go_wp2_with fail
  refine wp_region_any (by kernel_rfl) ?_
  refine wpAny_of_C (C := fun W => True) _ _ _ _ ?_
  refine wpAnyC_one 0 (trivial) rfl (by kernel_rfl) (wanted_free rfl _) (fun KA hKA => ?_)
  go_simp
  refine (HA.out _).mono ?_
  rintro e x1 ⟨rfl, hb⟩
  replace hb := below_undrew hb
  have hx1 : Below w.heap.size w x1 := hb
  refine hKA _ _ ?_
  clear hKA KA hb
  try simp only [Act.put, List.getElem_toArray, List.getElem_cons_succ, List.getElem_cons_zero, List.setIfInBounds_toArray, List.set_cons_succ, List.set_cons_zero]
  refine wpAnyC_take 1 (.bool true) rfl (by kernel_rfl) (by kernel_rfl) (by kernel_rfl) (fun _ _ _ h => h) (wanted_free rfl _) (fun W hW => by go_simp) ?_
  try simp only [Act.put, List.getElem_toArray, List.getElem_cons_succ, List.getElem_cons_zero, List.setIfInBounds_toArray, List.set_cons_succ, List.set_cons_zero]
  refine wpAnyC_take 2 (v1) rfl (by kernel_rfl) (by kernel_rfl) (by kernel_rfl) (fun _ _ _ h => h) (wanted_at true rfl rfl rfl rfl) (fun W hW => by go_simp) ?_
  try simp only [Act.put, List.getElem_toArray, List.getElem_cons_succ, List.getElem_cons_zero, List.setIfInBounds_toArray, List.set_cons_succ, List.set_cons_zero]
  refine wpAnyC_take 5 (v1) rfl (by kernel_rfl) (by kernel_rfl) (by kernel_rfl) (fun _ _ _ h => h) (wanted_at true rfl rfl rfl rfl) (fun W hW => by go_simp) ?_
  try simp only [Act.put, List.getElem_toArray, List.getElem_cons_succ, List.getElem_cons_zero, List.setIfInBounds_toArray, List.set_cons_succ, List.set_cons_zero]
  refine wpAnyC_one 3 (trivial) rfl (by kernel_rfl) (wanted_at true rfl rfl rfl rfl) (fun KA hKA => ?_)
  go_simp
  refine (HL.out _ hx1).mono ?_
  rintro e x2 ⟨vS, rfl, hrS, hb⟩
  have hx2 : Below w.heap.size w x2 := hx1.trans (hb.mono hx1.size)
  refine hKA _ _ ?_
  clear hKA KA hb
  try simp only [Act.put, List.getElem_toArray, List.getElem_cons_succ, List.getElem_cons_zero, List.setIfInBounds_toArray, List.set_cons_succ, List.set_cons_zero]
  have c2 : Kpt (∀ W, Below x2.heap.size x2 W → RdAt W vS LS) := ⟨fun W h => rd_below hrS h⟩
  refine wpAnyC_mono (C' := fun W => RdAt W vS LS) (fun W h => trivial) _ _ _ _ ?_
  refine wpAnyC_take 4 (.string SS) rfl (by kernel_rfl) (by kernel_rfl) (by kernel_rfl) (fun _ _ _ h => h) (wanted_at true rfl rfl rfl rfl) (fun W hW => by exact (by have := HS.out W _ hW; go_simp)) ?_
  try simp only [Act.put, List.getElem_toArray, List.getElem_cons_succ, List.getElem_cons_zero, List.setIfInBounds_toArray, List.set_cons_succ, List.set_cons_zero]
  refine wpAnyC_one 6 (c2.out _ (Below.refl _ _)) rfl (by kernel_rfl) (wanted_at true rfl rfl rfl rfl) (fun KA hKA => ?_)
  go_simp
  refine (HM.out _ hx2).mono ?_
  rintro e x3 ⟨vT, rfl, hrT, hb⟩
  have hx3 : Below w.heap.size w x3 := hx2.trans (hb.mono hx2.size)
  have hrS3 := rd_below hrS hb
  refine hKA _ _ ?_
  clear hKA KA hb
  try simp only [Act.put, List.getElem_toArray, List.getElem_cons_succ, List.getElem_cons_zero, List.setIfInBounds_toArray, List.set_cons_succ, List.set_cons_zero]
  have c3 : Kpt (∀ W, Below x3.heap.size x3 W → (RdAt W vS LS ∧ RdAt W vT LS)) := ⟨fun W h => ⟨rd_below hrS3 h, rd_below hrT h⟩⟩
  refine wpAnyC_mono (C' := fun W => (RdAt W vS LS ∧ RdAt W vT LS)) (fun W h => h.1) _ _ _ _ ?_
  refine wpAnyC_take 7 (.string SS) rfl (by kernel_rfl) (by kernel_rfl) (by kernel_rfl) (fun _ _ _ h => h) (wanted_at true rfl rfl rfl rfl) (fun W hW => by exact (by have := HS.out W _ hW.2; go_simp)) ?_
  try simp only [Act.put, List.getElem_toArray, List.getElem_cons_succ, List.getElem_cons_zero, List.setIfInBounds_toArray, List.set_cons_succ, List.set_cons_zero]
  refine wpAnyC_take 8 (.bool true) rfl (by kernel_rfl) (by kernel_rfl) (by kernel_rfl) (fun _ _ _ h => h) (wanted_at true rfl rfl rfl rfl) (fun W hW => by go_simp) ?_
  try simp only [Act.put, List.getElem_toArray, List.getElem_cons_succ, List.getElem_cons_zero, List.setIfInBounds_toArray, List.set_cons_succ, List.set_cons_zero]
  refine wpAnyC_take 9 (.bool true) rfl (by kernel_rfl) (by kernel_rfl) (by kernel_rfl) (fun _ _ _ h => h) (wanted_free rfl _) (fun W hW => by go_simp) ?_
  try simp only [Act.put, List.getElem_toArray, List.getElem_cons_succ, List.getElem_cons_zero, List.setIfInBounds_toArray, List.set_cons_succ, List.set_cons_zero]
  refine wpAnyC_take 10 (.bool true) rfl (by kernel_rfl) (by kernel_rfl) (by kernel_rfl) (fun _ _ _ h => h) (wanted_free rfl _) (fun W hW => by go_simp) ?_
  try simp only [Act.put, List.getElem_toArray, List.getElem_cons_succ, List.getElem_cons_zero, List.setIfInBounds_toArray, List.set_cons_succ, List.set_cons_zero]
  refine wpAnyC_take 11 (v2) rfl (by kernel_rfl) (by kernel_rfl) (by kernel_rfl) (fun _ _ _ h => h) (wanted_at true rfl rfl rfl rfl) (fun W hW => by go_simp) ?_
  try simp only [Act.put, List.getElem_toArray, List.getElem_cons_succ, List.getElem_cons_zero, List.setIfInBounds_toArray, List.set_cons_succ, List.set_cons_zero]
  refine wpAnyC_take 12 (.int .i64 x) rfl (by kernel_rfl) (by kernel_rfl) (by kernel_rfl) (fun _ _ _ h => h) (wanted_at true rfl rfl rfl rfl) (fun W hW => by go_simp) ?_
  try simp only [Act.put, List.getElem_toArray, List.getElem_cons_succ, List.getElem_cons_zero, List.setIfInBounds_toArray, List.set_cons_succ, List.set_cons_zero]
  refine wpAnyC_take 15 (v2) rfl (by kernel_rfl) (by kernel_rfl) (by kernel_rfl) (fun _ _ _ h => h) (wanted_at true rfl rfl rfl rfl) (fun W hW => by go_simp) ?_
  try simp only [Act.put, List.getElem_toArray, List.getElem_cons_succ, List.getElem_cons_zero, List.setIfInBounds_toArray, List.set_cons_succ, List.set_cons_zero]
  refine wpAnyC_take 16 (.int .i64 x) rfl (by kernel_rfl) (by kernel_rfl) (by kernel_rfl) (fun _ _ _ h => h) (wanted_at true rfl rfl rfl rfl) (fun W hW => by go_simp) ?_
  try simp only [Act.put, List.getElem_toArray, List.getElem_cons_succ, List.getElem_cons_zero, List.setIfInBounds_toArray, List.set_cons_succ, List.set_cons_zero]
  refine wpAnyC_one 13 (c3.out _ (Below.refl _ _)) rfl (by kernel_rfl) (wanted_at true rfl rfl rfl rfl) (fun KA hKA => ?_)
  go_simp
  refine (HC.out _ hx3).mono ?_
  rintro e x4 ⟨vU, rfl, hrU, hb⟩
  have hx4 : Below w.heap.size w x4 := hx3.trans (hb.mono hx3.size)
  have hS4 := c3.out _ hb
  refine hKA _ _ ?_
  clear hKA KA hb
  try simp only [Act.put, List.getElem_toArray, List.getElem_cons_succ, List.getElem_cons_zero, List.setIfInBounds_toArray, List.set_cons_succ, List.set_cons_zero]
  have c4 : Kpt (∀ W, Below x4.heap.size x4 W → ((RdAt W vS LS ∧ RdAt W vT LS) ∧ RdAt W vU LC)) := ⟨fun W h => ⟨⟨rd_below hS4.1 h, rd_below hS4.2 h⟩, rd_below hrU h⟩⟩
  refine wpAnyC_mono (C' := fun W => ((RdAt W vS LS ∧ RdAt W vT LS) ∧ RdAt W vU LC)) (fun W h => h.1) _ _ _ _ ?_
  refine wpAnyC_take 14 (.string SC) rfl (by kernel_rfl) (by kernel_rfl) (by kernel_rfl) (fun _ _ _ h => h) (wanted_at true rfl rfl rfl rfl) (fun W hW => by exact (by have := HT.out W _ hW.2; go_simp)) ?_
  try simp only [Act.put, List.getElem_toArray, List.getElem_cons_succ, List.getElem_cons_zero, List.setIfInBounds_toArray, List.set_cons_succ, List.set_cons_zero]
  refine wpAnyC_one 17 (c4.out _ (Below.refl _ _)) rfl (by kernel_rfl) (wanted_at true rfl rfl rfl rfl) (fun KA hKA => ?_)
  go_simp
  refine (HD.out _ hx4).mono ?_
  rintro e x5 ⟨vV, rfl, hrV, hb⟩
  have hx5 : Below w.heap.size w x5 := hx4.trans (hb.mono hx4.size)
  have hS5 := c4.out _ hb
  refine hKA _ _ ?_
  clear hKA KA hb
  try simp only [Act.put, List.getElem_toArray, List.getElem_cons_succ, List.getElem_cons_zero, List.setIfInBounds_toArray, List.set_cons_succ, List.set_cons_zero]
  have c5 : Kpt (∀ W, Below x5.heap.size x5 W → (((RdAt W vS LS ∧ RdAt W vT LS) ∧ RdAt W vU LC) ∧ RdAt W vV LC)) := ⟨fun W h => ⟨⟨⟨rd_below hS5.1.1 h, rd_below hS5.1.2 h⟩, rd_below hS5.2 h⟩, rd_below hrV h⟩⟩
  refine wpAnyC_mono (C' := fun W => (((RdAt W vS LS ∧ RdAt W vT LS) ∧ RdAt W vU LC) ∧ RdAt W vV LC)) (fun W h => h.1) _ _ _ _ ?_
  refine wpAnyC_take 18 (.string SC) rfl (by kernel_rfl) (by kernel_rfl) (by kernel_rfl) (fun _ _ _ h => h) (wanted_at true rfl rfl rfl rfl) (fun W hW => by exact (by have := HT.out W _ hW.2; go_simp)) ?_
  try simp only [Act.put, List.getElem_toArray, List.getElem_cons_succ, List.getElem_cons_zero, List.setIfInBounds_toArray, List.set_cons_succ, List.set_cons_zero]
  refine wpAnyC_take 19 (.bool true) rfl (by kernel_rfl) (by kernel_rfl) (by kernel_rfl) (fun _ _ _ h => h) (wanted_at true rfl rfl rfl rfl) (fun W hW => by go_simp) ?_
  try simp only [Act.put, List.getElem_toArray, List.getElem_cons_succ, List.getElem_cons_zero, List.setIfInBounds_toArray, List.set_cons_succ, List.set_cons_zero]
  refine wpAnyC_take 20 (.bool true) rfl (by kernel_rfl) (by kernel_rfl) (by kernel_rfl) (fun _ _ _ h => h) (wanted_free rfl _) (fun W hW => by go_simp) ?_
  try simp only [Act.put, List.getElem_toArray, List.getElem_cons_succ, List.getElem_cons_zero, List.setIfInBounds_toArray, List.set_cons_succ, List.set_cons_zero]
  refine wpAnyC_take 21 (.bool true) rfl (by kernel_rfl) (by kernel_rfl) (by kernel_rfl) (fun _ _ _ h => h) (wanted_free rfl _) (fun W hW => by go_simp) ?_
  try simp only [Act.put, List.getElem_toArray, List.getElem_cons_succ, List.getElem_cons_zero, List.setIfInBounds_toArray, List.set_cons_succ, List.set_cons_zero]
  refine wpAnyC_done (c5.out _ (Below.refl _ _)) (by kernel_rfl) ?_
  replace hx5 := Kpt.mk hx5
  clear c2 c3 c4 c5 hx1 hx2 hx3 hx4 hrS hrT hrU hrV hS4 hS5 hrS3
  go_wp2_with fail
  go_ret
  exact ⟨rfl, hx5.out⟩

theorem lists_any (a1 a2 : Option Addr) (n1 c1 n2 c2 : Nat) (zs ys : List Int) (x : Int) (w : World) (h1 : Ri w a1 n1 zs) (hn1 : n1 ≤ 1048576)
    (h2 : RdAt w (.slice a2 n2 c2) ys) (hl2 : ys.length = n2) (hn2 : n2 ≤ 1048576) (hk : n2 ≤ c2) (hm : c2 ≤ maxLen) :
    Calls Try.prog 4 #[.slice a1 n1 c1, .slice a2 n2 c2, .int .i64 x] w fun e w' => e = .returned (.bool true) ∧ Below w.heap.size w w' := by
  refine lists_go _ _ x w (lunL n1 zs) (ys.take (cutN n2 x)) (fun W hW => ?_) (fun W hW => ?_) (fun W hW => ?_) (fun W hW => ?_)
  · refine (luns_any a1 n1 c1 zs W (h1.below hW) hn1).mono ?_
    rintro e w' ⟨g, rfl, ho, hb⟩
    exact ⟨_, rfl, own_rd ho, hb⟩
  · exact rluns_any a1 n1 c1 zs W (h1.below hW) hn1
  · exact cut_any a2 n2 c2 ys x W (rd_below h2 hW) hl2 hn2
  · refine (rcut_any a2 n2 c2 ys x W (rd_below h2 hW) hl2 hk hm).mono ?_
    rintro e w' ⟨v, rfl, hr, rfl⟩
    exact ⟨_, rfl, hr, Below.refl _ _⟩
end Go.Proofs.Yteoaadpilaljnaa
