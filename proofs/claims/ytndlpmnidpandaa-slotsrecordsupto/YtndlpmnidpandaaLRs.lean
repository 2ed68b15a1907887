/-
  Slots: the walk of SlotsRecords.
-/
import Derived.Test.YtndlpmnidpandaaLRdc
namespace Go.Proofs.Ytndlpmnidpandaa
open Go.RowKit
set_option linter.unusedVariables false
set_option linter.unusedSimpArgs false

section
variable {P : Program} {md : Region.Mode} {ops : Array Oper} {C C' : World → Prop} {Q : Exit → Act → World → Prop}
theorem wpAnyC_mono {P : Program} {md : Region.Mode} {ops : Array Oper} {C C' : World → Prop} {Q : Exit → Act → World → Prop} (hC : ∀ w, C' w → C w) : ∀ (fuel : Nat) (listed : Array Bool) (a : Act) (w : World), wpAnyC P md ops C' Q fuel listed a w → wpAnyC P md ops C Q fuel listed a w
  | 0, _, _, _, h => ⟨hC _ h.1, h.2⟩
  | fuel + 1, _, _, _, h => ⟨hC _ h.1, h.2.1, fun i hi => wpOp_mono (fun a' w' h' => wpAnyC_mono hC fuel _ a' w' h') (h.2.2 i hi)⟩
end
theorem num_lt32 (zs : List Int) (hb : Bytes zs) (k : Nat) (hk : B.num zs 12 4 = (k : Int)) : k < 4294967296 := by
  have a := hb 12
  have b := hb 13
  have c := hb 14
  have d := hb 15
  have e : B.num zs 12 4 = ((zs.getD 12 0 * 256 + zs.getD 13 0) * 256 + zs.getD 14 0) * 256 + zs.getD 15 0 := by
    simp only [B.num, Nat.add_zero, Nat.reduceAdd]; omega
  omega
/-- Both decode bytes alike. -/
theorem dec_both (a : Option Addr) (n c : Nat) (zs : List Int) (w : World) (hr : RdAt w (.slice a n c) zs) (hl : zs.length = n) (hm : n ≤ 140737488355328) (hb : Bytes zs) : ∃ (G er : Int) (P : List Int),
    (∀ W, Below w.heap.size w W → Calls Try.prog 9 #[.slice a n c] W fun e w' => ∃ a1 c1, e = .returned (.tuple #[.int .u64 G, .slice a1 P.length c1, .int .i64 er]) ∧ RdAt w' (.slice a1 P.length c1) P ∧ Below W.heap.size W w') ∧
    (∀ W, Below w.heap.size w W → Calls Try.prog 10 #[.slice a n c] W fun e w' => ∃ a2 c2, e = .returned (.tuple #[.int .u64 G, .slice a2 P.length c2, .int .i64 er]) ∧ RdAt w' (.slice a2 P.length c2) P ∧ Below W.heap.size W w') ∧ P.length ≤ 4096 := by
  have hmx : n ≤ maxLen := by unfold maxLen; omega
  have bad : ∀ er : Int, (∀ W, Below w.heap.size w W → Calls Try.prog 9 #[.slice a n c] W fun e w' => e = .returned (.tuple #[.int .u64 0, .slice none 0 0, .int .i64 er]) ∧ Below W.heap.size W w') →
      (∀ W, Below w.heap.size w W → Calls Try.prog 10 #[.slice a n c] W fun e w' => e = .returned (.tuple #[.int .u64 0, .slice none 0 0, .int .i64 er]) ∧ Below W.heap.size W w') → ∃ (G er : Int) (P : List Int),
    (∀ W, Below w.heap.size w W → Calls Try.prog 9 #[.slice a n c] W fun e w' => ∃ a1 c1, e = .returned (.tuple #[.int .u64 G, .slice a1 P.length c1, .int .i64 er]) ∧ RdAt w' (.slice a1 P.length c1) P ∧ Below W.heap.size W w') ∧
    (∀ W, Below w.heap.size w W → Calls Try.prog 10 #[.slice a n c] W fun e w' => ∃ a2 c2, e = .returned (.tuple #[.int .u64 G, .slice a2 P.length c2, .int .i64 er]) ∧ RdAt w' (.slice a2 P.length c2) P ∧ Below W.heap.size W w') ∧ P.length ≤ 4096 := fun er h1 h2 =>
    ⟨0, er, [], fun W hW => (h1 W hW).mono (fun e w' ⟨he, hb⟩ => ⟨none, 0, he, rd_nil w', hb⟩), fun W hW => (h2 W hW).mono (fun e w' ⟨he, hb⟩ => ⟨none, 0, he, rd_nil w', hb⟩), by simp⟩
  by_cases h1 : n < 16
  · exact bad 3 (fun W hW => dec_short a n c W hmx h1) (fun W hW => (rdec_short a n c W h1).mono (fun e w' ⟨he, hw⟩ => ⟨he, by rw [hw]; exact Below.refl _ _⟩))
  · obtain ⟨hnc, b, off, rfl⟩ := rd_some hr (by omega)
    obtain ⟨k, hk⟩ : ∃ k : Nat, Go.Proofs.Ytndlpmnidpandaa.B.num zs 12 4 = (k : Int) := ⟨(Go.Proofs.Ytndlpmnidpandaa.B.num zs 12 4).toNat, by have := num_nonneg zs hb 12 4; omega⟩
    have same : ∀ {W e w'} {E : Ending}, (e = E ∧ w' = W) → (e = E ∧ Below W.heap.size W w') := fun ⟨h1, h2⟩ => ⟨h1, by rw [h2]; exact Below.refl _ _⟩
    have hk32 : k < 4294967296 := num_lt32 zs hb k hk
    by_cases h3 : zs.take 4 = [83, 76, 79, 84]
    · by_cases h2 : 4096 < k
      · exact bad 3 (fun W hW => dec_long _ n c zs W (hr.bel hW) hl hmx hb (by omega) k hk h2) (fun W hW => (rdec_long b off n c zs W (hr.bel hW) hl hm hb (by omega) h3 k hk h2 hk32).mono (fun e w' h => same h))
      · by_cases h4 : n < 20 + k
        · exact bad 3 (fun W hW => dec_cut _ n c zs W (hr.bel hW) hl hmx hb (by omega) k hk (by omega) h3 h4) (fun W hW => (rdec_cut b off n c zs W (hr.bel hW) hl hm hb (by omega) h3 k hk (by omega) h4).mono (fun e w' h => same h))
        · by_cases h5 : Go.Proofs.Ytndlpmnidpandaa.B.num zs (16 + k) 4 = (sumL (zs.take (16 + k)) : Int)
          · have hPl : ((zs.drop 16).take k).length = k := by rw [List.length_take, List.length_drop]; omega
            refine ⟨Go.Proofs.Ytndlpmnidpandaa.B.num zs 4 8, 0, (zs.drop 16).take k, fun W hW => ?_, fun W hW => ?_, by omega⟩
            · refine (dec_ok _ n c zs W (hr.bel hW) hl hmx hb (by omega) k hk (by omega) h3 (by omega) h5).mono ?_
              rintro e w' ⟨v, he, hrow, _, hbb⟩
              obtain ⟨a1, c1, rfl, _⟩ := rd_shape hrow.rd
              exact ⟨a1, c1, he, hrow.rd, hbb⟩
            · refine (rdec_ok b off n c zs W (hr.bel hW) hl hm hb (by omega) h3 k hk (by omega) (by omega) h5).mono ?_
              rintro e w' ⟨he, hrd, hbb⟩
              rw [← hPl] at he hrd
              rw [hPl] at hrd
              exact ⟨_, _, by rw [he, hPl], by rw [hPl]; exact hrd.bel hbb, hbb⟩
          · exact bad 5 (fun W hW => dec_sum _ n c zs W (hr.bel hW) hl hmx hb (by omega) k hk (by omega) h3 (by omega) h5) (fun W hW => rdec_sum b off n c zs W (hr.bel hW) hl hm hb (by omega) h3 k hk (by omega) (by omega) h5)
    · refine bad 3 (fun W hW => ?_) (fun W hW => (rdec_mark b off n c zs W (hr.bel hW) hl hb (by omega) h3).mono (fun e w' h => same h))
      by_cases h2 : 4096 < k
      · exact dec_long _ n c zs W (hr.bel hW) hl hmx hb (by omega) k hk h2
      · exact dec_mark _ n c zs W (hr.bel hW) hl hmx hb (by omega) k hk (by omega) h3

set_option maxRecDepth 100000 in
theorem recs_long (gen : Int) (a : Option Addr) (n c : Nat) (q : Value) (w : World) (hm : n ≤ maxLen) (hn : 4096 < n) (hq : ∃ a2 n2 c2, q = .slice a2 n2 c2) :
    Calls Try.prog 3 #[.int .u64 gen, .slice a n c, q] w fun e w' => e = .returned (.bool true) ∧ Below w.heap.size w w' := by
  obtain ⟨a2, n2, c2, rfl⟩ := hq
  have HA := Kpt.mk (awake_any w)
  have HR := Kpt.mk (fun W => record_long gen a n c W hn hm)
  have h1 : (4096 : Int) < n := by omega
  clear hm
  go_enter Try.func3, Try.ntmps3
  go_wp2_with (first
    | (go_at_call 8; go_must (refine (HR.out _).mono ?_; rintro e w2 ⟨rfl, h2⟩; have h2' := h2.symm; subst h2'))
    | (go_at_call 7; go_must (refine HA.out.mono ?_; rintro e w1 ⟨rfl, hb1⟩; replace hb1 := Kpt.mk hb1)))
  go_ret
  exact ⟨rfl, hb1.out⟩

set_option maxRecDepth 100000 in
set_option maxHeartbeats 2000000 in
theorem recs_walk (gen : Int) (a : Option Addr) (n c : Nat) (zs : List Int) (qa : Option Addr) (qn qc : Nat) (qs : List Int) (w : World) (hg0 : 0 ≤ gen) (hg1 : gen < 18446744073709551616) (hrd : RdAt w (.slice a n c) zs) (hl : zs.length = n) (hn : n ≤ 4096) (hb : Bytes zs)
    (hqr : RdAt w (.slice qa qn qc) qs) (hql : qs.length = qn) (hqn : qn ≤ 1048576) (hqb : Bytes qs) :
    Calls Try.prog 3 #[.int .u64 gen, .slice a n c, .slice qa qn qc] w fun e w' => e = .returned (.bool true) ∧ Below w.heap.size w w' := by
  have HA := Kpt.mk (awake_any w)
  have HR : Kpt (∀ W, Below w.heap.size w W → Calls Try.prog 8 #[.int .u64 gen, .slice a n c] W fun e w' => ∃ g, e = .returned (.tuple #[.slice (some ⟨g, 0, none⟩) (20 + n) (20 + n), .int .i64 0]) ∧ RdAt w' (.slice (some ⟨g, 0, none⟩) (20 + n) (20 + n)) (recL gen zs) ∧ Below w.heap.size w w') := ⟨fun W hW => (record_any gen a n c zs W hg0 hg1 (hrd.bel hW) hl hn hb).mono (fun e w' ⟨g, h1, h2, h3⟩ => ⟨g, h1, own_rd h2, hW.trans (h3.mono hW.size)⟩)⟩
  have HRR : Kpt (∀ W, Below w.heap.size w W → Calls Try.prog 11 #[.int .u64 gen, .slice a n c] W fun e w' => ∃ g k, e = .returned (.slice (some ⟨g, 0, none⟩) (20 + n) k) ∧ RdAt w' (.slice (some ⟨g, 0, none⟩) (20 + n) k) (recL gen zs) ∧ Below W.heap.size W w') := ⟨fun W hW => (rrec_any gen a n c zs W hg0 hg1 (hrd.bel hW) hl hn hb).mono (fun e w' ⟨g, k, h1, h2, h3⟩ => ⟨g, k, h1, own_rd h2, h3⟩)⟩
  obtain ⟨G, er, P, HD, HDD, hPl⟩ := dec_both qa qn qc qs w hqr hql (by omega) hqb
  obtain ⟨pn, hpn⟩ : ∃ x, x = P.length := ⟨_, rfl⟩
  rw [← hpn] at HD HDD
  replace HD := Kpt.mk HD
  replace HDD := Kpt.mk HDD
  have hrw : Kpt (∀ W, Below w.heap.size w W → RdAt W (.slice a n c) zs) := ⟨fun W hW => hrd.bel hW⟩
  have hqw : Kpt (∀ W, Below w.heap.size w W → RdAt W (.slice qa qn qc) qs) := ⟨fun W hW => hqr.bel hW⟩
  obtain ⟨R, hR⟩ : ∃ R, R = recL gen zs := ⟨_, rfl⟩
  obtain ⟨L, hL⟩ : ∃ L, L = 20 + n := ⟨_, rfl⟩
  have hRl : Kpt (R.length = L) := ⟨by rw [hR, recL_len, hl, hL]⟩
  rw [← hR, ← hL] at HR HRR
  obtain ⟨M, hM⟩ : ∃ M, M = L + qn := ⟨_, rfl⟩
  have hMb : M ≤ 1100000 := by omega
  have hM0 : 0 < M := by omega
  have HF : Kpt (∀ W g k, Below w.heap.size w W → W.ownsRow w.heap.size 5 1 (.slice (some ⟨g, 0, none⟩) M k) M (cels (R ++ qs)) → Calls Try.prog 9 #[.slice (some ⟨g, 0, none⟩) M k] W fun e w' => ∃ a5 c5, e = .returned (.tuple #[.int .u64 gen, .slice a5 n c5, .int .i64 0]) ∧ RdAt w' (.slice a5 n c5) zs ∧ Below w.heap.size w w') := ⟨fun W g k hW ho => by
    refine (dec_yes (some ⟨g, 0, none⟩) M k (R ++ qs) W (own_rd ho) (by rw [List.length_append, hRl.out, hql, hM]) (by unfold maxLen; omega) (bytes_mem (fun x hx => ?_)) gen zs (by rw [hR]; exact decO_more gen zs qs hg0 hg1 (by omega))).mono ?_
    · have m1 := (recL_bytes gen zs hb).mem
      have m2 := hqb.mem
      rw [List.mem_append, hR] at hx
      rcases hx with hx | hx
      · have := m1 x hx; omega
      · have := m2 x hx; omega
    · rintro e w' ⟨v, h1, h2, _, h4⟩
      obtain ⟨a5, c5, rfl, _⟩ := rd_shape h2.rd
      rw [hl] at h1 h2
      exact ⟨a5, c5, h1, h2.rd, hW.trans (h4.mono hW.size)⟩⟩
  have nl : ¬ (4096 : Int) < n := by omega
  have hL20 : 0 < L := by omega
  have hLb : L ≤ 5000 := by omega
  replace hl := Kpt.mk hl
  replace hql := Kpt.mk hql
  replace hpn := Kpt.mk hpn
  replace hL := Kpt.mk hL
  have hM' := Kpt.mk hM
  clear hrd hqr hb hqb hR hM
  go_enter Try.func3, Try.ntmps3
  go_wp2_with (first
    | (go_at_call 10; go_must (refine (HDD.out _ hb3.out).mono ?_; rintro e w4 ⟨a4, c4, rfl, hr4, hB4⟩; have hb4 := Kpt.mk (hb3.out.trans (hB4.mono hb3.out.size)); have hR2' := Kpt.mk (hR2.out.bel hB4); have hr3' := Kpt.mk (hr3.out.bel hB4); replace hr4 := Kpt.mk hr4; clear hB4 hR2 hr3 hb3 HDD))
    | (have hm := m1; go_at_call 9; go_must (refine (HD.out _ hb2.out).mono ?_; rintro e w3 ⟨a3, c3, rfl, hr3, hB3⟩; have hb3 := Kpt.mk (hb2.out.trans (hB3.mono hb2.out.size)); replace hR2 := Kpt.mk (hR2.out.bel hB3); replace hr3 := Kpt.mk hr3; clear hB3 hb2 HD hm m1))
    | (go_at_call 8; go_must (refine (HR.out _ hb1.out).mono ?_; rintro e w2 ⟨g2, rfl, hR2, hb2⟩; replace hR2 := Kpt.mk hR2; replace hb2 := Kpt.mk hb2; clear hb1 HR; have m1 : Kpt True := ⟨trivial⟩))
    | (go_at_call 7; go_must (refine HA.out.mono ?_; rintro e w1 ⟨rfl, hb1⟩; replace hb1 := Kpt.mk hb1; clear HA)))
  refine wp_region_any (by kernel_rfl) ?_
  refine wpAny_of_C (C := fun W => RdAt W (.slice (some ⟨g2, 0, none⟩) L L) R ∧ RdAt W (.slice a3 pn c3) P ∧ RdAt W (.slice a4 pn c4) P) _ _ _ _ ?_
  refine wpAnyC_take 0 (.int .i64 0) rfl (by kernel_rfl) (by kernel_rfl) (by kernel_rfl) (fun _ _ _ h => h) (wanted_free rfl _) (fun W hW => by go_simp) ?_
  try simp only [Act.put, List.getElem_toArray, List.getElem_cons_succ, List.getElem_cons_zero, List.setIfInBounds_toArray, List.set_cons_succ, List.set_cons_zero]
  refine wpAnyC_take 1 (.bool false) rfl (by kernel_rfl) (by kernel_rfl) (by kernel_rfl) (fun _ _ _ h => h) (wanted_free rfl _) (fun W hW => by go_simp) ?_
  try simp only [Act.put, List.getElem_toArray, List.getElem_cons_succ, List.getElem_cons_zero, List.setIfInBounds_toArray, List.set_cons_succ, List.set_cons_zero]
  refine wpAnyC_take 2 (.bool false) rfl (by kernel_rfl) (by kernel_rfl) (by kernel_rfl) (fun _ _ _ h => h) (wanted_free rfl _) (fun W hW => by go_simp) ?_
  try simp only [Act.put, List.getElem_toArray, List.getElem_cons_succ, List.getElem_cons_zero, List.setIfInBounds_toArray, List.set_cons_succ, List.set_cons_zero]
  refine wpAnyC_take 3 (.slice (some ⟨g2, 0, none⟩) L L) rfl (by kernel_rfl) (by kernel_rfl) (by kernel_rfl) (fun _ _ _ h => h) (wanted_at false rfl rfl rfl rfl) (fun W hW => by go_simp) ?_
  try simp only [Act.put, List.getElem_toArray, List.getElem_cons_succ, List.getElem_cons_zero, List.setIfInBounds_toArray, List.set_cons_succ, List.set_cons_zero]
  refine wpAnyC_take 4 (.string (strOfNums R)) rfl (by kernel_rfl) (by kernel_rfl) (by kernel_rfl) (fun _ _ _ h => h) (wanted_at false rfl rfl rfl rfl) (fun W hW => by have h := conv_rd W _ R hW.1; go_simp) ?_
  try simp only [Act.put, List.getElem_toArray, List.getElem_cons_succ, List.getElem_cons_zero, List.setIfInBounds_toArray, List.set_cons_succ, List.set_cons_zero]
  refine wpAnyC_take 5 (.int .u64 gen) rfl (by kernel_rfl) (by kernel_rfl) (by kernel_rfl) (fun _ _ _ h => h) (wanted_at false rfl rfl rfl rfl) (fun W hW => by go_simp) ?_
  try simp only [Act.put, List.getElem_toArray, List.getElem_cons_succ, List.getElem_cons_zero, List.setIfInBounds_toArray, List.set_cons_succ, List.set_cons_zero]
  refine wpAnyC_take 6 (.slice a n c) rfl (by kernel_rfl) (by kernel_rfl) (by kernel_rfl) (fun _ _ _ h => h) (wanted_at false rfl rfl rfl rfl) (fun W hW => by go_simp) ?_
  try simp only [Act.put, List.getElem_toArray, List.getElem_cons_succ, List.getElem_cons_zero, List.setIfInBounds_toArray, List.set_cons_succ, List.set_cons_zero]
  refine wpAnyC_one 7 (⟨hR2'.out.bel (below_drawn w4 _), hr3'.out.bel (below_drawn w4 _), hr4.out.bel (below_drawn w4 _)⟩) rfl (by kernel_rfl) (wanted_at false rfl rfl rfl rfl) (fun KA hKA => ?_)
  go_simp
  refine (HRR.out _ (hb4.out.trans ((below_drawn w4 _).mono hb4.out.size))).mono ?_
  rintro e y5 ⟨g5, k5, rfl, hr5, hB5⟩
  have hB5' := (below_drawn w4 _).trans (hB5.mono (Nat.le_refl _))
  have hC5 : RdAt y5 (.slice (some ⟨g2, 0, none⟩) L L) R ∧ RdAt y5 (.slice a3 pn c3) P ∧ RdAt y5 (.slice a4 pn c4) P := ⟨hR2'.out.bel hB5', hr3'.out.bel hB5', hr4.out.bel hB5'⟩
  have hb5 := Kpt.mk (hb4.out.trans (hB5'.mono hb4.out.size))
  replace hr5 := Kpt.mk hr5
  clear hB5 hB5' hR2' hr3' hr4 hb4 HRR
  refine hKA _ _ ?_
  clear hKA KA
  try simp only [Act.put, List.getElem_toArray, List.getElem_cons_succ, List.getElem_cons_zero, List.setIfInBounds_toArray, List.set_cons_succ, List.set_cons_zero]
  refine wpAnyC_mono (C' := fun W => (RdAt W (.slice (some ⟨g2, 0, none⟩) L L) R ∧ RdAt W (.slice a3 pn c3) P ∧ RdAt W (.slice a4 pn c4) P) ∧ RdAt W (.slice (some ⟨g5, 0, none⟩) L k5) R) (fun W h => h.1) _ _ _ _ ?_
  refine wpAnyC_take 8 (.string (strOfNums R)) rfl (by kernel_rfl) (by kernel_rfl) (by kernel_rfl) (fun _ _ _ h => h) (wanted_at false rfl rfl rfl rfl) (fun W hW => by have h := conv_rd W _ R hW.2; go_simp) ?_
  try simp only [Act.put, List.getElem_toArray, List.getElem_cons_succ, List.getElem_cons_zero, List.setIfInBounds_toArray, List.set_cons_succ, List.set_cons_zero]
  refine wpAnyC_take 9 (.bool false) rfl (by kernel_rfl) (by kernel_rfl) (by kernel_rfl) (fun _ _ _ h => h) (wanted_at false rfl rfl rfl rfl) (fun W hW => by go_simp) ?_
  try simp only [Act.put, List.getElem_toArray, List.getElem_cons_succ, List.getElem_cons_zero, List.setIfInBounds_toArray, List.set_cons_succ, List.set_cons_zero]
  refine wpAnyC_take 10 (.bool false) rfl (by kernel_rfl) (by kernel_rfl) (by kernel_rfl) (fun _ _ _ h => h) (wanted_free rfl _) (fun W hW => by go_simp) ?_
  try simp only [Act.put, List.getElem_toArray, List.getElem_cons_succ, List.getElem_cons_zero, List.setIfInBounds_toArray, List.set_cons_succ, List.set_cons_zero]
  refine wpAnyC_take 11 (.bool false) rfl (by kernel_rfl) (by kernel_rfl) (by kernel_rfl) (fun _ _ _ h => h) (wanted_free rfl _) (fun W hW => by go_simp) ?_
  try simp only [Act.put, List.getElem_toArray, List.getElem_cons_succ, List.getElem_cons_zero, List.setIfInBounds_toArray, List.set_cons_succ, List.set_cons_zero]
  refine wpAnyC_take 12 (.int .i64 er) rfl (by kernel_rfl) (by kernel_rfl) (by kernel_rfl) (fun _ _ _ h => h) (wanted_at false rfl rfl rfl rfl) (fun W hW => by go_simp) ?_
  try simp only [Act.put, List.getElem_toArray, List.getElem_cons_succ, List.getElem_cons_zero, List.setIfInBounds_toArray, List.set_cons_succ, List.set_cons_zero]
  refine wpAnyC_take 13 (.int .i64 er) rfl (by kernel_rfl) (by kernel_rfl) (by kernel_rfl) (fun _ _ _ h => h) (wanted_at false rfl rfl rfl rfl) (fun W hW => by go_simp) ?_
  try simp only [Act.put, List.getElem_toArray, List.getElem_cons_succ, List.getElem_cons_zero, List.setIfInBounds_toArray, List.set_cons_succ, List.set_cons_zero]
  refine wpAnyC_take 14 (.bool false) rfl (by kernel_rfl) (by kernel_rfl) (by kernel_rfl) (fun _ _ _ h => h) (wanted_at false rfl rfl rfl rfl) (fun W hW => by go_simp) ?_
  try simp only [Act.put, List.getElem_toArray, List.getElem_cons_succ, List.getElem_cons_zero, List.setIfInBounds_toArray, List.set_cons_succ, List.set_cons_zero]
  refine wpAnyC_take 15 (.bool false) rfl (by kernel_rfl) (by kernel_rfl) (by kernel_rfl) (fun _ _ _ h => h) (wanted_free rfl _) (fun W hW => by go_simp) ?_
  try simp only [Act.put, List.getElem_toArray, List.getElem_cons_succ, List.getElem_cons_zero, List.setIfInBounds_toArray, List.set_cons_succ, List.set_cons_zero]
  refine wpAnyC_take 16 (.bool false) rfl (by kernel_rfl) (by kernel_rfl) (by kernel_rfl) (fun _ _ _ h => h) (wanted_free rfl _) (fun W hW => by go_simp) ?_
  try simp only [Act.put, List.getElem_toArray, List.getElem_cons_succ, List.getElem_cons_zero, List.setIfInBounds_toArray, List.set_cons_succ, List.set_cons_zero]
  refine wpAnyC_take 17 (.int .u64 G) rfl (by kernel_rfl) (by kernel_rfl) (by kernel_rfl) (fun _ _ _ h => h) (wanted_at false rfl rfl rfl rfl) (fun W hW => by go_simp) ?_
  try simp only [Act.put, List.getElem_toArray, List.getElem_cons_succ, List.getElem_cons_zero, List.setIfInBounds_toArray, List.set_cons_succ, List.set_cons_zero]
  refine wpAnyC_take 18 (.int .u64 G) rfl (by kernel_rfl) (by kernel_rfl) (by kernel_rfl) (fun _ _ _ h => h) (wanted_at false rfl rfl rfl rfl) (fun W hW => by go_simp) ?_
  try simp only [Act.put, List.getElem_toArray, List.getElem_cons_succ, List.getElem_cons_zero, List.setIfInBounds_toArray, List.set_cons_succ, List.set_cons_zero]
  refine wpAnyC_take 19 (.bool false) rfl (by kernel_rfl) (by kernel_rfl) (by kernel_rfl) (fun _ _ _ h => h) (wanted_at false rfl rfl rfl rfl) (fun W hW => by go_simp) ?_
  try simp only [Act.put, List.getElem_toArray, List.getElem_cons_succ, List.getElem_cons_zero, List.setIfInBounds_toArray, List.set_cons_succ, List.set_cons_zero]
  refine wpAnyC_take 20 (.bool false) rfl (by kernel_rfl) (by kernel_rfl) (by kernel_rfl) (fun _ _ _ h => h) (wanted_free rfl _) (fun W hW => by go_simp) ?_
  try simp only [Act.put, List.getElem_toArray, List.getElem_cons_succ, List.getElem_cons_zero, List.setIfInBounds_toArray, List.set_cons_succ, List.set_cons_zero]
  refine wpAnyC_take 21 (.bool false) rfl (by kernel_rfl) (by kernel_rfl) (by kernel_rfl) (fun _ _ _ h => h) (wanted_free rfl _) (fun W hW => by go_simp) ?_
  try simp only [Act.put, List.getElem_toArray, List.getElem_cons_succ, List.getElem_cons_zero, List.setIfInBounds_toArray, List.set_cons_succ, List.set_cons_zero]
  refine wpAnyC_take 22 (.slice a3 pn c3) rfl (by kernel_rfl) (by kernel_rfl) (by kernel_rfl) (fun _ _ _ h => h) (wanted_at false rfl rfl rfl rfl) (fun W hW => by go_simp) ?_
  try simp only [Act.put, List.getElem_toArray, List.getElem_cons_succ, List.getElem_cons_zero, List.setIfInBounds_toArray, List.set_cons_succ, List.set_cons_zero]
  refine wpAnyC_take 23 (.string (strOfNums P)) rfl (by kernel_rfl) (by kernel_rfl) (by kernel_rfl) (fun _ _ _ h => h) (wanted_at false rfl rfl rfl rfl) (fun W hW => by have h := conv_rd W _ P hW.1.2.1; go_simp) ?_
  try simp only [Act.put, List.getElem_toArray, List.getElem_cons_succ, List.getElem_cons_zero, List.setIfInBounds_toArray, List.set_cons_succ, List.set_cons_zero]
  refine wpAnyC_take 24 (.slice a4 pn c4) rfl (by kernel_rfl) (by kernel_rfl) (by kernel_rfl) (fun _ _ _ h => h) (wanted_at false rfl rfl rfl rfl) (fun W hW => by go_simp) ?_
  try simp only [Act.put, List.getElem_toArray, List.getElem_cons_succ, List.getElem_cons_zero, List.setIfInBounds_toArray, List.set_cons_succ, List.set_cons_zero]
  refine wpAnyC_take 25 (.string (strOfNums P)) rfl (by kernel_rfl) (by kernel_rfl) (by kernel_rfl) (fun _ _ _ h => h) (wanted_at false rfl rfl rfl rfl) (fun W hW => by have h := conv_rd W _ P hW.1.2.2; go_simp) ?_
  try simp only [Act.put, List.getElem_toArray, List.getElem_cons_succ, List.getElem_cons_zero, List.setIfInBounds_toArray, List.set_cons_succ, List.set_cons_zero]
  refine wpAnyC_take 26 (.bool false) rfl (by kernel_rfl) (by kernel_rfl) (by kernel_rfl) (fun _ _ _ h => h) (wanted_at false rfl rfl rfl rfl) (fun W hW => by go_simp) ?_
  try simp only [Act.put, List.getElem_toArray, List.getElem_cons_succ, List.getElem_cons_zero, List.setIfInBounds_toArray, List.set_cons_succ, List.set_cons_zero]
  refine wpAnyC_take 27 (.bool false) rfl (by kernel_rfl) (by kernel_rfl) (by kernel_rfl) (fun _ _ _ h => h) (wanted_free rfl _) (fun W hW => by go_simp) ?_
  try simp only [Act.put, List.getElem_toArray, List.getElem_cons_succ, List.getElem_cons_zero, List.setIfInBounds_toArray, List.set_cons_succ, List.set_cons_zero]
  refine wpAnyC_done (⟨hC5, hr5.out⟩) (by kernel_rfl) ?_
  have hRa := Kpt.mk hC5.1
  clear hC5 hr5
  go_wp2_with (first
    | (go_at_call 9; have hmm := p2; go_must (refine (HF.out _ g7 k7 hy7.out ho7.out).mono ?_; rintro e w8 ⟨a8, c8, rfl, hr8, hb8⟩; have hcv1 := conv_rd w8 _ zs hr8; have hcv2 := conv_rd w8 _ zs (hrw.out _ hb8); replace hb8 := Kpt.mk hb8; clear hr8 HF hmm p2))
    | (at_builtin; have hmm := p1; go_must (refine wpList_append_rdd rfl (.tmp 84) (.tmp 85) rfl w.heap.size _ _ R qs L M rfl rfl ho6.out (hqw.out _ hy6.out) (by omega) hRl.out (by rw [hql.out, hM'.out]) (by omega) hy6.out.size ?_; intro g7 k7 y7 ho7 hl7 hg7; have hy7 : Kpt (Below w.heap.size w y7) := ⟨hy6.out.grown hg7.out hy6.out.size (fun q hq => by cases hq; exact hl6.out.1)⟩; clear hg7 ho6 hmm p1; have p2 : Kpt True := ⟨trivial⟩))
    | (refine (?_ : wpList _ _ _ (Oper.mk (some 83) _ _ _ _ _ :: _) _ _); at_builtin; go_must (refine wpList_append_rdd rfl (.tmp 81) (.tmp 82) rfl w.heap.size _ _ [] R 0 L rfl rfl (World.ownsRow_nil _ _ 5 1) hRa.out (by omega) rfl (by rw [hRl.out]; omega) (by omega) hb5.out.size ?_; intro g6 k6 y6 ho6 hl6 hg6; have hy6 : Kpt (Below w.heap.size w y6) := ⟨hb5.out.grown hg6.out hb5.out.size (fun q hq => by cases hq)⟩; rw [List.nil_append] at ho6; clear hg6; have p1 : Kpt True := ⟨trivial⟩)))
  go_ret
  exact ⟨rfl, hb8.out⟩
end Go.Proofs.Ytndlpmnidpandaa
