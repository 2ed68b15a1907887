/-
  sess: take.
-/
import Derived.Test.YtdplndlmdhpfaabEDel
namespace Go.Proofs.Ytdplndlmdhpfaab
open Go.RowKit
set_option linter.unusedVariables false
set_option linter.unusedSimpArgs false

theorem zCmd : (Try.prog.info? 74).map (fun i => i.zero) = some (some (.agg (Cm.v ⟨0, 0, false, 0⟩))) := by kernel_rfl
theorem grown_box {w w1 w2 : World} {b g : Nat} (h : w.grownBy w1 (some g)) (h2 : w1.grownBy w2 (some b)) (hb : w.heap.size ≤ b) : w.grownBy w2 (some g) :=
  ⟨h2.os.trans h.os, h2.tape.trans h.tape, h2.output.trans h.output, Nat.le_trans h.size h2.size, fun k hk hne => (h2.block k (Nat.lt_of_lt_of_le hk h.size) (fun e => by injection e with e; omega)).trans (h.block k hk hne)⟩
theorem grown_bel {w w1 w2 : World} {g : Nat} (h : w.grownBy w1 (some g)) (h2 : Below w1.heap.size w1 w2) : w.grownBy w2 (some g) :=
  ⟨h2.os.trans h.os, h2.tape.trans h.tape, h2.output.trans h.output, Nat.le_trans h.size h2.size, fun k hk hne => (h2.block k (Nat.lt_of_lt_of_le hk h.size)).trans (h.block k hk hne)⟩
theorem grown_refl (w : World) (g : Option Nat) : w.grownBy w g := ⟨rfl, rfl, rfl, Nat.le_refl _, fun _ _ _ => rfl⟩
theorem grown_trans {w w1 w2 : World} {g : Option Nat} (h : w.grownBy w1 g) (h2 : w1.grownBy w2 g) : w.grownBy w2 g :=
  ⟨h2.os.trans h.os, h2.tape.trans h.tape, h2.output.trans h.output, Nat.le_trans h.size h2.size, fun k hk hne => (h2.block k (Nat.lt_of_lt_of_le hk h.size) hne).trans (h.block k hk hne)⟩

set_option maxRecDepth 100000 in
set_option maxHeartbeats 4000000 in
theorem takeP_any (g cap i m : Nat) (zs : List (Array Value)) (z : Array Value) (w : World) (h : OwnR 42 14 w (.slice (some ⟨g, 0, none⟩) m cap) zs) (hz : zs.length = m) (hi : zs[i]? = some z) (hl : m ≤ 10000) (hcap : m ≤ cap) (hcm : cap ≤ 9223372036854775807) :
    Calls Try.prog 46 #[.slice (some ⟨g, 0, none⟩) m cap, .int .i64 i] w fun e w' => e = .returned (.tuple #[.agg z, .slice (some ⟨g, 0, none⟩) (m - 1) cap]) ∧ OwnR 42 14 w' (.slice (some ⟨g, 0, none⟩) (m - 1) cap) (zs.eraseIdx i) ∧ w.grownBy w' (some g) := by
  have him : i < m := by rw [← hz]; exact (List.getElem?_eq_some_iff.1 hi).1
  have hzz := Kpt.mk (h.wide z (List.mem_of_getElem? hi))
  obtain ⟨a', c', hv', hsh⟩ := h.shape
  have hrd : Kpt (w.rangeAt g (i * 14) z.toList ∧ g < w.heap.size) := ⟨by
    simp only [Value.slice.injEq] at hv'
    obtain ⟨rfl, _, rfl⟩ := hv'
    rcases hsh with ⟨hx, _⟩ | ⟨g', hx, hg, _, _, _, hr⟩
    · cases hx
    · simp only [Option.some.injEq, Addr.mk.injEq, and_true] at hx
      subst hx
      exact ⟨hr i z hi, hg⟩⟩
  clear hsh hv'
  have hO : Kpt (∀ W, Below w.heap.size w W → OwnR 42 14 W (.slice (some ⟨g, 0, none⟩) m cap) zs) := ⟨fun W hb => h.of_block (fun q hq => hb.block q (h.lt hq))⟩
  have hD : Kpt (∀ W, Below w.heap.size w W → Calls Try.prog 63 #[.slice (some ⟨g, 0, none⟩) m cap, .int .i64 i, .int .i64 ((i : Int) + 1)] W fun e w' => e = .returned (.slice (some ⟨g, 0, none⟩) (m - 1) cap) ∧ OwnR 42 14 w' (.slice (some ⟨g, 0, none⟩) (m - 1) cap) (zs.eraseIdx i) ∧ W.grownBy w' (some g)) := ⟨fun W hb => delP_any g cap i m zs W h.wide hz (by have := (hO.out W hb).own; rw [hz] at this; exact this) him hl hcap hcm⟩
  clear h hi hz
  have e1 : (i : Int) < m := by omega
  have e2 : (m : Int) ≤ cap := by omega
  obtain ⟨m1, hm1⟩ : ∃ x, x = m - 1 := ⟨_, rfl⟩
  rw [← hm1] at hD ⊢
  clear hm1
  go_enter Try.func46, Try.ntmps46
  go_wp2_with (first
    | (refine (?_ : wpList _ _ _ (Oper.mk _ (Op.load 42 _) _ _ _ _ :: _) _ _); go_must (refine wpList_load_mid rfl 42 _ rfl g (i * 14) rfl z.toList _ (rangeAt_block hrd.out.1 (hb1.out.block g hrd.out.2)) Try.underlying42 rfl (by rw [Array.length_toList, hzz.out.1]; exact szPdu) ?_; have hld := hrd))
    | (refine (?_ : wpList _ _ _ (Oper.mk _ (Op.store 42 _ _) _ _ _ _ :: _) _ _); go_must (refine wpList_store_bx rfl 42 _ _ rfl Q zP.v z rfl rfl hBq.out hzz.out.1 (by rw [hzz.out.1]; exact szPdu) hzz.out.2 rfl ?_; intro w3 hB3 hg3; have hR3 := Kpt.mk (hR2.out.grown hg3 (fun e => hQR (by injection e))); have hb3 := Kpt.mk (hb2.out.grown hg3 hb2.out.size (fun q e => by injection e with e; subst e; exact Nat.le_trans hb1.out.size hQ.out)); replace hB3 := Kpt.mk hB3; clear hg3))
    | (refine (?_ : wpList _ _ _ (Oper.mk _ (Op.alloc 42) _ _ _ _ :: _) _ _); have mm := hld; go_must (refine wpList_var rfl 42 rfl _ zPdu ?_; intro Q w2 hQ hBq hbq; have hR2 := Kpt.mk (hBr.out.below hbq hBr.out.lt); have hQR : Q ≠ R := (by have := hBr.out.lt; omega); have hb2 := Kpt.mk (hb1.out.trans (hbq.mono hb1.out.size)); replace hQ := Kpt.mk hQ; replace hBq := Kpt.mk hBq; clear hbq mm))
    | (refine (?_ : wpList _ _ _ (Oper.mk _ (Op.alloc 42) _ _ _ _ :: _) _ _); go_must (refine wpList_var rfl 42 rfl _ zPdu ?_; intro R w1 hR hBr hb1; replace hR := Kpt.mk hR; replace hBr := Kpt.mk hBr; replace hb1 := Kpt.mk hb1)))
  obtain ⟨W, hW⟩ : ∃ W, W = w3.drew := ⟨_, rfl⟩
  have hBW : Kpt (Bx W Q z) := ⟨by rw [hW]; exact hB3.out.drew⟩
  have hRW : Kpt (Bx W R zP.v) := ⟨by rw [hW]; exact hR3.out.drew⟩
  have hbW : Kpt (Below w.heap.size w W) := ⟨by rw [hW]; exact hb3.out.trans ((below_drew w3).mono hb3.out.size)⟩
  refine wp_region_any (by kernel_rfl) ?_
  refine wpAny_of_C (C := fun W => Bx W Q z) _ _ _ _ ?_
  refine wpAnyC_take 0 (.agg z) rfl (by kernel_rfl) (by kernel_rfl) (by kernel_rfl) (fun _ _ _ h => h) (wanted_free rfl _) (fun W hW => exec_load_bx 42 (.tmp 6) rfl Q _ rfl hW _ Try.underlying42 rfl (by rw [hzz.out.1]; exact szPdu)) ?_
  try simp only [Act.put, List.getElem_toArray, List.getElem_cons_succ, List.getElem_cons_zero, List.setIfInBounds_toArray, List.set_cons_succ, List.set_cons_zero]
  refine wpAnyC_take 1 (.slice (some ⟨g, 0, none⟩) m cap) rfl (by kernel_rfl) (by kernel_rfl) (by kernel_rfl) (fun _ _ _ h => h) (wanted_free rfl _) (fun W hW => by go_simp) ?_
  try simp only [Act.put, List.getElem_toArray, List.getElem_cons_succ, List.getElem_cons_zero, List.setIfInBounds_toArray, List.set_cons_succ, List.set_cons_zero]
  refine wpAnyC_take 2 (.int .i64 i) rfl (by kernel_rfl) (by kernel_rfl) (by kernel_rfl) (fun _ _ _ h => h) (wanted_free rfl _) (fun W hW => by go_simp) ?_
  try simp only [Act.put, List.getElem_toArray, List.getElem_cons_succ, List.getElem_cons_zero, List.setIfInBounds_toArray, List.set_cons_succ, List.set_cons_zero]
  refine wpAnyC_take 3 (.int .i64 i) rfl (by kernel_rfl) (by kernel_rfl) (by kernel_rfl) (fun _ _ _ h => h) (wanted_free rfl _) (fun W hW => by go_simp) ?_
  try simp only [Act.put, List.getElem_toArray, List.getElem_cons_succ, List.getElem_cons_zero, List.setIfInBounds_toArray, List.set_cons_succ, List.set_cons_zero]
  refine wpAnyC_take 4 (.int .i64 ((i : Int) + 1)) rfl (by kernel_rfl) (by kernel_rfl) (by kernel_rfl) (fun _ _ _ h => h) (wanted_free rfl _) (fun W hW => by go_simp; rw [IntKind.wrap_i64]; omega) ?_
  try simp only [Act.put, List.getElem_toArray, List.getElem_cons_succ, List.getElem_cons_zero, List.setIfInBounds_toArray, List.set_cons_succ, List.set_cons_zero]
  refine wpAnyC_world hW ?_
  clear hW
  refine wpAnyC_one 5 (hBW.out) rfl (by kernel_rfl) (wanted_free rfl _) (fun KA hKA => ?_)
  go_simp
  refine (hD.out _ hbW.out).mono ?_
  intro e w5 hh
  obtain ⟨he, ho5, hg5⟩ := hh
  subst he
  have hgQ : Q ≠ g := by have := hQ.out; have := hb1.out.size; have := hrd.out.2; omega
  have hgR : R ≠ g := by have := hR.out; have := hrd.out.2; omega
  have hB5 := Kpt.mk (hBW.out.grown hg5 (fun e => hgQ (by injection e with e; exact e.symm)))
  have hR5 := Kpt.mk (hRW.out.grown hg5 (fun e => hgR (by injection e with e; exact e.symm)))
  have hgw5 : Kpt (w.grownBy w5 (some g)) := ⟨grown_trans (grown_bel (grown_refl w (some g)) hbW.out) hg5⟩
  replace ho5 := Kpt.mk ho5
  clear hg5
  refine hKA _ _ ?_
  clear hKA KA
  try simp only [Act.put, List.getElem_toArray, List.getElem_cons_succ, List.getElem_cons_zero, List.setIfInBounds_toArray, List.set_cons_succ, List.set_cons_zero]
  refine wpAnyC_one 6 (hB5.out) rfl (by kernel_rfl) (wanted_free rfl _) (fun KA hKA => ?_)
  refine wp_store_bx 42 _ _ rfl R zP.v z rfl rfl hR5.out hzz.out.1 (by rw [hzz.out.1]; exact szPdu) hzz.out.2 ?_
  intro w6 hR6 hg6
  have hB6 := Kpt.mk (hB5.out.grown hg6 (fun e => hQR (by injection e with e; exact e.symm)))
  have hgw6 : Kpt (w.grownBy w6 (some g)) := ⟨grown_box hgw5.out hg6 hR.out⟩
  have ho6 : Kpt (OwnR 42 14 w6 (.slice (some ⟨g, 0, none⟩) m1 cap) (zs.eraseIdx i)) := ⟨ho5.out.of_block (fun q hq => hg6.block q (ho5.out.lt hq) (fun e => hgR (by injection e with e; simp [Value.ownBlock] at hq; rw [← e, ← hq])))⟩
  replace hR6 := Kpt.mk hR6
  clear hg6
  refine hKA _ _ ?_
  clear hKA KA
  try simp only [Act.put, List.getElem_toArray, List.getElem_cons_succ, List.getElem_cons_zero, List.setIfInBounds_toArray, List.set_cons_succ, List.set_cons_zero]
  refine wpAnyC_one 7 (hB6.out) rfl (by kernel_rfl) (wanted_free rfl _) (fun KA hKA => ?_)
  go_simp
  refine hKA _ _ ?_
  clear hKA KA
  try simp only [Act.put, List.getElem_toArray, List.getElem_cons_succ, List.getElem_cons_zero, List.setIfInBounds_toArray, List.set_cons_succ, List.set_cons_zero]
  refine wpAnyC_done (hB6.out) (by kernel_rfl) ?_
  go_wp2
  refine bodyPost_ret (v := .tuple #[.agg z, .slice (some ⟨g, 0, none⟩) m1 cap]) (by simp [results, Try.results46, asAddr, Act.put, run_res hR6.out 42 _ Try.underlying42 rfl (by rw [hzz.out.1]; exact szPdu)]) rfl ⟨rfl, ho6.out, hgw6.out⟩

set_option maxRecDepth 100000 in
set_option maxHeartbeats 4000000 in
theorem takeC_any (g cap i m : Nat) (zs : List (Array Value)) (z : Array Value) (w : World) (h : OwnR 74 4 w (.slice (some ⟨g, 0, none⟩) m cap) zs) (hz : zs.length = m) (hi : zs[i]? = some z) (hl : m ≤ 10000) (hcap : m ≤ cap) (hcm : cap ≤ 9223372036854775807) :
    Calls Try.prog 49 #[.slice (some ⟨g, 0, none⟩) m cap, .int .i64 i] w fun e w' => e = .returned (.tuple #[.agg z, .slice (some ⟨g, 0, none⟩) (m - 1) cap]) ∧ OwnR 74 4 w' (.slice (some ⟨g, 0, none⟩) (m - 1) cap) (zs.eraseIdx i) ∧ w.grownBy w' (some g) := by
  have him : i < m := by rw [← hz]; exact (List.getElem?_eq_some_iff.1 hi).1
  have hzz := Kpt.mk (h.wide z (List.mem_of_getElem? hi))
  obtain ⟨a', c', hv', hsh⟩ := h.shape
  have hrd : Kpt (w.rangeAt g (i * 4) z.toList ∧ g < w.heap.size) := ⟨by
    simp only [Value.slice.injEq] at hv'
    obtain ⟨rfl, _, rfl⟩ := hv'
    rcases hsh with ⟨hx, _⟩ | ⟨g', hx, hg, _, _, _, hr⟩
    · cases hx
    · simp only [Option.some.injEq, Addr.mk.injEq, and_true] at hx
      subst hx
      exact ⟨hr i z hi, hg⟩⟩
  clear hsh hv'
  have hO : Kpt (∀ W, Below w.heap.size w W → OwnR 74 4 W (.slice (some ⟨g, 0, none⟩) m cap) zs) := ⟨fun W hb => h.of_block (fun q hq => hb.block q (h.lt hq))⟩
  have hD : Kpt (∀ W, Below w.heap.size w W → Calls Try.prog 66 #[.slice (some ⟨g, 0, none⟩) m cap, .int .i64 i, .int .i64 ((i : Int) + 1)] W fun e w' => e = .returned (.slice (some ⟨g, 0, none⟩) (m - 1) cap) ∧ OwnR 74 4 w' (.slice (some ⟨g, 0, none⟩) (m - 1) cap) (zs.eraseIdx i) ∧ W.grownBy w' (some g)) := ⟨fun W hb => delC_any g cap i m zs W h.wide hz (by have := (hO.out W hb).own; rw [hz] at this; exact this) him hl hcap hcm⟩
  clear h hi hz
  have e1 : (i : Int) < m := by omega
  have e2 : (m : Int) ≤ cap := by omega
  obtain ⟨m1, hm1⟩ : ∃ x, x = m - 1 := ⟨_, rfl⟩
  rw [← hm1] at hD ⊢
  clear hm1
  go_enter Try.func49, Try.ntmps49
  go_wp2_with (first
    | (refine (?_ : wpList _ _ _ (Oper.mk _ (Op.load 74 _) _ _ _ _ :: _) _ _); go_must (refine wpList_load_mid rfl 74 _ rfl g (i * 4) rfl z.toList _ (rangeAt_block hrd.out.1 (hb1.out.block g hrd.out.2)) Try.underlying74 rfl (by rw [Array.length_toList, hzz.out.1]; exact szCmd) ?_; have hld := hrd))
    | (refine (?_ : wpList _ _ _ (Oper.mk _ (Op.store 74 _ _) _ _ _ _ :: _) _ _); go_must (refine wpList_store_bx rfl 74 _ _ rfl Q (Cm.v ⟨0, 0, false, 0⟩) z rfl rfl hBq.out hzz.out.1 (by rw [hzz.out.1]; exact szCmd) hzz.out.2 rfl ?_; intro w3 hB3 hg3; have hR3 := Kpt.mk (hR2.out.grown hg3 (fun e => hQR (by injection e))); have hb3 := Kpt.mk (hb2.out.grown hg3 hb2.out.size (fun q e => by injection e with e; subst e; exact Nat.le_trans hb1.out.size hQ.out)); replace hB3 := Kpt.mk hB3; clear hg3))
    | (refine (?_ : wpList _ _ _ (Oper.mk _ (Op.alloc 74) _ _ _ _ :: _) _ _); have mm := hld; go_must (refine wpList_var rfl 74 rfl _ zCmd ?_; intro Q w2 hQ hBq hbq; have hR2 := Kpt.mk (hBr.out.below hbq hBr.out.lt); have hQR : Q ≠ R := (by have := hBr.out.lt; omega); have hb2 := Kpt.mk (hb1.out.trans (hbq.mono hb1.out.size)); replace hQ := Kpt.mk hQ; replace hBq := Kpt.mk hBq; clear hbq mm))
    | (refine (?_ : wpList _ _ _ (Oper.mk _ (Op.alloc 74) _ _ _ _ :: _) _ _); go_must (refine wpList_var rfl 74 rfl _ zCmd ?_; intro R w1 hR hBr hb1; replace hR := Kpt.mk hR; replace hBr := Kpt.mk hBr; replace hb1 := Kpt.mk hb1)))
  obtain ⟨W, hW⟩ : ∃ W, W = w3.drew := ⟨_, rfl⟩
  have hBW : Kpt (Bx W Q z) := ⟨by rw [hW]; exact hB3.out.drew⟩
  have hRW : Kpt (Bx W R (Cm.v ⟨0, 0, false, 0⟩)) := ⟨by rw [hW]; exact hR3.out.drew⟩
  have hbW : Kpt (Below w.heap.size w W) := ⟨by rw [hW]; exact hb3.out.trans ((below_drew w3).mono hb3.out.size)⟩
  refine wp_region_any (by kernel_rfl) ?_
  refine wpAny_of_C (C := fun W => Bx W Q z) _ _ _ _ ?_
  refine wpAnyC_take 0 (.agg z) rfl (by kernel_rfl) (by kernel_rfl) (by kernel_rfl) (fun _ _ _ h => h) (wanted_free rfl _) (fun W hW => exec_load_bx 74 (.tmp 6) rfl Q _ rfl hW _ Try.underlying74 rfl (by rw [hzz.out.1]; exact szCmd)) ?_
  try simp only [Act.put, List.getElem_toArray, List.getElem_cons_succ, List.getElem_cons_zero, List.setIfInBounds_toArray, List.set_cons_succ, List.set_cons_zero]
  refine wpAnyC_take 1 (.slice (some ⟨g, 0, none⟩) m cap) rfl (by kernel_rfl) (by kernel_rfl) (by kernel_rfl) (fun _ _ _ h => h) (wanted_free rfl _) (fun W hW => by go_simp) ?_
  try simp only [Act.put, List.getElem_toArray, List.getElem_cons_succ, List.getElem_cons_zero, List.setIfInBounds_toArray, List.set_cons_succ, List.set_cons_zero]
  refine wpAnyC_take 2 (.int .i64 i) rfl (by kernel_rfl) (by kernel_rfl) (by kernel_rfl) (fun _ _ _ h => h) (wanted_free rfl _) (fun W hW => by go_simp) ?_
  try simp only [Act.put, List.getElem_toArray, List.getElem_cons_succ, List.getElem_cons_zero, List.setIfInBounds_toArray, List.set_cons_succ, List.set_cons_zero]
  refine wpAnyC_take 3 (.int .i64 i) rfl (by kernel_rfl) (by kernel_rfl) (by kernel_rfl) (fun _ _ _ h => h) (wanted_free rfl _) (fun W hW => by go_simp) ?_
  try simp only [Act.put, List.getElem_toArray, List.getElem_cons_succ, List.getElem_cons_zero, List.setIfInBounds_toArray, List.set_cons_succ, List.set_cons_zero]
  refine wpAnyC_take 4 (.int .i64 ((i : Int) + 1)) rfl (by kernel_rfl) (by kernel_rfl) (by kernel_rfl) (fun _ _ _ h => h) (wanted_free rfl _) (fun W hW => by go_simp; rw [IntKind.wrap_i64]; omega) ?_
  try simp only [Act.put, List.getElem_toArray, List.getElem_cons_succ, List.getElem_cons_zero, List.setIfInBounds_toArray, List.set_cons_succ, List.set_cons_zero]
  refine wpAnyC_world hW ?_
  clear hW
  refine wpAnyC_one 5 (hBW.out) rfl (by kernel_rfl) (wanted_free rfl _) (fun KA hKA => ?_)
  go_simp
  refine (hD.out _ hbW.out).mono ?_
  intro e w5 hh
  obtain ⟨he, ho5, hg5⟩ := hh
  subst he
  have hgQ : Q ≠ g := by have := hQ.out; have := hb1.out.size; have := hrd.out.2; omega
  have hgR : R ≠ g := by have := hR.out; have := hrd.out.2; omega
  have hB5 := Kpt.mk (hBW.out.grown hg5 (fun e => hgQ (by injection e with e; exact e.symm)))
  have hR5 := Kpt.mk (hRW.out.grown hg5 (fun e => hgR (by injection e with e; exact e.symm)))
  have hgw5 : Kpt (w.grownBy w5 (some g)) := ⟨grown_trans (grown_bel (grown_refl w (some g)) hbW.out) hg5⟩
  replace ho5 := Kpt.mk ho5
  clear hg5
  refine hKA _ _ ?_
  clear hKA KA
  try simp only [Act.put, List.getElem_toArray, List.getElem_cons_succ, List.getElem_cons_zero, List.setIfInBounds_toArray, List.set_cons_succ, List.set_cons_zero]
  refine wpAnyC_one 6 (hB5.out) rfl (by kernel_rfl) (wanted_free rfl _) (fun KA hKA => ?_)
  refine wp_store_bx 74 _ _ rfl R (Cm.v ⟨0, 0, false, 0⟩) z rfl rfl hR5.out hzz.out.1 (by rw [hzz.out.1]; exact szCmd) hzz.out.2 ?_
  intro w6 hR6 hg6
  have hB6 := Kpt.mk (hB5.out.grown hg6 (fun e => hQR (by injection e with e; exact e.symm)))
  have hgw6 : Kpt (w.grownBy w6 (some g)) := ⟨grown_box hgw5.out hg6 hR.out⟩
  have ho6 : Kpt (OwnR 74 4 w6 (.slice (some ⟨g, 0, none⟩) m1 cap) (zs.eraseIdx i)) := ⟨ho5.out.of_block (fun q hq => hg6.block q (ho5.out.lt hq) (fun e => hgR (by injection e with e; simp [Value.ownBlock] at hq; rw [← e, ← hq])))⟩
  replace hR6 := Kpt.mk hR6
  clear hg6
  refine hKA _ _ ?_
  clear hKA KA
  try simp only [Act.put, List.getElem_toArray, List.getElem_cons_succ, List.getElem_cons_zero, List.setIfInBounds_toArray, List.set_cons_succ, List.set_cons_zero]
  refine wpAnyC_one 7 (hB6.out) rfl (by kernel_rfl) (wanted_free rfl _) (fun KA hKA => ?_)
  go_simp
  refine hKA _ _ ?_
  clear hKA KA
  try simp only [Act.put, List.getElem_toArray, List.getElem_cons_succ, List.getElem_cons_zero, List.setIfInBounds_toArray, List.set_cons_succ, List.set_cons_zero]
  refine wpAnyC_done (hB6.out) (by kernel_rfl) ?_
  go_wp2
  refine bodyPost_ret (v := .tuple #[.agg z, .slice (some ⟨g, 0, none⟩) m1 cap]) (by simp [results, Try.results49, asAddr, Act.put, run_res hR6.out 74 _ Try.underlying74 rfl (by rw [hzz.out.1]; exact szCmd)]) rfl ⟨rfl, ho6.out, hgw6.out⟩
end Go.Proofs.Ytdplndlmdhpfaab
