/-
  sess: numbered, counted, answer.
-/
import Derived.Test.YtdplndlmdhpfaabEFnd
namespace Go.Proofs.Ytdplndlmdhpfaab
open Go.RowKit
set_option linter.unusedVariables false
set_option linter.unusedSimpArgs false

/-- A PDU with the numbers. -/
def Pd.num (p : Pd) (s : Se) : Pd := { p with w1 := s.stat, w2 := s.next, w3 := (s.next + 15) % 4294967296 }

set_option maxRecDepth 100000 in
set_option maxHeartbeats 4000000 in
theorem numbered_any (S : Nat) (s : Se) (H O T : List (Array Value)) (p : Pd) (a : Option Addr) (n c : Nat) (w : World) (h : Ss w S s H O T) (hda : p.da = .slice a n c) (hn : 0 ≤ s.next ∧ s.next < 4294967296) :
    Calls Try.prog 50 #[.pointer (some ⟨S, 0, none⟩), .agg p.v] w fun e w' => e = .returned (.agg (p.num s).v) ∧ Below w.heap.size w w' := by
  have hone := Kpt.mk (Pd.one hda).2
  have hC : Kpt (∀ W, Below w.heap.size w W → W.cell? ⟨S, 11, none⟩ = some (.int .u32 s.next) ∧ W.cell? ⟨S, 12, none⟩ = some (.int .u32 s.stat)) := ⟨fun W hb => ⟨((h.below hb).cell 11 (by omega)).1, ((h.below hb).cell 12 (by omega)).1⟩⟩
  have hS := h.bx.lt
  clear h hda
  go_enter Try.func50, Try.ntmps50
  go_wp2_with (first
    | (refine (?_ : wpList _ _ _ (Oper.mk _ (Op.box 42 _) _ _ _ _ :: _) _ _); go_must (refine wpList_box rfl 42 _ rfl p.v rfl ?_; intro P w1 hP hB hb _; replace hb := Kpt.mk hb; replace hB := Kpt.mk hB; replace hP := Kpt.mk hP))
    | (refine (?_ : wpList _ _ _ (Oper.mk _ (Op.alloc 42) _ _ _ _ :: _) _ _); go_must (refine wpList_var rfl 42 rfl _ zPdu ?_; intro R w2 hR hBr hbr; have hX := Kpt.mk (hB.out.below hbr hB.out.lt); have hb2 := Kpt.mk (hb.out.trans (hbr.mono hb.out.size)); have hPR : P ≠ R := (by have := hB.out.lt; omega); replace hR := Kpt.mk hR; replace hBr := Kpt.mk hBr; clear hB hbr)))
  have hPw := hX.out.lt
  have hCK : Kpt (w2.cell? ⟨S, 11, none⟩ = some (.int .u32 s.next) ∧ w2.cell? ⟨S, 12, none⟩ = some (.int .u32 s.stat)) := ⟨hC.out _ hb2.out⟩
  have hPS : S ≠ P := by have := hP.out; omega
  have hset : ∀ (j : Nat) (v : Value) (W : World), Kpt (W.cell? ⟨S, 11, none⟩ = some (.int .u32 s.next) ∧ W.cell? ⟨S, 12, none⟩ = some (.int .u32 s.stat)) → Kpt ((W.setCell ⟨P, j, none⟩ v).cell? ⟨S, 11, none⟩ = some (.int .u32 s.next) ∧ (W.setCell ⟨P, j, none⟩ v).cell? ⟨S, 12, none⟩ = some (.int .u32 s.stat)) := fun j v W h => ⟨by
    rw [World.cell?_setCell_other _ _ _ _ (fun e => hPS (by cases e; rfl)), World.cell?_setCell_other _ _ _ _ (fun e => hPS (by cases e; rfl))]; exact h.out⟩
  refine wp_region_any (by kernel_rfl) ?_
  refine wpAny_of_C (C := fun W => W.cell? ⟨S, 11, none⟩ = some (.int .u32 s.next) ∧ W.cell? ⟨S, 12, none⟩ = some (.int .u32 s.stat)) _ _ _ _ ?_
  refine wpAnyC_take 0 (.pointer (some ⟨S, 0, none⟩)) rfl (by kernel_rfl) (by kernel_rfl) (by kernel_rfl) (fun _ _ _ h => h) (wanted_free rfl _) (fun W hW => by go_simp) ?_
  try simp only [Act.put, List.getElem_toArray, List.getElem_cons_succ, List.getElem_cons_zero, List.setIfInBounds_toArray, List.set_cons_succ, List.set_cons_zero]
  refine wpAnyC_take 1 (.pointer (some ⟨S, 0, none⟩)) rfl (by kernel_rfl) (by kernel_rfl) (by kernel_rfl) (fun _ _ _ h => h) (wanted_free rfl _) (fun W hW => by go_simp) ?_
  try simp only [Act.put, List.getElem_toArray, List.getElem_cons_succ, List.getElem_cons_zero, List.setIfInBounds_toArray, List.set_cons_succ, List.set_cons_zero]
  refine wpAnyC_take 2 (.pointer (some ⟨S, 12, none⟩)) rfl (by kernel_rfl) (by kernel_rfl) (by kernel_rfl) (fun _ _ _ h => h) (wanted_free rfl _) (fun W hW => by go_simp) ?_
  try simp only [Act.put, List.getElem_toArray, List.getElem_cons_succ, List.getElem_cons_zero, List.setIfInBounds_toArray, List.set_cons_succ, List.set_cons_zero]
  refine wpAnyC_take 3 (.int .u32 s.stat) rfl (by kernel_rfl) (by kernel_rfl) (by kernel_rfl) (fun _ _ _ h => h) (wanted_free rfl _) (fun W hW => by have h1 := hW.1; have h2 := hW.2; go_simp) ?_
  try simp only [Act.put, List.getElem_toArray, List.getElem_cons_succ, List.getElem_cons_zero, List.setIfInBounds_toArray, List.set_cons_succ, List.set_cons_zero]
  refine wpAnyC_take 4 (.pointer (some ⟨S, 0, none⟩)) rfl (by kernel_rfl) (by kernel_rfl) (by kernel_rfl) (fun _ _ _ h => h) (wanted_free rfl _) (fun W hW => by go_simp) ?_
  try simp only [Act.put, List.getElem_toArray, List.getElem_cons_succ, List.getElem_cons_zero, List.setIfInBounds_toArray, List.set_cons_succ, List.set_cons_zero]
  refine wpAnyC_take 5 (.pointer (some ⟨S, 0, none⟩)) rfl (by kernel_rfl) (by kernel_rfl) (by kernel_rfl) (fun _ _ _ h => h) (wanted_free rfl _) (fun W hW => by go_simp) ?_
  try simp only [Act.put, List.getElem_toArray, List.getElem_cons_succ, List.getElem_cons_zero, List.setIfInBounds_toArray, List.set_cons_succ, List.set_cons_zero]
  refine wpAnyC_take 6 (.pointer (some ⟨S, 11, none⟩)) rfl (by kernel_rfl) (by kernel_rfl) (by kernel_rfl) (fun _ _ _ h => h) (wanted_free rfl _) (fun W hW => by go_simp) ?_
  try simp only [Act.put, List.getElem_toArray, List.getElem_cons_succ, List.getElem_cons_zero, List.setIfInBounds_toArray, List.set_cons_succ, List.set_cons_zero]
  refine wpAnyC_take 7 (.int .u32 s.next) rfl (by kernel_rfl) (by kernel_rfl) (by kernel_rfl) (fun _ _ _ h => h) (wanted_free rfl _) (fun W hW => by have h1 := hW.1; have h2 := hW.2; go_simp) ?_
  try simp only [Act.put, List.getElem_toArray, List.getElem_cons_succ, List.getElem_cons_zero, List.setIfInBounds_toArray, List.set_cons_succ, List.set_cons_zero]
  refine wpAnyC_take 8 (.pointer (some ⟨S, 0, none⟩)) rfl (by kernel_rfl) (by kernel_rfl) (by kernel_rfl) (fun _ _ _ h => h) (wanted_free rfl _) (fun W hW => by go_simp) ?_
  try simp only [Act.put, List.getElem_toArray, List.getElem_cons_succ, List.getElem_cons_zero, List.setIfInBounds_toArray, List.set_cons_succ, List.set_cons_zero]
  refine wpAnyC_take 9 (.pointer (some ⟨S, 0, none⟩)) rfl (by kernel_rfl) (by kernel_rfl) (by kernel_rfl) (fun _ _ _ h => h) (wanted_free rfl _) (fun W hW => by go_simp) ?_
  try simp only [Act.put, List.getElem_toArray, List.getElem_cons_succ, List.getElem_cons_zero, List.setIfInBounds_toArray, List.set_cons_succ, List.set_cons_zero]
  refine wpAnyC_take 10 (.pointer (some ⟨S, 11, none⟩)) rfl (by kernel_rfl) (by kernel_rfl) (by kernel_rfl) (fun _ _ _ h => h) (wanted_free rfl _) (fun W hW => by go_simp) ?_
  try simp only [Act.put, List.getElem_toArray, List.getElem_cons_succ, List.getElem_cons_zero, List.setIfInBounds_toArray, List.set_cons_succ, List.set_cons_zero]
  refine wpAnyC_take 11 (.int .u32 s.next) rfl (by kernel_rfl) (by kernel_rfl) (by kernel_rfl) (fun _ _ _ h => h) (wanted_free rfl _) (fun W hW => by have h1 := hW.1; have h2 := hW.2; go_simp) ?_
  try simp only [Act.put, List.getElem_toArray, List.getElem_cons_succ, List.getElem_cons_zero, List.setIfInBounds_toArray, List.set_cons_succ, List.set_cons_zero]
  refine wpAnyC_take 12 (.int .u32 ((s.next + 16) % 4294967296)) rfl (by kernel_rfl) (by kernel_rfl) (by kernel_rfl) (fun _ _ _ h => h) (wanted_free rfl _) (fun W hW => by go_simp; rw [IntKind.wrap_u32]) ?_
  try simp only [Act.put, List.getElem_toArray, List.getElem_cons_succ, List.getElem_cons_zero, List.setIfInBounds_toArray, List.set_cons_succ, List.set_cons_zero]
  refine wpAnyC_take 13 (.int .u32 ((s.next + 15) % 4294967296)) rfl (by kernel_rfl) (by kernel_rfl) (by kernel_rfl) (fun _ _ _ h => h) (wanted_free rfl _) (fun W hW => by go_simp; rw [IntKind.wrap_u32]; omega) ?_
  try simp only [Act.put, List.getElem_toArray, List.getElem_cons_succ, List.getElem_cons_zero, List.setIfInBounds_toArray, List.set_cons_succ, List.set_cons_zero]
  refine wpAnyC_take 14 (.pointer (some ⟨P, 6, none⟩)) rfl (by kernel_rfl) (by kernel_rfl) (by kernel_rfl) (fun _ _ _ h => h) (wanted_free rfl _) (fun W hW => by go_simp) ?_
  try simp only [Act.put, List.getElem_toArray, List.getElem_cons_succ, List.getElem_cons_zero, List.setIfInBounds_toArray, List.set_cons_succ, List.set_cons_zero]
  refine wpAnyC_take 17 (.pointer (some ⟨P, 6, none⟩)) rfl (by kernel_rfl) (by kernel_rfl) (by kernel_rfl) (fun _ _ _ h => h) (wanted_free rfl _) (fun W hW => by go_simp) ?_
  try simp only [Act.put, List.getElem_toArray, List.getElem_cons_succ, List.getElem_cons_zero, List.setIfInBounds_toArray, List.set_cons_succ, List.set_cons_zero]
  refine wpAnyC_take 20 (.pointer (some ⟨P, 6, none⟩)) rfl (by kernel_rfl) (by kernel_rfl) (by kernel_rfl) (fun _ _ _ h => h) (wanted_free rfl _) (fun W hW => by go_simp) ?_
  try simp only [Act.put, List.getElem_toArray, List.getElem_cons_succ, List.getElem_cons_zero, List.setIfInBounds_toArray, List.set_cons_succ, List.set_cons_zero]
  refine wpAnyC_take 15 (.pointer (some ⟨P, 7, none⟩)) rfl (by kernel_rfl) (by kernel_rfl) (by kernel_rfl) (fun _ _ _ h => h) (wanted_free rfl _) (fun W hW => by go_simp) ?_
  try simp only [Act.put, List.getElem_toArray, List.getElem_cons_succ, List.getElem_cons_zero, List.setIfInBounds_toArray, List.set_cons_succ, List.set_cons_zero]
  have c0 := hX.out.cells 7 (by simp [Pd.v])
  have f0 := hX.out.free 7
  simp [Pd.v] at c0
  obtain ⟨x0, hx0⟩ : ∃ x, x = (w2.setCell ⟨P, 7, none⟩ (.int .u32 s.stat)) := ⟨_, rfl⟩
  have hX0 : Kpt (Bx x0 P ({ p with w1 := s.stat } : Pd).v) := ⟨by rw [hx0]; have := bx_setC (.int .u32 s.stat) hX.out (j := 7) (by simp [Pd.v]); simpa [Pd.v] using this⟩
  have hbb0 : Kpt (Below w.heap.size w x0) := ⟨by rw [hx0]; exact hb2.out.setCell (p := ⟨P, 7, none⟩) hP.out _⟩
  have hCK0 : Kpt (x0.cell? ⟨S, 11, none⟩ = some (.int .u32 s.next) ∧ x0.cell? ⟨S, 12, none⟩ = some (.int .u32 s.stat)) := ⟨by rw [hx0]; exact (hset _ _ _ hCK).out⟩
  have hz0 : Kpt (Bx x0 R zP.v) := ⟨by rw [hx0]; exact hBr.out.grown (grown_setCellK _ _ _) (fun e => hPR (by injection e))⟩
  refine wpAnyC_one 16 (hCK.out) rfl (by kernel_rfl) (wanted_free rfl _) (fun KA hKA => ?_)
  go_simp
  rw [← hx0]
  refine hKA _ _ ?_
  clear hKA KA c0 f0 hx0
  try simp only [Act.put, List.getElem_toArray, List.getElem_cons_succ, List.getElem_cons_zero, List.setIfInBounds_toArray, List.set_cons_succ, List.set_cons_zero]
  refine wpAnyC_take 18 (.pointer (some ⟨P, 8, none⟩)) rfl (by kernel_rfl) (by kernel_rfl) (by kernel_rfl) (fun _ _ _ h => h) (wanted_free rfl _) (fun W hW => by go_simp) ?_
  try simp only [Act.put, List.getElem_toArray, List.getElem_cons_succ, List.getElem_cons_zero, List.setIfInBounds_toArray, List.set_cons_succ, List.set_cons_zero]
  have c1 := hX0.out.cells 8 (by simp [Pd.v])
  have f1 := hX0.out.free 8
  simp [Pd.v] at c1
  obtain ⟨x1, hx1⟩ : ∃ x, x = (x0.setCell ⟨P, 8, none⟩ (.int .u32 s.next)) := ⟨_, rfl⟩
  have hX1 : Kpt (Bx x1 P ({ p with w1 := s.stat, w2 := s.next } : Pd).v) := ⟨by rw [hx1]; have := bx_setC (.int .u32 s.next) hX0.out (j := 8) (by simp [Pd.v]); simpa [Pd.v] using this⟩
  have hbb1 : Kpt (Below w.heap.size w x1) := ⟨by rw [hx1]; exact hbb0.out.setCell (p := ⟨P, 8, none⟩) hP.out _⟩
  have hCK1 : Kpt (x1.cell? ⟨S, 11, none⟩ = some (.int .u32 s.next) ∧ x1.cell? ⟨S, 12, none⟩ = some (.int .u32 s.stat)) := ⟨by rw [hx1]; exact (hset _ _ _ hCK0).out⟩
  have hz1 : Kpt (Bx x1 R zP.v) := ⟨by rw [hx1]; exact hz0.out.grown (grown_setCellK _ _ _) (fun e => hPR (by injection e))⟩
  refine wpAnyC_one 19 (hCK0.out) rfl (by kernel_rfl) (wanted_free rfl _) (fun KA hKA => ?_)
  go_simp
  rw [← hx1]
  refine hKA _ _ ?_
  clear hKA KA c1 f1 hx1
  try simp only [Act.put, List.getElem_toArray, List.getElem_cons_succ, List.getElem_cons_zero, List.setIfInBounds_toArray, List.set_cons_succ, List.set_cons_zero]
  refine wpAnyC_take 21 (.pointer (some ⟨P, 9, none⟩)) rfl (by kernel_rfl) (by kernel_rfl) (by kernel_rfl) (fun _ _ _ h => h) (wanted_free rfl _) (fun W hW => by go_simp) ?_
  try simp only [Act.put, List.getElem_toArray, List.getElem_cons_succ, List.getElem_cons_zero, List.setIfInBounds_toArray, List.set_cons_succ, List.set_cons_zero]
  have c2 := hX1.out.cells 9 (by simp [Pd.v])
  have f2 := hX1.out.free 9
  simp [Pd.v] at c2
  obtain ⟨x2, hx2⟩ : ∃ x, x = (x1.setCell ⟨P, 9, none⟩ (.int .u32 ((s.next + 15) % 4294967296))) := ⟨_, rfl⟩
  have hX2 : Kpt (Bx x2 P ({ p with w1 := s.stat, w2 := s.next, w3 := ((s.next + 15) % 4294967296) } : Pd).v) := ⟨by rw [hx2]; have := bx_setC (.int .u32 ((s.next + 15) % 4294967296)) hX1.out (j := 9) (by simp [Pd.v]); simpa [Pd.v] using this⟩
  have hbb2 : Kpt (Below w.heap.size w x2) := ⟨by rw [hx2]; exact hbb1.out.setCell (p := ⟨P, 9, none⟩) hP.out _⟩
  have hCK2 : Kpt (x2.cell? ⟨S, 11, none⟩ = some (.int .u32 s.next) ∧ x2.cell? ⟨S, 12, none⟩ = some (.int .u32 s.stat)) := ⟨by rw [hx2]; exact (hset _ _ _ hCK1).out⟩
  have hz2 : Kpt (Bx x2 R zP.v) := ⟨by rw [hx2]; exact hz1.out.grown (grown_setCellK _ _ _) (fun e => hPR (by injection e))⟩
  refine wpAnyC_one 22 (hCK1.out) rfl (by kernel_rfl) (wanted_free rfl _) (fun KA hKA => ?_)
  go_simp
  rw [← hx2]
  refine hKA _ _ ?_
  clear hKA KA c2 f2 hx2
  try simp only [Act.put, List.getElem_toArray, List.getElem_cons_succ, List.getElem_cons_zero, List.setIfInBounds_toArray, List.set_cons_succ, List.set_cons_zero]
  refine wpAnyC_done (hCK2.out) (by kernel_rfl) ?_
  have e0 : ({ p with w1 := s.stat, w2 := s.next, w3 := ((s.next + 15) % 4294967296) } : Pd) = p.num s := rfl
  rw [e0] at hX2
  have hone2 : (p.num s).v.all (·.oneCell') = true := by have := hone.out; simp [Pd.v, Pd.num] at this ⊢; exact this
  replace hone2 := Kpt.mk hone2
  have hbd : Kpt (Below w.heap.size w x2.drew) := ⟨hbb2.out.trans ((below_drew x2).mono hbb2.out.size)⟩
  clear hX0 hX1 hbb0 hbb1 hCK hCK0 hCK1 hCK2 hz0 hz1 hset e0 hX hBr
  go_wp2_with (first
    | (refine (?_ : wpList _ _ _ (Oper.mk _ (Op.load 42 _) _ _ _ _ :: _) _ _); go_must (refine wpList_load_bx rfl 42 _ rfl P (p.num s).v rfl hX2.out.drew _ Try.underlying42 rfl szPdu ?_; have hm := hone))
    | (refine (?_ : wpList _ _ _ (Oper.mk _ (Op.store 42 _ _) _ _ _ _ :: _) _ _); go_must (refine wpList_store_bx rfl 42 _ _ rfl R zP.v (p.num s).v rfl rfl hz2.out.drew rfl szPdu hone2.out rfl ?_; intro w4 hB4 hg4; replace hB4 := Kpt.mk hB4; have hb4 := Kpt.mk (hbd.out.grown hg4 hbd.out.size (fun q e => by injection e with e; subst e; exact Nat.le_trans hb.out.size hR.out)); clear hg4)))
  refine bodyPost_ret (v := .agg (p.num s).v) (by simp [results, Try.results50, asAddr, Act.put, run_res hB4.out 42 _ Try.underlying42 rfl szPdu]) rfl ⟨rfl, hb4.out⟩
end Go.Proofs.Ytdplndlmdhpfaab
