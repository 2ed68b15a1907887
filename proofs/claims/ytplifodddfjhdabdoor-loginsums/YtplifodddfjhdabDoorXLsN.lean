/-
  login: New with sums; four keys.
-/
import Derived.Test.YtplifodddfjhdabDoorXLsM
import Derived.Test.YtplifodddfjhdabDoorXLgAs
namespace Go.Proofs.YtplifodddfjhdabDoor
open Go.RowKit
set_option linter.unusedVariables false
set_option linter.unusedSimpArgs false

def lgS (b : Bool) (tg : Value) : Lg := { lg0 tg with sums := b }
set_option maxRecDepth 100000 in
set_option maxHeartbeats 4000000 in
theorem new_s (b : Bool) (a : Option Addr) (n c : Nat) (os : List ByteArray) (w : World) (h : StAt w (.slice a n c) os) (hn : n * 16 ≤ 140737488355328) :
    Calls Tryd.prog 5 #[.agg #[.slice a n c, .slice none 0 0, .bool b], .int .u8 1, .slice none 0 0] w fun e w' => (∃ L a' c', e = .returned (.pointer (some ⟨L, 0, none⟩)) ∧ w.heap.size ≤ L ∧ Bx w' L (lgS b (.slice a' n c')).v ∧ StAt w' (.slice a' n c') os ∧ Off a' L) ∧ Below w.heap.size w w' := by
  have fC : Kpt (∀ W, Below w.heap.size w W → Calls Tryd.prog 11 #[.slice a n c] W fun e w' => (∃ a' c', e = .returned (.slice a' n c') ∧ StAt w' (.slice a' n c') os ∧ Newer a' W.heap.size ∧ ∀ x, a' = some x → x.block < w'.heap.size) ∧ Below W.heap.size W w') := ⟨fun W hb => clone_any a n c os W (h.bel hb) hn⟩
  have fU : Kpt (∀ W : World, Calls Tryd.prog 12 #[.slice none 0 0] W fun e w' => e = .returned (.slice none 0 0) ∧ w' = W) := ⟨cloneU_nil⟩
  have fB : Kpt (∀ W : World, Calls Tryd.prog 13 #[.slice none 0 0] W fun e w' => e = .returned (.slice none 0 0) ∧ w' = W) := ⟨cloneB_nil⟩
  clear h hn
  go_enter Tryd.func5, Tryd.ntmps5
  go_wp2_with (first
    | (go_at_call 12; go_must (refine (fU.out _).mono ?_; rintro e wx ⟨rfl, rfl⟩))
    | (go_at_call 11; go_must (refine (fC.out _ hb1.out).mono ?_; rintro e w2 ⟨⟨a', c', rfl, hst, hnw, hol⟩, hb2⟩; have hRlt := hX1.out.lt; replace hol := Kpt.mk hol; have hX2 := hX1.out.below hb2 hX1.out.lt; have hb3 : Kpt (Below w.heap.size w w2) := ⟨hb1.out.trans (hb2.mono hb1.out.size)⟩; have n0 := hX2.cells 0 (by simp); have g0 := hX2.free 0; have hX3 := bx_setC (.slice a' n c') hX2 (j := 0) (by simp); simp at n0 hX3; have n1 := hX3.cells 1 (by simp); have g1 := hX3.free 1; have hX4 := bx_setC (.slice none 0 0) hX3 (j := 1) (by simp); simp at n1 hX4; replace hX2 := Kpt.mk hX2; replace hX3 := Kpt.mk hX3; replace hX4 := Kpt.mk hX4; replace hst := Kpt.mk hst; replace hnw := Kpt.mk hnw; clear hb2))
    | (refine (?_ : wpList _ _ _ (Oper.mk _ (Op.box 28 _) _ _ _ _ :: _) _ _); go_must (refine wpList_box rfl 28 (.tmp 0) rfl #[.slice a n c, .slice none 0 0, .bool b] rfl ?_; intro R w1 hR hBq hbe _; have m0 := hBq.cells 0 (by simp); simp at m0; have hb1 := Kpt.mk hbe; have hX1 := Kpt.mk hBq; replace hR := Kpt.mk hR; clear hBq hbe)))
  have hoR : Off a' R := fun x e => by have := hnw.out x e; omega
  have hg4 := grown_tr (grown_setCellK w2 ⟨R, 0, none⟩ (.slice a' n c')) (grown_setCellK (w2.setCell ⟨R, 0, none⟩ (.slice a' n c')) ⟨R, 1, none⟩ (.slice none 0 0))
  obtain ⟨W4, hW4⟩ : ∃ W, W = (w2.setCell ⟨R, 0, none⟩ (.slice a' n c')).setCell ⟨R, 1, none⟩ (.slice none 0 0) := ⟨_, rfl⟩
  rw [← hW4] at hX4 hg4 ⊢
  have hst4 := Kpt.mk (hst.out.grown hoR hg4)
  have hb4 : Kpt (Below w.heap.size w W4) := ⟨hb3.out.grown hg4 hb3.out.size (fun q e => by injection e with e; subst e; exact hR.out)⟩
  have hol4 : Kpt (∀ x, a' = some x → x.block < W4.heap.size) := ⟨fun x e => Nat.lt_of_lt_of_le (hol.out x e) hg4.size⟩
  clear hW4 hg4 hX3 hX2 n0 n1 g0 g1 m0 hst hol
  refine wp_region_any (by kernel_rfl) ?_
  refine wpAny_of_C (C := fun W => Bx W R #[.slice a' n c', .slice none 0 0, .bool b]) _ _ _ _ ?_
  refine wpAnyC_take 0 (.agg #[.slice a' n c', .slice none 0 0, .bool b]) rfl (by kernel_rfl) (by kernel_rfl) (by kernel_rfl) (fun _ _ _ h => h) (wanted_free rfl _) (fun W hW => exec_load_bx 28 (.tmp 3) rfl R #[.slice a' n c', .slice none 0 0, .bool b] rfl hW _ Tryd.underlying28 rfl szCfg) ?_
  try simp only [Act.put, List.getElem_toArray, List.getElem_cons_succ, List.getElem_cons_zero, List.setIfInBounds_toArray, List.set_cons_succ, List.set_cons_zero]
  refine wpAnyC_take 1 (.int .u8 1) rfl (by kernel_rfl) (by kernel_rfl) (by kernel_rfl) (fun _ _ _ h => h) (wanted_free rfl _) (fun W hW => by go_simp) ?_
  try simp only [Act.put, List.getElem_toArray, List.getElem_cons_succ, List.getElem_cons_zero, List.setIfInBounds_toArray, List.set_cons_succ, List.set_cons_zero]
  refine wpAnyC_take 2 (.slice none 0 0) rfl (by kernel_rfl) (by kernel_rfl) (by kernel_rfl) (fun _ _ _ h => h) (wanted_free rfl _) (fun W hW => by go_simp) ?_
  try simp only [Act.put, List.getElem_toArray, List.getElem_cons_succ, List.getElem_cons_zero, List.setIfInBounds_toArray, List.set_cons_succ, List.set_cons_zero]
  refine wpAnyC_take 4 (.pointer (some ⟨R, 1, none⟩)) rfl (by kernel_rfl) (by kernel_rfl) (by kernel_rfl) (fun _ _ _ h => h) (wanted_free rfl _) (fun W hW => by go_simp) ?_
  try simp only [Act.put, List.getElem_toArray, List.getElem_cons_succ, List.getElem_cons_zero, List.setIfInBounds_toArray, List.set_cons_succ, List.set_cons_zero]
  refine wpAnyC_take 5 (.slice none 0 0) rfl (by kernel_rfl) (by kernel_rfl) (by kernel_rfl) (fun _ _ _ h => h) (wanted_free rfl _) (fun W hW => by have h1 := hW.cells 1 (by simp); simp at h1; go_simp) ?_
  try simp only [Act.put, List.getElem_toArray, List.getElem_cons_succ, List.getElem_cons_zero, List.setIfInBounds_toArray, List.set_cons_succ, List.set_cons_zero]
  refine wpAnyC_take 6 (.int .i64 0) rfl (by kernel_rfl) (by kernel_rfl) (by kernel_rfl) (fun _ _ _ h => h) (wanted_free rfl _) (fun W hW => by go_simp) ?_
  try simp only [Act.put, List.getElem_toArray, List.getElem_cons_succ, List.getElem_cons_zero, List.setIfInBounds_toArray, List.set_cons_succ, List.set_cons_zero]
  refine wpAnyC_take 7 (.bool true) rfl (by kernel_rfl) (by kernel_rfl) (by kernel_rfl) (fun _ _ _ h => h) (wanted_free rfl _) (fun W hW => by go_simp) ?_
  try simp only [Act.put, List.getElem_toArray, List.getElem_cons_succ, List.getElem_cons_zero, List.setIfInBounds_toArray, List.set_cons_succ, List.set_cons_zero]
  refine wpAnyC_take 8 (.agg #[.string ⟨#[]⟩, .string ⟨#[]⟩, .bool false, .bool false, .bool false, .int .i64 8192, .int .i64 65536, .int .i64 65536, .bool true, .bool true]) rfl (by kernel_rfl) (by kernel_rfl) (by kernel_rfl) (fun _ _ _ h => h) (wanted_free rfl _) (fun W hW => by go_simp) ?_
  try simp only [Act.put, List.getElem_toArray, List.getElem_cons_succ, List.getElem_cons_zero, List.setIfInBounds_toArray, List.set_cons_succ, List.set_cons_zero]
  refine wpAnyC_one 3 (hX4.out.drew) rfl (by kernel_rfl) (wanted_free rfl _) (fun KA hKA => ?_)
  go_simp
  refine (fB.out _).mono ?_
  rintro e wx ⟨rfl, rfl⟩
  refine hKA _ _ ?_
  clear hKA KA
  try simp only [Act.put, List.getElem_toArray, List.getElem_cons_succ, List.getElem_cons_zero, List.setIfInBounds_toArray, List.set_cons_succ, List.set_cons_zero]
  refine wpAnyC_take 9 (.agg (lgS b (.slice a' n c')).v) rfl (by kernel_rfl) (by kernel_rfl) (by kernel_rfl) (fun _ _ _ h => h) (wanted_free rfl _) (fun W hW => by unfold lgS lg0 Lg.v; go_simp) ?_
  try simp only [Act.put, List.getElem_toArray, List.getElem_cons_succ, List.getElem_cons_zero, List.setIfInBounds_toArray, List.set_cons_succ, List.set_cons_zero]
  refine wpAnyC_one 10 (hX4.out.drew) rfl (by kernel_rfl) (wanted_free rfl _) (fun KA hKA => ?_)
  go_simp
  refine hKA _ _ ?_
  clear hKA KA
  try simp only [Act.put, List.getElem_toArray, List.getElem_cons_succ, List.getElem_cons_zero, List.setIfInBounds_toArray, List.set_cons_succ, List.set_cons_zero]
  refine wpAnyC_one 11 (hX4.out.drew.alloc _) rfl (by kernel_rfl) (wanted_free rfl _) (fun KA hKA => ?_)
  go_simp
  refine hKA _ _ ?_
  clear hKA KA
  try simp only [Act.put, List.getElem_toArray, List.getElem_cons_succ, List.getElem_cons_zero, List.setIfInBounds_toArray, List.set_cons_succ, List.set_cons_zero]
  refine wpAnyC_done (hX4.out.drew.alloc _) (by kernel_rfl) ?_
  go_wp2
  go_ret
  have hbd : Below w.heap.size w W4.drew := hb4.out.trans ((below_drew W4).mono hb4.out.size)
  refine ⟨⟨W4.heap.size, a', c', rfl, hb4.out.size, bx_new W4.drew _ 52, ?_, fun x e h => ?_⟩, hbd.alloc hbd.size _⟩
  · exact (hst4.out.bel (below_drew W4)).bel ((Below.refl _ _).alloc (Nat.le_refl _) _)
  · have := hol4.out x e; omega

set_option maxRecDepth 100000 in
theorem hello4 (g : Nat) (o1 o2 : ByteArray) (w : World) (hB : Bx w g #[.string hdB, .string o1, .string ddB, .string o2]) :
    Calls Tryd.prog 7 #[.slice (some ⟨g, 0, none⟩) 2 2] w fun e w' => ∃ a c, e = .returned (.slice a 4 c) ∧ w'.ownsRow w.heap.size 37 2 (.slice a 4 c) 4 (cellsB (keys4 o1 o2)) ∧ Below w.heap.size w w' := by
  have ho := Kpt.mk (own_two w w.heap.size (Nat.le_refl _) (kIni, vI) (kTgt, vT))
  have hcell : Kpt (∀ (X : Obj) (j : Nat) (u : Value), ([.string hdB, .string o1, .string ddB, .string o2] : List Value)[j]? = some u → (w.alloc X).cell? ((⟨g, 0, none⟩ : Addr).add j) = some u) := ⟨fun X j u hu => by
    have h := (hB.alloc X).cells j (by have := (List.getElem?_eq_some_iff.1 hu).1; simpa using this)
    rw [Go.WideShapes.add_plain, Nat.zero_add, h, ← hu]
    simp⟩
  obtain ⟨i0, hi0, hz0, hz1, hz2⟩ := info_parts infoP
  have hI := Kpt.mk hi0
  have hI0 := Kpt.mk hz0
  have hI1 := Kpt.mk hz1
  have hI2 := Kpt.mk hz2
  have hb1 : Kpt (∀ X : Obj, Below w.heap.size w (w.alloc X)) := ⟨fun X => (Below.refl _ _).alloc (Nat.le_refl _) X⟩
  clear hB hi0 hz0 hz1 hz2
  go_enter Tryd.func7, Tryd.ntmps7
  go_wp2_with (refine (?_ : wpList _ _ _ (Oper.mk (some 9) _ _ _ _ _ :: _) _ _); go_must (refine wpList_append_own _ rfl (.tmp 7) (.tmp 8) 29 rfl w.heap.size 37 i0 (.agg #[.string ⟨#[]⟩, .string ⟨#[]⟩]) 2 32 Tryd.underlying29 hI.out hI0.out hI1.out hI2.out rfl (by decide) (.slice (some ⟨w.heap.size, 0, none⟩) 2 2) 2 (cellsB [(kIni, vI), (kTgt, vT)]) rfl ho.out ⟨g, 0, none⟩ 2 2 [.string hdB, .string o1, .string ddB, .string o2] rfl rfl (hcell.out _) (by intro u hu; simp only [List.mem_cons, List.not_mem_nil, or_false] at hu; rcases hu with rfl | rfl | rfl | rfl <;> rfl) (by unfold maxLen; omega) (by omega) (by simp) ?_; intro v' w' ho' hg' _))
  go_ret
  obtain ⟨va, vc, rfl⟩ := own_sl2 ho'
  exact ⟨va, vc, rfl, ho', (hb1.out _).grown hg' (by simp) (fun q e => by simp [Value.ownBlock] at e; omega)⟩
theorem k4_f1 (o1 o2 : ByteArray) : findP (keys4 o1 o2) kIni = some vI := by unfold keys4 findP; rw [if_pos rfl]
theorem k4_f3 (o1 o2 : ByteArray) : findP (keys4 o1 o2) kTgt = some vT := by unfold keys4 findP; rw [if_neg (by decide +kernel)]; unfold findP; rw [if_pos rfl]
theorem k4_f2 (o1 o2 : ByteArray) : findP (keys4 o1 o2) kSes = none := by
  have h1 : ¬ kIni = kSes := by decide +kernel
  have h2 : ¬ kTgt = kSes := by decide +kernel
  have h3 : ¬ hdB = kSes := by decide +kernel
  have h4 : ¬ ddB = kSes := by decide +kernel
  unfold keys4 findP; rw [if_neg h1]
  unfold findP; rw [if_neg h2]
  unfold findP; rw [if_neg h3]
  unfold findP; rw [if_neg h4]
  rfl
theorem k4_beg (h : Hd) (o1 o2 : ByteArray) (hp : h.ps = keys4 o1 o2) (ho : h.os = [vT]) : begO h = true := by
  have e1 : h.ini = vI := by unfold Hd.ini; rw [hp, k4_f1]; rfl
  have e2 : h.ses = ⟨#[]⟩ := by unfold Hd.ses; rw [hp, k4_f2]; rfl
  have e3 : h.fnd = false := by unfold Hd.fnd; rw [hp, k4_f2]; rfl
  have e4 : h.tgt = vT := by unfold Hd.tgt; rw [hp, k4_f3]; rfl
  unfold begO
  rw [e1, e2, e3, e4, ho, if_neg (by decide +kernel), if_neg (fun k => by cases k.1), if_neg (by decide +kernel)]
  unfold choO
  rw [(Lib.containsS_iff [vT] vT).2 (by simp)]
  decide +kernel
theorem fstV_no (S : ByteArray) : isCrc (fstV false S) = false := by
  rcases firstP_of (ownS false) (pcsS (nums S)) with h | h
  · unfold fstV; rw [h]; unfold isCrc; rw [ByteArray.toList_eq]; decide
  · have h2 : fstV false S = nonB := by unfold fstV; simpa [ownS] using h
    rw [h2]; unfold isCrc nonB; rw [ByteArray.toList_eq]; decide
end Go.Proofs.YtplifodddfjhdabDoor
