/-
  login: New.
-/
import Derived.Test.YtplifodddfjhdaaGreatDoorXLgS
namespace Go.Proofs.YtplifodddfjhdaaGreatDoor
open Go.RowKit
set_option linter.unusedVariables false
set_option linter.unusedSimpArgs false

/-- A slice's memory is new. -/
def Newer (a : Option Addr) (n : Nat) : Prop := ∀ x, a = some x → n ≤ x.block
theorem own_str {w : World} {base n : Nat} {v : Value} {os : List ByteArray} (hn : os.length = n) (h : w.ownsRow base 9 1 v n (os.map Value.string)) : ∃ a c, v = .slice a n c ∧ StAt w (.slice a n c) os ∧ Newer a base ∧ ∀ x, a = some x → x.block < w.heap.size := by
  subst hn
  rcases h.2 with ⟨rfl, h0⟩ | ⟨g, cap, cur, rfl, hb, hg, hnc, hcm, hcs, htk⟩
  · have h1 := h0
    refine ⟨none, 0, by rw [h1], ?_, (fun x e => by cases e), fun x e => by cases e⟩
    exact ⟨none, 0, by rw [h1], by omega, .inl h1⟩
  · refine ⟨some ⟨g, 0, none⟩, cap, rfl, ⟨some ⟨g, 0, none⟩, cap, rfl, hnc, ?_⟩, (fun x e => by cases e; exact hb), fun x e => by cases e; exact (Array.getElem?_eq_some_iff.1 hg).1⟩
    by_cases h0 : os.length = 0
    · exact .inl h0
    · refine .inr ⟨g, 0, rfl, (Array.getElem?_eq_some_iff.1 hg).1, fun j hj => ?_⟩
      rw [Nat.zero_add, h.cellAt j (by simpa using hj), List.getElem?_map, List.getElem?_eq_getElem hj, List.getD_eq_getElem?_getD, List.getElem?_eq_getElem hj]
      rfl
theorem clone_any (a : Option Addr) (n c : Nat) (os : List ByteArray) (w : World) (h : StAt w (.slice a n c) os) (hn : n * 16 ≤ 140737488355328) :
    Calls Tryz.prog 23 #[.slice a n c] w fun e w' => (∃ a' c', e = .returned (.slice a' n c') ∧ StAt w' (.slice a' n c') os ∧ Newer a' w.heap.size ∧ ∀ x, a' = some x → x.block < w'.heap.size) ∧ Below w.heap.size w w' := by
  obtain ⟨a0, c0, hv, h1, h2⟩ := h
  simp only [Value.slice.injEq] at hv
  obtain ⟨rfl, rfl, rfl⟩ := hv
  cases a with
  | none =>
    have hz : os.length = 0 := by
      rcases h2 with h2 | ⟨b, off, e, _⟩
      · exact h2
      · cases e
    refine (Tryz.slices_Clone_string_nil os.length c w).mono ?_
    rintro e w' ⟨rfl, rfl⟩
    exact ⟨⟨none, 0, by rw [hz], ⟨none, 0, by rw [hz], by omega, .inl hz⟩, (fun x e => by cases e), fun x e => by cases e⟩, Below.refl _ _⟩
  | some x =>
    rcases h2 with h2 | ⟨b, off, e, hlt, hc⟩
    · have : os = [] := List.length_eq_zero_iff.1 h2
      subst this
      refine (Tryz.slices_Clone_string_zero x c w).mono ?_
      rintro e w' ⟨v', rfl, ho, -, hb⟩
      obtain ⟨a', c', rfl, k1, k2⟩ := own_str (os := []) rfl ho
      exact ⟨⟨a', c', rfl, k1, k2⟩, hb⟩
    · cases e
      refine (Tryz.slices_Clone_string b off os.length c os w (Nat.le_refl _) hn hc).mono ?_
      rintro e w' ⟨v', rfl, ho, -, hb⟩
      rw [List.take_length] at ho
      obtain ⟨a', c', rfl, k1, k2⟩ := own_str rfl ho
      exact ⟨⟨a', c', rfl, k1, k2⟩, hb⟩
theorem eqlU (w : World) : (binOp .eql 23 (.slice none 0 0) (.slice none 0 0)).run Tryz.prog w = .ok (.bool true) w := by kernel_rfl
theorem eqlB (w : World) : (binOp .eql 26 (.slice none 0 0) (.slice none 0 0)).run Tryz.prog w = .ok (.bool true) w := by kernel_rfl
set_option maxRecDepth 100000 in
theorem cloneU_nil (w : World) : Calls Tryz.prog 24 #[.slice none 0 0] w fun e w' => e = .returned (.slice none 0 0) ∧ w' = w := by
  have h0 := eqlU
  go_enter Tryz.func24, Tryz.ntmps24
  go_wp2
  go_ret
  exact ⟨rfl, rfl⟩
set_option maxRecDepth 100000 in
theorem cloneB_nil (w : World) : Calls Tryz.prog 25 #[.slice none 0 0] w fun e w' => e = .returned (.slice none 0 0) ∧ w' = w := by
  have h0 := eqlB
  go_enter Tryz.func25, Tryz.ntmps25
  go_wp2
  go_ret
  exact ⟨rfl, rfl⟩
def lg0 (tg : Value) : Lg := { tg := tg, us := .slice none 0 0, sums := false, id := 1, ch := .slice none 0 0, begun := false, stage := 0, meth := ⟨#[]⟩, told := false, proved := true, done := false, over := false, ini := ⟨#[]⟩, tgt := ⟨#[]⟩, dis := false, hd := false, dt := false, seg := 8192, bu := 65536, fi := 65536, imm := true, rdy := true }
theorem szCfg : (Tryz.prog.info? 25).map (·.size) = some 3 := by kernel_rfl

set_option maxRecDepth 100000 in
set_option maxHeartbeats 4000000 in
theorem new_any (a : Option Addr) (n c : Nat) (os : List ByteArray) (w : World) (h : StAt w (.slice a n c) os) (hn : n * 16 ≤ 140737488355328) :
    Calls Tryz.prog 7 #[.agg #[.slice a n c, .slice none 0 0, .bool false], .int .u8 1, .slice none 0 0] w fun e w' => (∃ L a' c', e = .returned (.pointer (some ⟨L, 0, none⟩)) ∧ w.heap.size ≤ L ∧ Bx w' L (lg0 (.slice a' n c')).v ∧ StAt w' (.slice a' n c') os ∧ Off a' L) ∧ Below w.heap.size w w' := by
  have fC : Kpt (∀ W, Below w.heap.size w W → Calls Tryz.prog 23 #[.slice a n c] W fun e w' => (∃ a' c', e = .returned (.slice a' n c') ∧ StAt w' (.slice a' n c') os ∧ Newer a' W.heap.size ∧ ∀ x, a' = some x → x.block < w'.heap.size) ∧ Below W.heap.size W w') := ⟨fun W hb => clone_any a n c os W (h.bel hb) hn⟩
  have fU : Kpt (∀ W : World, Calls Tryz.prog 24 #[.slice none 0 0] W fun e w' => e = .returned (.slice none 0 0) ∧ w' = W) := ⟨cloneU_nil⟩
  have fB : Kpt (∀ W : World, Calls Tryz.prog 25 #[.slice none 0 0] W fun e w' => e = .returned (.slice none 0 0) ∧ w' = W) := ⟨cloneB_nil⟩
  clear h hn
  go_enter Tryz.func7, Tryz.ntmps7
  go_wp2_with (first
    | (go_at_call 24; go_must (refine (fU.out _).mono ?_; rintro e wx ⟨rfl, rfl⟩))
    | (go_at_call 23; go_must (refine (fC.out _ hb1.out).mono ?_; rintro e w2 ⟨⟨a', c', rfl, hst, hnw, hol⟩, hb2⟩; have hRlt := hX1.out.lt; replace hol := Kpt.mk hol; have hX2 := hX1.out.below hb2 hX1.out.lt; have hb3 : Kpt (Below w.heap.size w w2) := ⟨hb1.out.trans (hb2.mono hb1.out.size)⟩; have n0 := hX2.cells 0 (by simp); have g0 := hX2.free 0; have hX3 := bx_setC (.slice a' n c') hX2 (j := 0) (by simp); simp at n0 hX3; have n1 := hX3.cells 1 (by simp); have g1 := hX3.free 1; have hX4 := bx_setC (.slice none 0 0) hX3 (j := 1) (by simp); simp at n1 hX4; replace hX2 := Kpt.mk hX2; replace hX3 := Kpt.mk hX3; replace hX4 := Kpt.mk hX4; replace hst := Kpt.mk hst; replace hnw := Kpt.mk hnw; clear hb2))
    | (refine (?_ : wpList _ _ _ (Oper.mk _ (Op.box 25 _) _ _ _ _ :: _) _ _); go_must (refine wpList_box rfl 25 (.tmp 0) rfl #[.slice a n c, .slice none 0 0, .bool false] rfl ?_; intro R w1 hR hBq hbe _; have m0 := hBq.cells 0 (by simp); simp at m0; have hb1 := Kpt.mk hbe; have hX1 := Kpt.mk hBq; replace hR := Kpt.mk hR; clear hBq hbe)))
  have hoR : Off a' R := fun x e => by have := hnw.out x e; omega
  have hg4 := grown_tr (grown_setCellK w2 ⟨R, 0, none⟩ (.slice a' n c')) (grown_setCellK (w2.setCell ⟨R, 0, none⟩ (.slice a' n c')) ⟨R, 1, none⟩ (.slice none 0 0))
  obtain ⟨W4, hW4⟩ : ∃ W, W = (w2.setCell ⟨R, 0, none⟩ (.slice a' n c')).setCell ⟨R, 1, none⟩ (.slice none 0 0) := ⟨_, rfl⟩
  rw [← hW4] at hX4 hg4 ⊢
  have hst4 := Kpt.mk (hst.out.grown hoR hg4)
  have hb4 : Kpt (Below w.heap.size w W4) := ⟨hb3.out.grown hg4 hb3.out.size (fun q e => by injection e with e; subst e; exact hR.out)⟩
  have hol4 : Kpt (∀ x, a' = some x → x.block < W4.heap.size) := ⟨fun x e => Nat.lt_of_lt_of_le (hol.out x e) hg4.size⟩
  clear hW4 hg4 hX3 hX2 n0 n1 g0 g1 m0 hst hol
  refine wp_region_any (by kernel_rfl) ?_
  refine wpAny_of_C (C := fun W => Bx W R #[.slice a' n c', .slice none 0 0, .bool false]) _ _ _ _ ?_
  refine wpAnyC_take 0 (.agg #[.slice a' n c', .slice none 0 0, .bool false]) rfl (by kernel_rfl) (by kernel_rfl) (by kernel_rfl) (fun _ _ _ h => h) (wanted_free rfl _) (fun W hW => exec_load_bx 25 (.tmp 3) rfl R #[.slice a' n c', .slice none 0 0, .bool false] rfl hW _ Tryz.underlying25 rfl szCfg) ?_
  try simp only [Act.put, List.getElem_toArray, List.getElem_cons_succ, List.getElem_cons_zero, List.setIfInBounds_toArray, List.set_cons_succ, List.set_cons_zero]
  refine wpAnyC_take 1 (.int .u8 1) rfl (by kernel_rfl) (by kernel_rfl) (by kernel_rfl) (fun _ _ _ h => h) (wanted_free rfl _) (fun W hW => by go_simp) ?_
  try simp only [Act.put, List.getElem_toArray, List.getElem_cons_succ, List.getElem_cons_zero, List.setIfInBounds_toArray, List.set_cons_succ, List.set_cons_zero]
  refine wpAnyC_take 2 (.slice none 0 0) rfl (by kernel_rfl) (by kernel_rfl) (by kernel_rfl) (fun _ _ _ h => h) (wanted_free rfl _) (fun W hW => by go_simp) ?_
  try simp only [Act.put, List.getElem_toArray, List.getElem_cons_succ, List.getElem_cons_zero, List.setIfInBounds_toArray, List.set_cons_succ, List.set_cons_zero]
  refine wpAnyC_take 4 (.pointer (some ⟨R, 1, none⟩)) rfl (by kernel_rfl) (by kernel_rfl) (by kernel_rfl) (fun _ _ _ h => h) (wanted_free rfl _) (fun W hW => by go_simp) ?_
  try simp only [Act.put, List.getElem_toArray, List.getElem_cons_succ, List.getElem_cons_zero, List.setIfInBounds_toArray, List.set_cons_succ, List.set_cons_zero]
  refine wpAnyC_take 5 (.slice none 0 0) rfl (by kernel_rfl) (by kernel_rfl) (by kernel_rfl) (fun _ _ _ h => h) (wanted_free rfl _) (fun W hW => by have h1 := hW.cells 1 (by simp); simp at h1; go_simp) ?_
  try simp only [Act.put, List.getElem_toArray, List.getElem_cons_succ, List.getElem_cons_zero, List.setIfInBounds_toArray, List.set_cons_succ, List.set_cons_zero]
  refine wpAnyC_take 6 (.int .i64 0) rfl (by kernel_rfl) (by kernel_rfl) (by kernel_rfl) (fun _ _ _ h => h) (wanted_free rfl _) (fun W hW => by go_simp) ?_
  try simp only [Act.put, List.getElem_toArray, List.getElem_cons_succ, List.getElem_cons_zero, List.setIfInBounds_toArray, List.set_cons_succ, List.set_cons_zero]
  refine wpAnyC_take 7 (.bool true) rfl (by kernel_rfl) (by kernel_rfl) (by kernel_rfl) (fun _ _ _ h => h) (wanted_free rfl _) (fun W hW => by go_simp) ?_
  try simp only [Act.put, List.getElem_toArray, List.getElem_cons_succ, List.getElem_cons_zero, List.setIfInBounds_toArray, List.set_cons_succ, List.set_cons_zero]
  refine wpAnyC_take 8 (.agg #[.string ⟨#[]⟩, .string ⟨#[]⟩, .bool false, .bool false, .bool false, .int .i64 8192, .int .i64 65536, .int .i64 65536, .bool true, .bool true]) rfl (by kernel_rfl) (by kernel_rfl) (by kernel_rfl) (fun _ _ _ h => h) (wanted_free rfl _) (fun W hW => by go_simp) ?_
  try simp only [Act.put, List.getElem_toArray, List.getElem_cons_succ, List.getElem_cons_zero, List.setIfInBounds_toArray, List.set_cons_succ, List.set_cons_zero]
  refine wpAnyC_one 3 (hX4.out.drew) rfl (by kernel_rfl) (wanted_free rfl _) (fun KA hKA => ?_)
  go_simp
  refine (fB.out _).mono ?_
  rintro e wx ⟨rfl, rfl⟩
  refine hKA _ _ ?_
  clear hKA KA
  try simp only [Act.put, List.getElem_toArray, List.getElem_cons_succ, List.getElem_cons_zero, List.setIfInBounds_toArray, List.set_cons_succ, List.set_cons_zero]
  refine wpAnyC_take 9 (.agg (lg0 (.slice a' n c')).v) rfl (by kernel_rfl) (by kernel_rfl) (by kernel_rfl) (fun _ _ _ h => h) (wanted_free rfl _) (fun W hW => by unfold lg0 Lg.v; go_simp) ?_
  try simp only [Act.put, List.getElem_toArray, List.getElem_cons_succ, List.getElem_cons_zero, List.setIfInBounds_toArray, List.set_cons_succ, List.set_cons_zero]
  refine wpAnyC_one 10 (hX4.out.drew) rfl (by kernel_rfl) (wanted_free rfl _) (fun KA hKA => ?_)
  go_simp
  refine hKA _ _ ?_
  clear hKA KA
  try simp only [Act.put, List.getElem_toArray, List.getElem_cons_succ, List.getElem_cons_zero, List.setIfInBounds_toArray, List.set_cons_succ, List.set_cons_zero]
  refine wpAnyC_one 11 (hX4.out.drew.alloc _) rfl (by kernel_rfl) (wanted_free rfl _) (fun KA hKA => ?_)
  go_simp
  refine hKA _ _ ?_
  clear hKA KA
  try simp only [Act.put, List.getElem_toArray, List.getElem_cons_succ, List.getElem_cons_zero, List.setIfInBounds_toArray, List.set_cons_succ, List.set_cons_zero]
  refine wpAnyC_done (hX4.out.drew.alloc _) (by kernel_rfl) ?_
  go_wp2
  go_ret
  have hbd : Below w.heap.size w W4.drew := hb4.out.trans ((below_drew W4).mono hb4.out.size)
  refine ⟨⟨W4.heap.size, a', c', rfl, hb4.out.size, bx_new W4.drew _ 80, ?_, fun x e h => ?_⟩, hbd.alloc hbd.size _⟩
  · exact (hst4.out.bel (below_drew W4)).bel ((Below.refl _ _).alloc (Nat.le_refl _) _)
  · have := hol4.out x e; omega
end Go.Proofs.YtplifodddfjhdaaGreatDoor
