/-
  login: a copy of bytes that are none, laid somewhere. login: New with a user and any challenge.
-/
import Derived.Test.YtplifodddfjhdaaGreatDoorXLnC
import Derived.WideShapes
import Derived.Test.YtplifodddfjhdaaGreatDoorXLnN
namespace Go.Proofs.YtplifodddfjhdaaGreatDoor
open Go.RowKit
set_option linter.unusedVariables false
set_option linter.unusedSimpArgs false

set_option maxRecDepth 100000 in
theorem cloneB_e (x : Addr) (c : Nat) (w : World) :
    Calls Tryz.prog 25 #[.slice (some x) 0 c] w fun e w' => (∃ a' c', e = .returned (.slice a' 0 c') ∧ a' ≠ none ∧ Newer a' w.heap.size ∧ ∀ y, a' = some y → y.block < w'.heap.size) ∧ Below w.heap.size w w' := by
  obtain ⟨i0, hi0, hz0, hz1, hz2⟩ := info_parts Tryz.info5
  have q22 : ∀ (w : World) (a : Option Addr) (n c n' c' : Nat), (binOp .eql 26 (.slice a n c) (.slice none n' c')).run Tryz.prog w = .ok (.bool a.isNone) w := fun w a n c n' c' => Lib.run_eql_slice_nil w _ _ a n c n' c' Tryz.underlying26
  go_enter Tryz.func25, Tryz.ntmps25
  go_wp2_with (at_builtin; refine wpList_append_own _ rfl _ _ 26 rfl w.heap.size 5 i0 (.int .u8 0) 1 1 Tryz.underlying26 hi0 hz0 hz1 hz2 rfl (by decide) _ _ _ rfl (World.ownsRow_made w #[] 0 (Nat.le_refl _) (Nat.zero_le _) rfl) x 0 c [] rfl ?qc1 ?qc2 ?qc3 ?qc4 ?qc5 ?qc6 ?_)
  case qc1 => rfl
  case qc2 => intro j u hj; simp at hj
  case qc3 => intro u hu; cases hu
  case qc4 => unfold maxLen; omega
  case qc5 => omega
  case qc6 => simp
  intro v' w1 hown hgrow hnil
  go_wp2
  go_ret
  have hb : Below w.heap.size w w1 := ((Below.refl _ w).alloc (Nat.le_refl _) _).grown hgrow (by simp) (by intro k hk; simp [Value.ownBlock] at hk; omega)
  refine ⟨?_, hb⟩
  rcases id hown.2 with ⟨e, h0⟩ | ⟨g, cap, cur, rfl, hbb, hg, hnc, _⟩
  · exact absurd e hnil
  · exact ⟨some ⟨g, 0, none⟩, cap, rfl, by simp, (fun x e => by cases e; exact hbb), fun x e => by cases e; exact (Array.getElem?_eq_some_iff.1 hg).1⟩
theorem rd_zero {w : World} {a : Option Addr} {c : Nat} (h : a = none → c = 0) : RdAt w (.slice a 0 c) [] := ⟨a, c, rfl, fun e => ⟨rfl, h e⟩, Nat.zero_le _, .inl rfl⟩
/-- A copy of bytes, laid somewhere or not. -/
theorem cloneB_all (a : Option Addr) (n c : Nat) (zs : List Int) (w : World) (h : RdAt w (.slice a n c) zs) (hn : n ≤ 140737488355328) :
    Calls Tryz.prog 25 #[.slice a n c] w fun e w' => (∃ a' c', e = .returned (.slice a' n c') ∧ RdAt w' (.slice a' n c') zs ∧ Newer a' w.heap.size ∧ ∀ x, a' = some x → x.block < w'.heap.size) ∧ Below w.heap.size w w' := by
  by_cases hne : a = none ∨ 0 < n
  · exact cloneB_any a n c zs w h hn hne
  · obtain rfl : n = 0 := by omega
    have h0 : zs = [] := by
      obtain ⟨a0, c0, hv, _⟩ := h
      simp only [Value.slice.injEq] at hv
      exact List.eq_nil_of_length_eq_zero hv.2.1.symm
    cases a with
    | none => exact absurd (.inl rfl) hne
    | some x =>
      refine (cloneB_e x c w).mono ?_
      rintro e w' ⟨⟨a', c', rfl, hs, h2, h3⟩, hb⟩
      rw [h0]
      exact ⟨⟨a', c', rfl, rd_zero (fun e => absurd e hs), h2, h3⟩, hb⟩
end Go.Proofs.YtplifodddfjhdaaGreatDoor

namespace Go.Proofs.YtplifodddfjhdaaGreatDoor
open Go.RowKit
set_option linter.unusedVariables false
set_option linter.unusedSimpArgs false

set_option maxRecDepth 100000 in
set_option maxHeartbeats 8000000 in
theorem new_all (id : Int) (a : Option Addr) (n c : Nat) (os : List ByteArray) (ub uo uc : Nat) (N S : ByteArray) (ca : Option Addr) (cn cc : Nat) (zs : List Int) (w : World) (h : StAt w (.slice a n c) os) (hn : n * 16 ≤ 140737488355328) (hub : ub < w.heap.size) (hu : w.rangeAt ub uo [.string N, .string S]) (hr : RdAt w (.slice ca cn cc) zs) (hcn : cn ≤ 140737488355328) :
    Calls Tryz.prog 7 #[.agg #[.slice a n c, .slice (some ⟨ub, uo, none⟩) 1 uc, .bool false], .int .u8 id, .slice ca cn cc] w fun e w' => (∃ L a' c' ug ug' ca' cc', e = .returned (.pointer (some ⟨L, 0, none⟩)) ∧ w.heap.size ≤ L ∧ Bx w' L (lgU id (.slice a' n c') (.slice (some ⟨ug, 0, none⟩) 1 ug') (.slice ca' cn cc')).v ∧ StAt w' (.slice a' n c') os ∧ Off a' L ∧ Newer a' w.heap.size ∧ UsAt w' ug N S ∧ ug ≠ L ∧ w.heap.size ≤ ug ∧ RdAt w' (.slice ca' cn cc') zs ∧ Off ca' L ∧ Newer ca' w.heap.size ∧ (∀ x, ca' = some x → x.block < w'.heap.size)) ∧ Below w.heap.size w w' := by
  have fC : Kpt (∀ W, Below w.heap.size w W → Calls Tryz.prog 23 #[.slice a n c] W fun e w' => (∃ a' c', e = .returned (.slice a' n c') ∧ StAt w' (.slice a' n c') os ∧ Newer a' W.heap.size ∧ ∀ x, a' = some x → x.block < w'.heap.size) ∧ Below W.heap.size W w') := ⟨fun W hb => clone_any a n c os W (h.bel hb) hn⟩
  have fU : Kpt (∀ W : World, Below w.heap.size w W → Calls Tryz.prog 24 #[.slice (some ⟨ub, uo, none⟩) 1 uc] W fun e w' => (∃ g c', e = .returned (.slice (some ⟨g, 0, none⟩) 1 c') ∧ W.heap.size ≤ g ∧ UsAt w' g N S) ∧ Below W.heap.size W w') := ⟨fun W hb => (cloneU_one ub uo uc N S W (fun j u hj => (hb.cell (p := ⟨ub, uo + j, none⟩) hub).trans (hu j u hj))).mono fun e w' ⟨⟨g, c', h1, _, h2, h3, h4, h5⟩, h6⟩ => ⟨⟨g, c', h1, h2, h3, h4, h5⟩, h6⟩⟩
  have fB : Kpt (∀ W : World, Below w.heap.size w W → Calls Tryz.prog 25 #[.slice ca cn cc] W fun e w' => (∃ a' c', e = .returned (.slice a' cn c') ∧ RdAt w' (.slice a' cn c') zs ∧ Newer a' W.heap.size ∧ ∀ x, a' = some x → x.block < w'.heap.size) ∧ Below W.heap.size W w') := ⟨fun W hb => cloneB_all ca cn cc zs W (hr.bel hb) hcn⟩
  clear h hn hub hu hr hcn
  go_enter Tryz.func7, Tryz.ntmps7
  go_wp2_with (first
    | (go_at_call 24; go_must (refine (fU.out _ hb4.out).mono ?_; rintro e w5 ⟨⟨ug, ug', rfl, hug, hus⟩, hb5⟩; have hX5 := Kpt.mk (hX3.out.below hb5 hX3.out.lt); have hb6 : Kpt (Below w.heap.size w w5) := ⟨hb4.out.trans (hb5.mono hb4.out.size)⟩; have hst5 := Kpt.mk (hst4.out.bel hb5); have hol5 : Kpt (∀ x, a' = some x → x.block < w5.heap.size) := ⟨fun x e => Nat.lt_of_lt_of_le (hol4.out x e) hb5.size⟩; have n5 := hX5.out.cells 1 (by simp); have g5 := hX5.out.free 1; simp at n5; have hX6 := Kpt.mk (by simpa using bx_setC (.slice (some ⟨ug, 0, none⟩) 1 ug') hX5.out (j := 1) (by simp)); have hgU := Kpt.mk (show ug ≠ R by have := hX3.out.lt; omega); have hgN := Kpt.mk (Nat.le_trans hb4.out.size hug); replace hus := Kpt.mk hus; clear hb5 hug))
    | (go_at_call 23; go_must (refine (fC.out _ hb1.out).mono ?_; rintro e w2 ⟨⟨a', c', rfl, hst, hnw, hol⟩, hb2⟩; have hRlt := hX1.out.lt; have hoR : Kpt (Off a' R) := ⟨fun x e => by have := hnw x e; omega⟩; have hX2 := Kpt.mk (hX1.out.below hb2 hX1.out.lt); have hb3 : Kpt (Below w.heap.size w w2) := ⟨hb1.out.trans (hb2.mono hb1.out.size)⟩; have hnw' : Kpt (Newer a' w.heap.size) := ⟨fun x e => Nat.le_trans hb1.out.size (hnw x e)⟩; have n0 := hX2.out.cells 0 (by simp); have g0 := hX2.out.free 0; simp at n0; have hX3 := Kpt.mk (by simpa using bx_setC (.slice a' n c') hX2.out (j := 0) (by simp)); have n1 := hX3.out.cells 1 (by simp); simp at n1; have hg4 := grown_setCellK w2 ⟨R, 0, none⟩ (.slice a' n c'); have hst4 := Kpt.mk (hst.grown hoR.out hg4); have hb4 := Kpt.mk (hb3.out.grown hg4 hb3.out.size (fun q e => by injection e with e; subst e; exact hR.out)); have hol4 : Kpt (∀ x, a' = some x → x.block < (w2.setCell ⟨R, 0, none⟩ (.slice a' n c')).heap.size) := ⟨fun x e => Nat.lt_of_lt_of_le (hol x e) hg4.size⟩; clear hb2 hst hnw hol hg4 hX2 hRlt))
    | (refine (?_ : wpList _ _ _ (Oper.mk _ (Op.box 25 _) _ _ _ _ :: _) _ _); go_must (refine wpList_box rfl 25 (.tmp 0) rfl #[.slice a n c, .slice (some ⟨ub, uo, none⟩) 1 uc, .bool false] rfl ?_; intro R w1 hR hBq hbe _; have m0 := hBq.cells 0 (by simp); simp at m0; have hb1 := Kpt.mk hbe; have hX1 := Kpt.mk hBq; replace hR := Kpt.mk hR; clear hBq hbe)))
  have hg7 := grown_setCellK w5 ⟨R, 1, none⟩ (.slice (some ⟨ug, 0, none⟩) 1 ug')
  obtain ⟨W4, hW4⟩ : ∃ W, W = w5.setCell ⟨R, 1, none⟩ (.slice (some ⟨ug, 0, none⟩) 1 ug') := ⟨_, rfl⟩
  rw [← hW4] at hX6 hg7 ⊢
  have hst7 := Kpt.mk (hst5.out.grown hoR.out hg7)
  have hb7 : Kpt (Below w.heap.size w W4) := ⟨hb6.out.grown hg7 hb6.out.size (fun q e => by injection e with e; subst e; exact hR.out)⟩
  have hol7 : Kpt (∀ x, a' = some x → x.block < W4.heap.size) := ⟨fun x e => Nat.lt_of_lt_of_le (hol5.out x e) hg7.size⟩
  have hus7 := Kpt.mk (hus.out.grown hg7 (fun e => hgU.out (by injection e with e; exact e.symm)))
  clear hW4 hg7 hX3 hX5 n0 n1 g0 n5 g5 m0 hst4 hst5 hol4 hol5 hus hb4 hb6
  refine wp_region_any (by kernel_rfl) ?_
  refine wpAny_of_C (C := fun W => Bx W R #[.slice a' n c', .slice (some ⟨ug, 0, none⟩) 1 ug', .bool false]) _ _ _ _ ?_
  refine wpAnyC_take 0 (.agg #[.slice a' n c', .slice (some ⟨ug, 0, none⟩) 1 ug', .bool false]) rfl (by kernel_rfl) (by kernel_rfl) (by kernel_rfl) (fun _ _ _ h => h) (wanted_free rfl _) (fun W hW => exec_load_bx 25 (.tmp 3) rfl R #[.slice a' n c', .slice (some ⟨ug, 0, none⟩) 1 ug', .bool false] rfl hW _ Tryz.underlying25 rfl szCfg) ?_
  try simp only [Act.put, List.getElem_toArray, List.getElem_cons_succ, List.getElem_cons_zero, List.setIfInBounds_toArray, List.set_cons_succ, List.set_cons_zero]
  refine wpAnyC_take 1 (.int .u8 id) rfl (by kernel_rfl) (by kernel_rfl) (by kernel_rfl) (fun _ _ _ h => h) (wanted_free rfl _) (fun W hW => by go_simp) ?_
  try simp only [Act.put, List.getElem_toArray, List.getElem_cons_succ, List.getElem_cons_zero, List.setIfInBounds_toArray, List.set_cons_succ, List.set_cons_zero]
  refine wpAnyC_take 2 (.slice ca cn cc) rfl (by kernel_rfl) (by kernel_rfl) (by kernel_rfl) (fun _ _ _ h => h) (wanted_free rfl _) (fun W hW => by go_simp) ?_
  try simp only [Act.put, List.getElem_toArray, List.getElem_cons_succ, List.getElem_cons_zero, List.setIfInBounds_toArray, List.set_cons_succ, List.set_cons_zero]
  refine wpAnyC_take 4 (.pointer (some ⟨R, 1, none⟩)) rfl (by kernel_rfl) (by kernel_rfl) (by kernel_rfl) (fun _ _ _ h => h) (wanted_free rfl _) (fun W hW => by go_simp) ?_
  try simp only [Act.put, List.getElem_toArray, List.getElem_cons_succ, List.getElem_cons_zero, List.setIfInBounds_toArray, List.set_cons_succ, List.set_cons_zero]
  refine wpAnyC_take 5 (.slice (some ⟨ug, 0, none⟩) 1 ug') rfl (by kernel_rfl) (by kernel_rfl) (by kernel_rfl) (fun _ _ _ h => h) (wanted_free rfl _) (fun W hW => by have h1 := hW.cells 1 (by simp); simp at h1; go_simp) ?_
  try simp only [Act.put, List.getElem_toArray, List.getElem_cons_succ, List.getElem_cons_zero, List.setIfInBounds_toArray, List.set_cons_succ, List.set_cons_zero]
  refine wpAnyC_take 6 (.int .i64 1) rfl (by kernel_rfl) (by kernel_rfl) (by kernel_rfl) (fun _ _ _ h => h) (wanted_free rfl _) (fun W hW => by go_simp) ?_
  try simp only [Act.put, List.getElem_toArray, List.getElem_cons_succ, List.getElem_cons_zero, List.setIfInBounds_toArray, List.set_cons_succ, List.set_cons_zero]
  refine wpAnyC_take 7 (.bool false) rfl (by kernel_rfl) (by kernel_rfl) (by kernel_rfl) (fun _ _ _ h => h) (wanted_free rfl _) (fun W hW => by go_simp) ?_
  try simp only [Act.put, List.getElem_toArray, List.getElem_cons_succ, List.getElem_cons_zero, List.setIfInBounds_toArray, List.set_cons_succ, List.set_cons_zero]
  refine wpAnyC_take 8 (.agg #[.string ⟨#[]⟩, .string ⟨#[]⟩, .bool false, .bool false, .bool false, .int .i64 8192, .int .i64 65536, .int .i64 65536, .bool true, .bool true]) rfl (by kernel_rfl) (by kernel_rfl) (by kernel_rfl) (fun _ _ _ h => h) (wanted_free rfl _) (fun W hW => by go_simp) ?_
  try simp only [Act.put, List.getElem_toArray, List.getElem_cons_succ, List.getElem_cons_zero, List.setIfInBounds_toArray, List.set_cons_succ, List.set_cons_zero]
  refine wpAnyC_one 3 (hX6.out.drew) rfl (by kernel_rfl) (wanted_free rfl _) (fun KA hKA => ?_)
  go_simp
  refine (fB.out _ (hb7.out.trans ((below_drew W4).mono hb7.out.size))).mono ?_
  rintro e wx ⟨⟨ca', cc', rfl, hrd, hcw, hcl⟩, hbx⟩
  have hXx := Kpt.mk (hX6.out.drew.below hbx hX6.out.drew.lt)
  have hstx := Kpt.mk ((hst7.out.bel (below_drew W4)).bel hbx)
  have husx := Kpt.mk ((hus7.out.bel (below_drew W4)).bel hbx)
  have hbX := Kpt.mk ((hb7.out.trans ((below_drew W4).mono hb7.out.size)).trans (hbx.mono (Nat.le_trans hb7.out.size (Nat.le_refl _))))
  have holx : Kpt (∀ x, a' = some x → x.block < wx.heap.size) := ⟨fun x e => Nat.lt_of_lt_of_le (hol7.out x e) hbx.size⟩
  have hcw' : Kpt (Newer ca' w.heap.size) := ⟨fun x e => Nat.le_trans hb7.out.size (hcw x e)⟩
  replace hrd := Kpt.mk hrd
  replace hcl := Kpt.mk hcl
  clear hbx hcw
  refine hKA _ _ ?_
  clear hKA KA
  try simp only [Act.put, List.getElem_toArray, List.getElem_cons_succ, List.getElem_cons_zero, List.setIfInBounds_toArray, List.set_cons_succ, List.set_cons_zero]
  refine wpAnyC_take 9 (.agg (lgU id (.slice a' n c') (.slice (some ⟨ug, 0, none⟩) 1 ug') (.slice ca' cn cc')).v) rfl (by kernel_rfl) (by kernel_rfl) (by kernel_rfl) (fun _ _ _ h => h) (wanted_free rfl _) (fun W hW => by unfold lgU Lg.v; go_simp) ?_
  try simp only [Act.put, List.getElem_toArray, List.getElem_cons_succ, List.getElem_cons_zero, List.setIfInBounds_toArray, List.set_cons_succ, List.set_cons_zero]
  refine wpAnyC_one 10 (hXx.out) rfl (by kernel_rfl) (wanted_free rfl _) (fun KA hKA => ?_)
  go_simp
  refine hKA _ _ ?_
  clear hKA KA
  try simp only [Act.put, List.getElem_toArray, List.getElem_cons_succ, List.getElem_cons_zero, List.setIfInBounds_toArray, List.set_cons_succ, List.set_cons_zero]
  refine wpAnyC_one 11 (hXx.out.alloc _) rfl (by kernel_rfl) (wanted_free rfl _) (fun KA hKA => ?_)
  go_simp
  refine hKA _ _ ?_
  clear hKA KA
  try simp only [Act.put, List.getElem_toArray, List.getElem_cons_succ, List.getElem_cons_zero, List.setIfInBounds_toArray, List.set_cons_succ, List.set_cons_zero]
  refine wpAnyC_done (hXx.out.alloc _) (by kernel_rfl) ?_
  go_wp2
  go_ret
  have hal : Below wx.heap.size wx (wx.alloc (.cells (lgU id (.slice a' n c') (.slice (some ⟨ug, 0, none⟩) 1 ug') (.slice ca' cn cc')).v 80)) := (Below.refl _ _).alloc (Nat.le_refl _) _
  refine ⟨⟨wx.heap.size, a', c', ug, ug', ca', cc', rfl, hbX.out.size, bx_new wx _ 80, hstx.out.bel hal, Off.of_lt holx.out (Nat.le_refl _), hnw'.out, husx.out.bel hal, (by have := husx.out.1; omega), hgN.out, hrd.out.bel hal, Off.of_lt hcl.out (Nat.le_refl _), hcw'.out, fun x e => by have := hcl.out x e; simp; omega⟩, hbX.out.alloc hbX.out.size _⟩
end Go.Proofs.YtplifodddfjhdaaGreatDoor
