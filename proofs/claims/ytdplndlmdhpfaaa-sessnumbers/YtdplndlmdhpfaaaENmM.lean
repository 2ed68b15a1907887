/-
  sess: In of what is answered at once; End; a session between answers.
-/
import Derived.Test.YtdplndlmdhpfaaaENmC
import Derived.Test.YtdplndlmdhpfaaaEWin
import Derived.Test.YtdplndlmdhpfaaaEOpen
namespace Go.Proofs.Ytdplndlmdhpfaaa
open Go.RowKit
set_option linter.unusedVariables false
set_option linter.unusedSimpArgs false

def Se.one (s : Se) : Se := { s with stat := (s.stat + 1) % 4294967296 }
/-- A ping that is answered at once. -/
theorem in_k0 (S : Nat) (s : Se) (p : Pd) (a : Option Addr) (n c : Nat) (ds : List Int) (w : World) (h : Ss w S s [] [] []) (hop : p.op = 64) (hov : s.over = false) (hda : p.da = .slice a n c) (hD : Dt (s.X S) w p.da ds) (hdl : ds.length ≤ 100000) (ht : ¬ p.tg = 4294967295) (hn : 0 ≤ s.next ∧ s.next < 4294967296) :
    Calls Try.prog 11 #[.pointer (some ⟨S, 0, none⟩), .agg p.v] w fun e w' => ∃ gv tv, e = .returned (.tuple #[gv, tv]) ∧ NmOne S s s.one w w' gv tv := by
  refine (in_now S s [] [] [] p (fun v u W w' => u = .slice none 0 0 ∧ Ss w' S s.one [] [] [] ∧ St S W w' s s.one ∧ ∃ d, Ou W w' S s.one v 37 ((pong p d).num s).v ∧ ∃ zs, RdAt w' d zs) w h (.inl hop) hov (fun W hb => ?_)).mono ?_
  · refine (do_nop S s [] [] [] p (fun v W w' => Ss w' S s.one [] [] [] ∧ St S W w' s s.one ∧ ∃ d, Ou W w' S s.one v 37 ((pong p d).num s).v ∧ ∃ zs, RdAt w' d zs) W (h.below hb) (.inr hop) (fun W2 hb2 => ?_)).mono ?_
    · refine (nop_any S s [] [] [] p a n c ds W2 ((h.below hb).below hb2) hda ((hD.below hb).below hb2) hdl ht hn s.one rfl).mono ?_
      rintro e w' ⟨v, d, rfl, h1, h2, h3, h4⟩
      exact ⟨v, rfl, h1, h2, d, h3, ds, h4.rd⟩
    · rintro e w' ⟨v, W2, rfl, hb2, h1, h2, d, h3, h4⟩
      obtain ⟨b, q1, q2, q3⟩ := h3.at_
      exact ⟨v, _, rfl, rfl, h1, (St.of_below s hb2).trans h2, d, ⟨b, q1, Nat.le_trans hb2.size q2, q3⟩, h4⟩
  · rintro e w' ⟨v, u, W, rfl, hb, rfl, h1, h2, d, h3, zs, h4⟩
    obtain ⟨da, dc, hd⟩ := rd_len h4
    obtain ⟨b, q1, q2⟩ := ou_bx (q := (pong p d).num s) h3 hd
    exact ⟨v, _, rfl, h1, (St.of_below s hb).trans h2, rfl, b, _, q1, q2, rfl, rfl, rfl⟩
/-- A text. -/
theorem in_k1 (S : Nat) (s : Se) (p : Pd) (a : Option Addr) (c : Nat) (w : World) (h : Ss w S s [] [] []) (hop : p.op = 68) (hov : s.over = false) (hda : p.da = .slice a 4 c) (hD : Dt (s.X S) w p.da [97, 61, 98, 0]) (hc : c ≤ maxLen) (hn : 0 ≤ s.next ∧ s.next < 4294967296) :
    Calls Try.prog 11 #[.pointer (some ⟨S, 0, none⟩), .agg p.v] w fun e w' => ∃ gv tv, e = .returned (.tuple #[gv, tv]) ∧ NmOne S s s.one w w' gv tv := by
  refine (in_now S s [] [] [] p (fun v u W w' => u = .slice none 0 0 ∧ Ss w' S s.one [] [] [] ∧ St S W w' s s.one ∧ ∃ d a n c, d = .slice a n c ∧ Ou W w' S s.one v 37 ((txtP p d).num s).v) w h (.inr (.inl hop)) hov (fun W hb => ?_)).mono ?_
  · refine (do_text S s [] [] [] p a c W (h.below hb) hop hda (hD.below hb) hc hn s.one rfl).mono ?_
    rintro e w' ⟨v, d, ⟨a', n', c', rfl⟩, rfl, h1, h2, h3⟩
    exact ⟨v, _, rfl, rfl, h1, h2, _, a', n', c', rfl, h3⟩
  · rintro e w' ⟨v, u, W, rfl, hb, rfl, h1, h2, d, a', n', c', hd, h3⟩
    obtain ⟨b, q1, q2⟩ := ou_bx (q := (txtP p d).num s) h3 hd
    exact ⟨v, _, rfl, h1, (St.of_below s hb).trans h2, rfl, b, _, q1, q2, rfl, rfl, rfl⟩
/-- What is refused. -/
theorem in_k2 (S : Nat) (s : Se) (p : Pd) (a : Option Addr) (n c : Nat) (w : World) (h : Ss w S s [] [] []) (hop : p.op = 62) (hov : s.over = false) (hda : p.da = .slice a n c) (hnn : n ≤ 100000) (hu : p.all32) (hn : 0 ≤ s.next ∧ s.next < 4294967296) :
    Calls Try.prog 11 #[.pointer (some ⟨S, 0, none⟩), .agg p.v] w fun e w' => ∃ gv tv, e = .returned (.tuple #[gv, tv]) ∧ NmOne S s s.one w w' gv tv := by
  refine (in_ref S s [] [] [] p a n c w h (.inr hop) hov hda hnn hu hn s.one rfl).mono ?_
  rintro e w' ⟨v, d, zs, rfl, h1, h2, h3, h4, _⟩
  obtain ⟨da, dc, hd⟩ := rd_len h4.rd
  obtain ⟨b, q1, q2⟩ := ou_bx (q := (rej 5 d).num s) h3 hd
  exact ⟨v, _, rfl, h1, h2, rfl, b, _, q1, q2, rfl, rfl, rfl⟩
/-- A logout. -/
theorem in_k4 (S : Nat) (s : Se) (p : Pd) (w : World) (h : Ss w S s [] [] []) (hop : p.op = 70) (hov : s.over = false) (hn : 0 ≤ s.next ∧ s.next < 4294967296) :
    Calls Try.prog 11 #[.pointer (some ⟨S, 0, none⟩), .agg p.v] w fun e w' => ∃ gv tv s', e = .returned (.tuple #[gv, tv]) ∧ s'.over = true ∧ Ss w' S s' [] [] [] ∧ St S w w' s s' ∧ ∃ b q, gv = .slice (some ⟨b, 0, none⟩) 1 1 ∧ Bx w' b (Pd.v q) ∧ q.op = 38 := by
  refine (in_now S s [] [] [] p (fun v u W w' => ∃ s', s'.over = true ∧ Ss w' S s' [] [] [] ∧ St S W w' s s' ∧ Ou W w' S s' v 37 ((outP p).num s).v) w h (.inr (.inr hop)) hov (fun W hb => ?_)).mono ?_
  · refine (do_out S s [] [] [] p W (h.below hb) hop hn _ rfl).mono ?_
    rintro e w' ⟨v, rfl, h1, h2, h3⟩
    exact ⟨v, _, rfl, _, rfl, h1, h2, h3⟩
  · rintro e w' ⟨v, u, W, rfl, hb, s', h0, h1, h2, h3⟩
    obtain ⟨b, q1, q2⟩ := ou_bx (q := (outP p).num s) h3 rfl
    exact ⟨v, u, s', rfl, h0, h1, (St.of_below s hb).trans h2, b, _, q1, q2, rfl⟩
end Go.Proofs.Ytdplndlmdhpfaaa
namespace Go.Proofs.Ytdplndlmdhpfaaa
open Go.RowKit
set_option linter.unusedVariables false
set_option linter.unusedSimpArgs false

set_option maxRecDepth 100000 in
set_option maxHeartbeats 8000000 in
theorem end_nm (S : Nat) (s : Se) (H : List (Array Value)) (c : Cm) (g wn : Nat) (d : Bool) (w : World) (h : Ss w S s H [c.v] []) (hov : s.over = false) (hrd : c.rd = true) (hwn : c.wn = wn) (hwl : wn ≤ 5000)
    (hg : s.seg = g) (hg0 : 0 < g ∧ g ≤ 100000) (hn : 0 ≤ s.next ∧ s.next < 4294967296) :
    Calls Try.prog 15 #[.pointer (some ⟨S, 0, none⟩), .int .u32 c.tg, .agg (rsv (.slice none 0 0)), .bool d] w fun e w' => ∃ v zs k s' p, e = .returned v ∧ Ss w' S s' H [] [] ∧ St S w w' s s' ∧ (∃ v1 v2, s' = { s with opn := v1, wts := v2, stat := (s.stat + 1) % 4294967296 }) ∧ OwnR 37 14 w' v (zs ++ [p]) ∧ p = ((lst c 0 k).num s).v ∧ zs.length = k ∧ (∀ j z, zs[j]? = some z → PcOne w.heap.size w' v g (([] : List Int)) c.tg (if j + 1 = k then 128 else 0) j z) ∧ 0 ≤ k * g ∧ (k = 0 ∨ (k - 1) * g < 0) := by
  have hS : Kpt (∀ W, Ss W S s H [c.v] [] → Calls Try.prog 28 #[.pointer (some ⟨S, 0, none⟩), .int .u32 c.tg] W fun e w' => ∃ v1 v2, e = .returned (.tuple #[.agg c.v, .bool true]) ∧ Ss w' S { s with opn := v1, wts := v2 } H [] [] ∧ St S W w' s { s with opn := v1, wts := v2 }) := ⟨fun W h => settle_one S s H c [] W h (.inl rfl)⟩
  have k0 := Kpt.mk (Lo.start h)
  replace hov := Kpt.mk hov
  replace hrd := Kpt.mk hrd
  replace hwn := Kpt.mk hwn
  replace hg := Kpt.mk hg
  clear h
  go_enter Try.func15, Try.ntmps15
  go_upto_region 9 with (first
    | (go_at_call 28; go_must (refine (hS.out _ k1.out.ss).mono ?_; rintro e w2 ⟨v1, v2, rfl, hs2, ht2⟩; have k2 := Kpt.mk (k1.out.turn hs2 ht2); clear hs2 ht2))
    | (refine (?_ : wpList _ _ _ (Oper.mk _ (Op.box 53 _) _ _ _ _ :: _) _ _); go_must (refine wpList_box rfl 53 _ rfl (rsv (.slice none 0 0)) rfl ?_; intro P w1 hP hB hb _; have k1 := Kpt.mk (k0.out.add hb hP hB); have c17 := (k1.out.ss.cell 17 (by omega)).1; simp only [Se.v, List.getElem?_toArray, List.getElem?_cons_succ, List.getElem?_cons_zero] at c17; rw [hov.out] at c17; clear hP hB hb))
    | (refine (?_ : wpList _ _ _ (Oper.mk _ (Op.alloc 71) _ _ _ _ :: _) _ _); go_must (refine wpList_var rfl 71 rfl _ zCmd ?_; intro V w3 hV hB hb; have k3 := Kpt.mk (k2.out.add hb hV hB); clear hb hV hB))
    | (refine (?_ : wpList _ _ _ (Oper.mk _ (Op.store 71 _ _) _ _ _ _ :: _) _ _); go_must (refine wpList_store_bx rfl 71 _ _ rfl V (Cm.v ⟨0, 0, false, 0⟩) c.v rfl rfl k3.out.b0 rfl szCmd c.one.2 rfl ?_; intro w4 hB hg4; have k4 := Kpt.mk (k3.out.put0 hB hg4); have v2c := k4.out.b0.cells 2 (by simp [Cm.v]); have p0c := k4.out.b1.cells 0 (by simp [rsv]); have p9c := k4.out.b1.cells 9 (by simp [rsv]); simp [Cm.v, rsv] at v2c p0c p9c; rw [hrd.out] at v2c; clear hB hg4)))
  obtain ⟨s1, hs1⟩ : ∃ s1 : Se, s1 = { s with opn := v1, wts := v2 } := ⟨_, rfl⟩
  rw [← hs1] at k4
  have hnum : Kpt (∀ p : Pd, p.num s1 = p.num s) := ⟨fun p => by rw [hs1]; rfl⟩
  have hg1 : Kpt (s1.seg = g) := ⟨by rw [hs1]; exact hg.out⟩
  have hn1 : Kpt (0 ≤ s1.next ∧ s1.next < 4294967296) := ⟨by rw [hs1]; exact hn⟩
  have ho1 : Kpt (s1 = { s with opn := v1, wts := v2 }) := ⟨hs1⟩
  clear hs1 k3 k2 k1 k0 v2c p0c p9c c17
  have e5 : min (0 : Int) (wn : Int) = 0 := by omega
  have e6 : (if (wn : Int) < 0 then (wn : Int) else 0) = 0 := by split <;> omega
  have k5 := Kpt.mk k4.out.drew
  refine wp_region_any (by kernel_rfl) ?_
  refine wpAny_of_C (C := fun W => Bx W V c.v) _ _ _ _ ?_
  refine wpAnyC_take 0 (.pointer (some ⟨S, 0, none⟩)) rfl (by kernel_rfl) (by kernel_rfl) (by kernel_rfl) (fun _ _ _ h => h) (wanted_free rfl _) (fun W hW => by go_simp) ?_
  try simp only [Act.put, List.getElem_toArray, List.getElem_cons_succ, List.getElem_cons_zero, List.setIfInBounds_toArray, List.set_cons_succ, List.set_cons_zero]
  refine wpAnyC_take 1 (.agg c.v) rfl (by kernel_rfl) (by kernel_rfl) (by kernel_rfl) (fun _ _ _ h => h) (wanted_free rfl _) (fun W hW => exec_load_bx 71 (.tmp 9) rfl V _ rfl hW _ Try.underlying71 rfl szCmd) ?_
  try simp only [Act.put, List.getElem_toArray, List.getElem_cons_succ, List.getElem_cons_zero, List.setIfInBounds_toArray, List.set_cons_succ, List.set_cons_zero]
  refine wpAnyC_take 2 (.slice none 0 0) rfl (by kernel_rfl) (by kernel_rfl) (by kernel_rfl) (fun _ _ _ h => h) (wanted_free rfl _) (fun W hW => by go_simp) ?_
  try simp only [Act.put, List.getElem_toArray, List.getElem_cons_succ, List.getElem_cons_zero, List.setIfInBounds_toArray, List.set_cons_succ, List.set_cons_zero]
  refine wpAnyC_take 3 (.slice none 0 0) rfl (by kernel_rfl) (by kernel_rfl) (by kernel_rfl) (fun _ _ _ h => h) (wanted_free rfl _) (fun W hW => by go_simp) ?_
  try simp only [Act.put, List.getElem_toArray, List.getElem_cons_succ, List.getElem_cons_zero, List.setIfInBounds_toArray, List.set_cons_succ, List.set_cons_zero]
  refine wpAnyC_take 4 (.int .i64 0) rfl (by kernel_rfl) (by kernel_rfl) (by kernel_rfl) (fun _ _ _ h => h) (wanted_free rfl _) (fun W hW => by go_simp) ?_
  try simp only [Act.put, List.getElem_toArray, List.getElem_cons_succ, List.getElem_cons_zero, List.setIfInBounds_toArray, List.set_cons_succ, List.set_cons_zero]
  refine wpAnyC_take 5 (.pointer (some ⟨V, 3, none⟩)) rfl (by kernel_rfl) (by kernel_rfl) (by kernel_rfl) (fun _ _ _ h => h) (wanted_free rfl _) (fun W hW => by go_simp) ?_
  try simp only [Act.put, List.getElem_toArray, List.getElem_cons_succ, List.getElem_cons_zero, List.setIfInBounds_toArray, List.set_cons_succ, List.set_cons_zero]
  refine wpAnyC_take 6 (.int .i64 wn) rfl (by kernel_rfl) (by kernel_rfl) (by kernel_rfl) (fun _ _ _ h => h) (wanted_free rfl _) (fun W hW => by have x := hW.cells 3 (by simp [Cm.v]); simp [Cm.v] at x; rw [hwn.out] at x; go_simp) ?_
  try simp only [Act.put, List.getElem_toArray, List.getElem_cons_succ, List.getElem_cons_zero, List.setIfInBounds_toArray, List.set_cons_succ, List.set_cons_zero]
  refine wpAnyC_take 7 (.int .i64 0) rfl (by kernel_rfl) (by kernel_rfl) (by kernel_rfl) (fun _ _ _ h => h) (wanted_free rfl _) (fun W hW => by go_simp; try omega) ?_
  try simp only [Act.put, List.getElem_toArray, List.getElem_cons_succ, List.getElem_cons_zero, List.setIfInBounds_toArray, List.set_cons_succ, List.set_cons_zero]
  refine wpAnyC_take 8 (.slice none 0 0) rfl (by kernel_rfl) (by kernel_rfl) (by kernel_rfl) (fun _ _ _ h => h) (wanted_free rfl _) (fun W hW => by go_simp) ?_
  try simp only [Act.put, List.getElem_toArray, List.getElem_cons_succ, List.getElem_cons_zero, List.setIfInBounds_toArray, List.set_cons_succ, List.set_cons_zero]
  obtain ⟨w5, hw5⟩ : ∃ W, W = w4.drew := ⟨_, rfl⟩
  rw [← hw5] at k5
  refine wpAnyC_world hw5 ?_
  clear hw5 k4
  have hX5 : Kpt (∀ b, s1.X S b → b < w5.heap.size) := ⟨fun b e => k5.out.ss.lt b e⟩
  refine wpAnyC_one 9 (k5.out.b0) rfl (by kernel_rfl) (wanted_free rfl _) (fun KA hKA => ?_)
  go_simp
  refine (pieces_any S s1 H [] [] c (.slice none 0 0) [] g w5 k5.out.ss ⟨none, 0, rfl, fun _ => ⟨rfl, rfl⟩, Nat.le_refl _, .inl rfl⟩ hg1.out hg0 (by simp) (fun a n m e => by injection e with _ _ e; omega) hn1.out).mono ?_
  rintro e w6 ⟨v, zs, k, rfl, hp6, hk1, hk2⟩
  have k6 := Kpt.mk (k5.out.below hp6.bel)
  have q6 := Kpt.mk hp6.g
  simp only [List.length_nil] at hk1 hk2
  replace hk1 := Kpt.mk hk1
  replace hk2 := Kpt.mk hk2
  obtain ⟨va, vc, hv, _⟩ := hp6.own.shape
  have hlz := hp6.len
  rw [hlz] at hv
  subst hv
  replace hlz := Kpt.mk hlz
  have hkE : k ≤ 1 := by
    rcases hk2.out with e | e
    · omega
    · have : (k - 1) * 1 ≤ (k - 1) * g := Nat.mul_le_mul_left _ hg0.1
      omega
  have hk5 : k ≤ 5001 := by omega
  clear hp6
  refine hKA _ _ ?_
  clear hKA KA
  try simp only [Act.put, List.getElem_toArray, List.getElem_cons_succ, List.getElem_cons_zero, List.setIfInBounds_toArray, List.set_cons_succ, List.set_cons_zero]
  refine wpAnyC_one 10 (k6.out.b0) rfl (by kernel_rfl) (wanted_free rfl _) (fun KA hKA => ?_)
  go_simp
  refine hKA _ _ ?_
  clear hKA KA
  try simp only [Act.put, List.getElem_toArray, List.getElem_cons_succ, List.getElem_cons_zero, List.setIfInBounds_toArray, List.set_cons_succ, List.set_cons_zero]
  refine wpAnyC_done (k6.out.b0) (by kernel_rfl) ?_
  have p0 := k6.out.b1.cells 0 (by simp [rsv])
  simp [rsv] at p0
  have hw0 : Kpt (0 ≤ c.wn ∧ c.wn < 4294967296) := ⟨by rw [hwn.out]; omega⟩
  go_upto_region 11 with (first
    | (go_at_call 30; go_must (refine (response_any c 0 0 _ (by omega) hw0.out).mono ?_; rintro e w7 ⟨rfl, hb7⟩; have k7 := Kpt.mk (k6.out.below hb7); have q7 := Kpt.mk (q6.out.below hb7); clear hb7))
    | (refine (?_ : wpList _ _ _ (Oper.mk _ (Op.load 71 _) _ _ _ _ :: _) _ _); go_must (refine wpList_load_bx rfl 71 _ rfl V c.v rfl k6.out.b0 _ Try.underlying71 rfl szCmd ?_; have hm1 := hw0))
    | (refine (?_ : wpList _ _ _ (Oper.mk _ (Op.alloc 37) _ _ _ _ :: _) _ _); go_must (refine wpList_var rfl 37 rfl _ zPdu ?_; intro R w8 hR hB hb; have k8 := Kpt.mk (k7.out.add hb hR hB); have hb8 := Kpt.mk hb; have hRw := Kpt.mk hR; clear hb hR hB))
    | (refine (?_ : wpList _ _ _ (Oper.mk _ (Op.store 37 _ _) _ _ _ _ :: _) _ _); go_must (refine wpList_store_bx rfl 37 _ _ rfl R zP.v (rsp c 0 0).v rfl rfl k8.out.b0 rfl szPdu (Pd.one (p := rsp c 0 0) rfl).2 rfl ?_; intro w9 hB hg9; have k9 := Kpt.mk (k8.out.put0 hB hg9); have hb9 := Kpt.mk (hb8.out.grown hg9 hb8.out.size (fun q e => by injection e with e; subst e; exact hRw.out)); clear hB hg9)))
  have x := k9.out.b0.cells 10 (by simp [Pd.v])
  have f := k9.out.b0.free 10
  simp [Pd.v] at x
  have e7 : IntKind.u32.wrap (k : Int) = k := by rw [IntKind.wrap_u32]; omega
  have k10 : Kpt (Lo w (w9.setCell ⟨R, 10, none⟩ (.int .u32 k)) S s s1 H [] [] [(R, (lst c 0 k).v), (V, c.v), (P, rsv (.slice none 0 0))]) := ⟨k9.out.put0 (by have := bx_setC (.int .u32 (k : Int)) k9.out.b0 (j := 10) (by simp [Pd.v]); simpa [Pd.v, lst] using this) (grown_setCellK _ _ _)⟩
  have hb10 : Kpt (Below w7.heap.size w7 (w9.setCell ⟨R, 10, none⟩ (.int .u32 k))) := ⟨hb9.out.setCell (p := ⟨R, 10, none⟩) hRw.out _⟩
  go_upto_region 12 with fail
  obtain ⟨w10, hw10⟩ : ∃ W, W = w9.setCell ⟨R, 10, none⟩ (.int .u32 k) := ⟨_, rfl⟩
  rw [← hw10] at k10 hb10 ⊢
  clear hw10 x f k9 k8 hb9 hb8 p0
  have q10 := Kpt.mk (q7.out.below hb10.out)
  clear q7 q6 k7 k6
  have p0 := k10.out.b2.cells 0 (by simp [rsv])
  simp [rsv] at p0
  have hone : Kpt ((lst c 0 k).v.all (·.oneCell') = true) := ⟨(Pd.one (p := lst c 0 k) rfl).2⟩
  have hone2 : Kpt (((lst c 0 k).num s1).v.all (·.oneCell') = true) := ⟨(Pd.one (p := (lst c 0 k).num s1) rfl).2⟩
  obtain ⟨s2, hs2⟩ : ∃ s2 : Se, s2 = { s1 with stat := (s1.stat + 1) % 4294967296 } := ⟨_, rfl⟩
  have hC : Kpt (∀ W, Ss W S s1 H [] [] → Calls Try.prog 32 #[.pointer (some ⟨S, 0, none⟩), .agg (lst c 0 k).v] W fun e w' => e = .returned (.agg ((lst c 0 k).num s1).v) ∧ Ss w' S s2 H [] [] ∧ St S W w' s1 s2) := ⟨fun W h => counted_any S s1 H [] [] (lst c 0 k) _ _ _ W h rfl hn1.out s2 hs2⟩
  have ho2 : Kpt (∃ v1 v2, s2 = { s with opn := v1, wts := v2, stat := (s.stat + 1) % 4294967296 }) := ⟨v1, v2, by rw [hs2, ho1.out]⟩
  have hX2 : Kpt (∀ b, s2.X S b → s1.X S b) := ⟨fun b e => by rw [hs2] at e; exact e⟩
  clear hs2
  go_wp2_with (first
    | (go_at_call 32; go_must (refine (hC.out _ k10.out.ss).mono ?_; rintro e w11 ⟨rfl, hs11, ht11⟩; have k11 := Kpt.mk (k10.out.turn hs11 ht11); have q11 := Kpt.mk (q10.out.st ht11 hX5.out); clear hs11 ht11))
    | (refine (?_ : wpList _ _ _ (Oper.mk _ (Op.load 37 _) _ _ _ _ :: _) _ _); go_must (refine wpList_load_bx rfl 37 _ rfl R (lst c 0 k).v rfl k10.out.b0 _ Try.underlying37 rfl szPdu ?_; have hm1 := hone))
    | (refine (?_ : wpList _ _ _ (Oper.mk _ (Op.buildSlice 31 _ _) _ _ _ _ :: _) _ _); go_must (refine wpList_build1 rfl 31 37 14 64 _ Try.underlying31 infoPdu (by decide) (by decide) _ rfl ((lst c 0 k).num s1).v rfl rfl ?_; intro N w12 hN1 hNB hNb _; have k12 := Kpt.mk (k11.out.below hNb); have q12 := Kpt.mk (q11.out.below hNb); have hR12 := Kpt.mk (hNB.one (k := 14) ⟨rfl, hone2.out⟩); clear hN1 hNB hNb))
    | (refine (?_ : wpList _ _ _ (Oper.mk (some 73) _ _ _ _ _ :: _) _ _); go_must (refine wpList_append_row rfl 31 37 14 64 _ Try.underlying31 infoPdu rfl (by decide) (by decide) _ _ rfl (.slice va k vc) (.slice (some ⟨N, 0, none⟩) 1 1) zs [((lst c 0 k).num s1).v] rfl rfl q12.out.own hR12.out (by simp) (by have := hlz.out; simp; omega) ?_; intro tv' w13 ho13 hg13 hor13)))
  try rw [Exit.noGoto_ret]
  have hvn : ∀ q, (Value.slice va k vc).ownBlock = some q → w5.heap.size ≤ q := q12.out.new
  have hsub : ∀ q, s2.X S q → q < w5.heap.size := fun q e => hX5.out q (hX2.out q e)
  have hww : w.heap.size ≤ w5.heap.size := k5.out.st.fr.size
  have hv2 : ∀ q, tv'.ownBlock = some q → (Value.slice va k vc).ownBlock = some q ∨ w12.heap.size ≤ q := fun q e => by
    rcases hor13.out with e' | e'
    · exact .inl (e' ▸ e)
    · rw [e'] at e; injection e with e; exact .inr (by omega)
  have hbl : ∀ q, q < w12.heap.size → (Value.slice va k vc).ownBlock ≠ some q → w13.heap[q]? = w12.heap[q]? := fun q h1 h2 => hg13.out.block q h1 (fun e => h2 e.symm)
  refine bodyPost_ret (v := tv') (by simp [results, Try.results15, asAddr, Act.put]) rfl ?_
  refine ⟨tv', zs, k, s2, ((lst c 0 k).num s1).v, rfl, ?_, ?_, ho2.out, ho13.out, by rw [hnum.out], hlz.out, fun j z e => ?_, by simp, by simpa using hk2.out⟩
  · exact k12.out.ss.frame (Y := fun q => (Value.slice va k vc).ownBlock = some q) (Fr.of_grown hg13.out (fun q e => e)) (fun q h1 e => by have := hvn q e; have := hsub q h1; omega)
  · have hst := k12.out.st
    exact ⟨hst.fr.trans (Fr.of_grown (X := fun q => (Value.slice va k vc).ownBlock = some q) hg13.out (fun q e => e)) (fun q e => .inr (Nat.le_trans hww (hvn q e))), hst.new⟩
  · exact ((q12.out.each j z e).mono hg13.out.size hbl tv' hv2).base hww


end Go.Proofs.Ytdplndlmdhpfaaa
namespace Go.Proofs.Ytdplndlmdhpfaaa
open Go.ChangeShapes Go.WideShapes Go.ChangeAt Go.RowKit Go.Joins Go.Deep
/-- A row of PDUs that came in. -/
structure PRow (w : World) (v : Value) (ps : List Pd) : Prop where
  ex : ∃ a c, v = .slice a ps.length c ∧ ps.length ≤ c ∧ c ≤ maxLen ∧ (0 < ps.length → ∃ b off, a = some ⟨b, off, none⟩ ∧ b < w.heap.size ∧ ∀ j p, ps[j]? = some p → w.rangeAt b (off + j * 14) p.v.toList)
  all : ∀ p ∈ ps, ∃ a n c, p.da = .slice a n c
theorem prow_of {H : Type} {enc : TypeId × Value → H} {w : World} {sp : Nat → Bool} {hd : Bool} {a : Option Addr} {len cap : Nat} {d : DataW H} {p : List MemPlace}
    (h : DataW.Trod enc Try.prog w 0 sp hd 31 (.slice a len cap) d p) : ∃ ps : List Pd, ps.length = len ∧ PRow w (.slice a len cap) ps := by
  obtain ⟨fuel, hf⟩ := h
  rcases open_slice Try.underlying31 hf with ⟨hcs, _⟩ | ⟨x, l, c, m, n, D, Pl, hcs, _, hl, hm, hmm, _, hx⟩
  · simp [Value.cells] at hcs
    obtain ⟨rfl, rfl, rfl⟩ := hcs
    exact ⟨[], rfl, ⟨none, 0, rfl, Nat.le_refl _, Nat.zero_le _, fun h => by simp at h⟩, fun q hq => by simp at hq⟩
  · simp [Value.cells] at hcs
    obtain ⟨rfl, rfl, rfl⟩ := hcs
    have hlm : len ≤ m := by rw [hmm]; split <;> omega
    rw [Try.cellsP] at hx
    by_cases h0 : len = 0
    · subst h0
      exact ⟨[], rfl, ⟨some x, cap, rfl, Nat.zero_le _, hm, fun h => by simp at h⟩, fun q hq => by simp at hq⟩
    obtain ⟨b, off, spot⟩ := x
    have hspot : spot = none := by
      obtain ⟨cs, h1, _⟩ := hx 0 (by omega)
      obtain ⟨_, hlen, hcell⟩ := World.cells?_some h1
      have e0 := hcell 0 (by omega)
      rw [List.getElem?_eq_getElem (by omega)] at e0
      have e1 : w.cell? (((⟨b, off, spot⟩ : Addr).add (0 * 14)).add 0) = some cs[0] := e0
      simpa [Addr.add] using World.cell?_spot e1
    subst hspot
    have key : ∀ j, j < len → ∃ q : Pd, (∃ a n c, q.da = .slice a n c) ∧ w.rangeAt b (off + j * 14) q.v.toList ∧ b < w.heap.size := fun j hj => by
      obtain ⟨cs, h1, h2⟩ := hx j (by omega)
      obtain ⟨_, hlen, hcell⟩ := World.cells?_some h1
      obtain ⟨q, a', n', c', rfl, hq, _⟩ := pdu_of h2
      have hc : ∀ i u, q.v.toList[i]? = some u → w.cell? ⟨b, off + j * 14 + i, none⟩ = some u := fun i u hu => by
        have hi : i < 14 := by have := (List.getElem?_eq_some_iff.1 hu).1; simpa [Pd.v] using this
        have e := hcell i hi
        rw [hu, Go.WideShapes.add_plain, Go.WideShapes.add_plain] at e
        exact e
      exact ⟨q, ⟨a', n', c', hq⟩, hc, World.block_lt_of_cell? w _ (hc 0 _ rfl)⟩
    have hcho := fun (j : Fin len) => key j.val j.isLt
    refine ⟨List.ofFn (fun j : Fin len => (hcho j).choose), by simp, ⟨some ⟨b, off, none⟩, cap, by simp, by simpa using hl, hm, fun _ => ⟨b, off, rfl, (key 0 (by omega)).choose_spec.2.2, fun j q hj => ?_⟩⟩, fun q hq => ?_⟩
    · have hjl : j < len := by have := (List.getElem?_eq_some_iff.1 hj).1; simpa using this
      rw [List.getElem?_ofFn, dif_pos hjl] at hj
      simp only [Option.some.injEq] at hj
      have hs := (hcho ⟨j, hjl⟩).choose_spec
      rw [hj] at hs
      exact hs.2.1
    · obtain ⟨j, rfl⟩ := List.mem_ofFn.1 hq
      exact (hcho j).choose_spec.1
end Go.Proofs.Ytdplndlmdhpfaaa
namespace Go.Proofs.Ytdplndlmdhpfaaa
open Go.RowKit
set_option linter.unusedVariables false
set_option linter.unusedSimpArgs false

/-- A session that has answered k times. -/
structure NmSt (base : Nat) (W : World) (S : Nat) (s : Se) (k : Nat) : Prop where
  ss : Ss W S s [] [] []
  ov : s.over = false
  ds : s.dis = false
  sg : s.seg = 8192
  st : s.stat = (k : Int) + 1
  nx : 0 ≤ s.next ∧ s.next < 4294967296
  bs : ∀ b, s.X S b → base ≤ b
theorem NmSt.below {base : Nat} {W W' : World} {S : Nat} {s : Se} {k : Nat} (h : NmSt base W S s k) (hb : Below W.heap.size W W') : NmSt base W' S s k := ⟨h.ss.below hb, h.ov, h.ds, h.sg, h.st, h.nx, h.bs⟩
/-- The answer that went out. -/
structure NmOut (W : World) (k : Nat) (s' : Se) (gv : Value) : Prop where
  ex : ∃ b c q, gv = .slice (some ⟨b, 0, none⟩) 1 c ∧ 1 ≤ c ∧ c ≤ 9223372036854775807 ∧ Bx W b (Pd.v q) ∧ q.w1 = (k : Int) + 1 ∧ q.w2 = s'.next ∧ q.w3 = (s'.next + 15) % 4294967296
theorem NmOne.next {base S k : Nat} {s : Se} {w w' : World} {gv tv : Value} (h : NmSt base w S s k) (hbw : base ≤ w.heap.size) (hk : k ≤ 1000) (o : NmOne S s s.one w w' gv tv) : NmSt base w' S s.one (k + 1) ∧ NmOut w' k s.one gv ∧ Below base w w' := by
  obtain ⟨b, q, h1, h2, h3, h4, h5⟩ := o.gv
  refine ⟨⟨o.ss, h.ov, h.ds, h.sg, ?_, h.nx, fun x hx => ?_⟩, ⟨b, 1, q, h1, Nat.le_refl _, by decide, h2, by rw [h3, h.st], h4, h5⟩, o.st.fr.below hbw (fun x hx => h.bs x hx)⟩
  · show (s.stat + 1) % 4294967296 = ((k + 1 : Nat) : Int) + 1
    rw [h.st]
    omega
  · rcases o.st.new x hx with e | e
    · exact h.bs x e
    · omega

/-- A session that has one command open. -/
structure NmMid (base : Nat) (W : World) (S : Nat) (s : Se) (k : Nat) (t : Int) : Prop where
  ss : Ss W S s [] [Cm.v ⟨t, 0, true, 0⟩] []
  ov : s.over = false
  ds : s.dis = false
  sg : s.seg = 8192
  st : s.stat = (k : Int) + 1
  nx : 0 ≤ s.next ∧ s.next < 4294967296
  bs : ∀ b, s.X S b → base ≤ b
theorem in_n3 (base S k : Nat) (s : Se) (t : Int) (w : World) (h : NmSt base w S s k) (hbw : base ≤ w.heap.size) (ht : 0 ≤ t ∧ t < 4294967295) :
    Calls Try.prog 11 #[.pointer (some ⟨S, 0, none⟩), .agg (rdP t s.next 0).v] w fun e w' => ∃ ga gc b c s', e = .returned (.tuple #[.slice ga 0 gc, .slice (some ⟨b, 0, none⟩) 1 c]) ∧ 1 ≤ c ∧ c ≤ 9223372036854775807 ∧ w'.cell? ⟨b, 0, none⟩ = some (.int .u32 t) ∧ NmMid base w' S s' k t ∧ s'.next = (s.next + 1) % 4294967296 ∧ Below base w w' ∧ OwnR 37 14 w' (.slice ga 0 gc) [] ∧ (∀ x, (Value.slice ga 0 gc).ownBlock = some x → ¬ s'.X S x ∧ base ≤ x) := by
  refine (in_rd S s [] [] (rdP t s.next 0) w h.ss (by simp) rfl rfl h.ov rfl h.ds rfl rfl (by intro x hx; simp [rdP, zP] at hx; have := h.nx; omega)).mono ?_
  rintro e w' ⟨gv, tv, gs, ts, s3, rfl, ⟨rfl, v1, v2, cv, ov, rfl, hS, rfl, hD1, hD2⟩, hst, hG, hT⟩
  obtain ⟨ga, gc, hgv⟩ := hG.own.none
  subst hgv
  obtain ⟨b, c, rfl, _, hc1, hc2⟩ := ownR_oneS hT.own
  have hB := ownR_bx hT.own
  have c0 := hB.cells 0 (by simp [Tk.v])
  simp [Tk.v, Pd.tk, rdP, zP] at c0
  refine ⟨ga, gc, b, c, s.rd v1 v2, rfl, hc1, hc2, c0, ⟨by simpa [Pd.cm, rdP, zP] using hS, h.ov, h.ds, h.sg, h.st, (show 0 ≤ (s.next + 1) % 4294967296 ∧ (s.next + 1) % 4294967296 < 4294967296 from ⟨Int.emod_nonneg _ (by decide), Int.emod_lt_of_pos _ (by decide)⟩), fun x hx => ?_⟩, rfl, hst.fr.below hbw (fun x hx => h.bs x hx), hG.own, fun x hx => ⟨(hG.off x hx).1, Nat.le_trans hbw (hG.off x hx).2⟩⟩
  rcases hst.new x hx with e | e
  · exact h.bs x e
  · omega
theorem end_n3 (base S k : Nat) (s : Se) (t : Int) (w : World) (h : NmMid base w S s k t) (hbw : base ≤ w.heap.size) (hk : k ≤ 1000) :
    Calls Try.prog 15 #[.pointer (some ⟨S, 0, none⟩), .int .u32 t, .agg (rsv (.slice none 0 0)), .bool false] w fun e w' => ∃ v s' q, e = .returned v ∧ NmSt base w' S s' (k + 1) ∧ s'.next = s.next ∧ Below base w w' ∧ OwnR 37 14 w' v [Pd.v q] ∧ q.w1 = (k : Int) + 1 ∧ q.w2 = s.next ∧ q.w3 = (s.next + 15) % 4294967296 ∧ St S w w' s s' := by
  refine (end_nm S s [] ⟨t, 0, true, 0⟩ 8192 0 false w h.ss h.ov rfl rfl (by omega) h.sg (by omega) h.nx).mono ?_
  rintro e w' ⟨v, zs, k', s', p, rfl, h1, h2, ⟨v1, v2, hs'⟩, h4, rfl, h6, h7, h8, h9⟩
  have hk0 : k' = 0 := by omega
  subst hk0
  have hz : zs = [] := List.eq_nil_of_length_eq_zero h6
  subst hz
  refine ⟨v, s', _, rfl, ⟨h1, by rw [hs']; exact h.ov, by rw [hs']; exact h.ds, by rw [hs']; exact h.sg, ?_, by rw [hs']; exact h.nx, fun x hx => ?_⟩, by rw [hs'], h2.fr.below hbw (fun x hx => h.bs x hx), h4, ?_, rfl, rfl, h2⟩
  · rw [hs']
    show (s.stat + 1) % 4294967296 = ((k + 1 : Nat) : Int) + 1
    rw [h.st]
    omega
  · rcases h2.new x hx with e | e
    · exact h.bs x e
    · omega
  · show s.stat = _
    exact h.st
end Go.Proofs.Ytdplndlmdhpfaaa
