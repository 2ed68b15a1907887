/-
  sess: End of a command that reads, whatever the data.
-/
import Derived.Test.YtdplndlmdhpfaaaEEnd
namespace Go.Proofs.Ytdplndlmdhpfaaa
open Go.RowKit
set_option linter.unusedVariables false
set_option linter.unusedSimpArgs false

set_option maxRecDepth 100000 in
set_option maxHeartbeats 8000000 in
theorem end_nil (S : Nat) (s : Se) (H : List (Array Value)) (c : Cm) (g wn : Nat) (d : Bool) (w : World) (h : Ss w S s H [c.v] []) (hov : s.over = false) (hrd : c.rd = true) (hwn : c.wn = wn) (hwl : wn ≤ 5000)
    (hg : s.seg = g) (hg0 : 0 < g ∧ g ≤ 100000) (hn : 0 ≤ s.next ∧ s.next < 4294967296) :
    Calls Try.prog 15 #[.pointer (some ⟨S, 0, none⟩), .int .u32 c.tg, .agg (rsv (.slice none 0 0)), .bool d] w fun e w' => ∃ v zs k s' p, e = .returned v ∧ Ss w' S s' H [] [] ∧ St S w w' s s' ∧ s'.over = false ∧ OwnR 37 14 w' v (zs ++ [p]) ∧ p = ((lst c 0 k).num s).v ∧ zs.length = k ∧ (∀ j z, zs[j]? = some z → PcOne w.heap.size w' v g (([] : List Int)) c.tg (if j + 1 = k then 128 else 0) j z) ∧ 0 ≤ k * g ∧ (k = 0 ∨ (k - 1) * g < 0) := by
  have hS : Kpt (∀ W, Ss W S s H [c.v] [] → Calls Try.prog 28 #[.pointer (some ⟨S, 0, none⟩), .int .u32 c.tg] W fun e w' => ∃ v1 v2, e = .returned (.tuple #[.agg c.v, .bool true]) ∧ Ss w' S { s with opn := v1, wts := v2 } H [] [] ∧ St S W w' s { s with opn := v1, wts := v2 }) := ⟨fun W h => settle_one S s H c [] W h (.inl rfl)⟩
  have k0 := Kpt.mk (Lo.start h)
  replace hov := Kpt.mk hov
  replace hrd := Kpt.mk hrd
  replace hwn := Kpt.mk hwn
  replace hg := Kpt.mk hg
  clear h
  go_enter Try.func15, Try.ntmps15
  go_upto_region 9 with (first
    | (go_at_call 28; go_must (refine (hS.out _ k1.out.ss).mono ?_; rintro e w2 ⟨v1, v2, rfl, hs2, ht2⟩; have k2 := Kpt.mk (k1.out.turn hs2 ht2); clear hs2 ht2))
    | (refine (?_ : wpList _ _ _ (Oper.mk _ (Op.box 53 _) _ _ _ _ :: _) _ _); go_must (refine wpList_box rfl 53 _ rfl (rsv (.slice none 0 0)) rfl ?_; intro P w1 hP hB hb _; have k1 := Kpt.mk (k0.out.add hb hP hB); have c17 := (k1.out.ss.cell 17 (by omega)).1; simp only [Se.v, List.getElem?_toArray, List.getElem?_cons_succ, List.getElem?_cons_zero] at c17; rw [hov.out] at c17; clear hP hB hb))
    | (refine (?_ : wpList _ _ _ (Oper.mk _ (Op.alloc 71) _ _ _ _ :: _) _ _); go_must (refine wpList_var rfl 71 rfl _ zCmd ?_; intro V w3 hV hB hb; have k3 := Kpt.mk (k2.out.add hb hV hB); clear hb hV hB))
    | (refine (?_ : wpList _ _ _ (Oper.mk _ (Op.store 71 _ _) _ _ _ _ :: _) _ _); go_must (refine wpList_store_bx rfl 71 _ _ rfl V (Cm.v ⟨0, 0, false, 0⟩) c.v rfl rfl k3.out.b0 rfl szCmd c.one.2 rfl ?_; intro w4 hB hg4; have k4 := Kpt.mk (k3.out.put0 hB hg4); have v2c := k4.out.b0.cells 2 (by simp [Cm.v]); have p0c := k4.out.b1.cells 0 (by simp [rsv]); have p9c := k4.out.b1.cells 9 (by simp [rsv]); simp [Cm.v, rsv] at v2c p0c p9c; rw [hrd.out] at v2c; clear hB hg4)))
  obtain ⟨s1, hs1⟩ : ∃ s1 : Se, s1 = { s with opn := v1, wts := v2 } := ⟨_, rfl⟩
  rw [← hs1] at k4
  have hnum : Kpt (∀ p : Pd, p.num s1 = p.num s) := ⟨fun p => by rw [hs1]; rfl⟩
  have hg1 : Kpt (s1.seg = g) := ⟨by rw [hs1]; exact hg.out⟩
  have hn1 : Kpt (0 ≤ s1.next ∧ s1.next < 4294967296) := ⟨by rw [hs1]; exact hn⟩
  have ho1 : Kpt (s1.over = false) := ⟨by rw [hs1]; exact hov.out⟩
  clear hs1 k3 k2 k1 k0 v2c p0c p9c c17
  have e5 : min (0 : Int) (wn : Int) = 0 := by omega
  have e6 : (if (wn : Int) < 0 then (wn : Int) else 0) = 0 := by split <;> omega
  have k5 := Kpt.mk k4.out.drew
  refine wp_region_any (by kernel_rfl) ?_
  refine wpAny_of_C (C := fun W => Bx W V c.v) _ _ _ _ ?_
  refine wpAnyC_take 0 (.pointer (some ⟨S, 0, none⟩)) rfl (by kernel_rfl) (by kernel_rfl) (by kernel_rfl) (fun _ _ _ h => h) (wanted_free rfl _) (fun W hW => by go_simp) ?_
  try simp only [Act.put, List.getElem_toArray, List.getElem_cons_succ, List.getElem_cons_zero, List.setIfInBounds_toArray, List.set_cons_succ, List.set_cons_zero]
  refine wpAnyC_take 1 (.agg c.v) rfl (by kernel_rfl) (by kernel_rfl) (by kernel_rfl) (fun _ _ _ h => h) (wanted_free rfl _) (fun W hW => exec_load_bx 71 (.tmp 9) rfl V _ rfl hW _ Try.underlying71 rfl szCmd) ?_
  try simp only [Act.put, List.getElem_toArray, List.getElem_cons_succ, List.getElem_cons_zero, List.setIfInBounds_toArray, List.set_cons_succ, List.set_cons_zero]
  refine wpAnyC_take 2 (.slice none 0 0) rfl (by kernel_rfl) (by kernel_rfl) (by kernel_rfl) (fun _ _ _ h => h) (wanted_free rfl _) (fun W hW => by go_simp) ?_
  try simp only [Act.put, List.getElem_toArray, List.getElem_cons_succ, List.getElem_cons_zero, List.setIfInBounds_toArray, List.set_cons_succ, List.set_cons_zero]
  refine wpAnyC_take 3 (.slice none 0 0) rfl (by kernel_rfl) (by kernel_rfl) (by kernel_rfl) (fun _ _ _ h => h) (wanted_free rfl _) (fun W hW => by go_simp) ?_
  try simp only [Act.put, List.getElem_toArray, List.getElem_cons_succ, List.getElem_cons_zero, List.setIfInBounds_toArray, List.set_cons_succ, List.set_cons_zero]
  refine wpAnyC_take 4 (.int .i64 0) rfl (by kernel_rfl) (by kernel_rfl) (by kernel_rfl) (fun _ _ _ h => h) (wanted_free rfl _) (fun W hW => by go_simp) ?_
  try simp only [Act.put, List.getElem_toArray, List.getElem_cons_succ, List.getElem_cons_zero, List.setIfInBounds_toArray, List.set_cons_succ, List.set_cons_zero]
  refine wpAnyC_take 5 (.pointer (some ⟨V, 3, none⟩)) rfl (by kernel_rfl) (by kernel_rfl) (by kernel_rfl) (fun _ _ _ h => h) (wanted_free rfl _) (fun W hW => by go_simp) ?_
  try simp only [Act.put, List.getElem_toArray, List.getElem_cons_succ, List.getElem_cons_zero, List.setIfInBounds_toArray, List.set_cons_succ, List.set_cons_zero]
  refine wpAnyC_take 6 (.int .i64 wn) rfl (by kernel_rfl) (by kernel_rfl) (by kernel_rfl) (fun _ _ _ h => h) (wanted_free rfl _) (fun W hW => by have x := hW.cells 3 (by simp [Cm.v]); simp [Cm.v] at x; rw [hwn.out] at x; go_simp) ?_
  try simp only [Act.put, List.getElem_toArray, List.getElem_cons_succ, List.getElem_cons_zero, List.setIfInBounds_toArray, List.set_cons_succ, List.set_cons_zero]
  refine wpAnyC_take 7 (.int .i64 0) rfl (by kernel_rfl) (by kernel_rfl) (by kernel_rfl) (fun _ _ _ h => h) (wanted_free rfl _) (fun W hW => by go_simp; try omega) ?_
  try simp only [Act.put, List.getElem_toArray, List.getElem_cons_succ, List.getElem_cons_zero, List.setIfInBounds_toArray, List.set_cons_succ, List.set_cons_zero]
  refine wpAnyC_take 8 (.slice none 0 0) rfl (by kernel_rfl) (by kernel_rfl) (by kernel_rfl) (fun _ _ _ h => h) (wanted_free rfl _) (fun W hW => by go_simp) ?_
  try simp only [Act.put, List.getElem_toArray, List.getElem_cons_succ, List.getElem_cons_zero, List.setIfInBounds_toArray, List.set_cons_succ, List.set_cons_zero]
  obtain ⟨w5, hw5⟩ : ∃ W, W = w4.drew := ⟨_, rfl⟩
  rw [← hw5] at k5
  refine wpAnyC_world hw5 ?_
  clear hw5 k4
  have hX5 : Kpt (∀ b, s1.X S b → b < w5.heap.size) := ⟨fun b e => k5.out.ss.lt b e⟩
  refine wpAnyC_one 9 (k5.out.b0) rfl (by kernel_rfl) (wanted_free rfl _) (fun KA hKA => ?_)
  go_simp
  refine (pieces_any S s1 H [] [] c (.slice none 0 0) [] g w5 k5.out.ss ⟨none, 0, rfl, fun _ => ⟨rfl, rfl⟩, Nat.le_refl _, .inl rfl⟩ hg1.out hg0 (by simp) (fun a n m e => by injection e with _ _ e; omega) hn1.out).mono ?_
  rintro e w6 ⟨v, zs, k, rfl, hp6, hk1, hk2⟩
  have k6 := Kpt.mk (k5.out.below hp6.bel)
  have q6 := Kpt.mk hp6.g
  simp only [List.length_nil] at hk1 hk2
  replace hk1 := Kpt.mk hk1
  replace hk2 := Kpt.mk hk2
  obtain ⟨va, vc, hv, _⟩ := hp6.own.shape
  have hlz := hp6.len
  rw [hlz] at hv
  subst hv
  replace hlz := Kpt.mk hlz
  have hkE : k ≤ 1 := by
    rcases hk2.out with e | e
    · omega
    · have : (k - 1) * 1 ≤ (k - 1) * g := Nat.mul_le_mul_left _ hg0.1
      omega
  have hk5 : k ≤ 5001 := by omega
  clear hp6
  refine hKA _ _ ?_
  clear hKA KA
  try simp only [Act.put, List.getElem_toArray, List.getElem_cons_succ, List.getElem_cons_zero, List.setIfInBounds_toArray, List.set_cons_succ, List.set_cons_zero]
  refine wpAnyC_one 10 (k6.out.b0) rfl (by kernel_rfl) (wanted_free rfl _) (fun KA hKA => ?_)
  go_simp
  refine hKA _ _ ?_
  clear hKA KA
  try simp only [Act.put, List.getElem_toArray, List.getElem_cons_succ, List.getElem_cons_zero, List.setIfInBounds_toArray, List.set_cons_succ, List.set_cons_zero]
  refine wpAnyC_done (k6.out.b0) (by kernel_rfl) ?_
  have p0 := k6.out.b1.cells 0 (by simp [rsv])
  simp [rsv] at p0
  have hw0 : Kpt (0 ≤ c.wn ∧ c.wn < 4294967296) := ⟨by rw [hwn.out]; omega⟩
  go_upto_region 11 with (first
    | (go_at_call 30; go_must (refine (response_any c 0 0 _ (by omega) hw0.out).mono ?_; rintro e w7 ⟨rfl, hb7⟩; have k7 := Kpt.mk (k6.out.below hb7); have q7 := Kpt.mk (q6.out.below hb7); clear hb7))
    | (refine (?_ : wpList _ _ _ (Oper.mk _ (Op.load 71 _) _ _ _ _ :: _) _ _); go_must (refine wpList_load_bx rfl 71 _ rfl V c.v rfl k6.out.b0 _ Try.underlying71 rfl szCmd ?_; have hm1 := hw0))
    | (refine (?_ : wpList _ _ _ (Oper.mk _ (Op.alloc 37) _ _ _ _ :: _) _ _); go_must (refine wpList_var rfl 37 rfl _ zPdu ?_; intro R w8 hR hB hb; have k8 := Kpt.mk (k7.out.add hb hR hB); have hb8 := Kpt.mk hb; have hRw := Kpt.mk hR; clear hb hR hB))
    | (refine (?_ : wpList _ _ _ (Oper.mk _ (Op.store 37 _ _) _ _ _ _ :: _) _ _); go_must (refine wpList_store_bx rfl 37 _ _ rfl R zP.v (rsp c 0 0).v rfl rfl k8.out.b0 rfl szPdu (Pd.one (p := rsp c 0 0) rfl).2 rfl ?_; intro w9 hB hg9; have k9 := Kpt.mk (k8.out.put0 hB hg9); have hb9 := Kpt.mk (hb8.out.grown hg9 hb8.out.size (fun q e => by injection e with e; subst e; exact hRw.out)); clear hB hg9)))
  have x := k9.out.b0.cells 10 (by simp [Pd.v])
  have f := k9.out.b0.free 10
  simp [Pd.v] at x
  have e7 : IntKind.u32.wrap (k : Int) = k := by rw [IntKind.wrap_u32]; omega
  have k10 : Kpt (Lo w (w9.setCell ⟨R, 10, none⟩ (.int .u32 k)) S s s1 H [] [] [(R, (lst c 0 k).v), (V, c.v), (P, rsv (.slice none 0 0))]) := ⟨k9.out.put0 (by have := bx_setC (.int .u32 (k : Int)) k9.out.b0 (j := 10) (by simp [Pd.v]); simpa [Pd.v, lst] using this) (grown_setCellK _ _ _)⟩
  have hb10 : Kpt (Below w7.heap.size w7 (w9.setCell ⟨R, 10, none⟩ (.int .u32 k))) := ⟨hb9.out.setCell (p := ⟨R, 10, none⟩) hRw.out _⟩
  go_upto_region 12 with fail
  obtain ⟨w10, hw10⟩ : ∃ W, W = w9.setCell ⟨R, 10, none⟩ (.int .u32 k) := ⟨_, rfl⟩
  rw [← hw10] at k10 hb10 ⊢
  clear hw10 x f k9 k8 hb9 hb8 p0
  have q10 := Kpt.mk (q7.out.below hb10.out)
  clear q7 q6 k7 k6
  have p0 := k10.out.b2.cells 0 (by simp [rsv])
  simp [rsv] at p0
  have hone : Kpt ((lst c 0 k).v.all (·.oneCell') = true) := ⟨(Pd.one (p := lst c 0 k) rfl).2⟩
  have hone2 : Kpt (((lst c 0 k).num s1).v.all (·.oneCell') = true) := ⟨(Pd.one (p := (lst c 0 k).num s1) rfl).2⟩
  obtain ⟨s2, hs2⟩ : ∃ s2 : Se, s2 = { s1 with stat := (s1.stat + 1) % 4294967296 } := ⟨_, rfl⟩
  have hC : Kpt (∀ W, Ss W S s1 H [] [] → Calls Try.prog 32 #[.pointer (some ⟨S, 0, none⟩), .agg (lst c 0 k).v] W fun e w' => e = .returned (.agg ((lst c 0 k).num s1).v) ∧ Ss w' S s2 H [] [] ∧ St S W w' s1 s2) := ⟨fun W h => counted_any S s1 H [] [] (lst c 0 k) _ _ _ W h rfl hn1.out s2 hs2⟩
  have ho2 : Kpt (s2.over = false) := ⟨by rw [hs2]; exact ho1.out⟩
  have hX2 : Kpt (∀ b, s2.X S b → s1.X S b) := ⟨fun b e => by rw [hs2] at e; exact e⟩
  clear hs2
  go_wp2_with (first
    | (go_at_call 32; go_must (refine (hC.out _ k10.out.ss).mono ?_; rintro e w11 ⟨rfl, hs11, ht11⟩; have k11 := Kpt.mk (k10.out.turn hs11 ht11); have q11 := Kpt.mk (q10.out.st ht11 hX5.out); clear hs11 ht11))
    | (refine (?_ : wpList _ _ _ (Oper.mk _ (Op.load 37 _) _ _ _ _ :: _) _ _); go_must (refine wpList_load_bx rfl 37 _ rfl R (lst c 0 k).v rfl k10.out.b0 _ Try.underlying37 rfl szPdu ?_; have hm1 := hone))
    | (refine (?_ : wpList _ _ _ (Oper.mk _ (Op.buildSlice 31 _ _) _ _ _ _ :: _) _ _); go_must (refine wpList_build1 rfl 31 37 14 64 _ Try.underlying31 infoPdu (by decide) (by decide) _ rfl ((lst c 0 k).num s1).v rfl rfl ?_; intro N w12 hN1 hNB hNb _; have k12 := Kpt.mk (k11.out.below hNb); have q12 := Kpt.mk (q11.out.below hNb); have hR12 := Kpt.mk (hNB.one (k := 14) ⟨rfl, hone2.out⟩); clear hN1 hNB hNb))
    | (refine (?_ : wpList _ _ _ (Oper.mk (some 73) _ _ _ _ _ :: _) _ _); go_must (refine wpList_append_row rfl 31 37 14 64 _ Try.underlying31 infoPdu rfl (by decide) (by decide) _ _ rfl (.slice va k vc) (.slice (some ⟨N, 0, none⟩) 1 1) zs [((lst c 0 k).num s1).v] rfl rfl q12.out.own hR12.out (by simp) (by have := hlz.out; simp; omega) ?_; intro tv' w13 ho13 hg13 hor13)))
  try rw [Exit.noGoto_ret]
  have hvn : ∀ q, (Value.slice va k vc).ownBlock = some q → w5.heap.size ≤ q := q12.out.new
  have hsub : ∀ q, s2.X S q → q < w5.heap.size := fun q e => hX5.out q (hX2.out q e)
  have hww : w.heap.size ≤ w5.heap.size := k5.out.st.fr.size
  have hv2 : ∀ q, tv'.ownBlock = some q → (Value.slice va k vc).ownBlock = some q ∨ w12.heap.size ≤ q := fun q e => by
    rcases hor13.out with e' | e'
    · exact .inl (e' ▸ e)
    · rw [e'] at e; injection e with e; exact .inr (by omega)
  have hbl : ∀ q, q < w12.heap.size → (Value.slice va k vc).ownBlock ≠ some q → w13.heap[q]? = w12.heap[q]? := fun q h1 h2 => hg13.out.block q h1 (fun e => h2 e.symm)
  refine bodyPost_ret (v := tv') (by simp [results, Try.results15, asAddr, Act.put]) rfl ?_
  refine ⟨tv', zs, k, s2, ((lst c 0 k).num s1).v, rfl, ?_, ?_, ho2.out, ho13.out, by rw [hnum.out], hlz.out, fun j z e => ?_, by simp, by simpa using hk2.out⟩
  · exact k12.out.ss.frame (Y := fun q => (Value.slice va k vc).ownBlock = some q) (Fr.of_grown hg13.out (fun q e => e)) (fun q h1 e => by have := hvn q e; have := hsub q h1; omega)
  · have hst := k12.out.st
    exact ⟨hst.fr.trans (Fr.of_grown (X := fun q => (Value.slice va k vc).ownBlock = some q) hg13.out (fun q e => e)) (fun q e => .inr (Nat.le_trans hww (hvn q e))), hst.new⟩
  · exact ((q12.out.each j z e).mono hg13.out.size hbl tv' hv2).base hww

/-- End of a command that reads. -/
theorem end_any (S : Nat) (s : Se) (H : List (Array Value)) (c : Cm) (dv : Value) (ds : List Int) (g wn : Nat) (d : Bool) (w : World) (h : Ss w S s H [c.v] []) (hov : s.over = false) (hrd : c.rd = true) (hwn : c.wn = wn) (hwl : wn ≤ 5000)
    (hd : Dt (s.X S) w dv ds) (hm : ∀ a n m, dv = .slice a n m → m ≤ 9223372036854775807) (hg : s.seg = g) (hg0 : 0 < g ∧ g ≤ 100000) (hl : ds.length ≤ 5000) (hn : 0 ≤ s.next ∧ s.next < 4294967296) :
    Calls Try.prog 15 #[.pointer (some ⟨S, 0, none⟩), .int .u32 c.tg, .agg (rsv dv), .bool d] w fun e w' => ∃ v zs k s' p, e = .returned v ∧ Ss w' S s' H [] [] ∧ St S w w' s s' ∧ s'.over = false ∧ OwnR 37 14 w' v (zs ++ [p]) ∧ p = ((lst c ds.length k).num s).v ∧ zs.length = k ∧ (∀ j z, zs[j]? = some z → PcOne w.heap.size w' v g (ds.take (min ds.length wn)) c.tg (if j + 1 = k then 128 else 0) j z) ∧ min ds.length wn ≤ k * g ∧ (k = 0 ∨ (k - 1) * g < min ds.length wn) := by
  obtain ⟨a, m, rfl, hnil, hml, hat⟩ := id hd.rd
  cases a with
  | some q =>
    exact end_read S s H c q m ds g wn d w h hov hrd hwn hwl hd (hm _ _ _ rfl) hg hg0 hl hn
  | none =>
    obtain ⟨h0, rfl⟩ := hnil rfl
    have h1 : ds = [] := List.eq_nil_of_length_eq_zero h0
    subst h1
    refine (end_nil S s H c g wn d w h hov hrd hwn hwl hg hg0 hn).mono ?_
    rintro e w' ⟨v, zs, k, s', p, h1, h2, h3, h4, h5, h6, h7, h8, h9, h10⟩
    exact ⟨v, zs, k, s', p, h1, h2, h3, h4, h5, by simpa using h6, h7, by simpa using h8, by simp, by simpa using h10⟩
end Go.Proofs.Ytdplndlmdhpfaaa
