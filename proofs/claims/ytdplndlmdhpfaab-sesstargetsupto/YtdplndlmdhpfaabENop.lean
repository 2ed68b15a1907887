/-
  sess: nop.
-/
import Derived.Test.YtdplndlmdhpfaabELo
namespace Go.Proofs.Ytdplndlmdhpfaab
open Go.RowKit
set_option linter.unusedVariables false
set_option linter.unusedSimpArgs false

/-- What a ping is answered. -/
def pong (p : Pd) (v : Value) : Pd := { zP with op := 32, fl := 128, lu := p.lu, tg := p.tg, w0 := 4294967295, da := v }
theorem Row.dt {w w' : World} {S : Nat} {s : Se} {H O T : List (Array Value)} {v : Value} {ds : List Int} (hs : Ss w S s H O T) (hr : Row w' v ds) (hn : ∀ g, v.ownBlock = some g → w.heap.size ≤ g) : Dt (s.X S) w' v ds :=
  ⟨hr.rd, fun _ g hg => ⟨(World.ownsRow.lt hr g hg).2, fun e => by have := hs.lt g e; have := hn g hg; omega⟩⟩
theorem Dt.put {X : Nat → Prop} {w w' : World} {v : Value} {ds : List Int} {b : Nat} (h : Dt X w v ds) (hg : w.grownBy w' (some b)) (hne : 0 < ds.length → ∀ g, v.ownBlock = some g → g ≠ b) : Dt X w' v ds := by
  by_cases h0 : 0 < ds.length
  · have ho := h.off h0
    exact ⟨h.rd.of_block (fun g hgg => hg.block g (ho g hgg).1 (fun e => hne h0 g hgg (by injection e))), fun _ g hgg => ⟨Nat.lt_of_lt_of_le (ho g hgg).1 hg.size, (ho g hgg).2⟩⟩
  · exact ⟨h.rd.void h0, fun h1 => absurd h1 h0⟩
theorem below_none {w w' : World} (h : w.grownBy w' none) : Below w.heap.size w w' := (Below.refl _ _).grown h (Nat.le_refl _) (fun k h => by cases h)

set_option maxRecDepth 100000 in
theorem nop_none (S : Nat) (s : Se) (H O T : List (Array Value)) (p : Pd) (w : World) (h : Ss w S s H O T) (ht : p.tg = 4294967295) :
    Calls Try.prog 40 #[.pointer (some ⟨S, 0, none⟩), .agg p.v] w fun e w' => e = .returned (.slice none 0 0) ∧ Ss w' S s H O T ∧ St S w w' s s := by
  have k0 := Kpt.mk (Lo.start h)
  clear h
  go_enter Try.func40, Try.ntmps40
  go_wp2_with (refine (?_ : wpList _ _ _ (Oper.mk _ (Op.box 42 _) _ _ _ _ :: _) _ _); go_must (refine wpList_box rfl 42 _ rfl p.v rfl ?_; intro P w1 hP hB hb _; have k1 := Kpt.mk (k0.out.add hb hP hB); have c5 := hB.cells 5 (by simp [Pd.v]); simp [Pd.v] at c5; rw [ht] at c5; clear hb hP hB))
  go_ret
  exact ⟨rfl, k1.out.ss, k1.out.st⟩

set_option maxRecDepth 100000 in
set_option maxHeartbeats 4000000 in
theorem nop_any (S : Nat) (s : Se) (H O T : List (Array Value)) (p : Pd) (a : Option Addr) (n c : Nat) (ds : List Int) (w : World) (h : Ss w S s H O T) (hda : p.da = .slice a n c) (hD : Dt (s.X S) w p.da ds) (hdl : ds.length ≤ 100000) (ht : ¬ p.tg = 4294967295) (hn : 0 ≤ s.next ∧ s.next < 4294967296) (s' : Se) (hs' : s' = { s with stat := (s.stat + 1) % 4294967296 }) :
    Calls Try.prog 40 #[.pointer (some ⟨S, 0, none⟩), .agg p.v] w fun e w' => ∃ v d, e = .returned v ∧ Ss w' S s' H O T ∧ St S w w' s s' ∧ Ou w w' S s' v 42 ((pong p d).num s).v ∧ Dt (s'.X S) w' d ds := by
  have hC : Kpt (∀ W L, Lo w W S s s H O T L → Calls Try.prog 26 #[p.da] W fun e w' => ∃ v', e = .returned v' ∧ Row w' v' ds ∧ W.grownBy w' none ∧ ∀ g, v'.ownBlock = some g → W.heap.size ≤ g) := ⟨fun W L k => clone_any W p.da ds (hD.st k.st).rd (by omega)⟩
  have hA : Kpt (∀ (W : World) (q : Pd) (a : Option Addr) (n c : Nat), Ss W S s H O T → q.da = .slice a n c → Calls Try.prog 38 #[.pointer (some ⟨S, 0, none⟩), .agg q.v] W fun e w' => ∃ v, e = .returned v ∧ Ss w' S s' H O T ∧ St S W w' s s' ∧ Ou W w' S s' v 42 (q.num s).v) := ⟨fun W q a n c h hq => answer_any S s H O T q a n c W h hq hn s' hs'⟩
  have k0 := Kpt.mk (Lo.start h)
  clear h hD hda hs'
  go_enter Try.func40, Try.ntmps40
  go_wp2_with (refine (?_ : wpList _ _ _ (Oper.mk _ (Op.box 42 _) _ _ _ _ :: _) _ _); go_must (refine wpList_box rfl 42 _ rfl p.v rfl ?_; intro P w1 hP hB hb _; have k1 := Kpt.mk (k0.out.add hb hP hB); have c5 := hB.cells 5 (by simp [Pd.v]); simp [Pd.v] at c5; clear hb hP hB))
  clear c5
  refine wp_region_any (by kernel_rfl) ?_
  refine wpAny_of_C (C := fun W => Bx W P p.v) _ _ _ _ ?_
  refine wpAnyC_take 0 (.pointer (some ⟨P, 4, none⟩)) rfl (by kernel_rfl) (by kernel_rfl) (by kernel_rfl) (fun _ _ _ h => h) (wanted_free rfl _) (fun W hW => by go_simp) ?_
  try simp only [Act.put, List.getElem_toArray, List.getElem_cons_succ, List.getElem_cons_zero, List.setIfInBounds_toArray, List.set_cons_succ, List.set_cons_zero]
  refine wpAnyC_take 1 (.int .u8 p.lu) rfl (by kernel_rfl) (by kernel_rfl) (by kernel_rfl) (fun _ _ _ h => h) (wanted_free rfl _) (fun W hW => by have c := hW.cells 4 (by simp [Pd.v]); simp [Pd.v] at c; go_simp) ?_
  try simp only [Act.put, List.getElem_toArray, List.getElem_cons_succ, List.getElem_cons_zero, List.setIfInBounds_toArray, List.set_cons_succ, List.set_cons_zero]
  refine wpAnyC_take 2 (.pointer (some ⟨P, 5, none⟩)) rfl (by kernel_rfl) (by kernel_rfl) (by kernel_rfl) (fun _ _ _ h => h) (wanted_free rfl _) (fun W hW => by go_simp) ?_
  try simp only [Act.put, List.getElem_toArray, List.getElem_cons_succ, List.getElem_cons_zero, List.setIfInBounds_toArray, List.set_cons_succ, List.set_cons_zero]
  refine wpAnyC_take 3 (.int .u32 p.tg) rfl (by kernel_rfl) (by kernel_rfl) (by kernel_rfl) (fun _ _ _ h => h) (wanted_free rfl _) (fun W hW => by have c := hW.cells 5 (by simp [Pd.v]); simp [Pd.v] at c; go_simp) ?_
  try simp only [Act.put, List.getElem_toArray, List.getElem_cons_succ, List.getElem_cons_zero, List.setIfInBounds_toArray, List.set_cons_succ, List.set_cons_zero]
  refine wpAnyC_take 4 (.pointer (some ⟨P, 13, none⟩)) rfl (by kernel_rfl) (by kernel_rfl) (by kernel_rfl) (fun _ _ _ h => h) (wanted_free rfl _) (fun W hW => by go_simp) ?_
  try simp only [Act.put, List.getElem_toArray, List.getElem_cons_succ, List.getElem_cons_zero, List.setIfInBounds_toArray, List.set_cons_succ, List.set_cons_zero]
  refine wpAnyC_take 5 (p.da) rfl (by kernel_rfl) (by kernel_rfl) (by kernel_rfl) (fun _ _ _ h => h) (wanted_free rfl _) (fun W hW => by have c := hW.cells 13 (by simp [Pd.v]); simp [Pd.v] at c; go_simp) ?_
  try simp only [Act.put, List.getElem_toArray, List.getElem_cons_succ, List.getElem_cons_zero, List.setIfInBounds_toArray, List.set_cons_succ, List.set_cons_zero]
  have hz := zPdu
  refine wpAnyC_two 6 8 (k1.out.b0.drew) rfl rfl (by kernel_rfl) (wanted_free rfl _) (wanted_free rfl _) (fun KA hKA => ?_) (fun KA hKA => ?_)
  · go_simp
    refine (hC.out _ _ k1.out.drew).mono ?_
    rintro e w2 ⟨v', rfl, hr2, hg2, hn2⟩
    obtain ⟨da', dc', hv'⟩ := rd_len hr2.rd
    obtain ⟨dn', hdn'⟩ : ∃ n, n = ds.length := ⟨_, rfl⟩
    rw [← hdn'] at hv'
    subst hv'
    have k3 := Kpt.mk (k1.out.drew.below (below_none hg2))
    have hd3 : Kpt (Dt (s.X S) w2 (.slice da' dn' dc') ds) := ⟨Row.dt k1.out.drew.ss hr2 hn2⟩
    have hn2K := Kpt.mk hn2
    clear hr2 hg2 hn2 hdn'
    refine hKA _ _ ?_
    clear hKA KA
    try simp only [Act.put, List.getElem_toArray, List.getElem_cons_succ, List.getElem_cons_zero, List.setIfInBounds_toArray, List.set_cons_succ, List.set_cons_zero]
    refine wpAnyC_take 7 (.agg ({ zP with op := 32, fl := 128, lu := p.lu, tg := p.tg, da := .slice da' dn' dc' } : Pd).v) rfl (by kernel_rfl) (by kernel_rfl) (by kernel_rfl) (fun _ _ _ h => h) (wanted_free rfl _) (fun W hW => by unfold Pd.v zP; go_simp) ?_
    try simp only [Act.put, List.getElem_toArray, List.getElem_cons_succ, List.getElem_cons_zero, List.setIfInBounds_toArray, List.set_cons_succ, List.set_cons_zero]
    refine wpAnyC_one 8 (k3.out.b0) rfl (by kernel_rfl) (wanted_free rfl _) (fun KA hKA => ?_)
    unfold Oper.wp
    rw [info_zero hz _ _ _ rfl]
    have k5 : Kpt (Lo w (w2.alloc (.cells zP.v 42)) S s s H O T [(w2.heap.size, zP.v), (P, p.v)]) := ⟨k3.out.add ((Below.refl _ _).alloc (Nat.le_refl _) _) (Nat.le_refl _) (bx_new _ _ _)⟩
    have hd5 : Kpt (Dt (s.X S) (w2.alloc (.cells zP.v 42)) (.slice da' dn' dc') ds) := ⟨hd3.out.fr (Fr.of_below ((Below.refl _ _).alloc (Nat.le_refl _) _)) (fun b h => .inl h)⟩
    have hRd : Kpt (0 < ds.length → ∀ g, (Value.slice da' dn' dc').ownBlock = some g → g ≠ w2.heap.size) := ⟨fun h0 g hg => by have := (hd3.out.off h0 g hg).1; omega⟩
    obtain ⟨R, hR⟩ : ∃ R, R = w2.heap.size := ⟨_, rfl⟩
    rw [← hR] at k5 hRd ⊢
    obtain ⟨w5, hw5⟩ : ∃ w5, w5 = w2.alloc (.cells zP.v 42) := ⟨_, rfl⟩
    rw [← hw5] at k5 hd5 ⊢
    clear hR hw5
    refine hKA _ _ ?_
    clear hKA KA
    try simp only [Act.put, List.getElem_toArray, List.getElem_cons_succ, List.getElem_cons_zero, List.setIfInBounds_toArray, List.set_cons_succ, List.set_cons_zero]
    refine wpAnyC_one 9 (k5.out.b1) rfl (by kernel_rfl) (wanted_free rfl _) (fun KA hKA => ?_)
    refine wp_store_bx 42 _ _ rfl R zP.v ({ zP with op := 32, fl := 128, lu := p.lu, tg := p.tg, da := .slice da' dn' dc' } : Pd).v rfl rfl k5.out.b0 rfl szPdu (Pd.one rfl).2 ?_
    intro w6 hB6 hg6
    have k6 := Kpt.mk (k5.out.put0 hB6 hg6)
    have hd6 : Kpt (Dt (s.X S) w6 (.slice da' dn' dc') ds) := ⟨hd5.out.put hg6 hRd.out⟩
    clear hB6 hg6
    refine hKA _ _ ?_
    clear hKA KA
    try simp only [Act.put, List.getElem_toArray, List.getElem_cons_succ, List.getElem_cons_zero, List.setIfInBounds_toArray, List.set_cons_succ, List.set_cons_zero]
    refine wpAnyC_done (k6.out.b1) (by kernel_rfl) ?_
    have c6 := k6.out.b0.cells 6 (by simp [Pd.v])
    have f6 := k6.out.b0.free 6
    simp [Pd.v] at c6
    have k7 : Kpt (Lo w (w6.setCell ⟨R, 6, none⟩ (.int .u32 4294967295)) S s s H O T [(R, (pong p (.slice da' dn' dc')).v), (P, p.v)]) := ⟨k6.out.put0 (by have := bx_setC (.int .u32 4294967295) k6.out.b0 (j := 6) (by simp [Pd.v]); simpa [Pd.v, pong] using this) (grown_setCellK _ _ _)⟩
    have hd7 : Kpt (Dt (s.X S) (w6.setCell ⟨R, 6, none⟩ (.int .u32 4294967295)) (.slice da' dn' dc') ds) := ⟨hd6.out.put (grown_setCellK _ _ _) hRd.out⟩
    go_wp2_with (first
      | (go_at_call 38; go_must (refine (hA.out _ (pong p (.slice da' dn' dc')) _ _ _ k7.out.ss rfl).mono ?_; rintro e w8 ⟨v, rfl, hs8, ht8, ho8⟩; have k8 := Kpt.mk (k7.out.turn hs8 ht8); have hd8 := Kpt.mk (hd7.out.st ht8); replace ho8 := Kpt.mk ho8; clear hs8 ht8))
      | (refine (?_ : wpList _ _ _ (Oper.mk _ (Op.load 42 _) _ _ _ _ :: _) _ _); go_must (refine wpList_load_bx rfl 42 _ rfl R (pong p (.slice da' dn' dc')).v rfl k7.out.b0 _ Try.underlying42 rfl szPdu ?_; have hm := hdl)))
    go_ret
    obtain ⟨b, hv, hb, hh, hx⟩ := ho8.out.at_
    exact ⟨v, _, rfl, k8.out.ss, k8.out.st, ⟨b, hv, Nat.le_trans k7.out.st.fr.size hb, hh, hx⟩, hd8.out⟩
  · unfold Oper.wp
    rw [info_zero hz _ _ _ rfl]
    have k2 : Kpt (Lo w (w1.drew.alloc (.cells zP.v 42)) S s s H O T [(w1.drew.heap.size, zP.v), (P, p.v)]) := ⟨k1.out.drew.add ((Below.refl _ _).alloc (Nat.le_refl _) _) (Nat.le_refl _) (bx_new _ _ _)⟩
    obtain ⟨R, hR⟩ : ∃ R, R = w1.drew.heap.size := ⟨_, rfl⟩
    have hR2 : Kpt (R < (w1.drew.alloc (.cells zP.v 42)).heap.size) := ⟨by rw [hR]; simp⟩
    rw [← hR] at k2
    obtain ⟨x2, hx2⟩ : ∃ x2, x2 = w1.drew.alloc (.cells zP.v 42) := ⟨_, rfl⟩
    rw [← hx2] at k2 hR2
    rw [show (w1.heap.size) = R from hR.symm] at *
    refine hKA _ (w1.drew.alloc (.cells zP.v 42)) ?_
    rw [← hx2]
    clear hR hx2
    clear hKA KA
    try simp only [Act.put, List.getElem_toArray, List.getElem_cons_succ, List.getElem_cons_zero, List.setIfInBounds_toArray, List.set_cons_succ, List.set_cons_zero]
    refine wpAnyC_one 6 (k2.out.b1) rfl (by kernel_rfl) (wanted_free rfl _) (fun KA hKA => ?_)
    go_simp
    refine (hC.out _ _ k2.out).mono ?_
    rintro e w2 ⟨v', rfl, hr2, hg2, hn2⟩
    obtain ⟨da', dc', hv'⟩ := rd_len hr2.rd
    obtain ⟨dn', hdn'⟩ : ∃ n, n = ds.length := ⟨_, rfl⟩
    rw [← hdn'] at hv'
    subst hv'
    have k3 := Kpt.mk (k2.out.below (below_none hg2))
    have hd3 : Kpt (Dt (s.X S) w2 (.slice da' dn' dc') ds) := ⟨Row.dt k2.out.ss hr2 hn2⟩
    have hn2K := Kpt.mk hn2
    clear hr2 hg2 hn2 hdn'
    refine hKA _ _ ?_
    clear hKA KA
    try simp only [Act.put, List.getElem_toArray, List.getElem_cons_succ, List.getElem_cons_zero, List.setIfInBounds_toArray, List.set_cons_succ, List.set_cons_zero]
    refine wpAnyC_take 7 (.agg ({ zP with op := 32, fl := 128, lu := p.lu, tg := p.tg, da := .slice da' dn' dc' } : Pd).v) rfl (by kernel_rfl) (by kernel_rfl) (by kernel_rfl) (fun _ _ _ h => h) (wanted_free rfl _) (fun W hW => by unfold Pd.v zP; go_simp) ?_
    try simp only [Act.put, List.getElem_toArray, List.getElem_cons_succ, List.getElem_cons_zero, List.setIfInBounds_toArray, List.set_cons_succ, List.set_cons_zero]
    have k5 := k3
    have hd5 := hd3
    have hRd : Kpt (0 < ds.length → ∀ g, (Value.slice da' dn' dc').ownBlock = some g → g ≠ R) := ⟨fun _ g hg => by have := hn2K.out g hg; have := hR2.out; omega⟩
    refine wpAnyC_one 9 (k5.out.b1) rfl (by kernel_rfl) (wanted_free rfl _) (fun KA hKA => ?_)
    refine wp_store_bx 42 _ _ rfl R zP.v ({ zP with op := 32, fl := 128, lu := p.lu, tg := p.tg, da := .slice da' dn' dc' } : Pd).v rfl rfl k5.out.b0 rfl szPdu (Pd.one rfl).2 ?_
    intro w6 hB6 hg6
    have k6 := Kpt.mk (k5.out.put0 hB6 hg6)
    have hd6 : Kpt (Dt (s.X S) w6 (.slice da' dn' dc') ds) := ⟨hd5.out.put hg6 hRd.out⟩
    clear hB6 hg6
    refine hKA _ _ ?_
    clear hKA KA
    try simp only [Act.put, List.getElem_toArray, List.getElem_cons_succ, List.getElem_cons_zero, List.setIfInBounds_toArray, List.set_cons_succ, List.set_cons_zero]
    refine wpAnyC_done (k6.out.b1) (by kernel_rfl) ?_
    have c6 := k6.out.b0.cells 6 (by simp [Pd.v])
    have f6 := k6.out.b0.free 6
    simp [Pd.v] at c6
    have k7 : Kpt (Lo w (w6.setCell ⟨R, 6, none⟩ (.int .u32 4294967295)) S s s H O T [(R, (pong p (.slice da' dn' dc')).v), (P, p.v)]) := ⟨k6.out.put0 (by have := bx_setC (.int .u32 4294967295) k6.out.b0 (j := 6) (by simp [Pd.v]); simpa [Pd.v, pong] using this) (grown_setCellK _ _ _)⟩
    have hd7 : Kpt (Dt (s.X S) (w6.setCell ⟨R, 6, none⟩ (.int .u32 4294967295)) (.slice da' dn' dc') ds) := ⟨hd6.out.put (grown_setCellK _ _ _) hRd.out⟩
    go_wp2_with (first
      | (go_at_call 38; go_must (refine (hA.out _ (pong p (.slice da' dn' dc')) _ _ _ k7.out.ss rfl).mono ?_; rintro e w8 ⟨v, rfl, hs8, ht8, ho8⟩; have k8 := Kpt.mk (k7.out.turn hs8 ht8); have hd8 := Kpt.mk (hd7.out.st ht8); replace ho8 := Kpt.mk ho8; clear hs8 ht8))
      | (refine (?_ : wpList _ _ _ (Oper.mk _ (Op.load 42 _) _ _ _ _ :: _) _ _); go_must (refine wpList_load_bx rfl 42 _ rfl R (pong p (.slice da' dn' dc')).v rfl k7.out.b0 _ Try.underlying42 rfl szPdu ?_; have hm := hdl)))
    go_ret
    obtain ⟨b, hv, hb, hh, hx⟩ := ho8.out.at_
    exact ⟨v, _, rfl, k8.out.ss, k8.out.st, ⟨b, hv, Nat.le_trans k7.out.st.fr.size hb, hh, hx⟩, hd8.out⟩
end Go.Proofs.Ytdplndlmdhpfaab
