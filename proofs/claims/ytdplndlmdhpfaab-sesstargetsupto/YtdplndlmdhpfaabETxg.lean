/-
  sess: a text that is answered, in its turn.
-/
import Derived.Test.YtdplndlmdhpfaabEBeg
import Derived.Test.YtdplndlmdhpfaabEInc
import Derived.Test.YtdplndlmdhpfaabEAwk
namespace Go.Proofs.Ytdplndlmdhpfaab
open Go.RowKit
set_option linter.unusedVariables false
set_option linter.unusedSimpArgs false

/-- What a text is answered. -/
def txtP (p : Pd) (d : Value) : Pd := { zP with op := 36, fl := 128, tg := p.tg, da := d }
set_option maxRecDepth 100000 in
set_option maxHeartbeats 4000000 in
theorem do_txg (S : Nat) (s : Se) (H O T : List (Array Value)) (p : Pd) (a : Option Addr) (n c : Nat) (L : List Int) (w : World) (h : Ss w S s H O T) (hop : p.op = 4) (hda : p.da = .slice a n c) (hK0 : ∀ W, St S w W s s → Ss W S s H O T → Calls Try.prog 41 #[.pointer (some ⟨S, 0, none⟩), .slice a n c] W fun e w' => ∃ a n c, e = .returned (.slice a n c) ∧ Below W.heap.size W w' ∧ Dt (s.X S) w' (.slice a n c) L) (hn : 0 ≤ s.next ∧ s.next < 4294967296) (s' : Se) (hs' : s' = { s with stat := (s.stat + 1) % 4294967296 }) :
    Calls Try.prog 24 #[.pointer (some ⟨S, 0, none⟩), .agg p.v] w fun e w' => ∃ v d, (∃ a n c, d = .slice a n c) ∧ e = .returned (.tuple #[v, .slice none 0 0]) ∧ Ss w' S s' H O T ∧ St S w w' s s' ∧ Ou w w' S s' v 42 ((txtP p d).num s).v ∧ Dt (s'.X S) w' d L := by
  have hO : Kpt (∀ W : World, Calls Try.prog 20 #[.agg p.v] W fun e w' => e = .returned (.int .u8 4) ∧ Below W.heap.size W w') := ⟨fun W => by
    have := operation_any p W (by simp [Pd.opk, hop])
    rwa [show p.op % 64 = 4 from by rw [hop]; rfl] at this⟩
  have hK : Kpt (∀ W L', Lo w W S s s H O T L' → Calls Try.prog 41 #[.pointer (some ⟨S, 0, none⟩), .slice a n c] W fun e w' => ∃ a n c, e = .returned (.slice a n c) ∧ Below W.heap.size W w' ∧ Dt (s.X S) w' (.slice a n c) L) := ⟨fun W L' k => hK0 W k.st k.ss⟩
  have hA : Kpt (∀ W a n c, Ss W S s H O T → Calls Try.prog 38 #[.pointer (some ⟨S, 0, none⟩), .agg (txtP p (.slice a n c)).v] W fun e w' => ∃ v, e = .returned v ∧ Ss w' S s' H O T ∧ St S W w' s s' ∧ Ou W w' S s' v 42 ((txtP p (.slice a n c)).num s).v) := ⟨fun W a n c h => answer_any S s H O T (txtP p (.slice a n c)) _ _ _ W h rfl hn s' hs'⟩
  have k0 := Kpt.mk (Lo.start h)
  have hdaK := Kpt.mk hda
  clear h hop hs' hK0 hda
  go_enter Try.func24, Try.ntmps24
  go_upto_region 5 with (first
    | (go_at_call 20; go_must (refine (hO.out _).mono ?_; rintro e w2 ⟨rfl, hb2⟩; have k2 := Kpt.mk (k1.out.below hb2); clear hb2))
    | (refine (?_ : wpList _ _ _ (Oper.mk _ (Op.load 42 _) _ _ _ _ :: _) _ _); go_must (refine wpList_load_bx rfl 42 _ rfl P p.v rfl k1.out.b0 _ Try.underlying42 rfl szPdu ?_; have hm := hn))
    | (refine (?_ : wpList _ _ _ (Oper.mk _ (Op.box 42 _) _ _ _ _ :: _) _ _); go_must (refine wpList_box rfl 42 _ rfl p.v rfl ?_; intro P w1 hP hB hb _; have k1 := Kpt.mk (k0.out.add hb hP hB); clear hb hP hB)))
  have K := Kpt.mk k2.out.drew
  obtain ⟨W0, hW0⟩ : ∃ W, W = w2.drew := ⟨_, rfl⟩
  rw [← hW0] at K
  refine wp_region_any (by kernel_rfl) ?_
  refine wpAny_of_C (C := fun W => Bx W P p.v) _ _ _ _ ?_
  refine wpAnyC_take 0 (.pointer (some ⟨S, 0, none⟩)) rfl (by kernel_rfl) (by kernel_rfl) (by kernel_rfl) (fun _ _ _ h => h) (wanted_free rfl _) (fun W hW => by go_simp) ?_
  try simp only [Act.put, List.getElem_toArray, List.getElem_cons_succ, List.getElem_cons_zero, List.setIfInBounds_toArray, List.set_cons_succ, List.set_cons_zero]
  refine wpAnyC_take 1 (.pointer (some ⟨P, 5, none⟩)) rfl (by kernel_rfl) (by kernel_rfl) (by kernel_rfl) (fun _ _ _ h => h) (wanted_free rfl _) (fun W hW => by go_simp) ?_
  try simp only [Act.put, List.getElem_toArray, List.getElem_cons_succ, List.getElem_cons_zero, List.setIfInBounds_toArray, List.set_cons_succ, List.set_cons_zero]
  refine wpAnyC_take 2 (.int .u32 p.tg) rfl (by kernel_rfl) (by kernel_rfl) (by kernel_rfl) (fun _ _ _ h => h) (wanted_free rfl _) (fun W hW => by have c := hW.cells 5 (by simp [Pd.v]); simp [Pd.v] at c; go_simp) ?_
  try simp only [Act.put, List.getElem_toArray, List.getElem_cons_succ, List.getElem_cons_zero, List.setIfInBounds_toArray, List.set_cons_succ, List.set_cons_zero]
  refine wpAnyC_take 3 (.pointer (some ⟨S, 0, none⟩)) rfl (by kernel_rfl) (by kernel_rfl) (by kernel_rfl) (fun _ _ _ h => h) (wanted_free rfl _) (fun W hW => by go_simp) ?_
  try simp only [Act.put, List.getElem_toArray, List.getElem_cons_succ, List.getElem_cons_zero, List.setIfInBounds_toArray, List.set_cons_succ, List.set_cons_zero]
  refine wpAnyC_take 4 (.pointer (some ⟨P, 13, none⟩)) rfl (by kernel_rfl) (by kernel_rfl) (by kernel_rfl) (fun _ _ _ h => h) (wanted_free rfl _) (fun W hW => by go_simp) ?_
  try simp only [Act.put, List.getElem_toArray, List.getElem_cons_succ, List.getElem_cons_zero, List.setIfInBounds_toArray, List.set_cons_succ, List.set_cons_zero]
  refine wpAnyC_take 5 (.slice a n c) rfl (by kernel_rfl) (by kernel_rfl) (by kernel_rfl) (fun _ _ _ h => h) (wanted_free rfl _) (fun W hW => by have c := hW.cells 13 (by simp [Pd.v]); simp [Pd.v] at c; rw [hdaK.out] at c; go_simp) ?_
  try simp only [Act.put, List.getElem_toArray, List.getElem_cons_succ, List.getElem_cons_zero, List.setIfInBounds_toArray, List.set_cons_succ, List.set_cons_zero]
  refine wpAnyC_world hW0 ?_
  clear hW0
  refine wpAnyC_one 6 (K.out.b0) rfl (by kernel_rfl) (wanted_free rfl _) (fun KA hKA => ?_)
  go_simp
  refine (hK.out _ _ K.out).mono ?_
  rintro e W3 ⟨a3, n3, c3, rfl, hb3, hd3⟩
  replace hd3 := Kpt.mk hd3
  have K3 := Kpt.mk (K.out.below hb3)
  clear hb3
  refine hKA _ _ ?_
  clear hKA KA
  try simp only [Act.put, List.getElem_toArray, List.getElem_cons_succ, List.getElem_cons_zero, List.setIfInBounds_toArray, List.set_cons_succ, List.set_cons_zero]
  refine wpAnyC_take 7 (.agg (txtP p (.slice a3 n3 c3)).v) rfl (by kernel_rfl) (by kernel_rfl) (by kernel_rfl) (fun _ _ _ h => h) (wanted_free rfl _) (fun W hW => by unfold txtP Pd.v zP; go_simp) ?_
  try simp only [Act.put, List.getElem_toArray, List.getElem_cons_succ, List.getElem_cons_zero, List.setIfInBounds_toArray, List.set_cons_succ, List.set_cons_zero]
  refine wpAnyC_one 8 (K3.out.b0) rfl (by kernel_rfl) (wanted_free rfl _) (fun KA hKA => ?_)
  go_simp
  refine (hA.out _ _ _ _ K3.out.ss).mono ?_
  rintro e W4 ⟨v, rfl, hs4, ht4, ho4⟩
  have K4 := Kpt.mk (K3.out.turn hs4 ht4)
  have hsz := K3.out.st.fr.size
  obtain ⟨b, hv, hb, hh, hx⟩ := ho4.at_
  subst hv
  replace hh := Kpt.mk hh
  replace hx := Kpt.mk hx
  have hd4 := Kpt.mk (hd3.out.st ht4)
  clear hs4 ht4 ho4
  refine hKA _ _ ?_
  clear hKA KA
  try simp only [Act.put, List.getElem_toArray, List.getElem_cons_succ, List.getElem_cons_zero, List.setIfInBounds_toArray, List.set_cons_succ, List.set_cons_zero]
  refine wpAnyC_one 9 (K4.out.b0) rfl (by kernel_rfl) (wanted_free rfl _) (fun KA hKA => ?_)
  go_simp
  refine hKA _ _ ?_
  clear hKA KA
  try simp only [Act.put, List.getElem_toArray, List.getElem_cons_succ, List.getElem_cons_zero, List.setIfInBounds_toArray, List.set_cons_succ, List.set_cons_zero]
  refine wpAnyC_one 10 (K4.out.b0) rfl (by kernel_rfl) (wanted_free rfl _) (fun KA hKA => ?_)
  go_simp
  refine hKA _ _ ?_
  clear hKA KA
  try simp only [Act.put, List.getElem_toArray, List.getElem_cons_succ, List.getElem_cons_zero, List.setIfInBounds_toArray, List.set_cons_succ, List.set_cons_zero]
  refine wpAnyC_done (K4.out.b0) (by kernel_rfl) ?_
  go_wp2
  try rw [Exit.noGoto_ret]
  refine bodyPost_ret (v := .tuple #[.slice (some ⟨b, 0, none⟩) 1 1, .slice none 0 0]) (by simp [results, Try.results24, asAddr, Act.put]) rfl ?_
  exact ⟨_, _, ⟨_, _, _, rfl⟩, rfl, K4.out.ss, K4.out.st, ⟨b, rfl, Nat.le_trans hsz hb, hh.out, hx.out⟩, hd4.out⟩


/-- Behind a text in its turn. -/
structure TxPost (S : Nat) (s : Se) (p : Pd) (L : List Int) (W : World) (s3 : Se) (gs ts : List (Array Value)) : Prop where
  ts : ts = []
  ex : ∃ v1 d, s3 = { (s.step v1) with stat := (s.stat + 1) % 4294967296 } ∧ Ss W S s3 [] [] [] ∧ gs = [((txtP p d).num (s.step v1)).v] ∧ Dt (s3.X S) W d L
theorem in_txg (S : Nat) (s : Se) (p : Pd) (a : Option Addr) (n c : Nat) (ds L : List Int) (w : World) (h : Ss w S s [] [] []) (hop : p.op = 4) (hw1 : p.w1 = s.next) (hov : s.over = false) (hda : p.da = .slice a n c) (hD : Dt (s.X S) w p.da ds) (hdl : ds.length ≤ 100000)
    (hK : ∀ W v1 a' n' c', c' ≤ maxLen → St S w W s (s.step v1) → Ss W S (s.step v1) [] [] [] → Dt ((s.step v1).X S) W (.slice a' n' c') ds → Calls Try.prog 41 #[.pointer (some ⟨S, 0, none⟩), .slice a' n' c'] W fun e w' => ∃ a n c, e = .returned (.slice a n c) ∧ Below W.heap.size W w' ∧ Dt ((s.step v1).X S) w' (.slice a n c) L) :
    Calls Try.prog 10 #[.pointer (some ⟨S, 0, none⟩), .agg p.v] w fun e w' => ∃ gv tv gs ts s3, e = .returned (.tuple #[gv, tv]) ∧ TxPost S s p L w' s3 gs ts ∧ St S w w' s s3 ∧ Gots w w' S s3 42 14 gv gs ∧ Gots w w' S s3 60 8 tv ts := by
  refine in_turnc S s [] [] p a n c ds (TxPost S s p L) w h (.inr (.inr hop)) hw1 hov hda hD hdl ?_ ?_ ?_
  · rintro W W' s3 gs ts hb ⟨h1, v1, d, e1, e2, e3, e4⟩
    exact ⟨h1, v1, d, e1, e2.below hb, e3, e4.below hb⟩
  · rintro W s3 gs ts ⟨h1, v1, d, e1, e2, _⟩
    exact ⟨by rw [e1]; exact hov, _, _, e2⟩
  · intro W da' v' hcp hS hSt hD'
    obtain ⟨da, dc, hdv⟩ := rd_len hD'.rd
    refine (do_txg S (s.step v') [] [] [] { p with da := da' } da ds.length dc L W hS hop hdv (fun W2 hst hss => ?_) ⟨Int.emod_nonneg _ (by decide), Int.emod_lt_of_pos _ (by decide)⟩ _ rfl).mono ?_
    · exact hK W2 v' _ _ _ (hcp _ _ _ hdv) (hSt.trans hst) hss (by rw [← hdv]; exact hD'.st hst)
    · rintro e w' ⟨v, d, ⟨xa, xn, xc, hxd⟩, rfl, h1, h2, h3, h4⟩
      exact ⟨v, _, [_], [], _, rfl, ⟨rfl, v', d, rfl, h1, rfl, h4⟩, h2, h3.got (Pd.one (p := (txtP p d).num (s.step v')) hxd), .inl ⟨rfl, rfl⟩⟩
end Go.Proofs.Ytdplndlmdhpfaab
