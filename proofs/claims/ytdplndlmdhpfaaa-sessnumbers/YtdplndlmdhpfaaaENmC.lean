/-
  sess: In of a text that has one key; of a logout.
-/
import Derived.Test.YtdplndlmdhpfaaaENmB
import Derived.Test.YtdplndlmdhpfaaaEWdt
namespace Go.Proofs.Ytdplndlmdhpfaaa
open Go.RowKit
set_option linter.unusedVariables false
set_option linter.unusedSimpArgs false

/-- What a text is answered. -/
def txtP (p : Pd) (d : Value) : Pd := { zP with op := 36, fl := 128, tg := p.tg, da := d }
set_option maxRecDepth 100000 in
set_option maxHeartbeats 4000000 in
theorem do_text (S : Nat) (s : Se) (H O T : List (Array Value)) (p : Pd) (a : Option Addr) (c : Nat) (w : World) (h : Ss w S s H O T) (hop : p.op = 68) (hda : p.da = .slice a 4 c) (hD : Dt (s.X S) w p.da [97, 61, 98, 0]) (hc : c ≤ maxLen) (hn : 0 ≤ s.next ∧ s.next < 4294967296) (s' : Se) (hs' : s' = { s with stat := (s.stat + 1) % 4294967296 }) :
    Calls Try.prog 24 #[.pointer (some ⟨S, 0, none⟩), .agg p.v] w fun e w' => ∃ v d, (∃ a n c, d = .slice a n c) ∧ e = .returned (.tuple #[v, .slice none 0 0]) ∧ Ss w' S s' H O T ∧ St S w w' s s' ∧ Ou w w' S s' v 37 ((txtP p d).num s).v := by
  have hO : Kpt (∀ W : World, Calls Try.prog 20 #[.agg p.v] W fun e w' => e = .returned (.int .u8 4) ∧ Below W.heap.size W w') := ⟨fun W => by
    have := operation_any p W (by simp [Pd.opk, hop])
    rwa [show p.op % 64 = 4 from by rw [hop]; rfl] at this⟩
  have hK : Kpt (∀ W L, Lo w W S s s H O T L → Calls Try.prog 41 #[.pointer (some ⟨S, 0, none⟩), .slice a 4 c] W fun e w' => ∃ a n c, e = .returned (.slice a n c) ∧ Below W.heap.size W w') := ⟨fun W L k => answerKeys_ab S a c W (by have := (hD.st k.st).rd; rw [hda] at this; exact this) hc⟩
  have hA : Kpt (∀ W a n c, Ss W S s H O T → Calls Try.prog 33 #[.pointer (some ⟨S, 0, none⟩), .agg (txtP p (.slice a n c)).v] W fun e w' => ∃ v, e = .returned v ∧ Ss w' S s' H O T ∧ St S W w' s s' ∧ Ou W w' S s' v 37 ((txtP p (.slice a n c)).num s).v) := ⟨fun W a n c h => answer_any S s H O T (txtP p (.slice a n c)) _ _ _ W h rfl hn s' hs'⟩
  have k0 := Kpt.mk (Lo.start h)
  have hdaK := Kpt.mk hda
  clear h hop hs' hD hda
  go_enter Try.func24, Try.ntmps24
  go_upto_region 5 with (first
    | (go_at_call 20; go_must (refine (hO.out _).mono ?_; rintro e w2 ⟨rfl, hb2⟩; have k2 := Kpt.mk (k1.out.below hb2); clear hb2))
    | (refine (?_ : wpList _ _ _ (Oper.mk _ (Op.load 37 _) _ _ _ _ :: _) _ _); go_must (refine wpList_load_bx rfl 37 _ rfl P p.v rfl k1.out.b0 _ Try.underlying37 rfl szPdu ?_; have hm := hn))
    | (refine (?_ : wpList _ _ _ (Oper.mk _ (Op.box 37 _) _ _ _ _ :: _) _ _); go_must (refine wpList_box rfl 37 _ rfl p.v rfl ?_; intro P w1 hP hB hb _; have k1 := Kpt.mk (k0.out.add hb hP hB); clear hb hP hB)))
  have K := Kpt.mk k2.out.drew
  obtain ⟨W0, hW0⟩ : ∃ W, W = w2.drew := ⟨_, rfl⟩
  rw [← hW0] at K
  refine wp_region_any (by kernel_rfl) ?_
  refine wpAny_of_C (C := fun W => Bx W P p.v) _ _ _ _ ?_
  refine wpAnyC_take 0 (.pointer (some ⟨S, 0, none⟩)) rfl (by kernel_rfl) (by kernel_rfl) (by kernel_rfl) (fun _ _ _ h => h) (wanted_free rfl _) (fun W hW => by go_simp) ?_
  try simp only [Act.put, List.getElem_toArray, List.getElem_cons_succ, List.getElem_cons_zero, List.setIfInBounds_toArray, List.set_cons_succ, List.set_cons_zero]
  refine wpAnyC_take 1 (.pointer (some ⟨P, 5, none⟩)) rfl (by kernel_rfl) (by kernel_rfl) (by kernel_rfl) (fun _ _ _ h => h) (wanted_free rfl _) (fun W hW => by go_simp) ?_
  try simp only [Act.put, List.getElem_toArray, List.getElem_cons_succ, List.getElem_cons_zero, List.setIfInBounds_toArray, List.set_cons_succ, List.set_cons_zero]
  refine wpAnyC_take 2 (.int .u32 p.tg) rfl (by kernel_rfl) (by kernel_rfl) (by kernel_rfl) (fun _ _ _ h => h) (wanted_free rfl _) (fun W hW => by have c := hW.cells 5 (by simp [Pd.v]); simp [Pd.v] at c; go_simp) ?_
  try simp only [Act.put, List.getElem_toArray, List.getElem_cons_succ, List.getElem_cons_zero, List.setIfInBounds_toArray, List.set_cons_succ, List.set_cons_zero]
  refine wpAnyC_take 3 (.pointer (some ⟨S, 0, none⟩)) rfl (by kernel_rfl) (by kernel_rfl) (by kernel_rfl) (fun _ _ _ h => h) (wanted_free rfl _) (fun W hW => by go_simp) ?_
  try simp only [Act.put, List.getElem_toArray, List.getElem_cons_succ, List.getElem_cons_zero, List.setIfInBounds_toArray, List.set_cons_succ, List.set_cons_zero]
  refine wpAnyC_take 4 (.pointer (some ⟨P, 13, none⟩)) rfl (by kernel_rfl) (by kernel_rfl) (by kernel_rfl) (fun _ _ _ h => h) (wanted_free rfl _) (fun W hW => by go_simp) ?_
  try simp only [Act.put, List.getElem_toArray, List.getElem_cons_succ, List.getElem_cons_zero, List.setIfInBounds_toArray, List.set_cons_succ, List.set_cons_zero]
  refine wpAnyC_take 5 (.slice a 4 c) rfl (by kernel_rfl) (by kernel_rfl) (by kernel_rfl) (fun _ _ _ h => h) (wanted_free rfl _) (fun W hW => by have c := hW.cells 13 (by simp [Pd.v]); simp [Pd.v] at c; rw [hdaK.out] at c; go_simp) ?_
  try simp only [Act.put, List.getElem_toArray, List.getElem_cons_succ, List.getElem_cons_zero, List.setIfInBounds_toArray, List.set_cons_succ, List.set_cons_zero]
  refine wpAnyC_world hW0 ?_
  clear hW0
  refine wpAnyC_one 6 (K.out.b0) rfl (by kernel_rfl) (wanted_free rfl _) (fun KA hKA => ?_)
  go_simp
  refine (hK.out _ _ K.out).mono ?_
  rintro e W3 ⟨a3, n3, c3, rfl, hb3⟩
  have K3 := Kpt.mk (K.out.below hb3)
  clear hb3
  refine hKA _ _ ?_
  clear hKA KA
  try simp only [Act.put, List.getElem_toArray, List.getElem_cons_succ, List.getElem_cons_zero, List.setIfInBounds_toArray, List.set_cons_succ, List.set_cons_zero]
  refine wpAnyC_take 7 (.agg (txtP p (.slice a3 n3 c3)).v) rfl (by kernel_rfl) (by kernel_rfl) (by kernel_rfl) (fun _ _ _ h => h) (wanted_free rfl _) (fun W hW => by unfold txtP Pd.v zP; go_simp) ?_
  try simp only [Act.put, List.getElem_toArray, List.getElem_cons_succ, List.getElem_cons_zero, List.setIfInBounds_toArray, List.set_cons_succ, List.set_cons_zero]
  refine wpAnyC_one 8 (K3.out.b0) rfl (by kernel_rfl) (wanted_free rfl _) (fun KA hKA => ?_)
  go_simp
  refine (hA.out _ _ _ _ K3.out.ss).mono ?_
  rintro e W4 ⟨v, rfl, hs4, ht4, ho4⟩
  have K4 := Kpt.mk (K3.out.turn hs4 ht4)
  have hsz := K3.out.st.fr.size
  obtain ⟨b, hv, hb, hh, hx⟩ := ho4.at_
  subst hv
  replace hh := Kpt.mk hh
  replace hx := Kpt.mk hx
  clear hs4 ht4 ho4
  refine hKA _ _ ?_
  clear hKA KA
  try simp only [Act.put, List.getElem_toArray, List.getElem_cons_succ, List.getElem_cons_zero, List.setIfInBounds_toArray, List.set_cons_succ, List.set_cons_zero]
  refine wpAnyC_one 9 (K4.out.b0) rfl (by kernel_rfl) (wanted_free rfl _) (fun KA hKA => ?_)
  go_simp
  refine hKA _ _ ?_
  clear hKA KA
  try simp only [Act.put, List.getElem_toArray, List.getElem_cons_succ, List.getElem_cons_zero, List.setIfInBounds_toArray, List.set_cons_succ, List.set_cons_zero]
  refine wpAnyC_one 10 (K4.out.b0) rfl (by kernel_rfl) (wanted_free rfl _) (fun KA hKA => ?_)
  go_simp
  refine hKA _ _ ?_
  clear hKA KA
  try simp only [Act.put, List.getElem_toArray, List.getElem_cons_succ, List.getElem_cons_zero, List.setIfInBounds_toArray, List.set_cons_succ, List.set_cons_zero]
  refine wpAnyC_done (K4.out.b0) (by kernel_rfl) ?_
  go_wp2
  try rw [Exit.noGoto_ret]
  refine bodyPost_ret (v := .tuple #[.slice (some ⟨b, 0, none⟩) 1 1, .slice none 0 0]) (by simp [results, Try.results24, asAddr, Act.put]) rfl ?_
  exact ⟨_, _, ⟨_, _, _, rfl⟩, rfl, K4.out.ss, K4.out.st, ⟨b, rfl, Nat.le_trans hsz hb, hh.out, hx.out⟩⟩

/-- One answer that counts, and nothing to do. -/
structure NmOne (S : Nat) (s s' : Se) (w w' : World) (gv tv : Value) : Prop where
  ss : Ss w' S s' [] [] []
  st : St S w w' s s'
  tv : tv = .slice none 0 0
  gv : ∃ b q, gv = .slice (some ⟨b, 0, none⟩) 1 1 ∧ Bx w' b (Pd.v q) ∧ q.w1 = s.stat ∧ q.w2 = s.next ∧ q.w3 = (s.next + 15) % 4294967296
theorem ou_bx {w w' : World} {S : Nat} {s' : Se} {v : Value} {q : Pd} {a : Option Addr} {n c : Nat} (h : Ou w w' S s' v 37 q.v) (hq : q.da = .slice a n c) : ∃ b, v = .slice (some ⟨b, 0, none⟩) 1 1 ∧ Bx w' b q.v := by
  obtain ⟨b, hv, _, hh, _⟩ := h.at_
  exact ⟨b, hv, ownR_bx (Bx.oneOwn (k := 14) hh (Pd.one (p := q) hq))⟩
end Go.Proofs.Ytdplndlmdhpfaaa
