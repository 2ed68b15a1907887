/-
  sess: a command in a discovery session is refused.
-/
import Derived.Test.YtdplndlmdhpfaabEWin
import Derived.Test.YtdplndlmdhpfaabEAwk
namespace Go.Proofs.Ytdplndlmdhpfaab
open Go.RowKit
set_option linter.unusedVariables false
set_option linter.unusedSimpArgs false

set_option maxRecDepth 100000 in
set_option maxHeartbeats 4000000 in
theorem allows_dis (S : Nat) (s : Se) (H : List (Array Value)) (O : List Cm) (T : List (Array Value)) (p : Pd) (w : World) (h : Ss w S s H (O.map Cm.v) T) (hl : O.length ≤ 10000) (hds : s.dis = true) (hfree : fidx (isC p.tg) (O.map Cm.v) 0 = -1) :
    Calls Try.prog 59 #[.pointer (some ⟨S, 0, none⟩), .agg p.v] w fun e w' => e = .returned (.tuple #[.int .u8 4, .bool false]) ∧ Below w.heap.size w w' := by
  have hF : Kpt (∀ W, Ss W S s H (O.map Cm.v) T → Calls Try.prog 47 #[.pointer (some ⟨S, 0, none⟩), .int .u32 p.tg] W fun e w' => e = .returned (.int .i64 (-1)) ∧ Below W.heap.size W w') := ⟨fun W h => by have := findOpen_any S s H O T p.tg W h hl; rw [hfree] at this; exact this⟩
  have hK := Kpt.mk h
  have hdsK := Kpt.mk hds
  clear h hds hfree
  go_enter Try.func59, Try.ntmps59
  go_wp2_with (first
    | (go_at_call 47; go_must (refine (hF.out _ (hK.out.below hb1.out)).mono ?_; rintro e w2 ⟨rfl, hb2⟩; have hb3 := Kpt.mk (hb1.out.trans (hb2.mono hb1.out.size)); obtain ⟨d2, -⟩ := (hK.out.below hb3.out).cell 2 (by omega); simp [Se.v] at d2; rw [hdsK.out] at d2; clear hb2))
    | (refine (?_ : wpList _ _ _ (Oper.mk _ (Op.box 42 _) _ _ _ _ :: _) _ _); go_must (refine wpList_box rfl 42 _ rfl p.v rfl ?_; intro P w1 hP hB hb1 _; have c5 := hB.cells 5 (by simp [Pd.v]); simp [Pd.v] at c5; replace hb1 := Kpt.mk hb1; replace hB := Kpt.mk hB; clear hP)))
  go_ret2
  exact ⟨rfl, hb3.out⟩

set_option maxRecDepth 100000 in
set_option maxHeartbeats 4000000 in
theorem begin_dis (S : Nat) (s : Se) (H : List (Array Value)) (O : List Cm) (T : List (Array Value)) (p : Pd) (a : Option Addr) (n c : Nat) (w : World) (h : Ss w S s H (O.map Cm.v) T) (hl : O.length ≤ 5000) (hda : p.da = .slice a n c) (hnn : n ≤ 100000) (hds : s.dis = true) (hfree : fidx (isC p.tg) (O.map Cm.v) 0 = -1) (hu : p.all32) (hn : 0 ≤ s.next ∧ s.next < 4294967296) (s' : Se) (hs' : s' = { s with stat := (s.stat + 1) % 4294967296 }) :
    Calls Try.prog 43 #[.pointer (some ⟨S, 0, none⟩), .agg p.v] w fun e w' => ∃ v d zs, e = .returned (.tuple #[v, .slice none 0 0]) ∧ Ss w' S s' H (O.map Cm.v) T ∧ St S w w' s s' ∧ Ou w w' S s' v 42 ((rej 4 d).num s).v ∧ Dt (s'.X S) w' d zs := by
  have hA : Kpt (∀ W, Ss W S s H (O.map Cm.v) T → Calls Try.prog 59 #[.pointer (some ⟨S, 0, none⟩), .agg p.v] W fun e w' => e = .returned (.tuple #[.int .u8 4, .bool false]) ∧ Below W.heap.size W w') := ⟨fun W h => allows_dis S s H O T p W h (by omega) hds hfree⟩
  have hR : Kpt (∀ W, Ss W S s H (O.map Cm.v) T → Calls Try.prog 23 #[.pointer (some ⟨S, 0, none⟩), .agg p.v, .int .u8 4] W fun e w' => ∃ v d zs, e = .returned v ∧ Ss w' S s' H (O.map Cm.v) T ∧ St S W w' s s' ∧ Ou W w' S s' v 42 ((rej 4 d).num s).v ∧ Dt (s'.X S) w' d zs ∧ zs.length = 48 ∧ zs.getD 0 0 = p.op ∧ zs.getD 1 0 = p.fl) := ⟨fun W h => refuse_any S s H (O.map Cm.v) T p 4 a n c W h hda hnn hu hn s' hs'⟩
  have k0 := Kpt.mk (Lo.start h)
  clear h hda hds hfree hu hs'
  go_enter Try.func43, Try.ntmps43
  go_wp2_with (first
    | (go_at_call 23; go_must (refine (hR.out _ k2.out.ss).mono ?_; rintro e w3 ⟨v, d, zs, rfl, hs3, ht3, ho3, hd3, -⟩; have st3 := Kpt.mk (k2.out.st.trans ht3); have hsz := k2.out.st.fr.size; replace hs3 := Kpt.mk hs3; replace ho3 := Kpt.mk ho3; replace hd3 := Kpt.mk hd3; clear ht3))
    | (go_at_call 59; go_must (refine (hA.out _ k1.out.ss).mono ?_; rintro e w2 ⟨rfl, hb2⟩; have k2 := Kpt.mk (k1.out.below hb2); clear hb2))
    | (refine (?_ : wpList _ _ _ (Oper.mk _ (Op.load 42 _) _ _ _ _ :: _) _ _); have m := k2; go_must (refine wpList_load_bx rfl 42 _ rfl P p.v rfl k2.out.b0 _ Try.underlying42 rfl szPdu ?_; clear m))
    | (refine (?_ : wpList _ _ _ (Oper.mk _ (Op.load 42 _) _ _ _ _ :: _) _ _); go_must (refine wpList_load_bx rfl 42 _ rfl P p.v rfl k1.out.b0 _ Try.underlying42 rfl szPdu ?_; have hm := hnn))
    | (refine (?_ : wpList _ _ _ (Oper.mk _ (Op.box 42 _) _ _ _ _ :: _) _ _); go_must (refine wpList_box rfl 42 _ rfl p.v rfl ?_; intro P w1 hP hB hb _; have k1 := Kpt.mk (k0.out.add hb hP hB); clear hb hP hB)))
  go_ret2
  obtain ⟨b, hv, hb, hh, hx⟩ := ho3.out.at_
  exact ⟨v, d, zs, rfl, hs3.out, st3.out, ⟨b, hv, Nat.le_trans hsz hb, hh, hx⟩, hd3.out⟩

/-- Behind what was refused in its turn. -/
structure DiPost (S : Nat) (s : Se) (O : List Cm) (T : List (Array Value)) (W : World) (s3 : Se) (gs ts : List (Array Value)) : Prop where
  ts : ts = []
  ex : ∃ v1 d zs, s3 = { (s.step v1) with stat := (s.stat + 1) % 4294967296 } ∧ Ss W S s3 [] (O.map Cm.v) T ∧ gs = [((rej 4 d).num (s.step v1)).v] ∧ Dt (s3.X S) W d zs
theorem in_dis (S : Nat) (s : Se) (O : List Cm) (T : List (Array Value)) (p : Pd) (w : World) (h : Ss w S s [] (O.map Cm.v) T) (hl : O.length ≤ 5000) (hop : p.op = 1) (hw1 : p.w1 = s.next) (hov : s.over = false) (hda : p.da = .slice none 0 0) (hds : s.dis = true) (hfree : fidx (isC p.tg) (O.map Cm.v) 0 = -1) (hu : p.all32) :
    Calls Try.prog 10 #[.pointer (some ⟨S, 0, none⟩), .agg p.v] w fun e w' => ∃ gv tv gs ts s3, e = .returned (.tuple #[gv, tv]) ∧ DiPost S s O T w' s3 gs ts ∧ St S w w' s s3 ∧ Gots w w' S s3 42 14 gv gs ∧ Gots w w' S s3 60 8 tv ts := by
  refine in_turn S s (O.map Cm.v) T p none 0 0 [] (DiPost S s O T) w h (.inr (.inl hop)) hw1 hov hda ⟨by rw [hda]; exact ⟨none, 0, rfl, fun _ => ⟨rfl, rfl⟩, Nat.le_refl _, .inl rfl⟩, fun _ g hg => by rw [hda] at hg; simp [Value.ownBlock] at hg⟩ (by simp) ?_ ?_ ?_
  · rintro W W' s3 gs ts hb ⟨h1, v1, d, zs, e1, e2, e3, e4⟩
    exact ⟨h1, v1, d, zs, e1, e2.below hb, e3, e4.below hb⟩
  · rintro W s3 gs ts ⟨h1, v1, d, zs, e1, e2, _⟩
    exact ⟨by rw [e1]; exact hov, _, _, e2⟩
  · intro W da' v' hS hSt hD
    obtain ⟨da, dc, hdv⟩ := rd_len hD.rd
    refine (do_beg S (s.step v') [] (O.map Cm.v) T { p with da := da' } (fun v u W2 w' => u = .slice none 0 0 ∧ ∃ d zs, Ss w' S { (s.step v') with stat := (s.stat + 1) % 4294967296 } [] (O.map Cm.v) T ∧ St S W2 w' (s.step v') { (s.step v') with stat := (s.stat + 1) % 4294967296 } ∧ Ou W2 w' S { (s.step v') with stat := (s.stat + 1) % 4294967296 } v 42 ((rej 4 d).num (s.step v')).v ∧ Dt (({ (s.step v') with stat := (s.stat + 1) % 4294967296 } : Se).X S) w' d zs) W hS hop (fun W2 hb => ?_)).mono ?_
    · refine (begin_dis S (s.step v') [] O T { p with da := da' } da _ dc W2 (hS.below hb) hl hdv (by simp) hds hfree hu ⟨Int.emod_nonneg _ (by decide), Int.emod_lt_of_pos _ (by decide)⟩ _ rfl).mono ?_
      rintro e w' ⟨v, d, zs, rfl, h1, h2, h3, h4⟩
      exact ⟨v, _, rfl, rfl, d, zs, h1, h2, h3, h4⟩
    · rintro e w' ⟨v, u, W2, rfl, hb, rfl, d, zs, h1, h2, h3, h4⟩
      obtain ⟨ca, cc, hcv⟩ := rd_len h4.rd
      exact ⟨v, _, [_], [], _, rfl, ⟨rfl, v', d, zs, rfl, h1, rfl, h4⟩, (St.of_below _ hb).trans h2, h3.got (Pd.one (p := (rej 4 d).num (s.step v')) hcv), .inl ⟨rfl, rfl⟩⟩
end Go.Proofs.Ytdplndlmdhpfaab
