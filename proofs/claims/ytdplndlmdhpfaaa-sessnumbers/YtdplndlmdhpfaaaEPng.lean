/-
  sess: In of a ping, in its turn and at once.
-/
import Derived.Test.YtdplndlmdhpfaaaEAwk
namespace Go.Proofs.Ytdplndlmdhpfaaa
open Go.RowKit
set_option linter.unusedVariables false
set_option linter.unusedSimpArgs false

def Se.ping (s : Se) (v1 : Value) (t : Int) : Se := { s with held := v1, next := (s.next + 1) % 4294967296, stat := t }
/-- Behind a ping in its turn. -/
structure PgPost (S : Nat) (s : Se) (O T : List (Array Value)) (p : Pd) (ds : List Int) (W : World) (s3 : Se) (gs ts : List (Array Value)) : Prop where
  ts : ts = []
  ex : ∃ v1 t, s3 = s.ping v1 t ∧ Ss W S s3 [] O T ∧ ((p.tg = 4294967295 ∧ gs = []) ∨ ∃ d, ¬ p.tg = 4294967295 ∧ gs = [((pong p d).num (s.step v1)).v] ∧ Dt (s3.X S) W d ds)

theorem nop_both (S : Nat) (s : Se) (H O T : List (Array Value)) (p : Pd) (a : Option Addr) (n c : Nat) (ds : List Int) (w : World) (h : Ss w S s H O T) (hda : p.da = .slice a n c) (hD : Dt (s.X S) w p.da ds) (hdl : ds.length ≤ 100000) (hn : 0 ≤ s.next ∧ s.next < 4294967296) :
    Calls Try.prog 40 #[.pointer (some ⟨S, 0, none⟩), .agg p.v] w fun e w' => ∃ v, e = .returned v ∧ ∃ t, Ss w' S { s with stat := t } H O T ∧ St S w w' s { s with stat := t } ∧ ((p.tg = 4294967295 ∧ v = .slice none 0 0) ∨ ∃ d, ¬ p.tg = 4294967295 ∧ Ou w w' S { s with stat := t } v 37 ((pong p d).num s).v ∧ Dt (({ s with stat := t } : Se).X S) w' d ds) := by
  by_cases ht : p.tg = 4294967295
  · refine (nop_none S s H O T p w h ht).mono ?_
    rintro e w' ⟨rfl, h1, h2⟩
    exact ⟨_, rfl, s.stat, h1, h2, .inl ⟨ht, rfl⟩⟩
  · refine (nop_any S s H O T p a n c ds w h hda hD hdl ht hn _ rfl).mono ?_
    rintro e w' ⟨v, d, rfl, h1, h2, h3, h4⟩
    exact ⟨v, rfl, _, h1, h2, .inr ⟨d, ht, h3, h4⟩⟩

theorem in_ping (S : Nat) (s : Se) (O T : List (Array Value)) (p : Pd) (a : Option Addr) (n c : Nat) (ds : List Int) (w : World) (h : Ss w S s [] O T) (hop : p.op = 0) (hw1 : p.w1 = s.next) (hov : s.over = false) (hda : p.da = .slice a n c) (hD : Dt (s.X S) w p.da ds) (hdl : ds.length ≤ 100000) :
    Calls Try.prog 11 #[.pointer (some ⟨S, 0, none⟩), .agg p.v] w fun e w' => ∃ gv tv gs ts s3, e = .returned (.tuple #[gv, tv]) ∧ PgPost S s O T p ds w' s3 gs ts ∧ St S w w' s s3 ∧ Gots w w' S s3 37 14 gv gs ∧ Gots w w' S s3 41 8 tv ts := by
  refine in_turn S s O T p a n c ds (PgPost S s O T p ds) w h (.inl hop) hw1 hov hda hD hdl ?_ ?_ ?_
  · rintro W W' s3 gs ts hb ⟨h1, v1, t, e1, e2, e3⟩
    refine ⟨h1, v1, t, e1, e2.below hb, ?_⟩
    rcases e3 with e3 | ⟨d, f1, f2, f3⟩
    · exact .inl e3
    · exact .inr ⟨d, f1, f2, f3.below hb⟩
  · rintro W s3 gs ts ⟨h1, v1, t, e1, e2, _⟩
    exact ⟨by rw [e1]; exact hov, _, _, e2⟩
  · intro W da' v' hS hSt hD'
    obtain ⟨da, dc, hdv⟩ := rd_len hD'.rd
    refine (do_nop S (s.step v') [] O T { p with da := da' } (fun v W2 w' => ∃ t, Ss w' S { (s.step v') with stat := t } [] O T ∧ St S W2 w' (s.step v') { (s.step v') with stat := t } ∧ ((p.tg = 4294967295 ∧ v = .slice none 0 0) ∨ ∃ d, ¬ p.tg = 4294967295 ∧ Ou W2 w' S { (s.step v') with stat := t } v 37 ((pong p d).num (s.step v')).v ∧ Dt (({ (s.step v') with stat := t } : Se).X S) w' d ds)) W hS (.inl hop) (fun W2 hb => ?_)).mono ?_
    · exact nop_both S (s.step v') [] O T { p with da := da' } da _ dc ds W2 (hS.below hb) hdv (hD'.below hb) hdl ⟨Int.emod_nonneg _ (by decide), Int.emod_lt_of_pos _ (by decide)⟩
    · rintro e w' ⟨v, W2, rfl, hb, t, h1, h2, h3⟩
      rcases h3 with ⟨ht, rfl⟩ | ⟨d, ht, ho, hd⟩
      · exact ⟨_, _, [], [], s.ping v' t, rfl, ⟨rfl, v', t, rfl, h1, .inl ⟨ht, rfl⟩⟩, (St.of_below _ hb).trans h2, .inl ⟨rfl, rfl⟩, .inl ⟨rfl, rfl⟩⟩
      · obtain ⟨xa, xc, hxd⟩ := rd_len hd.rd
        exact ⟨v, _, [_], [], s.ping v' t, rfl, ⟨rfl, v', t, rfl, h1, .inr ⟨d, ht, rfl, hd⟩⟩, (St.of_below _ hb).trans h2, ho.got (Pd.one (p := (pong p d).num (s.step v')) hxd), .inl ⟨rfl, rfl⟩⟩

set_option maxRecDepth 100000 in
set_option maxHeartbeats 4000000 in
theorem in_now (S : Nat) (s : Se) (H O T : List (Array Value)) (p : Pd) (R : Value → Value → World → World → Prop) (w : World) (h : Ss w S s H O T) (hop : p.op = 64 ∨ p.op = 68 ∨ p.op = 70) (hov : s.over = false)
    (HD : ∀ W, Below w.heap.size w W → Calls Try.prog 24 #[.pointer (some ⟨S, 0, none⟩), .agg p.v] W fun e w' => ∃ v u, e = .returned (.tuple #[v, u]) ∧ R v u W w') :
    Calls Try.prog 11 #[.pointer (some ⟨S, 0, none⟩), .agg p.v] w fun e w' => ∃ v u W, e = .returned (.tuple #[v, u]) ∧ Below w.heap.size w W ∧ R v u W w' := by
  have k0 := Kpt.mk (Lo.start h)
  have hO : Kpt (∀ W : World, Calls Try.prog 20 #[.agg p.v] W fun e w' => e = .returned (.int .u8 (p.op - 64)) ∧ Below W.heap.size W w') := ⟨fun W => by
    have := operation_any p W (by rcases hop with h | h | h <;> simp [Pd.opk, h])
    rwa [show p.op % 64 = p.op - 64 from by rcases hop with h | h | h <;> rw [h] <;> rfl] at this⟩
  have hI : Kpt (∀ W : World, Calls Try.prog 22 #[.int .u8 (p.op - 64)] W fun e w' => e = .returned (.bool true) ∧ w' = W) := ⟨fun W => by
    have := isKnown_any (p.op - 64) W (by rcases hop with h | h | h <;> simp [h])
    rwa [show decide (p.op - 64 ≤ 6) = true from by rcases hop with h | h | h <;> rw [h] <;> rfl] at this⟩
  replace HD := Kpt.mk HD
  replace hov := Kpt.mk hov
  have hbw : Kpt (∀ W L, Lo w W S s s H O T L → Below w.heap.size w W → True) := ⟨fun _ _ _ _ => trivial⟩
  clear h
  rcases hop with hop | hop | hop
  all_goals
    rw [hop] at hO hI
    go_enter Try.func11, Try.ntmps11
    go_wp2_with (first
      | (go_at_call 20; go_must (refine (hO.out _).mono ?_; rintro e w2 ⟨rfl, hb2⟩; have k2 := Kpt.mk (k1.out.below hb2); have c0 := k2.out.b0.cells 0 (by simp [Pd.v]); simp [Pd.v] at c0; rw [hop] at c0; have hbw2 := Kpt.mk (hbw1.out.trans (hb2.mono hbw1.out.size)); clear hb2))
      | (go_at_call 22; go_must (refine (hI.out _).mono ?_; rintro e wx ⟨rfl, hwx⟩; rw [hwx]; clear hwx))
      | (go_at_call 24; go_must (refine (HD.out _ hbw2.out).mono ?_; rintro e w3 ⟨v, u, rfl, hR⟩; replace hR := Kpt.mk hR))
      | (refine (?_ : wpList _ _ _ (Oper.mk _ (Op.load 37 _) _ _ _ _ :: _) _ _); have m := k2; go_must (refine wpList_load_bx rfl 37 _ rfl P p.v rfl k2.out.b0 _ Try.underlying37 rfl szPdu ?_; clear m))
      | (refine (?_ : wpList _ _ _ (Oper.mk _ (Op.load 37 _) _ _ _ _ :: _) _ _); go_must (refine wpList_load_bx rfl 37 _ rfl P p.v rfl k1.out.b0 _ Try.underlying37 rfl szPdu ?_; have hm := hov))
      | (refine (?_ : wpList _ _ _ (Oper.mk _ (Op.box 37 _) _ _ _ _ :: _) _ _); go_must (refine wpList_box rfl 37 _ rfl p.v rfl ?_; intro P w1 hP hB hb _; have k1 := Kpt.mk (k0.out.add hb hP hB); have hbw1 := Kpt.mk hb; have c17 := (k1.out.ss.cell 17 (by omega)).1; simp only [Se.v, List.getElem?_toArray, List.getElem?_cons_succ, List.getElem?_cons_zero] at c17; rw [hov.out] at c17; clear hb hP hB)))
    go_ret2
    exact ⟨v, u, w2, rfl, hbw2.out, hR.out⟩
end Go.Proofs.Ytdplndlmdhpfaaa
