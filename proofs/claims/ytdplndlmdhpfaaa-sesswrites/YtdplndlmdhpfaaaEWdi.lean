/-
  sess: In of a command that writes and has data.
-/
import Derived.Test.YtdplndlmdhpfaaaEWdb
import Derived.Test.YtdplndlmdhpfaaaEWrt
namespace Go.Proofs.Ytdplndlmdhpfaaa
open Go.RowKit
set_option linter.unusedVariables false
set_option linter.unusedSimpArgs false

/-- The write that a command is. -/
def wr0 (p : Pd) (cv ov : Value) : Wr := { t := p.tk cv ov, tag := 0, en := 0, tm := 0 }
structure WdAsk (base S : Nat) (s : Se) (O : List Cm) (p : Pd) (n : Nat) (z : Int) (ds : List Int) (W : World) (s3 : Se) (gs ts : List (Array Value)) : Prop where
  ne : ¬ (n : Int) = p.w0
  ts : ts = []
  ex : ∃ v1 v2 v3 cv ov, s3 = s.wr v1 v2 v3 ∧ Ss W S s3 [] ((O ++ [p.cm]).map Cm.v) [((wr0 p cv ov).ask s n z).v] ∧ gs = [((r2t (wr0 p cv ov) s n z).num (s.step v1)).v] ∧ Od (s3.X S) W ov ds ∧ (∀ g, ov.ownBlock = some g → base ≤ g) ∧ ∃ ca cn cc, cv = .slice ca cn cc
structure WdAll (S : Nat) (s : Se) (O : List Cm) (p : Pd) (n : Nat) (ds : List Int) (W : World) (s3 : Se) (gs ts : List (Array Value)) : Prop where
  eq : (n : Int) = p.w0
  gs : gs = []
  ex : ∃ v1 v2 cv ov, s3 = s.rd v1 v2 ∧ Ss W S s3 [] ((O ++ [p.cm]).map Cm.v) [] ∧ ts = [(p.tk cv ov).v] ∧ Od (s3.X S) W ov ds

theorem in_wd (S : Nat) (s : Se) (O : List Cm) (p : Pd) (a : Option Addr) (n c : Nat) (ds : List Int) (z : Int) (w : World) (h : Ss w S s [] (O.map Cm.v) []) (hl : O.length ≤ 5000) (hop : p.op = 1) (hwn : p.w1 = s.next) (hov : s.over = false) (hda : p.da = .slice a n c) (hD : Dt (s.X S) w p.da ds) (hnn : ds.length = n) (hds : s.dis = false) (hfree : fidx (isC p.tg) (O.map Cm.v) 0 = -1) (hfl : p.fl = 161) (hu : p.u32) (hw1 : (n : Int) ≤ p.w0 ∧ p.w0 ≤ 5000) (him : s.imm = true) (hfi : (n : Int) ≤ s.fi) (hz : z = min (max s.bu 1) (p.w0 - n)) (hz0 : 0 ≤ z ∧ z ≤ 1048576) :
    Calls Try.prog 11 #[.pointer (some ⟨S, 0, none⟩), .agg p.v] w fun e w' => ∃ gv tv gs ts s3, e = .returned (.tuple #[gv, tv]) ∧ (WdAsk w.heap.size S s O p n z ds w' s3 gs ts ∨ WdAll S s O p n ds w' s3 gs ts) ∧ St S w w' s s3 ∧ Gots w w' S s3 37 14 gv gs ∧ Gots w w' S s3 41 8 tv ts := by
  refine in_turn S s (O.map Cm.v) [] p a n c ds (fun W s3 gs ts => WdAsk w.heap.size S s O p n z ds W s3 gs ts ∨ WdAll S s O p n ds W s3 gs ts) w h (.inr (.inl hop)) hwn hov hda hD (by omega) ?_ ?_ ?_
  · rintro W W' s3 gs ts hb (⟨h0, h1, v1, v2, v3, cv, ov, e1, e2, e3, e4, e5, e6⟩ | ⟨h0, h1, v1, v2, cv, ov, e1, e2, e3, e4⟩)
    · exact .inl ⟨h0, h1, v1, v2, v3, cv, ov, e1, e2.below hb, e3, e4.below hb, e5, e6⟩
    · exact .inr ⟨h0, h1, v1, v2, cv, ov, e1, e2.below hb, e3, e4.below hb⟩
  · rintro W s3 gs ts (⟨h0, h1, v1, v2, v3, cv, ov, e1, e2, _⟩ | ⟨h0, h1, v1, v2, cv, ov, e1, e2, _⟩)
    · exact ⟨by rw [e1]; exact hov, _, _, e2⟩
    · exact ⟨by rw [e1]; exact hov, _, _, e2⟩
  · intro W da' v' hS hSt hD'
    obtain ⟨da, dc, hdv⟩ := rd_len hD'.rd
    rw [hnn] at hdv
    refine (do_beg S (s.step v') [] (O.map Cm.v) [] { p with da := da' } (fun v u W2 w' => (¬ (n : Int) = p.w0 ∧ u = .slice none 0 0 ∧ ∃ v2 v3 cv ov, Ss w' S (s.wr v' v2 v3) [] ((O ++ [p.cm]).map Cm.v) [((wr0 p cv ov).ask s n z).v] ∧ St S W2 w' (s.step v') (s.wr v' v2 v3) ∧ Ou W2 w' S (s.wr v' v2 v3) v 37 ((r2t (wr0 p cv ov) s n z).num (s.step v')).v ∧ Od ((s.wr v' v2 v3).X S) w' ov ds ∧ (∀ g, ov.ownBlock = some g → W2.heap.size ≤ g) ∧ ∃ ca cn cc, cv = .slice ca cn cc) ∨ ((n : Int) = p.w0 ∧ v = .slice none 0 0 ∧ ∃ v2 cv ov, Ss w' S (s.rd v' v2) [] ((O ++ [p.cm]).map Cm.v) [] ∧ St S W2 w' (s.step v') (s.rd v' v2) ∧ Ou W2 w' S (s.rd v' v2) u 41 (p.tk cv ov).v ∧ Od ((s.rd v' v2).X S) w' ov ds ∧ ∃ ca cn cc, cv = .slice ca cn cc)) W hS hop (fun W2 hb => ?_)).mono ?_
    · refine (begin_wd S (s.step v') [] O [] { p with da := da' } da n dc ds W2 (hS.below hb) hl hdv (hD'.below hb) hnn hds hfree hfl hu hw1 him hfi (by simp) z hz hz0 ⟨Int.emod_nonneg _ (by decide), Int.emod_lt_of_pos _ (by decide)⟩).mono ?_
      rintro e w' ⟨v, u, rfl, (⟨h0, rfl, v2, v3, cv, ov, h1, h2, h3, h4, h5, h6⟩ | ⟨h0, rfl, v2, cv, ov, h1, h2, h3, h4, h5⟩)⟩
      · exact ⟨v, _, rfl, .inl ⟨h0, rfl, v2, v3, cv, ov, h1, h2, h3, h4, h5, h6⟩⟩
      · exact ⟨_, u, rfl, .inr ⟨h0, rfl, v2, cv, ov, h1, h2, h3, h4, h5⟩⟩
    · rintro e w' ⟨v, u, W2, rfl, hb, (⟨h0, rfl, v2, v3, cv, ov, h1, h2, h3, h4, h5, h6⟩ | ⟨h0, rfl, v2, cv, ov, h1, h2, h3, h4, ca, cn, cc, h5⟩)⟩
      · exact ⟨v, _, [_], [], s.wr v' v2 v3, rfl, .inl ⟨h0, rfl, v', v2, v3, cv, ov, rfl, h1, rfl, h4, fun g hg => Nat.le_trans (Nat.le_trans hSt.fr.size hb.size) (h5 g hg), h6⟩, (St.of_below _ hb).trans h2, h3.got (Pd.one (p := (r2t (wr0 p cv ov) s n z).num (s.step v')) rfl), .inl ⟨rfl, rfl⟩⟩
      · obtain ⟨oa, oc, ho⟩ := rd_len h4.rd
        exact ⟨_, u, [], _, s.rd v' v2, rfl, .inr ⟨h0, rfl, v', v2, cv, ov, rfl, h1, rfl, h4⟩, (St.of_below _ hb).trans h2, .inl ⟨rfl, rfl⟩, h3.got (Tk.one (t := p.tk cv ov) h5 ho)⟩
end Go.Proofs.Ytdplndlmdhpfaaa
