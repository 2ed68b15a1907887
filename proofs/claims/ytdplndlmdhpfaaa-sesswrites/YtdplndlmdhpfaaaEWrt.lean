/-
  sess: In of a command that writes.
-/
import Derived.Test.YtdplndlmdhpfaaaEFgt
namespace Go.Proofs.Ytdplndlmdhpfaaa
open Go.RowKit
set_option linter.unusedVariables false
set_option linter.unusedSimpArgs false

def Se.wr (s : Se) (v1 v2 v3 : Value) : Se := { s with held := v1, next := (s.next + 1) % 4294967296, opn := v2, asked := (s.asked + 1) % 4294967296, wts := v3 }
structure WrPost (S : Nat) (s : Se) (O : List Cm) (p : Pd) (z : Int) (W : World) (s3 : Se) (gs ts : List (Array Value)) : Prop where
  ts : ts = []
  ex : ∃ v1 v2 v3 cv ov, s3 = s.wr v1 v2 v3 ∧ Ss W S s3 [] ((O ++ [p.cm]).map Cm.v) [(({ t := p.tk cv ov, tag := 0, en := 0, tm := 0 } : Wr).ask s 0 z).v] ∧ gs = [((r2t { t := p.tk cv ov, tag := 0, en := 0, tm := 0 } s 0 z).num (s.step v1)).v]

theorem in_wr (S : Nat) (s : Se) (O : List Cm) (p : Pd) (z : Int) (w : World) (h : Ss w S s [] (O.map Cm.v) []) (hl : O.length ≤ 5000) (hop : p.op = 1) (hw1 : p.w1 = s.next) (hov : s.over = false) (hda : p.da = .slice none 0 0) (hds : s.dis = false) (hfree : fidx (isC p.tg) (O.map Cm.v) 0 = -1) (hfl : p.fl = 161) (hu : p.u32) (hw0 : 1 ≤ p.w0 ∧ p.w0 ≤ 1048576) (hz : z = min (max s.bu 1) (p.w0 - 0)) (hz0 : 0 ≤ z ∧ z ≤ 1048576) :
    Calls Try.prog 11 #[.pointer (some ⟨S, 0, none⟩), .agg p.v] w fun e w' => ∃ gv tv gs ts s3, e = .returned (.tuple #[gv, tv]) ∧ WrPost S s O p z w' s3 gs ts ∧ St S w w' s s3 ∧ Gots w w' S s3 37 14 gv gs ∧ Gots w w' S s3 41 8 tv ts := by
  refine in_turn S s (O.map Cm.v) [] p none 0 0 [] (WrPost S s O p z) w h (.inr (.inl hop)) hw1 hov hda ⟨by rw [hda]; exact ⟨none, 0, rfl, fun _ => ⟨rfl, rfl⟩, Nat.le_refl _, .inl rfl⟩, fun h0 => absurd h0 (by simp)⟩ (by simp) ?_ ?_ ?_
  · rintro W W' s3 gs ts hb ⟨h1, v1, v2, v3, cv, ov, e1, e2, e3⟩
    exact ⟨h1, v1, v2, v3, cv, ov, e1, e2.below hb, e3⟩
  · rintro W s3 gs ts ⟨h1, v1, v2, v3, cv, ov, e1, e2, _⟩
    exact ⟨by rw [e1]; exact hov, _, _, e2⟩
  · intro W da' v' hS hSt hD
    obtain ⟨da, dc, hdv⟩ := rd_len hD.rd
    refine (do_beg S (s.step v') [] (O.map Cm.v) [] { p with da := da' } (fun v u W2 w' => u = .slice none 0 0 ∧ ∃ v2 v3 cv ov, Ss w' S (s.wr v' v2 v3) [] ((O ++ [p.cm]).map Cm.v) [(({ t := p.tk cv ov, tag := 0, en := 0, tm := 0 } : Wr).ask s 0 z).v] ∧ St S W2 w' (s.step v') (s.wr v' v2 v3) ∧ Ou W2 w' S (s.wr v' v2 v3) v 37 ((r2t { t := p.tk cv ov, tag := 0, en := 0, tm := 0 } s 0 z).num (s.step v')).v) W hS hop (fun W2 hb => ?_)).mono ?_
    · refine (begin_wr S (s.step v') [] O [] { p with da := da' } da dc W2 (hS.below hb) hl hdv (hD.below hb) hds hfree hfl hu hw0 (by simp) z hz hz0 ⟨Int.emod_nonneg _ (by decide), Int.emod_lt_of_pos _ (by decide)⟩).mono ?_
      rintro e w' ⟨v, v2, v3, cv, ov, rfl, h1, h2, h3⟩
      exact ⟨v, _, rfl, rfl, v2, v3, cv, ov, h1, h2, h3⟩
    · rintro e w' ⟨v, u, W2, rfl, hb, rfl, v2, v3, cv, ov, h1, h2, h3⟩
      exact ⟨v, _, [_], [], s.wr v' v2 v3, rfl, ⟨rfl, v', v2, v3, cv, ov, rfl, h1, rfl⟩, (St.of_below _ hb).trans h2, h3.got (Pd.one (p := (r2t { t := p.tk cv ov, tag := 0, en := 0, tm := 0 } s 0 z).num (s.step v')) rfl), .inl ⟨rfl, rfl⟩⟩
end Go.Proofs.Ytdplndlmdhpfaaa
