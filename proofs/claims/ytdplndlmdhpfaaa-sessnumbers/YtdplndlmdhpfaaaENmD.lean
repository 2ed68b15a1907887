/-
  sess: In of what is answered at once.
-/
import Derived.Test.YtdplndlmdhpfaaaENmC
import Derived.Test.YtdplndlmdhpfaaaEWin
namespace Go.Proofs.Ytdplndlmdhpfaaa
open Go.RowKit
set_option linter.unusedVariables false
set_option linter.unusedSimpArgs false

def Se.one (s : Se) : Se := { s with stat := (s.stat + 1) % 4294967296 }
/-- A ping that is answered at once. -/
theorem in_k0 (S : Nat) (s : Se) (p : Pd) (a : Option Addr) (n c : Nat) (ds : List Int) (w : World) (h : Ss w S s [] [] []) (hop : p.op = 64) (hov : s.over = false) (hda : p.da = .slice a n c) (hD : Dt (s.X S) w p.da ds) (hdl : ds.length ≤ 100000) (ht : ¬ p.tg = 4294967295) (hn : 0 ≤ s.next ∧ s.next < 4294967296) :
    Calls Try.prog 11 #[.pointer (some ⟨S, 0, none⟩), .agg p.v] w fun e w' => ∃ gv tv, e = .returned (.tuple #[gv, tv]) ∧ NmOne S s s.one w w' gv tv := by
  refine (in_now S s [] [] [] p (fun v u W w' => u = .slice none 0 0 ∧ Ss w' S s.one [] [] [] ∧ St S W w' s s.one ∧ ∃ d, Ou W w' S s.one v 37 ((pong p d).num s).v ∧ ∃ zs, RdAt w' d zs) w h (.inl hop) hov (fun W hb => ?_)).mono ?_
  · refine (do_nop S s [] [] [] p (fun v W w' => Ss w' S s.one [] [] [] ∧ St S W w' s s.one ∧ ∃ d, Ou W w' S s.one v 37 ((pong p d).num s).v ∧ ∃ zs, RdAt w' d zs) W (h.below hb) (.inr hop) (fun W2 hb2 => ?_)).mono ?_
    · refine (nop_any S s [] [] [] p a n c ds W2 ((h.below hb).below hb2) hda ((hD.below hb).below hb2) hdl ht hn s.one rfl).mono ?_
      rintro e w' ⟨v, d, rfl, h1, h2, h3, h4⟩
      exact ⟨v, rfl, h1, h2, d, h3, ds, h4.rd⟩
    · rintro e w' ⟨v, W2, rfl, hb2, h1, h2, d, h3, h4⟩
      obtain ⟨b, q1, q2, q3⟩ := h3.at_
      exact ⟨v, _, rfl, rfl, h1, (St.of_below s hb2).trans h2, d, ⟨b, q1, Nat.le_trans hb2.size q2, q3⟩, h4⟩
  · rintro e w' ⟨v, u, W, rfl, hb, rfl, h1, h2, d, h3, zs, h4⟩
    obtain ⟨da, dc, hd⟩ := rd_len h4
    obtain ⟨b, q1, q2⟩ := ou_bx (q := (pong p d).num s) h3 hd
    exact ⟨v, _, rfl, h1, (St.of_below s hb).trans h2, rfl, b, _, q1, q2, rfl, rfl, rfl⟩
/-- A text. -/
theorem in_k1 (S : Nat) (s : Se) (p : Pd) (a : Option Addr) (c : Nat) (w : World) (h : Ss w S s [] [] []) (hop : p.op = 68) (hov : s.over = false) (hda : p.da = .slice a 4 c) (hD : Dt (s.X S) w p.da [97, 61, 98, 0]) (hc : c ≤ maxLen) (hn : 0 ≤ s.next ∧ s.next < 4294967296) :
    Calls Try.prog 11 #[.pointer (some ⟨S, 0, none⟩), .agg p.v] w fun e w' => ∃ gv tv, e = .returned (.tuple #[gv, tv]) ∧ NmOne S s s.one w w' gv tv := by
  refine (in_now S s [] [] [] p (fun v u W w' => u = .slice none 0 0 ∧ Ss w' S s.one [] [] [] ∧ St S W w' s s.one ∧ ∃ d a n c, d = .slice a n c ∧ Ou W w' S s.one v 37 ((txtP p d).num s).v) w h (.inr (.inl hop)) hov (fun W hb => ?_)).mono ?_
  · refine (do_text S s [] [] [] p a c W (h.below hb) hop hda (hD.below hb) hc hn s.one rfl).mono ?_
    rintro e w' ⟨v, d, ⟨a', n', c', rfl⟩, rfl, h1, h2, h3⟩
    exact ⟨v, _, rfl, rfl, h1, h2, _, a', n', c', rfl, h3⟩
  · rintro e w' ⟨v, u, W, rfl, hb, rfl, h1, h2, d, a', n', c', hd, h3⟩
    obtain ⟨b, q1, q2⟩ := ou_bx (q := (txtP p d).num s) h3 hd
    exact ⟨v, _, rfl, h1, (St.of_below s hb).trans h2, rfl, b, _, q1, q2, rfl, rfl, rfl⟩
/-- What is refused. -/
theorem in_k2 (S : Nat) (s : Se) (p : Pd) (a : Option Addr) (n c : Nat) (w : World) (h : Ss w S s [] [] []) (hop : p.op = 62) (hov : s.over = false) (hda : p.da = .slice a n c) (hnn : n ≤ 100000) (hu : p.all32) (hn : 0 ≤ s.next ∧ s.next < 4294967296) :
    Calls Try.prog 11 #[.pointer (some ⟨S, 0, none⟩), .agg p.v] w fun e w' => ∃ gv tv, e = .returned (.tuple #[gv, tv]) ∧ NmOne S s s.one w w' gv tv := by
  refine (in_ref S s [] [] [] p a n c w h (.inr hop) hov hda hnn hu hn s.one rfl).mono ?_
  rintro e w' ⟨v, d, zs, rfl, h1, h2, h3, h4, _⟩
  obtain ⟨da, dc, hd⟩ := rd_len h4.rd
  obtain ⟨b, q1, q2⟩ := ou_bx (q := (rej 5 d).num s) h3 hd
  exact ⟨v, _, rfl, h1, h2, rfl, b, _, q1, q2, rfl, rfl, rfl⟩
/-- A logout. -/
theorem in_k4 (S : Nat) (s : Se) (p : Pd) (w : World) (h : Ss w S s [] [] []) (hop : p.op = 70) (hov : s.over = false) (hn : 0 ≤ s.next ∧ s.next < 4294967296) :
    Calls Try.prog 11 #[.pointer (some ⟨S, 0, none⟩), .agg p.v] w fun e w' => ∃ gv tv s', e = .returned (.tuple #[gv, tv]) ∧ s'.over = true ∧ Ss w' S s' [] [] [] ∧ St S w w' s s' ∧ ∃ b q, gv = .slice (some ⟨b, 0, none⟩) 1 1 ∧ Bx w' b (Pd.v q) ∧ q.op = 38 := by
  refine (in_now S s [] [] [] p (fun v u W w' => ∃ s', s'.over = true ∧ Ss w' S s' [] [] [] ∧ St S W w' s s' ∧ Ou W w' S s' v 37 ((outP p).num s).v) w h (.inr (.inr hop)) hov (fun W hb => ?_)).mono ?_
  · refine (do_out S s [] [] [] p W (h.below hb) hop hn _ rfl).mono ?_
    rintro e w' ⟨v, rfl, h1, h2, h3⟩
    exact ⟨v, _, rfl, _, rfl, h1, h2, h3⟩
  · rintro e w' ⟨v, u, W, rfl, hb, s', h0, h1, h2, h3⟩
    obtain ⟨b, q1, q2⟩ := ou_bx (q := (outP p).num s) h3 rfl
    exact ⟨v, u, s', rfl, h0, h1, (St.of_below s hb).trans h2, b, _, q1, q2, rfl⟩
end Go.Proofs.Ytdplndlmdhpfaaa
