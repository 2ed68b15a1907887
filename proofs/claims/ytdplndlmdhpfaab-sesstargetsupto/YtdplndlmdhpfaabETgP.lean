/-
  sess: what SessTargets' calls come to.
-/
import Derived.Test.YtdplndlmdhpfaabEKyc
import Derived.Test.YtdplndlmdhpfaabEDis
import Derived.Test.YtdplndlmdhpfaabETxg
namespace Go.Proofs.Ytdplndlmdhpfaab
open Go.RowKit
set_option linter.unusedVariables false
set_option linter.unusedSimpArgs false

/-- A plain session's parameters, for discovery or not. -/
def plD (d : Bool) : Se := { plainS with dis := d }
def tgP (q : Value) : Pd := { zP with op := 4, tg := 1, w1 := 1, da := q }
/-- What the first PDU comes to. -/
structure TgA (S : Nat) (d : Bool) (L : List Int) (s : Se) (w w' : World) (gv : Value) : Prop where
  ex : ∃ s3, Ss w' S s3 [] [] [] ∧ St S w w' s s3 ∧ s3.next = 2 ∧ s3.over = false ∧ s3.dis = d
  gv : ∃ g gc v, gv = .slice (some ⟨g, 0, none⟩) 1 gc ∧ 1 ≤ gc ∧ gc ≤ 9223372036854775807 ∧ w'.cell? ⟨g, 13, none⟩ = some v ∧ RdAt w' v L
theorem in_tg (S : Nat) (d : Bool) (tg : Value) (a : Option Addr) (n c : Nat) (ds L : List Int) (w : World) (h : Ss w S ((plD d).newT 1 tg) [] [] []) (hD : Dt (((plD d).newT 1 tg).X S) w (.slice a n c) ds) (hdl : ds.length ≤ 100000)
    (hK : ∀ W v1 a' c', Below w.heap.size w W ∨ True → St S w W ((plD d).newT 1 tg) (((plD d).newT 1 tg).step v1) → Ss W S (((plD d).newT 1 tg).step v1) [] [] [] → RdAt W (.slice a' n c') ds → c' ≤ maxLen → Calls Try.prog 41 #[.pointer (some ⟨S, 0, none⟩), .slice a' n c'] W fun e w' => ∃ v N, e = .returned v ∧ w'.ownsRow W.heap.size 5 1 v N (cels L) ∧ Below W.heap.size W w') (hL : L.length ≤ 140737488355328) :
    Calls Try.prog 10 #[.pointer (some ⟨S, 0, none⟩), .agg (tgP (.slice a n c)).v] w fun e w' => ∃ gv tv, e = .returned (.tuple #[gv, tv]) ∧ TgA S d L ((plD d).newT 1 tg) w w' gv := by
  have hn : ds.length = n := by obtain ⟨a', c', hv, _⟩ := hD.rd; simp only [Value.slice.injEq] at hv; exact hv.2.1.symm
  refine (in_txg S ((plD d).newT 1 tg) (tgP (.slice a n c)) a n c ds L w h rfl rfl rfl rfl hD hdl ?_).mono ?_
  · intro W v1 a' n' c' h0 h1 h2 h3
    have hn' : ds.length = n' := by obtain ⟨_, _, hv, _⟩ := h3.rd; simp only [Value.slice.injEq] at hv; exact hv.2.1.symm
    have e : n' = n := by omega
    subst e
    refine (hK W v1 a' c' (.inr trivial) h1 h2 h3.rd h0).mono ?_
    · rintro e w' ⟨v, N, rfl, ho, hb⟩
      obtain ⟨⟨va, vc, rfl⟩⟩ := own_slice ho
      have hLN : L.length = N := by have := ho.1; simpa using this
      exact ⟨va, N, vc, rfl, hb, own_row ho hLN, fun _ g hg => ⟨(World.ownsRow.lt ho g hg).2, fun e => by have := (World.ownsRow.lt ho g hg).1; have := h2.lt g e; omega⟩⟩
  · rintro e w' ⟨gv, tv, gs, ts, s3, rfl, ⟨rfl, v1, dv, rfl, hS, rfl, hd⟩, hst, hG, hT⟩
    obtain ⟨g, gc, hv, hgl, hgc, hcl⟩ := hG.own.one
    obtain ⟨_, gc2, hv2, hgs⟩ := hG.own.shape
    have hcm : gc ≤ maxLen := by
      rw [hv] at hv2
      simp only [Value.slice.injEq] at hv2
      obtain ⟨rfl, _, rfl⟩ := hv2
      rcases hgs with ⟨h0, _⟩ | ⟨_, _, _, _, h4, _⟩
      · cases h0
      · exact h4
    exact ⟨gv, tv, rfl, ⟨_, hS, hst, rfl, rfl, rfl⟩, g, gc, dv, hv, hgc, by unfold maxLen at hcm; omega, hcl 13 _ rfl, hd.rd⟩

theorem in_tgd (S : Nat) (s : Se) (w : World) (h : Ss w S s [] [] []) (hnx : s.next = 2) (hov : s.over = false) (hds : s.dis = true) :
    Calls Try.prog 10 #[.pointer (some ⟨S, 0, none⟩), .agg (rdP 2 2 16).v] w fun e w' => ∃ g gc ta tc, e = .returned (.tuple #[.slice (some ⟨g, 0, none⟩) 1 gc, .slice ta 0 tc]) ∧ 1 ≤ gc ∧ gc ≤ 9223372036854775807 ∧ w'.cell? ⟨g, 0, none⟩ = some (.int .u8 63) ∧ w'.cell? ⟨g, 2, none⟩ = some (.int .u8 4) ∧ ∃ s3, St S w w' s s3 := by
  refine (in_dis S s [] [] (rdP 2 2 16) w h (by simp) rfl (by rw [hnx]; rfl) hov rfl hds rfl (by unfold Pd.all32 rdP zP; simp)).mono ?_
  rintro e w' ⟨gv, tv, gs, ts, s3, rfl, ⟨rfl, v1, dv, zs, rfl, hS, rfl, hd⟩, hst, hG, hT⟩
  obtain ⟨g, gc, hv, hgl, hgc, hcl⟩ := hG.own.one
  obtain ⟨_, gc2, hv2, hgs⟩ := hG.own.shape
  have hcm : gc ≤ maxLen := by
    rw [hv] at hv2
    simp only [Value.slice.injEq] at hv2
    obtain ⟨rfl, _, rfl⟩ := hv2
    rcases hgs with ⟨h0, _⟩ | ⟨_, _, _, _, h4, _⟩
    · cases h0
    · exact h4
  obtain ⟨ta, tc, rfl⟩ := hT.own.none
  subst hv
  exact ⟨g, gc, ta, tc, rfl, hgc, by unfold maxLen at hcm; omega, hcl 0 _ rfl, hcl 2 _ rfl, _, hst⟩
theorem in_tgr (S : Nat) (s : Se) (w : World) (h : Ss w S s [] [] []) (hnx : s.next = 2) (hov : s.over = false) (hds : s.dis = false) :
    Calls Try.prog 10 #[.pointer (some ⟨S, 0, none⟩), .agg (rdP 2 2 16).v] w fun e w' => ∃ ga gc ta tc, e = .returned (.tuple #[.slice ga 0 gc, .slice ta 1 tc]) ∧ ∃ s3, St S w w' s s3 := by
  refine (in_rd S s [] [] (rdP 2 2 16) w h (by simp) rfl (by rw [hnx]; rfl) hov rfl hds rfl rfl (by unfold Pd.u32 rdP zP; simp)).mono ?_
  rintro e w' ⟨gv, tv, gs, ts, s3, rfl, ⟨rfl, v1, v2, cv, ov, rfl, hS, rfl, _, _⟩, hst, hG, hT⟩
  obtain ⟨g, gc, rfl, -⟩ := hT.own.one
  obtain ⟨ga, gc2, rfl⟩ := hG.own.none
  exact ⟨ga, gc2, _, gc, rfl, _, hst⟩
end Go.Proofs.Ytdplndlmdhpfaab
