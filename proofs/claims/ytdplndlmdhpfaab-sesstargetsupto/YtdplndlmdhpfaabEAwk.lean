/-
  sess: In of a command that reads; awake.
-/
import Derived.Test.YtdplndlmdhpfaabEIn
namespace Go.Proofs.Ytdplndlmdhpfaab
open Go.RowKit
set_option linter.unusedVariables false
set_option linter.unusedSimpArgs false

theorem OwnR.one {ty k : Nat} {w : World} {v : Value} {z : Array Value} (h : OwnR ty k w v [z]) : ∃ g c, v = .slice (some ⟨g, 0, none⟩) 1 c ∧ g < w.heap.size ∧ 1 ≤ c ∧ ∀ j u, z[j]? = some u → w.cell? ⟨g, j, none⟩ = some u := by
  obtain ⟨a, c, hv, hs⟩ := h.shape
  rcases hs with ⟨_, _, hx⟩ | ⟨g, rfl, hg, hc, _, _, hr⟩
  · simp at hx
  · refine ⟨g, c, hv, hg, by simpa using hc, fun j u hu => ?_⟩
    have := hr 0 z rfl j u (by rw [Array.getElem?_toList]; exact hu)
    simpa using this
theorem OwnR.none {ty k : Nat} {w : World} {v : Value} (h : OwnR ty k w v []) : ∃ a c, v = .slice a 0 c := by
  obtain ⟨a, c, hv, _⟩ := h.shape
  exact ⟨a, c, hv⟩

/-- A session behind a command that reads. -/
def Se.rd (s : Se) (v1 v2 : Value) : Se := { s with held := v1, next := (s.next + 1) % 4294967296, opn := v2 }
structure RdPost (S : Nat) (s : Se) (O : List Cm) (T : List (Array Value)) (p : Pd) (W : World) (s3 : Se) (gs ts : List (Array Value)) : Prop where
  gs : gs = []
  ex : ∃ v1 v2 cv ov, s3 = s.rd v1 v2 ∧ Ss W S s3 [] ((O ++ [p.cm]).map Cm.v) T ∧ ts = [(p.tk cv ov).v] ∧ Dt (s3.X S) W cv p.cdb ∧ Dt (s3.X S) W ov []
theorem Dt.below {X : Nat → Prop} {w w' : World} {v : Value} {ds : List Int} (h : Dt X w v ds) (hb : Below w.heap.size w w') : Dt X w' v ds := h.fr (Fr.of_below hb) (fun b h => .inl h)

theorem in_rd (S : Nat) (s : Se) (O : List Cm) (T : List (Array Value)) (p : Pd) (w : World) (h : Ss w S s [] (O.map Cm.v) T) (hl : O.length ≤ 5000) (hop : p.op = 1) (hw1 : p.w1 = s.next) (hov : s.over = false) (hda : p.da = .slice none 0 0) (hds : s.dis = false) (hfree : fidx (isC p.tg) (O.map Cm.v) 0 = -1) (hfl : p.fl = 193) (hu : p.u32) :
    Calls Try.prog 10 #[.pointer (some ⟨S, 0, none⟩), .agg p.v] w fun e w' => ∃ gv tv gs ts s3, e = .returned (.tuple #[gv, tv]) ∧ RdPost S s O T p w' s3 gs ts ∧ St S w w' s s3 ∧ Gots w w' S s3 42 14 gv gs ∧ Gots w w' S s3 60 8 tv ts := by
  refine in_turn S s (O.map Cm.v) T p none 0 0 [] (RdPost S s O T p) w h (.inr (.inl hop)) hw1 hov hda ⟨by rw [hda]; exact ⟨none, 0, rfl, fun _ => ⟨rfl, rfl⟩, Nat.le_refl _, .inl rfl⟩, fun _ g hg => by rw [hda] at hg; simp [Value.ownBlock] at hg⟩ (by simp) ?_ ?_ ?_
  · rintro W W' s3 gs ts hb ⟨h1, v1, v2, cv, ov, e1, e2, e3, e4, e5⟩
    exact ⟨h1, v1, v2, cv, ov, e1, e2.below hb, e3, e4.below hb, e5.below hb⟩
  · rintro W s3 gs ts ⟨h1, v1, v2, cv, ov, e1, e2, _⟩
    exact ⟨by rw [e1]; exact hov, _, _, e2⟩
  · intro W da' v' hS hSt hD
    obtain ⟨da, dc, hdv⟩ := rd_len hD.rd
    refine (do_beg S (s.step v') [] (O.map Cm.v) T { p with da := da' } (fun v u W2 w' => v = .slice none 0 0 ∧ ∃ v2 cv ov, Ss w' S (s.rd v' v2) [] ((O ++ [p.cm]).map Cm.v) T ∧ St S W2 w' (s.step v') (s.rd v' v2) ∧ Ou W2 w' S (s.rd v' v2) u 60 (p.tk cv ov).v ∧ Dt ((s.rd v' v2).X S) w' cv p.cdb ∧ Dt ((s.rd v' v2).X S) w' ov []) W hS hop (fun W2 hb => ?_)).mono ?_
    · refine (begin_rd S (s.step v') [] O T { p with da := da' } da dc W2 (hS.below hb) hl hdv (hD.below hb) hds hfree hfl hu).mono ?_
      rintro e w' ⟨v, v2, cv, ov, rfl, h1, h2, h3, h4, h5⟩
      exact ⟨_, v, rfl, rfl, v2, cv, ov, h1, h2, h3, h4, h5⟩
    · rintro e w' ⟨v, u, W2, rfl, hb, rfl, v2, cv, ov, h1, h2, h3, h4, h5⟩
      obtain ⟨ca, cc, hcv⟩ := rd_len h4.rd
      obtain ⟨oa, oc, hov2⟩ := rd_len h5.rd
      exact ⟨_, u, [], _, s.rd v' v2, rfl, ⟨rfl, v', v2, cv, ov, rfl, h1, rfl, h4, h5⟩, (St.of_below _ hb).trans h2, .inl ⟨rfl, rfl⟩, h3.got (Tk.one (t := p.tk cv ov) hcv hov2)⟩

theorem row_cells {w : World} {b off n c : Nat} {zs : List Int} (h : RdAt w (.slice (some ⟨b, off, none⟩) n c) zs) (j : Nat) (x : Int) (hx : zs[j]? = some x) : w.cell? ⟨b, off + j, none⟩ = some (.int .u8 x) := by
  have hj : j < zs.length := (List.getElem?_eq_some_iff.1 hx).1
  obtain ⟨hl, hc⟩ := rd_cells h
  rw [hc j (by omega), List.getD_eq_getElem?_getD, hx]
  rfl

theorem cdb_first {w : World} {v : Value} {tag cmd n : Int} (h : RdAt w v (rdP tag cmd n).cdb) : ∃ b o c, v = .slice (some ⟨b, o, none⟩) 16 c ∧ w.cell? ⟨b, o, none⟩ = some (.int .u8 40) := by
  have e : (rdP tag cmd n).cdb = [40, 0, 0, 0, 0, 0, 0, 0, 0, 0, 0, 0, 0, 0, 0, 0] := by simp [Pd.cdb, rdP, zP, be4]
  rw [e] at h
  obtain ⟨a, c, rfl, h1, h2, h3⟩ := id h
  rcases h3 with h3 | ⟨b, o, rfl, hc⟩
  · simp at h3
  · exact ⟨b, o, c, rfl, by have := row_cells h 0 40 rfl; simpa using this⟩

set_option maxRecDepth 100000 in
set_option maxHeartbeats 4000000 in
theorem awake_any (w : World) : Calls Try.prog 6 #[] w fun e w' => e = .returned (.bool true) ∧ Below w.heap.size w w' := by
  have hP : Kpt (∀ W : World, Calls Try.prog 7 #[] W fun e w' => e = .returned (.agg plainS.prm) ∧ Below W.heap.size W w') := ⟨plain_any⟩
  have hN : Kpt (∀ W : World, Calls Try.prog 8 #[.agg plainS.prm, .slice none 0 0, .int .u32 5] W fun e w' => (∃ S, e = .returned (.pointer (some ⟨S, 0, none⟩)) ∧ W.heap.size ≤ S ∧ Ss w' S (plainS.new 5) [] [] []) ∧ Below W.heap.size W w') := ⟨fun W => new_nil plainS 5 W⟩
  have hR : Kpt (∀ W : World, Calls Try.prog 11 #[.int .u32 9, .int .u32 5, .int .u32 16] W fun e w' => e = .returned (.agg (rdP 9 5 16).v) ∧ Below W.heap.size W w') := ⟨fun W => read_any 9 5 16 W⟩
  have hI : Kpt (∀ W S, Ss W S (plainS.new 5) [] [] [] → Calls Try.prog 10 #[.pointer (some ⟨S, 0, none⟩), .agg (rdP 9 5 16).v] W fun e w' => ∃ gv tv gs ts s3, e = .returned (.tuple #[gv, tv]) ∧ RdPost S (plainS.new 5) [] [] (rdP 9 5 16) w' s3 gs ts ∧ St S W w' (plainS.new 5) s3 ∧ Gots W w' S s3 42 14 gv gs ∧ Gots W w' S s3 60 8 tv ts) := ⟨fun W S h => in_rd S (plainS.new 5) [] [] (rdP 9 5 16) W h (by simp) rfl rfl rfl rfl rfl rfl rfl (by intro x hx; simp [rdP, zP] at hx; omega)⟩
  go_enter Try.func6, Try.ntmps6
  go_wp2_with (first
    | (go_at_call 7; go_must (refine (hP.out _).mono ?_; rintro e w1 ⟨rfl, hb1⟩; replace hb1 := Kpt.mk hb1))
    | (go_at_call 8; go_must (refine (hN.out _).mono ?_; rintro e w2 ⟨⟨S, rfl, hSl, hS⟩, hb2⟩; have hbw2 := Kpt.mk (hb1.out.trans (hb2.mono hb1.out.size)); replace hS := Kpt.mk hS; have hSw := Kpt.mk (Nat.le_trans hb1.out.size hSl); clear hb2 hSl))
    | (go_at_call 11; go_must (refine (hR.out _).mono ?_; rintro e w3 ⟨rfl, hb3⟩; have hbw3 := Kpt.mk (hbw2.out.trans (hb3.mono hbw2.out.size)); have hS3 := Kpt.mk (hS.out.below hb3); clear hb3))
    | (go_at_call 10; go_must (refine (hI.out _ _ hS3.out).mono ?_; rintro e w4 ⟨gv, tv, gs, ts, s3, rfl, ⟨rfl, v1, v2, cv, ov, rfl, hS4, rfl, hD1, hD2⟩, hst, hG, hT⟩; obtain ⟨g, tc, rfl, hg, htc, hcell⟩ := hT.own.one; have q0 : w4.cell? ⟨g, 0, none⟩ = some (.int .u32 9) := hcell 0 _ rfl; have q3 : w4.cell? ⟨g, 3, none⟩ = some cv := hcell 3 cv rfl; obtain ⟨cb, co, cc, hcv, hc0⟩ := cdb_first hD1.rd; rw [hcv] at q3; have hX : Kpt (∀ b, (plainS.new 5).X S b → w.heap.size ≤ b) := ⟨fun b hb => by rcases hb with e | e | e | e; (rw [e]; exact hSw.out); all_goals (simp [Se.new, Value.ownBlock] at e)⟩; have hbw4 := Kpt.mk (hbw3.out.trans (hst.fr.below hbw3.out.size hX.out)); replace hcv := Kpt.mk hcv; replace hS4 := Kpt.mk hS4; clear hD1 hD2 hst hG hT hcell))
    | (go_at_call 12; go_must (refine (next_any _ _ _ _ _ _ hS4.out).mono ?_; rintro e w5 ⟨rfl, hw5⟩; rw [hw5]; clear hw5)))
  go_ret
  exact ⟨rfl, hbw4.out⟩
end Go.Proofs.Ytdplndlmdhpfaab
