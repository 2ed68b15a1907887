/-
  sess: SessPings' walk.
-/
import Derived.Test.YtdplndlmdhpfaaaEPng
namespace Go.Proofs.Ytdplndlmdhpfaaa
open Go.RowKit
set_option linter.unusedVariables false
set_option linter.unusedSimpArgs false

def pgP (now : Bool) (lun tag : Int) (v : Value) : Pd := { zP with op := if now = true then 64 else 0, lu := lun, tg := tag, w0 := 4294967295, w1 := 8, da := v }
/-- What a ping comes to. -/
structure PgOut (S : Nat) (s : Se) (now : Bool) (lun tag : Int) (ds : List Int) (w w' : World) (gv tv : Value) : Prop where
  ex : ∃ s3, Ss w' S s3 [] [] [] ∧ St S w w' s s3 ∧ s3.next = (if now = true then 8 else 9)
  tv : ∃ ta tc, tv = .slice ta 0 tc
  gv : (tag = 4294967295 ∧ ∃ ga gc, gv = .slice ga 0 gc) ∨ (¬ tag = 4294967295 ∧ ∃ g gc d, gv = .slice (some ⟨g, 0, none⟩) 1 gc ∧ g < w'.heap.size ∧ 1 ≤ gc ∧ w'.cell? ⟨g, 0, none⟩ = some (.int .u8 32) ∧ w'.cell? ⟨g, 4, none⟩ = some (.int .u8 lun) ∧ w'.cell? ⟨g, 5, none⟩ = some (.int .u32 tag) ∧ w'.cell? ⟨g, 6, none⟩ = some (.int .u32 4294967295) ∧ w'.cell? ⟨g, 13, none⟩ = some d ∧ RdAt w' d ds)

theorem in_pg (S : Nat) (now : Bool) (lun tag : Int) (a : Option Addr) (n c : Nat) (ds : List Int) (w : World) (h : Ss w S (plainS.new 8) [] [] []) (hD : Dt ((plainS.new 8).X S) w (.slice a n c) ds) (hdl : ds.length ≤ 100000) :
    Calls Try.prog 11 #[.pointer (some ⟨S, 0, none⟩), .agg (pgP now lun tag (.slice a n c)).v] w fun e w' => ∃ gv tv, e = .returned (.tuple #[gv, tv]) ∧ PgOut S (plainS.new 8) now lun tag ds w w' gv tv := by
  cases now with
  | false =>
    refine (in_ping S (plainS.new 8) [] [] (pgP false lun tag (.slice a n c)) a n c ds w h rfl rfl rfl rfl hD hdl).mono ?_
    rintro e w' ⟨gv, tv, gs, ts, s3, rfl, ⟨rfl, v1, t, rfl, hS, hg⟩, hst, hG, hT⟩
    refine ⟨gv, tv, rfl, ⟨_, hS, hst, rfl⟩, hT.own.none, ?_⟩
    rcases hg with ⟨ht, rfl⟩ | ⟨d, ht, rfl, hd⟩
    · exact .inl ⟨ht, hG.own.none⟩
    · obtain ⟨g, gc, hv, hgl, hgc, hc⟩ := hG.own.one
      exact .inr ⟨ht, g, gc, d, hv, hgl, hgc, hc 0 _ rfl, hc 4 _ rfl, hc 5 _ rfl, hc 6 _ rfl, hc 13 _ rfl, hd.rd⟩
  | true =>
    refine (in_now S (plainS.new 8) [] [] [] (pgP true lun tag (.slice a n c)) (fun v u W w' => u = .slice none 0 0 ∧ ∃ W2, Below W.heap.size W W2 ∧ ∃ t, Ss w' S { (plainS.new 8) with stat := t } [] [] [] ∧ St S W2 w' (plainS.new 8) { (plainS.new 8) with stat := t } ∧ ((tag = 4294967295 ∧ v = .slice none 0 0) ∨ ∃ d, ¬ tag = 4294967295 ∧ Ou W2 w' S { (plainS.new 8) with stat := t } v 37 ((pong (pgP true lun tag (.slice a n c)) d).num (plainS.new 8)).v ∧ Dt (({ (plainS.new 8) with stat := t } : Se).X S) w' d ds)) w h (.inl rfl) rfl (fun W hb => ?_)).mono ?_
    · refine (do_nop S (plainS.new 8) [] [] [] (pgP true lun tag (.slice a n c)) (fun v W2 w' => ∃ t, Ss w' S { (plainS.new 8) with stat := t } [] [] [] ∧ St S W2 w' (plainS.new 8) { (plainS.new 8) with stat := t } ∧ ((tag = 4294967295 ∧ v = .slice none 0 0) ∨ ∃ d, ¬ tag = 4294967295 ∧ Ou W2 w' S { (plainS.new 8) with stat := t } v 37 ((pong (pgP true lun tag (.slice a n c)) d).num (plainS.new 8)).v ∧ Dt (({ (plainS.new 8) with stat := t } : Se).X S) w' d ds)) W (h.below hb) (.inr rfl) (fun W2 hb2 => ?_)).mono ?_
      · exact nop_both S (plainS.new 8) [] [] [] (pgP true lun tag (.slice a n c)) a n c ds W2 ((h.below hb).below hb2) rfl ((hD.below hb).below hb2) hdl ⟨by decide, by decide⟩
      · rintro e w' ⟨v, W2, rfl, hb2, hx⟩
        exact ⟨v, _, rfl, rfl, W2, hb2, hx⟩
    · rintro e w' ⟨gv, tv, W, rfl, hb, rfl, W2, hb2, t, hS, hst, hg⟩
      refine ⟨gv, _, rfl, ⟨_, hS, ((St.of_below _ hb).trans (St.of_below _ hb2)).trans hst, rfl⟩, ⟨none, 0, rfl⟩, ?_⟩
      rcases hg with ⟨ht, rfl⟩ | ⟨d, ht, ho, hd⟩
      · exact .inl ⟨ht, none, 0, rfl⟩
      · obtain ⟨b, hv, _, hh, _⟩ := ho.at_
        obtain ⟨xa, xc, hxd⟩ := rd_len hd.rd
        have hO := Bx.oneOwn (k := 14) hh (Pd.one (p := (pong (pgP true lun tag (.slice a n c)) d).num (plainS.new 8)) hxd)
        rw [← hv] at hO
        obtain ⟨g, gc, hv2, hgl, hgc, hc⟩ := hO.one
        exact .inr ⟨ht, g, gc, d, hv2, hgl, hgc, hc 0 _ rfl, hc 4 _ rfl, hc 5 _ rfl, hc 6 _ rfl, hc 13 _ rfl, hd.rd⟩
end Go.Proofs.Ytdplndlmdhpfaaa
