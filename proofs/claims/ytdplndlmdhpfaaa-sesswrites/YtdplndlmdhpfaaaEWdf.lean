/-
  sess: the command that a write begins with.
-/
import Derived.Test.YtdplndlmdhpfaaaEWds
namespace Go.Proofs.Ytdplndlmdhpfaaa
open Go.RowKit
set_option linter.unusedVariables false
set_option linter.unusedSimpArgs false

/-- A session of a burst. -/
def burS (g : Nat) : Se := { plainS with bu := (g : Int) }
theorem burS_prm (g : Nat) : (burS g).prm = plainS.prm.setIfInBounds 6 (.int .i64 g) := by simp [burS, Se.prm, plainS]
/-- The command. -/
def wdP (n : Nat) (dv : Value) : Pd := { zP with op := 1, fl := 161, tg := 7, w0 := (n : Int), w1 := 1, da := dv }
def wdO (n : Nat) : List (Array Value) := [Cm.v ⟨7, 0, false, (n : Int)⟩]
structure Nw (base : Nat) (W : World) (S : Nat) (D : List Int) (n g i : Nat) (v u : Value) : Prop where
  or : ((∃ ua uc, u = .slice ua 0 uc) ∧ ∃ zz, Asks base W S (wdO n) D n g i zz v) ∨ (i = n ∧ Ends W S (wdO n) D v u)
theorem own_newW {S m : Nat} {s : Se} {first : Int} (hS : m ≤ S) (b : Nat) (hb : (s.new first).X S b) : m ≤ b := by
  rcases hb with e | e | e | e
  · rw [e]; exact hS
  all_goals simp [Se.new, Value.ownBlock] at e

theorem in_first (base S : Nat) (D : List Int) (n g i : Nat) (q : Addr) (c : Nat) (w : World) (h : Ss w S ((burS g).new 1) [] [] []) (hbw : base ≤ w.heap.size) (hbS : base ≤ S) (hin : i ≤ n) (hn : n ≤ 3000) (hD : D.length = n) (hg : 0 < g ∧ g ≤ 1000) (hdt : Dt (((burS g).new 1).X S) w (.slice (some q) i c) (D.take i)) :
    Calls Try.prog 11 #[.pointer (some ⟨S, 0, none⟩), .agg (wdP n (.slice (some q) i c)).v] w fun e w' => ∃ v u, e = .returned (.tuple #[v, u]) ∧ Below base w w' ∧ Nw base w' S D n g i v u := by
  have hli : (D.take i).length = i := by rw [List.length_take]; omega
  refine (in_wd S ((burS g).new 1) [] (wdP n (.slice (some q) i c)) (some q) i c (D.take i) ((min g (n - i) : Nat) : Int) w h (by simp) rfl rfl rfl rfl hdt hli rfl rfl rfl (by intro x hx; simp [wdP, zP] at hx; rcases hx with rfl | rfl <;> omega) ⟨by show (i : Int) ≤ (n : Int); omega, by show (n : Int) ≤ 5000; omega⟩ rfl (by show (i : Int) ≤ 65536; omega) (by show _ = min (max (g : Int) 1) ((n : Int) - i); omega) (by omega)).mono ?_
  rintro e w' ⟨gv, tv, gs, ts, s3, rfl, hor, hst, hG, hT⟩
  have hbl : Below base w w' := hst.fr.below hbw (fun b hb => own_newW hbS b hb)
  refine ⟨gv, tv, rfl, hbl, ?_⟩
  have hX : ∀ b, s3.X S b → base ≤ b := fun b hb => by
    rcases hst.new b hb with e | e
    · exact own_newW hbS b e
    · omega
  rcases hor with ⟨h0, rfl, v1, v2, v3, cv, ov, hs3, f1, rfl, f2, f3, f4⟩ | ⟨h0, rfl, v1, v2, cv, ov, hs3, f1, rfl, f2⟩
  · have hlt : i < n := by have : ¬ (i : Int) = (n : Int) := h0; omega
    obtain ⟨ta, tc, htv⟩ := hT.own.none
    obtain ⟨b, bc, hgv, hb1, hb2, hb3⟩ := ownR_oneS hG.own
    have hBx : Bx w' b ((r2t (wr0 (wdP n (.slice (some q) i c)) cv ov) ((burS g).new 1) i ((min g (n - i) : Nat) : Int)).num (((burS g).new 1).step v1)).v := by
      have := hG.own
      rw [hgv] at this
      exact ownR_bx this
    refine ⟨.inl ⟨⟨ta, tc, htv⟩, min g (n - i), hlt, rfl, b, bc, _, hgv, hb2, hb3, hBx, rfl, rfl, rfl, s3, _, ⟨f1, f2, f4, fun x hx => ?_⟩, ⟨by rw [hs3]; rfl, by rw [hs3]; rfl, by rw [hs3]; simp [Se.wr, Se.new]⟩, ⟨rfl, rfl, ?_, by rw [hs3]; rfl, ?_⟩, rfl⟩⟩
    · rcases hx with hx | hx
      · exact hX x hx
      · exact Nat.le_trans hbw (f3 x hx)
    · show (i : Int) + ((min g (n - i) : Nat) : Int) = ((i + min g (n - i) : Nat) : Int)
      omega
    · show 0 ≤ (0 : Int) + 1 ∧ (0 : Int) + 1 ≤ (i : Int) + 1
      omega
  · have hin' : i = n := by have : (i : Int) = (n : Int) := h0; omega
    subst hin'
    obtain ⟨ga, gc, hgv⟩ := hG.own.none
    obtain ⟨b, bc, htv, hb1, hb2, hb3⟩ := ownR_oneS hT.own
    have hBx : Bx w' b ((wdP i (.slice (some q) i c)).tk cv ov).v := by
      have := hT.own
      rw [htv] at this
      exact ownR_bx this
    have f3 := f2.rd
    rw [List.take_of_length_le (by omega)] at f3
    obtain ⟨oa, oc, ho⟩ := rd_len f3
    have c0 := hBx.cells 0 (by simp [Tk.v])
    have c4 := hBx.cells 4 (by simp [Tk.v])
    simp [Tk.v, Pd.tk, wdP] at c0 c4
    rw [ho] at c4 f3
    exact ⟨.inr ⟨rfl, ⟨ga, gc, hgv⟩, b, bc, oa, D.length, oc, s3, htv, hb2, hb3, c0, c4, f3, f1⟩⟩
end Go.Proofs.Ytdplndlmdhpfaaa
