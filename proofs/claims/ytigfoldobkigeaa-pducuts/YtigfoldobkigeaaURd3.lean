/-
  pdu: Feed, Next and Held of a reader.
-/
import Derived.Test.YtigfoldobkigeaaURd2
import Derived.Deep.DeepCutAuto
namespace Go.Proofs.Ytigfoldobkigeaa
open Go.RowKit
set_option linter.unusedVariables false
set_option linter.unusedSimpArgs false

theorem Re.cell {base : Nat} {w : World} {R : Nat} {h d : Bool} {F : Int} {v : Value} {Wt : List Int} (r : Re base w R h d F v Wt) : w.cell? ⟨R, 0, none⟩ = some (.bool h) ∧ w.cell? ⟨R, 1, none⟩ = some (.bool d) ∧ w.cell? ⟨R, 2, none⟩ = some v ∧ w.cell? ⟨R, 3, none⟩ = some (.int .i64 F) :=
  ⟨r.bx.cells 0 (by simp), r.bx.cells 1 (by simp), r.bx.cells 2 (by simp), r.bx.cells 3 (by simp)⟩
/-- What waits is another thing. -/
theorem Re.wait {base : Nat} {w w1 : World} {R : Nat} {h d : Bool} {F : Int} {v v' : Value} {Wt Wt' : List Int} (r : Re base w R h d F v Wt) (hg : w.grownBy w1 v.ownBlock) (hm : Mid base w1 v' Wt') (hn : v'.ownBlock = v.ownBlock ∨ ∀ g, v'.ownBlock = some g → w.heap.size ≤ g) (hge : ∀ g, v.ownBlock = some g → base ≤ g) :
    Re base (w1.setCell ⟨R, 2, none⟩ v') R h d F v' Wt' ∧ Below base w (w1.setCell ⟨R, 2, none⟩ v') ∧ w1.cell? ⟨R, 2, none⟩ = some v ∧ w1.frozen? ⟨R, 2, none⟩ = false := by
  have hx1 : Bx w1 R #[.bool h, .bool d, v, .int .i64 F] := r.bx.of_block (Nat.lt_of_lt_of_le r.bx.lt hg.size) (hg.block R r.bx.lt (fun e => r.ne e.symm))
  have hx2 := bx_setCell v' hx1 (j := 2) (by simp)
  simp only [List.setIfInBounds_toArray, List.set_cons_succ, List.set_cons_zero] at hx2
  have hne : v'.ownBlock ≠ some R := fun e => by
    rcases hn with h1 | h1
    · exact r.ne (by rw [← h1, e])
    · have := h1 R e; have := r.bx.lt; omega
  have hs := grown_setCellK w1 ⟨R, 2, none⟩ v'
  have hb1 : Below base w w1 := (Below.refl base w).grown hg r.lt (fun q e => hge q e)
  exact ⟨⟨hx2, hm.of_block hs.size (fun g e _ hlt => hs.block g hlt (fun e2 => hne (by rw [e, ← e2]))), r.ge, hne⟩, hb1.grown hs (Nat.le_trans r.lt hb1.size) (fun q e => by injection e with e; rw [← e]; exact r.ge), hx1.cells 2 (by simp), hx1.free 2⟩

set_option maxRecDepth 100000 in
set_option maxHeartbeats 2000000 in
theorem feed_bad (base R : Nat) (h d : Bool) (F : Int) (v sv : Value) (Wt : List Int) (w : World) (r : Re base w R h d F v Wt) (hF : F ≠ 0) :
    Calls Try.prog 18 #[.pointer (some ⟨R, 0, none⟩), sv] w fun e w' => e = .returned (.tuple #[]) ∧ w' = w := by
  obtain ⟨c0, c1, c2, c3⟩ := r.cell
  have n1 : ¬ F = 0 := hF
  have n2 : (F == 0) = false := by simpa using hF
  clear r
  go_enter Try.func18, Try.ntmps18
  go_wp2
  first
    | exact bodyPost_ret (v := .tuple #[]) (by simp [results, Try.results18, asAddr, Act.put]) rfl ⟨rfl, rfl⟩
    | exact bodyPost_end (v := .tuple #[]) (by simp [results, Try.results18, asAddr, Act.put]) rfl ⟨rfl, rfl⟩
set_option maxRecDepth 100000 in
set_option maxHeartbeats 2000000 in
theorem feed_ok (base R : Nat) (h d : Bool) (v sv : Value) (Wt zs : List Int) (w : World) (r : Re base w R h d 0 v Wt) (hsv : RdAt w sv zs) (hlen : Wt.length + zs.length ≤ 140737488355328) :
    Calls Try.prog 18 #[.pointer (some ⟨R, 0, none⟩), sv] w fun e w' => ∃ v', e = .returned (.tuple #[]) ∧ Re base w' R h d 0 v' (Wt ++ zs) ∧ Below base w w' ∧ (v'.ownBlock = v.ownBlock ∨ ∀ g, v'.ownBlock = some g → w.heap.size ≤ g) := by
  obtain ⟨c0, c1, c2, c3⟩ := r.cell
  have rK := Kpt.mk r
  have sK := Kpt.mk hsv
  have lK := Kpt.mk hlen
  have gK : Kpt (∀ g, v.ownBlock = some g → base ≤ g) := ⟨fun g e => (r.mid.own e).1⟩
  obtain ⟨va, vc, hv, -⟩ := r.mid.ex
  subst hv
  obtain ⟨sa, sc, rfl, -⟩ := hsv
  obtain ⟨WL, hWL⟩ : ∃ n, n = Wt.length := ⟨_, rfl⟩
  obtain ⟨ZL, hZL⟩ : ∃ n, n = zs.length := ⟨_, rfl⟩
  rw [← hWL] at rK c2 gK ⊢
  rw [← hZL] at sK ⊢
  rw [← hWL, ← hZL] at lK
  replace hWL := Kpt.mk hWL
  replace hZL := Kpt.mk hZL
  clear r hlen
  go_enter Try.func18, Try.ntmps18
  go_wp2_with (refine (?_ : wpList _ _ _ (Oper.mk (some 19) _ _ _ _ _ :: _) _ _); go_must (refine wpList_append_mid rfl (.tmp 17) (.tmp 18) rfl base (.slice va WL vc) Wt zs rfl rK.out.mid _ rfl sK.out (by rw [← hWL.out, ← hZL.out]; exact lK.out) rK.out.lt ?_; intro v' w' hM hg hn; obtain ⟨ya, yc, hv', -⟩ := hM.out.ex; obtain ⟨YL, hYL⟩ : ∃ n, n = (Wt ++ zs).length := (⟨_, rfl⟩); rw [← hYL] at hv'; subst hv'; clear hYL; obtain ⟨q1, q2, q3, q4⟩ := rK.out.wait hg.out hM.out hn.out gK.out; replace q1 := Kpt.mk q1; replace q2 := Kpt.mk q2; clear hM hg))
  first
    | refine bodyPost_end (v := .tuple #[]) (by simp [results, Try.results18, asAddr, Act.put]) rfl ?_
    | refine bodyPost_ret (v := .tuple #[]) (by simp [results, Try.results18, asAddr, Act.put]) rfl ?_
  exact ⟨_, rfl, q1.out, q2.out, hn.out⟩
set_option maxRecDepth 100000 in
theorem held_any (base R : Nat) (h d : Bool) (F : Int) (v : Value) (Wt : List Int) (w : World) (r : Re base w R h d F v Wt) :
    Calls Try.prog 20 #[.pointer (some ⟨R, 0, none⟩)] w fun e w' => e = .returned (.int .i64 Wt.length) ∧ w' = w := by
  obtain ⟨c0, c1, c2, c3⟩ := r.cell
  obtain ⟨va, vc, rfl, -⟩ := r.mid.ex
  clear r
  obtain ⟨WL, hWL⟩ : ∃ n, n = Wt.length := ⟨_, rfl⟩
  rw [← hWL] at c2 ⊢
  clear hWL
  go_enter Try.func20, Try.ntmps20
  go_wp2
  go_ret
  exact ⟨rfl, rfl⟩
end Go.Proofs.Ytigfoldobkigeaa
