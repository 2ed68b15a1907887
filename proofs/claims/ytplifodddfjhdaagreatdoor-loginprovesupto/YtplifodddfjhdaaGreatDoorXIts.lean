/-
  text: the pieces between commas, one behind the other.
-/
import Derived.RangeFuncNested
import Derived.RangeFuncBound
import Derived.RangeFuncCalls
import Derived.RangeFuncLeaves
import Derived.Shelf.Abstract
import Derived.Shelf.RegionOpen
import Derived.WalkKit
import Derived.OwnWalkIn
import Derived.TacticsInMore
import Derived.LoopNIn
import Derived.LoopIn
import Derived.Test.YtplifodddfjhdaaGreatDoorXComs
namespace Go.Proofs.YtplifodddfjhdaaGreatDoor
open Go.RowKit Go.Shelf
set_option linter.unusedVariables false
set_option linter.unusedSimpArgs false
attribute [local go_sem] Oper.semAt_some

/-- What stands between commas, with a bound on how many. -/
def pcsF : Nat → List Int → List (List Int)
  | 0, zs => [zs]
  | f + 1, zs => match idxL zs 44 with
    | none => [zs]
    | some i => zs.take i :: pcsF f (zs.drop (i + 1))
theorem pcsF_none {f : Nat} {zs : List Int} (h : idxL zs 44 = none) : pcsF f zs = [zs] := by
  cases f with
  | zero => rfl
  | succ f => rw [pcsF, h]
theorem pcsF_some {f : Nat} {zs : List Int} {i : Nat} (h : idxL zs 44 = some i) : pcsF (f + 1) zs = zs.take i :: pcsF f (zs.drop (i + 1)) := by rw [pcsF, h]
theorem pcsF_more : ∀ (f g : Nat) (zs : List Int), zs.length ≤ f → zs.length ≤ g → pcsF f zs = pcsF g zs
  | 0, g, zs, h, _ => by
    have : zs = [] := List.length_eq_zero_iff.1 (by omega)
    subst this
    rw [pcsF_none rfl, pcsF_none rfl]
  | f + 1, 0, zs, _, h => by
    have : zs = [] := List.length_eq_zero_iff.1 (by omega)
    subst this
    rw [pcsF_none rfl, pcsF_none rfl]
  | f + 1, g + 1, zs, h1, h2 => by
    cases hi : idxL zs 44 with
    | none => rw [pcsF_none hi, pcsF_none hi]
    | some i =>
      have := idxL_lt zs 44 i hi
      rw [pcsF_some hi, pcsF_some hi, pcsF_more f g (zs.drop (i + 1)) (by simp; omega) (by simp; omega)]
/-- What stands between commas. -/
def pcsL (zs : List Int) : List (List Int) := pcsF zs.length zs
theorem pcsL_none {zs : List Int} (h : idxL zs 44 = none) : pcsL zs = [zs] := pcsF_none h
theorem pcsL_some {zs : List Int} {i : Nat} (h : idxL zs 44 = some i) : pcsL zs = zs.take i :: pcsL (zs.drop (i + 1)) := by
  have hlt := idxL_lt zs 44 i h
  unfold pcsL
  obtain ⟨f, hf⟩ : ∃ f, zs.length = f + 1 := ⟨zs.length - 1, by omega⟩
  rw [hf, pcsF_some h, pcsF_more f (zs.drop (i + 1)).length (zs.drop (i + 1)) (by simp; omega) (Nat.le_refl _)]
theorem pcsL_ne (zs : List Int) : 0 < (pcsL zs).length := by
  cases h : idxL zs 44 with
  | none => rw [pcsL_none h]; simp
  | some i => rw [pcsL_some h]; simp
/-- The pieces as texts. -/
def pcsS (zs : List Int) : List ByteArray := (pcsL zs).map strOfNums
def mR (r m : Value) : Nat := match m, r with
  | .bool true, .string s => s.size + 1
  | _, _ => 0
theorem grown_sm {w w' : World} (h : Sm w w') : w.grownBy w' none := ⟨h.bel.os, h.bel.tape, h.bel.output, h.bel.size, fun k hk _ => h.bel.block k hk⟩

set_option maxRecDepth 100000 in
set_option maxHeartbeats 2000000 in
theorem pieces1_in (n : Nat) (hn : 1 ≤ n) (l Bs : Nat) (zs : List Int) (hz : Bytes zs) (hl : zs.length ≤ 281474976710656) (Kp : World → World → Prop) (J Jx : List ByteArray → World → Prop)
    (hY : ∀ pre x W, J pre W → pre.length < (pcsL zs).length → YieldAt Fence.wide (n - 1) Tryz.prog l #[.string x] W fun e W' =>
      (e = .returned (.bool true) ∧ J (pre ++ [x]) W' ∧ Kp W W') ∨ (e = .returned (.bool false) ∧ Jx (pre ++ [x]) W'))
    (W : World) (hBs : W.cell? ⟨Bs, 0, none⟩ = some (.string (strOfNums zs))) (hJ : AbidesFrom W.heap.size J) (h0 : J [] W) :
    CallsIn Fence.wide n Tryz.prog 65 #[.func (.yield l) #[] #[], .pointer (some ⟨Bs, 0, none⟩)] W fun e W' => (∃ v, e = .returned v) ∧
      ((∃ ys, ys = pcsS zs ∧ J ys W') ∨ (∃ pre, (∃ r, pcsS zs = pre ++ r) ∧ Jx pre W')) := by
  refine callsIn_of_wp Tryz.func65 rfl trivial ?_ rfl
  simp only [Tryz.ntmps65, List.size_toArray, List.length_cons, List.length_nil, Nat.reduceAdd, Nat.reduceSub, Array.replicate_succ, Array.replicate_zero, List.push_toArray, List.append_toArray, List.nil_append, List.cons_append]
  gi_wp2
  gi_loopw [3, 4] (fun r m wr => ∃ (preL : List (List Int)) (ys : List Int) (b : Bool), r = .string (strOfNums ys) ∧ m = .bool b ∧ Bytes ys ∧ ys.length ≤ zs.length ∧ (b = true → pcsL zs = preL ++ pcsL ys) ∧ (b = false → pcsL zs = preL) ∧ J (preL.map strOfNums) wr)
    (fun r m _ => mR r m)
  case atStart => exact ⟨[], zs, true, rfl, rfl, hz, Nat.le_refl _, (fun _ => rfl), (fun h => by cases h), h0⟩
  case round =>
    obtain ⟨preL, ys, b, rfl, rfl, hy0, hyl, hbt, hbf, hJs⟩ := hrel
    cases b with
    | false =>
      have he := hbf rfl
      gi_wp2
      go_end0
      exact ⟨⟨_, rfl⟩, .inl (by unfold pcsS; rw [he]; exact hJs)⟩
    | true =>
      have he := Kpt.mk (hbt rfl)
      have hcut := Kpt.mk (scut44 ys wr hy0 (by omega))
      clear hbt hbf
      replace hJs := Kpt.mk hJs
      replace hy0 := Kpt.mk hy0
      replace hyl := Kpt.mk hyl
      have hYK := Kpt.mk hY
      have hJK := Kpt.mk hJ
      clear hY hJ h0 hBs
      cases hi : idxL ys 44 with
      | none =>
        have hp := Kpt.mk (pcsL_none hi)
        have c1 : cutA ys 44 = ys := by unfold cutA; rw [hi]
        have c2 : cutB ys 44 = [] := by unfold cutB; rw [hi]
        have c3 : cutF ys 44 = false := by unfold cutF; rw [hi]; rfl
        rw [c1, c2, c3] at hcut
        clear c1 c2 c3 hi
        gi_wp2_with ((refine ⟨trivial, ?_⟩; gi_at_call 66; go_must (refine (callsIn_wide.2 hcut.out).mono ?_; rintro e W2 ⟨rfl, hs2⟩; have hJ2 : Kpt (J (preL.map strOfNums) W2) := ⟨hJK.out _ _ _ none hJs.out (grown_sm hs2) (fun r e => by cases e)⟩; clear hs2; obtain ⟨fn, tmps, assign, body, hy, hR⟩ := hYK.out _ (strOfNums ys) W2 hJ2.out (by have := congrArg List.length he.out; have := pcsL_ne ys; simp at *; omega))))
        try dsimp only at hy
        refine hR.mono ?_
        rintro e W3 (⟨rfl, hJ3, hk3⟩ | ⟨rfl, hJx3⟩)
        · gi_wp2
          go_roundw
          case rel => exact ⟨preL ++ [ys], [], false, rfl, rfl, Bytes.nil, Nat.zero_le _, (fun h => by cases h), (fun _ => by rw [he.out, hp.out]), by simpa using hJ3⟩
          case measure => simp [mR]
        · gi_wp2
          refine bodyPost_ret (results_none rfl _ _ _) rfl ?_
          exact ⟨⟨_, rfl⟩, .inr ⟨_, ⟨[], by unfold pcsS; rw [he.out, hp.out]; simp⟩, hJx3⟩⟩
      | some i =>
        have hp := Kpt.mk (pcsL_some hi)
        have hilt := idxL_lt ys 44 i hi
        have c1 : cutA ys 44 = ys.take i := by unfold cutA; rw [hi]
        have c2 : cutB ys 44 = ys.drop (i + 1) := by unfold cutB; rw [hi]
        have c3 : cutF ys 44 = true := by unfold cutF; rw [hi]; rfl
        rw [c1, c2, c3] at hcut
        clear c1 c2 c3 hi
        gi_wp2_with ((refine ⟨trivial, ?_⟩; gi_at_call 66; go_must (refine (callsIn_wide.2 hcut.out).mono ?_; rintro e W2 ⟨rfl, hs2⟩; have hJ2 : Kpt (J (preL.map strOfNums) W2) := ⟨hJK.out _ _ _ none hJs.out (grown_sm hs2) (fun r e => by cases e)⟩; clear hs2; obtain ⟨fn, tmps, assign, body, hy, hR⟩ := hYK.out _ (strOfNums (ys.take i)) W2 hJ2.out (by have := congrArg List.length he.out; have := pcsL_ne ys; simp at *; omega))))
        try dsimp only at hy
        refine hR.mono ?_
        rintro e W3 (⟨rfl, hJ3, hk3⟩ | ⟨rfl, hJx3⟩)
        · gi_wp2
          go_roundw
          case rel => exact ⟨preL ++ [ys.take i], ys.drop (i + 1), true, rfl, rfl, hy0.out.drop _, by have := hyl.out; simp; omega, (fun _ => by rw [he.out, hp.out]; simp), (fun h => by cases h), by simpa using hJ3⟩
          case measure => simp [mR, str_size]; omega
        · gi_wp2
          refine bodyPost_ret (results_none rfl _ _ _) rfl ?_
          exact ⟨⟨_, rfl⟩, .inr ⟨_, ⟨(pcsL (ys.drop (i + 1))).map strOfNums, by unfold pcsS; rw [he.out, hp.out]; simp⟩, hJx3⟩⟩
end Go.Proofs.YtplifodddfjhdaaGreatDoor
