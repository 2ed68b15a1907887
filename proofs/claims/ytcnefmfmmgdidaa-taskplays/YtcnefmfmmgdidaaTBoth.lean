/-
  The law's function both: an act at both.
-/
import Derived.Test.YtcnefmfmmgdidaaTBothP
import Derived.Test.YtcnefmfmmgdidaaTFill
namespace Go.Proofs.Ytcnefmfmmgdidaa
open Go.RowKit
set_option linter.unusedVariables false
set_option linter.unusedSimpArgs false

/-- A set and the document's, alike. -/
structure Pa (w0 W : World) (B C : Nat) (ts : List Tk) (st : Int) (v u : Value) : Prop where
  a : St w0.heap.size W B ts st v
  b : StR w0.heap.size W C ts st u
  low : Below w0.heap.size w0 W
  bc : B ≠ C
  vC : v.ownBlock ≠ some C
  uB : u.ownBlock ≠ some B
  vu : ∀ g, v.ownBlock = some g → u.ownBlock ≠ some g
def Two (w0 W : World) (B C : Nat) : Prop := ∃ ts st v u, Pa w0 W B C ts st v u ∧ Inv ts st

theorem Pt.pa {w0 W : World} {B C T : Nat} {av : List Value} {ts : List Tk} {st : Int} {v u : Value} (h : Pt w0 W B C T av ts st v ts st u) : Pa w0 W B C ts st v u := ⟨h.a, h.b, h.low, h.bc, h.vC, h.uB, h.vu⟩
theorem Pt.two {w0 W : World} {B C T : Nat} {av : List Value} {ts us : List Tk} {st su : Int} {v u : Value} (h : Pt w0 W B C T av ts st v us su u) (e1 : us = ts) (e2 : su = st) (hI : Inv ts st) : Two w0 W B C := by
  subst e1 e2
  exact ⟨_, _, _, _, h.pa, hI⟩

abbrev actV (K n g a : Int) : List Value := [.int .u8 K, .int .i64 n, .int .u32 g, .int .u8 a]
theorem Pa.box {w0 W : World} {B C : Nat} {ts : List Tk} {st : Int} {v u : Value} (h : Pa w0 W B C ts st v u) (K n g a : Int) :
    Pt w0 (W.alloc (.cells #[.int .u8 K, .int .i64 n, .int .u32 g, .int .u8 a] 32)) B C W.heap.size (actV K n g a) ts st v ts st u := by
  have hb : Below W.heap.size W (W.alloc (.cells #[.int .u8 K, .int .i64 n, .int .u32 g, .int .u8 a] 32)) := (Below.refl _ _).alloc (Nat.le_refl _) _
  refine ⟨h.a.below hb, h.b.below hb, h.low.trans (hb.mono h.low.size), h.bc, h.vC, h.uB, h.vu, fun j x hx => ?_, by simp, h.low.size, fun e => ?_, fun e => ?_, fun e => ?_, fun e => ?_⟩
  · have : (W.alloc (.cells #[.int .u8 K, .int .i64 n, .int .u32 g, .int .u8 a] 32)).cell? ⟨W.heap.size, 0 + j, none⟩ = (#[Value.int .u8 K, .int .i64 n, .int .u32 g, .int .u8 a] : Array Value)[0 + j]? := by simp
    rw [this, ← hx, Nat.zero_add, ← Array.getElem?_toList]
  · have := h.a.lt; omega
  · have := h.b.lt; omega
  · have := (h.a.own.lt e).2; omega
  · have := (h.b.own.lt e).2; omega
theorem act4 {W : World} {T : Nat} {K n g a : Int} (h : W.rangeAt T 0 (actV K n g a)) : W.cell? ⟨T, 0, none⟩ = some (.int .u8 K) ∧ W.cell? ⟨T, 1, none⟩ = some (.int .i64 n) ∧ W.cell? ⟨T, 2, none⟩ = some (.int .u32 g) ∧ W.cell? ⟨T, 3, none⟩ = some (.int .u8 a) :=
  ⟨h 0 _ rfl, h 1 _ rfl, h 2 _ rfl, h 3 _ rfl⟩

abbrev BothPost (w0 : World) (B C : Nat) (e : Ending) (w' : World) : Prop := e = .returned (.bool true) ∧ Two w0 w' B C

set_option maxRecDepth 100000 in
set_option maxHeartbeats 4000000 in
theorem both0 (w0 W : World) (B C : Nat) (ts : List Tk) (st : Int) (v u : Value) (K n g a : Int) (h : Pa w0 W B C ts st v u) (hI : Inv ts st) (hK : 0 ≤ K ∧ K ≤ 255) (hg : 0 ≤ g ∧ g ≤ 4294967295) (ha : 0 ≤ a ∧ a ≤ 255) (eK : K % 8 = 0) :
    Calls Try.prog 12 #[.pointer (some ⟨B, 0, none⟩), .pointer (some ⟨C, 0, none⟩), .agg #[.int .u8 K, .int .i64 n, .int .u32 g, .int .u8 a]] W (BothPost w0 B C) := by
  have hP := Kpt.mk (h.box K n g a)
  have hI2 := Kpt.mk (inv_ent (t := ⟨n, g, a, false⟩) hI ha.1)
  have hs0 := Kpt.mk hI.st0
  have hls : Kpt (∀ b, entL ts st ⟨n, g, a, b⟩ = entL ts st ⟨n, g, a, false⟩) := ⟨fun b => rfl⟩
  have hlr : Kpt (∀ b, entR ts st ⟨n, g, a, b⟩ = entR ts st ⟨n, g, a, false⟩) := ⟨fun b => rfl⟩
  have hcs := ent_vals ts st ⟨n, g, a, false⟩
  clear h hI
  rcases hcs with er | er | er | er | er
  all_goals
    rw [er] at hlr
    replace er := Kpt.mk er
    go_enter Try.func12, Try.ntmps12
    go_wp2_with fail
    refine (pt_enter ⟨n, g, a, _⟩ hP.out).mono ?_
    rintro e w2 ⟨rfl, v2, hP2⟩
    rw [hls.out] at hP2
    rw [hlr.out]
    obtain ⟨c0, c1, c2, c3⟩ := act4 hP2.tr
    have htl := hP2.tl
    replace hP2 := Kpt.mk hP2
    go_wp2_with fail
    refine (pt_renter ⟨n, g, a, false⟩ hP2.out hs0.out).mono ?_
    rintro e w3 ⟨rfl, u3, hP3⟩
    rw [er.out]
    replace hP3 := Kpt.mk hP3
    clear c0 c1 c2 c3 hP2
    go_wp2
    go_ret
    exact ⟨rfl, hP3.out.two rfl rfl hI2.out⟩
end Go.Proofs.Ytcnefmfmmgdidaa
