/-
  login: a login in its block.
-/
import Derived.Test.YtplifodddfjhdaaGreatDoorXFnl
import Derived.Test.YtplifodddfjhdaaGreatDoorXSt
namespace Go.Proofs.YtplifodddfjhdaaGreatDoor
open Go.RowKit
set_option linter.unusedVariables false
set_option linter.unusedSimpArgs false

structure Lg where
  (tg us : Value) (sums : Bool) (id : Int) (ch : Value) (begun : Bool) (stage : Int) (meth : ByteArray) (told proved done over : Bool) (ini tgt : ByteArray) (dis hd dt : Bool) (seg bu fi : Int) (imm rdy : Bool)
def Lg.v (s : Lg) : Array Value := #[s.tg, s.us, .bool s.sums, .int .u8 s.id, s.ch, .bool s.begun, .int .u8 s.stage, .string s.meth, .bool s.told, .bool s.proved, .bool s.done, .bool s.over, .string s.ini, .string s.tgt, .bool s.dis, .bool s.hd, .bool s.dt, .int .i64 s.seg, .int .i64 s.bu, .int .i64 s.fi, .bool s.imm, .bool s.rdy]
theorem bx_setC {w : World} {b j : Nat} {cs : Array Value} (v : Value) (h : Bx w b cs) (hj : j < cs.size) : Bx (w.setCell ⟨b, j, none⟩ v) b (cs.setIfInBounds j v) := by
  have hg := grown_setCellK w ⟨b, j, none⟩ v
  refine ⟨Nat.lt_of_lt_of_le h.lt hg.size, fun i hi => ?_, fun i => ?_⟩
  · simp only [Array.size_setIfInBounds] at hi
    by_cases e : i = j
    · subst e
      have hs : (w.cell? ⟨b, i, none⟩).isSome = true := by rw [h.cells i hj, Array.getElem?_eq_getElem hj]; rfl
      rw [Array.getElem?_setIfInBounds_self_of_lt hj]
      exact World.cell?_setCell_same' w _ v hs
    · rw [Array.getElem?_setIfInBounds_ne (fun h => e h.symm), ← h.cells i hi]
      exact World.cell?_setCell_other _ _ _ _ (fun h => e (by cases h; rfl))
  · rw [← h.free i]; exact World.frozen?_setCells b [v] j w _
/-- A slice's memory lies off a block. -/
def Off (a : Option Addr) (L : Nat) : Prop := ∀ x, a = some x → x.block ≠ L
theorem PsAt.grown {w w' : World} {a : Option Addr} {n c L : Nat} {ps : List (ByteArray × ByteArray)} (h : PsAt w (.slice a n c) ps) (ho : Off a L) (hg : w.grownBy w' (some L)) : PsAt w' (.slice a n c) ps := by
  obtain ⟨a', c', hv, h1, h2, h3⟩ := h
  simp only [Value.slice.injEq] at hv
  obtain ⟨rfl, rfl, rfl⟩ := hv
  refine ⟨a, c, rfl, h1, h2, ?_⟩
  rcases h3 with h3 | ⟨b, off, rfl, hlt, hc⟩
  · exact .inl h3
  · refine .inr ⟨b, off, rfl, Nat.lt_of_lt_of_le hlt hg.size, fun j p hp i u hu => ?_⟩
    rw [far_cell hg ⟨b, off + j * 2 + i, none⟩ hlt (fun e => ho _ rfl (by injection e with e; exact e.symm))]
    exact hc j p hp i u hu
theorem StAt.grown {w w' : World} {a : Option Addr} {n c L : Nat} {os : List ByteArray} (h : StAt w (.slice a n c) os) (ho : Off a L) (hg : w.grownBy w' (some L)) : StAt w' (.slice a n c) os := by
  obtain ⟨a', c', hv, h1, h2⟩ := h
  simp only [Value.slice.injEq] at hv
  obtain ⟨rfl, rfl, rfl⟩ := hv
  refine ⟨a, c, rfl, h1, ?_⟩
  rcases h2 with h2 | ⟨b, off, rfl, hlt, hc⟩
  · exact .inl h2
  · exact .inr ⟨b, off, rfl, Nat.lt_of_lt_of_le hlt hg.size, fun j hj => by rw [far_cell hg ⟨b, off + j, none⟩ hlt (fun e => ho _ rfl (by injection e with e; exact e.symm))]; exact hc j hj⟩
theorem grown_of_below {w w' : World} (h : Below w.heap.size w w') (row : Option Nat) : w.grownBy w' row := ⟨h.os, h.tape, h.output, h.size, fun k hk _ => h.block k hk⟩
theorem grown_tr {a b c : World} {r : Option Nat} (h : a.grownBy b r) (k : b.grownBy c r) : a.grownBy c r := ⟨k.os.trans h.os, k.tape.trans h.tape, k.output.trans h.output, Nat.le_trans h.size k.size, fun j hj hr => (k.block j (Nat.lt_of_lt_of_le hj h.size) hr).trans (h.block j hj hr)⟩
theorem grown_drew (w : World) (r : Option Nat) : w.grownBy w.drew r := ⟨rfl, rfl, rfl, Nat.le_refl _, fun _ _ _ => rfl⟩

theorem grown_drewN (w : World) (n : Nat) (r : Option Nat) : w.grownBy (w.drewN n) r := ⟨rfl, rfl, rfl, Nat.le_refl _, fun _ _ _ => rfl⟩

theorem bx_drewN {w : World} {b : Nat} {cs : Array Value} (h : Bx w b cs) (n : Nat) : Bx (w.drewN n) b cs := h.of_block h.lt rfl
def kIni : ByteArray := ⟨#[73, 110, 105, 116, 105, 97, 116, 111, 114, 78, 97, 109, 101]⟩
def kTgt : ByteArray := ⟨#[84, 97, 114, 103, 101, 116, 78, 97, 109, 101]⟩
def kSes : ByteArray := ⟨#[83, 101, 115, 115, 105, 111, 110, 84, 121, 112, 101]⟩
def kRsp : ByteArray := ⟨#[67, 72, 65, 80, 95, 82]⟩
def vDis : ByteArray := ⟨#[68, 105, 115, 99, 111, 118, 101, 114, 121]⟩
def vNor : ByteArray := ⟨#[78, 111, 114, 109, 97, 108]⟩

/-- Which target is wanted; why not. -/
def choD (os : List ByteArray) (t : ByteArray) : Int := if t = ⟨#[]⟩ then 7 else if Lib.containsS os t = true then 0 else 3
def choO (os : List ByteArray) (t : ByteArray) : Bool := decide (¬ t = ⟨#[]⟩) && Lib.containsS os t

set_option maxRecDepth 100000 in
set_option maxHeartbeats 2000000 in
theorem choose_any (L : Nat) (s : Lg) (a : Option Addr) (n c : Nat) (ps : List (ByteArray × ByteArray)) (at' : Option Addr) (nt ct : Nat) (os : List ByteArray) (w : World) (hX : Bx w L s.v) (hps : PsAt w (.slice a n c) ps) (hn : n ≤ maxLen) (ho : Off a L)
    (htg : s.tg = .slice at' nt ct) (hos : StAt w (.slice at' nt ct) os) (hnt : nt ≤ maxLen) (hot : Off at' L) (t : ByteArray) (ht : t = findV (findP ps kTgt)) :
    Calls Tryz.prog 44 #[.pointer (some ⟨L, 0, none⟩), .slice a n c] w fun e w' => e = .returned (.tuple #[.int .u8 (choD os t), .bool (choO os t)]) ∧ Bx w' L { s with tgt := t }.v ∧ w.grownBy w' (some L) := by
  have hf := Kpt.mk (find_any a n c ps kTgt w hps hn)
  rw [← ht] at hf
  have hK : Kpt (∀ w1, Below w.heap.size w w1 → Bx (w1.setCell ⟨L, 13, none⟩ (.string t)) L { s with tgt := t }.v ∧ w.grownBy (w1.setCell ⟨L, 13, none⟩ (.string t)) (some L) ∧ w1.cell? ⟨L, 13, none⟩ = some (.string s.tgt) ∧ w1.frozen? ⟨L, 13, none⟩ = false ∧ (w1.setCell ⟨L, 13, none⟩ (.string t)).cell? ⟨L, 0, none⟩ = some (.slice at' nt ct) ∧ (w1.setCell ⟨L, 13, none⟩ (.string t)).cell? ⟨L, 13, none⟩ = some (.string t)) := ⟨fun w1 hb => by
    have hX1 := hX.below hb hX.lt
    have hX2 := bx_setC (.string t) hX1 (j := 13) (by simp [Lg.v])
    have hg := grown_tr (grown_of_below hb (some L)) (grown_setCellK w1 ⟨L, 13, none⟩ (.string t))
    have e : s.v.setIfInBounds 13 (.string t) = { s with tgt := t }.v := by simp [Lg.v]
    rw [e] at hX2
    exact ⟨hX2, hg, hX1.cells 13 (by simp [Lg.v]), hX1.free 13, by have := hX2.cells 0 (by simp [Lg.v]); rw [this, ← htg]; simp [Lg.v], hX2.cells 13 (by simp [Lg.v])⟩⟩
  have hC : Kpt (∀ w2, w.grownBy w2 (some L) → Calls Tryz.prog 53 #[.slice at' nt ct, .string t] w2 fun e w' => e = .returned (.bool (Lib.containsS os t)) ∧ w' = w2) := ⟨fun w2 hg => contains_any at' nt ct os t w2 (hos.grown hot hg) hnt⟩
  have hd : Kpt (choD os t = if t = ⟨#[]⟩ then 7 else if Lib.containsS os t = true then 0 else 3) := ⟨rfl⟩
  have he : Kpt (choO os t = (decide (¬ t = ⟨#[]⟩) && Lib.containsS os t)) := ⟨rfl⟩
  clear ht hX hps hos hot ho hn hnt htg
  by_cases h0 : t = ⟨#[]⟩
  · have e1 : Kpt (choD os t = 7) := ⟨by rw [hd.out, if_pos h0]⟩
    have e2 : Kpt (choO os t = false) := ⟨by rw [he.out, h0]; simp⟩
    have hte : (t.toList == []) = true := by rw [h0]; decide +kernel
    clear hC hd he h0
    go_enter Tryz.func44, Tryz.ntmps44
    go_wp2_with (go_at_call 39; go_must (refine hf.out.mono ?_; rintro e w1 ⟨rfl, hb⟩; obtain ⟨k1, k2, k3, k4, k5, k6⟩ := hK.out w1 hb; replace k1 := Kpt.mk k1; replace k2 := Kpt.mk k2; clear hb))
    go_ret2
    exact ⟨by rw [e1.out, e2.out]; rfl, k1.out, k2.out⟩
  · have hte : (t.toList == []) = false := by have h := toList_ne h0; rwa [show (⟨#[]⟩ : ByteArray).toList = [] from by rw [ByteArray.toList_eq]] at h
    obtain ⟨b, hb0⟩ : ∃ b, b = Lib.containsS os t := ⟨_, rfl⟩
    have e1 : Kpt (choD os t = if b = true then 0 else 3) := ⟨by rw [hd.out, if_neg h0, hb0]⟩
    have e2 : Kpt (choO os t = b) := ⟨by rw [he.out, hb0]; simp [h0]⟩
    rw [← hb0] at hC
    clear hd he h0 hb0
    cases b
    all_goals
      go_enter Tryz.func44, Tryz.ntmps44
      go_wp2_with (first
        | (go_at_call 53; go_must (refine (hC.out _ k2.out).mono ?_; rintro e wx ⟨rfl, rfl⟩))
        | (go_at_call 39; go_must (refine hf.out.mono ?_; rintro e w1 ⟨rfl, hb⟩; obtain ⟨k1, k2, k3, k4, k5, k6⟩ := hK.out w1 hb; replace k1 := Kpt.mk k1; replace k2 := Kpt.mk k2; clear hb)))
      go_quiet ((go_at_call 53; exact Calls.quiet_of_same (hC.out _ (grown_tr k2.out (grown_drewN _ _ _)))))
      go_wp2
      go_ret2
      exact ⟨by rw [e1.out, e2.out]; rfl, bx_drewN k1.out _, grown_tr k2.out (grown_drewN _ _ _)⟩
end Go.Proofs.YtplifodddfjhdaaGreatDoor
