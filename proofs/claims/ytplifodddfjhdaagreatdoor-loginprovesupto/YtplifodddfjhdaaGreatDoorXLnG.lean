/-
  login: a step that does not want to go on, by what its two halves do.
-/
import Derived.Test.YtplifodddfjhdaaGreatDoorXLgH
namespace Go.Proofs.YtplifodddfjhdaaGreatDoor
open Go.RowKit
set_option linter.unusedVariables false
set_option linter.unusedSimpArgs false

def rqs (st : Int) (h : Hd) : Array Value := #[.int .u8 st, .int .u8 0, .bool false, .slice h.a h.n h.c]
def ansT (st : Int) (kv : Value) : Array Value := #[.int .u8 0, .int .u8 0, .int .u8 st, .int .u8 0, .bool false, kv]
set_option maxRecDepth 100000 in
set_option maxHeartbeats 4000000 in
theorem leave_s (st : Int) (h : Hd) (L : Nat) (ka : Option Addr) (kn kc : Nat) (w : World) :
    Calls Tryz.prog 30 #[.pointer (some ⟨L, 0, none⟩), .agg (rqs st h), .slice ka kn kc] w fun e w' => e = .returned (.agg (ansT st (.slice ka kn kc))) ∧ Below w.heap.size w w' := by
  go_enter Tryz.func30, Tryz.ntmps30
  go_wp2_with (first
    | (refine (?_ : wpList _ _ _ (Oper.mk _ (Op.load 46 _) _ _ _ _ :: _) _ _); go_must (refine wpList_load_bx rfl 46 (.tmp 7) rfl B (ansT st (.slice ka kn kc)) rfl hB4.out _ Tryz.underlying46 rfl szAns ?_))
    | (refine (?_ : wpList _ _ _ (Oper.mk none (Op.store 46 (Operand.tmp 7) _) _ _ _ _ :: _) _ _); go_must (refine wpList_store_bx rfl 46 (.tmp 7) (.tmp 11) rfl B ansZ (ansT st (.slice ka kn kc)) rfl rfl hB3.out rfl szAns (by simp [ansT, Value.oneCell']) rfl ?_; intro w4 hB4q hg4; have hR4 := hR2.out.grown (hg4) (fun e => by injection e with e; have := hRB.out; omega); have hR3 := hR4; have hA4 := Kpt.mk (hA3.out.grown hg4 (fun e => by injection e with e; have := hAB.out; omega)); have hb4 := Kpt.mk (hb3.out.grown hg4 hb3.out.size (fun q e => by injection e with e; subst e; exact hBw.out)); have r2 := hR4.cells 2 (by simp [rqs]); simp [rqs] at r2; have hB4 := Kpt.mk hB4q; clear hR3 hR4 hB4q hg4))
    | (refine (?_ : wpList _ _ _ (Oper.mk none (Op.store 46 (Operand.tmp 6) _) _ _ _ _ :: _) _ _); go_must (refine wpList_store_bx rfl 46 (.tmp 6) (.tmp 22) rfl A ansZ (ansT st (.slice ka kn kc)) rfl rfl hA4.out rfl szAns (by simp [ansT, Value.oneCell']) rfl ?_; intro w5 hA5q hg5; have hA5 := Kpt.mk hA5q; have hb5 := Kpt.mk (hb4.out.grown hg5 hb4.out.size (fun q e => by injection e with e; subst e; exact hAw.out)); clear hA5q hg5))
    | (refine (?_ : wpList _ _ _ (Oper.mk (some 7) _ _ _ _ _ :: _) _ _); refine wpList_var rfl 46 rfl ansZ zAns ?_; intro B w3 hB2 hBx hb3q; have hB3 := Kpt.mk hBx; have hb3 := Kpt.mk (hb2.out.trans (hb3q.mono hb2.out.size)); have hBw := Kpt.mk (Nat.le_trans hb2.out.size hB2); have hA3 := Kpt.mk (hA2.out.below hb3q hA2.out.lt); have hAB : Kpt (A < B) := ⟨Nat.lt_of_lt_of_le hA2.out.lt hB2⟩; have hR2 := Kpt.mk (hR1.out.below hb3q hR1.out.lt); have hRB : Kpt (R < B) := ⟨Nat.lt_of_lt_of_le hR1.out.lt hB2⟩; clear hB2 hBx hb3q)
    | (refine (?_ : wpList _ _ _ (Oper.mk (some 6) _ _ _ _ _ :: _) _ _); refine wpList_var rfl 46 rfl ansZ zAns ?_; intro A w2 hA hAx hb2q; have hR1 := Kpt.mk (hR0.out.below hb2q hR0.out.lt); have r0 := hR1.out.cells 0 (by simp [rqs]); simp [rqs] at r0; have hb2 := Kpt.mk (hb1.out.trans (hb2q.mono hb1.out.size)); have hAw := Kpt.mk (Nat.le_trans hb1.out.size hA); have hA2 := Kpt.mk hAx; clear hA hAx hb2q)
    | (refine (?_ : wpList _ _ _ (Oper.mk _ (Op.box 39 _) _ _ _ _ :: _) _ _); go_must (refine wpList_box rfl 39 (.tmp 1) rfl (rqs st h) rfl ?_; intro R w1 hR hBq hbe _; have hR0 := Kpt.mk hBq; have hb1 := Kpt.mk hbe; clear hR hBq hbe)))
  refine bodyPost_ret (v := .agg (ansT st (.slice ka kn kc))) (by simp [results, Tryz.results30, asAddr, Act.put, run_res hA5.out 46 _ Tryz.underlying46 rfl szAns]) rfl ⟨rfl, hb5.out⟩

/-- A login, a request in a box, an answer's block. -/
structure Sg (st : Int) (h : Hd) (w W : World) (L R A : Nat) (s : Lg) (va : Array Value) : Prop where
  en : En h w W L R s (rqs st h)
  a : Bx W A va
  lt : L < w.heap.size
  r : w.heap.size ≤ R
  ra : R < A
theorem Sg.turn {st : Int} {h : Hd} {w W W' : World} {L R A : Nat} {s s' : Lg} {va : Array Value} (k : Sg st h w W L R A s va) (hX : Bx W' L s'.v) (hg : W.grownBy W' (some L)) (ht : s'.tg = s.tg) : Sg st h w W' L R A s' va := by
  have h1 := k.lt; have h2 := k.r; have h3 := k.ra
  exact ⟨k.en.turn hX hg ht, k.a.grown hg (fun e => by injection e with e; omega), h1, h2, h3⟩
set_option maxRecDepth 100000 in
set_option maxHeartbeats 4000000 in
theorem step_okN (st : Int) (h : Hd) (L : Nat) (s s1 s2 : Lg) (Q : List (ByteArray × ByteArray)) (w : World) (hX : Bx w L s.v) (hh : h.ok w L) (htg : s.tg = .slice h.at' h.nt h.ct) (hov : s.over = false) (hs1 : s1.tg = s.tg) (hs2 : s2.tg = s1.tg)
    (hE : ∀ W, Bx W L s.v → h.ok W L → w.grownBy W (some L) → Calls Tryz.prog 27 #[.pointer (some ⟨L, 0, none⟩), .agg (rqs st h)] W fun e w' => e = .returned (.tuple #[.int .u8 0, .bool true]) ∧ Bx w' L s1.v ∧ W.grownBy w' (some L))
    (hK : ∀ W, Bx W L s1.v → h.ok W L → w.grownBy W (some L) → Calls Tryz.prog 29 #[.pointer (some ⟨L, 0, none⟩), .slice h.a h.n h.c] W fun e w' => ∃ va vn vc, e = .returned (.tuple #[.slice va vn vc, .bool true]) ∧ w'.ownsRow W.heap.size 41 2 (.slice va vn vc) vn (cellsB Q) ∧ Bx w' L s2.v ∧ W.grownBy w' (some L)) :
    Calls Tryz.prog 11 #[.pointer (some ⟨L, 0, none⟩), .agg (rqs st h)] w fun e w' => ∃ va vn vc, e = .returned (.tuple #[.agg (ansT st (.slice va vn vc)), .int .i64 0]) ∧ PsAt w' (.slice va vn vc) Q ∧ vc ≤ maxLen ∧ Bx w' L s2.v ∧ w.grownBy w' (some L) ∧ Newer va w.heap.size := by
  have h0 : Kpt (∀ (R A : Nat) (w1 w2 : World), w.heap.size ≤ R → Bx w1 R (rqs st h) → Below w.heap.size w w1 → w1.heap.size ≤ A → Bx w2 A ansZ → Below w1.heap.size w1 w2 → Sg st h w w2 L R A s ansZ) := ⟨fun R A w1 w2 a1 a2 a3 a4 a5 a6 => by
    have b2 := a3.trans (a6.mono a3.size)
    have := a2.lt
    exact ⟨⟨hX.below b2 hX.lt, a2.below a6 a2.lt, hh.grown (grown_of_below b2 _), grown_of_below b2 _, htg, fun e => by have := hX.lt; omega⟩, a5, hX.lt, a1, by omega⟩⟩
  have fE : Kpt (∀ (W : World) (R A : Nat), Sg st h w W L R A s ansZ → Calls Tryz.prog 27 #[.pointer (some ⟨L, 0, none⟩), .agg (rqs st h)] W fun e w' => e = .returned (.tuple #[.int .u8 0, .bool true]) ∧ Sg st h w w' L R A s1 ansZ) := ⟨fun W R A k => (hE W k.en.lg k.en.hd k.en.gr).mono fun e w' ⟨he, hx, hg⟩ => ⟨he, k.turn hx hg hs1⟩⟩
  have fK : Kpt (∀ (W : World) (R A : Nat), Sg st h w W L R A s1 ansZ → Calls Tryz.prog 29 #[.pointer (some ⟨L, 0, none⟩), .slice h.a h.n h.c] W fun e w' => ∃ va vn vc, e = .returned (.tuple #[.slice va vn vc, .bool true]) ∧ PsAt w' (.slice va vn vc) Q ∧ vc ≤ maxLen ∧ (∀ g, (Value.slice va vn vc).ownBlock = some g → W.heap.size ≤ g ∧ g < w'.heap.size) ∧ Sg st h w w' L R A s2 ansZ) := ⟨fun W R A k => by
    refine (hK W k.en.lg k.en.hd k.en.gr).mono ?_
    rintro e w' ⟨va, vn, vc, rfl, ho, hx, hg⟩
    obtain ⟨p1, a', c', hv, p2, _⟩ := psB_of ho
    simp only [Value.slice.injEq] at hv
    obtain ⟨rfl, _, rfl⟩ := hv
    exact ⟨_, _, _, rfl, p1, p2, fun g hg => World.ownsRow.lt ho g hg, k.turn hx hg hs2⟩⟩
  have fV : Kpt (∀ (W : World) (va : Option Addr) (vn vc R A : Nat) (s' : Lg), Sg st h w W L R A s' ansZ → PsAt W (.slice va vn vc) Q → Calls Tryz.prog 30 #[.pointer (some ⟨L, 0, none⟩), .agg (rqs st h), .slice va vn vc] W fun e w' => e = .returned (.agg (ansT st (.slice va vn vc))) ∧ Sg st h w w' L R A s' ansZ ∧ PsAt w' (.slice va vn vc) Q ∧ W.heap.size ≤ w'.heap.size) := ⟨fun W va vn vc R A s' k hp => (leave_s st h L va vn vc W).mono fun e w' ⟨he, hb⟩ => ⟨he, k.turn (k.en.lg.below hb k.en.lg.lt) (grown_of_below hb _) rfl, hp.bel hb, hb.size⟩⟩
  have fin : Kpt (∀ (W W' : World) (va : Option Addr) (vn vc R A : Nat) (s' : Lg), Sg st h w W L R A s' ansZ → PsAt W (.slice va vn vc) Q → (∀ g, (Value.slice va vn vc).ownBlock = some g → A ≠ g) → W.grownBy W' (some A) → PsAt W' (.slice va vn vc) Q ∧ Bx W' L s'.v ∧ w.grownBy W' (some L)) := ⟨fun W W' va vn vc R A s' k hp hn hg => by
    have h1 := k.lt; have h2 := k.r; have h3 := k.ra
    exact ⟨hp.grown (fun x e e2 => hn A (by subst e; simp [Value.ownBlock, e2]) rfl) hg, k.en.lg.grown hg (fun e => by injection e with e; omega), grown_new k.en.gr hg (by omega)⟩⟩
  clear hX hh htg hE hK hs1 hs2
  go_enter Tryz.func11, Tryz.ntmps11
  go_wp2_with (first
      | (refine (?_ : wpList _ _ _ (Oper.mk none (Op.store 46 _ _) _ _ _ _ :: _) _ _); go_must (refine wpList_store_bx rfl 46 (.tmp 4) (.tmp 43) rfl A ansZ (ansT st (.slice va vn vc)) rfl rfl k5.out.a rfl szAns (by simp [ansT, Value.oneCell']) rfl ?_; intro w9 hA9 hg9; obtain ⟨q0, q1, q2⟩ := fin.out _ _ _ _ _ _ _ _ k5.out hp5.out hn4.out hg9; replace q0 := Kpt.mk q0; replace q1 := Kpt.mk q1; replace q2 := Kpt.mk q2; replace hA9 := Kpt.mk hA9; clear hg9))
      | (go_at_call 30; go_must (refine (fV.out _ va vn vc _ _ _ k4.out hp4.out).mono ?_; rintro e w5 ⟨rfl, k5, hp5, _⟩; replace k5 := Kpt.mk k5; replace hp5 := Kpt.mk hp5))
      | (refine (?_ : wpList _ _ _ (Oper.mk (some 41) (Op.load 39 _) _ _ _ _ :: _) _ _); go_must (refine wpList_load_bx rfl 39 (.tmp 3) rfl R (rqs st h) rfl k4.out.en.rq _ Tryz.underlying39 rfl szReq ?_))
      | (go_at_call 29; go_must (refine (fK.out _ _ _ k3.out).mono ?_; rintro e w4 ⟨va, vn, vc, rfl, hp4, hvc, hn4', k4⟩; have hn4 : Kpt (∀ g, (Value.slice va vn vc).ownBlock = some g → A ≠ g) := ⟨fun g hg => by have := (hn4' g hg).1; have := k3.out.a.lt; omega⟩; replace k4 := Kpt.mk k4; replace hp4 := Kpt.mk hp4; have hnw : Kpt (Newer va w.heap.size) := ⟨fun x e => Nat.le_trans k3.out.en.gr.size (hn4' x.block (by rw [e]; rfl)).1⟩; replace hvc := Kpt.mk hvc; clear hn4'))
      | (go_at_call 27; go_must (refine (fE.out _ _ _ k2.out).mono ?_; rintro e w3 ⟨rfl, k3⟩; have r3 := k3.en.rq.cells 3 (by simp [rqs]); simp [rqs] at r3; replace k3 := Kpt.mk k3))
      | (refine (?_ : wpList _ _ _ (Oper.mk _ (Op.load 39 _) _ _ _ _ :: _) _ _); go_must (refine wpList_load_bx rfl 39 (.tmp 3) rfl R (rqs st h) rfl k2.out.en.rq _ Tryz.underlying39 rfl szReq ?_))
      | (refine wpList_var rfl 46 rfl ansZ zAns ?_; intro A w2 hA hAx hb2; have k2 := Kpt.mk (h0.out R A w1 w2 hR.out hBq.out hbe.out hA hAx hb2); have c11 := k2.out.en.lg.cells 11 (by simp [Lg.v]); simp [Lg.v, hov] at c11; clear hA hAx hb2)
      | (refine (?_ : wpList _ _ _ (Oper.mk _ (Op.box 39 _) _ _ _ _ :: _) _ _); go_must (refine wpList_box rfl 39 (.tmp 1) rfl (rqs st h) rfl ?_; intro R w1 hR hBq hbe _; replace hR := Kpt.mk hR; replace hBq := Kpt.mk hBq; replace hbe := Kpt.mk hbe)))
  refine bodyPost_ret (v := .tuple #[.agg (ansT st (.slice va vn vc)), .int .i64 0]) (by simp [results, Tryz.results11, asAddr, Act.put, run_res hA9.out 46 _ Tryz.underlying46 rfl szAns]) rfl ⟨va, vn, vc, rfl, q0.out, hvc.out, q1.out, q2.out, hnw.out⟩
set_option maxRecDepth 100000 in
set_option maxHeartbeats 4000000 in
theorem step_ok (st : Int) (h : Hd) (L : Nat) (s s1 s2 : Lg) (Q : List (ByteArray × ByteArray)) (w : World) (hX : Bx w L s.v) (hh : h.ok w L) (htg : s.tg = .slice h.at' h.nt h.ct) (hov : s.over = false) (hs1 : s1.tg = s.tg) (hs2 : s2.tg = s1.tg)
    (hE : ∀ W, Bx W L s.v → h.ok W L → w.grownBy W (some L) → Calls Tryz.prog 27 #[.pointer (some ⟨L, 0, none⟩), .agg (rqs st h)] W fun e w' => e = .returned (.tuple #[.int .u8 0, .bool true]) ∧ Bx w' L s1.v ∧ W.grownBy w' (some L))
    (hK : ∀ W, Bx W L s1.v → h.ok W L → w.grownBy W (some L) → Calls Tryz.prog 29 #[.pointer (some ⟨L, 0, none⟩), .slice h.a h.n h.c] W fun e w' => ∃ va vn vc, e = .returned (.tuple #[.slice va vn vc, .bool true]) ∧ w'.ownsRow W.heap.size 41 2 (.slice va vn vc) vn (cellsB Q) ∧ Bx w' L s2.v ∧ W.grownBy w' (some L)) :
    Calls Tryz.prog 11 #[.pointer (some ⟨L, 0, none⟩), .agg (rqs st h)] w fun e w' => ∃ va vn vc, e = .returned (.tuple #[.agg (ansT st (.slice va vn vc)), .int .i64 0]) ∧ PsAt w' (.slice va vn vc) Q ∧ vc ≤ maxLen ∧ Bx w' L s2.v ∧ w.grownBy w' (some L) :=
  (step_okN st h L s s1 s2 Q w hX hh htg hov hs1 hs2 hE hK).mono fun e w' ⟨va, vn, vc, h1, h2, h3, h4, h5, _⟩ => ⟨va, vn, vc, h1, h2, h3, h4, h5⟩
set_option maxRecDepth 100000 in
set_option maxHeartbeats 4000000 in
theorem step_no (st : Int) (h : Hd) (L : Nat) (s s1 s2 : Lg) (w : World) (hX : Bx w L s.v) (hh : h.ok w L) (htg : s.tg = .slice h.at' h.nt h.ct) (hov : s.over = false) (hs1 : s1.tg = s.tg) (hs2 : s2.tg = s1.tg)
    (hE : ∀ W, Bx W L s.v → h.ok W L → w.grownBy W (some L) → Calls Tryz.prog 27 #[.pointer (some ⟨L, 0, none⟩), .agg (rqs st h)] W fun e w' => e = .returned (.tuple #[.int .u8 0, .bool true]) ∧ Bx w' L s1.v ∧ W.grownBy w' (some L))
    (hK : ∀ W, Bx W L s1.v → h.ok W L → w.grownBy W (some L) → Calls Tryz.prog 29 #[.pointer (some ⟨L, 0, none⟩), .slice h.a h.n h.c] W fun e w' => ∃ va vn vc, e = .returned (.tuple #[.slice va vn vc, .bool false]) ∧ Bx w' L s2.v ∧ W.grownBy w' (some L)) :
    Calls Tryz.prog 11 #[.pointer (some ⟨L, 0, none⟩), .agg (rqs st h)] w fun e w' => e = .returned (.tuple #[.agg (ansF 1), .int .i64 0]) ∧ Bx w' L { s2 with over := true }.v ∧ w.grownBy w' (some L) := by
  have h0 : Kpt (∀ (R A : Nat) (w1 w2 : World), w.heap.size ≤ R → Bx w1 R (rqs st h) → Below w.heap.size w w1 → w1.heap.size ≤ A → Bx w2 A ansZ → Below w1.heap.size w1 w2 → Sg st h w w2 L R A s ansZ) := ⟨fun R A w1 w2 a1 a2 a3 a4 a5 a6 => by
    have b2 := a3.trans (a6.mono a3.size)
    have := a2.lt
    exact ⟨⟨hX.below b2 hX.lt, a2.below a6 a2.lt, hh.grown (grown_of_below b2 _), grown_of_below b2 _, htg, fun e => by have := hX.lt; omega⟩, a5, hX.lt, a1, by omega⟩⟩
  have fE : Kpt (∀ (W : World) (R A : Nat), Sg st h w W L R A s ansZ → Calls Tryz.prog 27 #[.pointer (some ⟨L, 0, none⟩), .agg (rqs st h)] W fun e w' => e = .returned (.tuple #[.int .u8 0, .bool true]) ∧ Sg st h w w' L R A s1 ansZ) := ⟨fun W R A k => (hE W k.en.lg k.en.hd k.en.gr).mono fun e w' ⟨he, hx, hg⟩ => ⟨he, k.turn hx hg hs1⟩⟩
  have fK : Kpt (∀ (W : World) (R A : Nat), Sg st h w W L R A s1 ansZ → Calls Tryz.prog 29 #[.pointer (some ⟨L, 0, none⟩), .slice h.a h.n h.c] W fun e w' => ∃ va vn vc, e = .returned (.tuple #[.slice va vn vc, .bool false]) ∧ Sg st h w w' L R A s2 ansZ) := ⟨fun W R A k => by
    refine (hK W k.en.lg k.en.hd k.en.gr).mono ?_
    rintro e w' ⟨va, vn, vc, rfl, hx, hg⟩
    exact ⟨_, _, _, rfl, k.turn hx hg hs2⟩⟩
  have fF : Kpt (∀ (W : World) (R A : Nat), Sg st h w W L R A s2 ansZ → Calls Tryz.prog 28 #[.pointer (some ⟨L, 0, none⟩), .int .u8 1] W fun e w' => e = .returned (.agg (ansF 1)) ∧ Sg st h w w' L R A { s2 with over := true } ansZ) := ⟨fun W R A k => (fail_any L _ 1 W k.en.lg).mono fun e w' ⟨he, hx, hg⟩ => ⟨he, k.turn hx hg rfl⟩⟩
  have fin : Kpt (∀ (W W' : World) (R A : Nat) (s' : Lg) (va : Array Value), Sg st h w W L R A s' ansZ → Bx W' A va → W.grownBy W' (some A) → Bx W' L s'.v ∧ w.grownBy W' (some L)) := ⟨fun W W' R A s' va k hA hg => by
    have h1 := k.lt; have h2 := k.r; have h3 := k.ra
    exact ⟨k.en.lg.grown hg (fun e => by injection e with e; omega), grown_new k.en.gr hg (by omega)⟩⟩
  clear hX hh htg hE hK hs1 hs2
  go_enter Tryz.func11, Tryz.ntmps11
  go_wp2_with (first
      | (refine (?_ : wpList _ _ _ (Oper.mk none (Op.store 46 _ _) _ _ _ _ :: _) _ _); go_must (refine wpList_store_bx rfl 46 (.tmp 4) (.tmp 39) rfl A ansZ (ansF 1) rfl rfl k5.out.a rfl szAns (by simp [ansF, Value.oneCell']) rfl ?_; intro w9 hA9 hg9; obtain ⟨q1, q2⟩ := fin.out _ _ _ _ _ _ k5.out hA9 hg9; replace q1 := Kpt.mk q1; replace q2 := Kpt.mk q2; replace hA9 := Kpt.mk hA9; clear hg9))
      | (go_at_call 28; go_must (refine (fF.out _ _ _ k4.out).mono ?_; rintro e w5 ⟨rfl, k5⟩; replace k5 := Kpt.mk k5))
      | (go_at_call 29; go_must (refine (fK.out _ _ _ k3.out).mono ?_; rintro e w4 ⟨va, vn, vc, rfl, k4⟩; replace k4 := Kpt.mk k4))
      | (go_at_call 27; go_must (refine (fE.out _ _ _ k2.out).mono ?_; rintro e w3 ⟨rfl, k3⟩; have r3 := k3.en.rq.cells 3 (by simp [rqs]); simp [rqs] at r3; replace k3 := Kpt.mk k3))
      | (refine (?_ : wpList _ _ _ (Oper.mk _ (Op.load 39 _) _ _ _ _ :: _) _ _); go_must (refine wpList_load_bx rfl 39 (.tmp 3) rfl R (rqs st h) rfl k2.out.en.rq _ Tryz.underlying39 rfl szReq ?_))
      | (refine wpList_var rfl 46 rfl ansZ zAns ?_; intro A w2 hA hAx hb2; have k2 := Kpt.mk (h0.out R A w1 w2 hR.out hBq.out hbe.out hA hAx hb2); have c11 := k2.out.en.lg.cells 11 (by simp [Lg.v]); simp [Lg.v, hov] at c11; clear hA hAx hb2)
      | (refine (?_ : wpList _ _ _ (Oper.mk _ (Op.box 39 _) _ _ _ _ :: _) _ _); go_must (refine wpList_box rfl 39 (.tmp 1) rfl (rqs st h) rfl ?_; intro R w1 hR hBq hbe _; replace hR := Kpt.mk hR; replace hBq := Kpt.mk hBq; replace hbe := Kpt.mk hbe)))
  refine bodyPost_ret (v := .tuple #[.agg (ansF 1), .int .i64 0]) (by simp [results, Tryz.results11, asAddr, Act.put, run_res hA9.out 46 _ Tryz.underlying46 rfl szAns]) rfl ⟨rfl, q1.out, q2.out⟩
/-- A step of no login. -/
theorem step_none (rq : Array Value) (hq : rq.size = 4) (w : World) : Calls Tryz.prog 11 #[.pointer none, .agg rq] w fun e w' => e = .returned (.tuple #[.agg ansZ, .int .i64 8]) ∧ Below w.heap.size w w' := by
  have hz : (ansZ.all fun v => v.oneCell') = true := by simp [ansZ, Value.oneCell']
  go_enter Tryz.func11, Tryz.ntmps11
  go_wp2_with (first
      | (refine (?_ : wpList _ _ _ (Oper.mk none (Op.store 46 _ _) _ _ _ _ :: _) _ _); go_must (refine wpList_store_bx rfl 46 (.tmp 4) (.tmp 12) rfl A ansZ ansZ rfl rfl hAx.out rfl szAns hz rfl ?_; intro w9 hA9 hg9; have hb9 := Kpt.mk (hb3.out.grown hg9 hb3.out.size (fun q e => by injection e with e; subst e; exact hA.out)); replace hA9 := Kpt.mk hA9; clear hg9))
      | (refine wpList_var rfl 46 rfl ansZ zAns ?_; intro A w2 hA hAx hb2; have hb3 := Kpt.mk (hb1.out.trans (hb2.mono hb1.out.size)); replace hA := Kpt.mk (Nat.le_trans hb1.out.size hA); replace hAx := Kpt.mk hAx; clear hb2)
      | (refine (?_ : wpList _ _ _ (Oper.mk _ (Op.box 39 _) _ _ _ _ :: _) _ _); go_must (refine wpList_box rfl 39 (.tmp 1) rfl rq rfl ?_; intro R w1 hR hBq hbe _; have hb1 := Kpt.mk hbe; clear hR hBq hbe)))
  refine bodyPost_ret (v := .tuple #[.agg ansZ, .int .i64 8]) (by simp [results, Tryz.results11, asAddr, Act.put, run_res hA9.out 46 _ Tryz.underlying46 rfl szAns]) rfl ⟨rfl, hb9.out⟩
end Go.Proofs.YtplifodddfjhdaaGreatDoor
