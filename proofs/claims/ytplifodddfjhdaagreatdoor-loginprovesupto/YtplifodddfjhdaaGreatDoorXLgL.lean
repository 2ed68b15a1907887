/-
  login: leave.
-/
import Derived.Test.YtplifodddfjhdaaGreatDoorXLgK
import Derived.Lib.ItoaWalk
namespace Go.Proofs.YtplifodddfjhdaaGreatDoor
open Go.RowKit
set_option linter.unusedVariables false
set_option linter.unusedSimpArgs false

/-- A login, a request in a box, an answer's two blocks. -/
structure Lv (w W : World) (L R A B : Nat) (s : Lg) (rq va vb : Array Value) : Prop where
  lg : Bx W L s.v
  rq : Bx W R rq
  a : Bx W A va
  b : Bx W B vb
  gr : w.grownBy W (some L)
  lt : L < w.heap.size
  r : w.heap.size ≤ R
  ra : R < A
  ab : A < B
theorem Lv.setL {w W : World} {L R A B : Nat} {s s' : Lg} {rq va vb : Array Value} (k : Lv w W L R A B s rq va vb) (j : Nat) (v : Value) (hj : j < 22) (he : s.v.setIfInBounds j v = s'.v) : Lv w (W.setCell ⟨L, j, none⟩ v) L R A B s' rq va vb := by
  have hg := grown_setCellK W ⟨L, j, none⟩ v
  have h1 := k.lt; have h2 := k.r; have h3 := k.ra; have h4 := k.ab
  exact ⟨by rw [← he]; exact bx_setC v k.lg (by simp [Lg.v]; omega), k.rq.grown hg (fun e => by injection e with e; simp at e; omega), k.a.grown hg (fun e => by injection e with e; simp at e; omega), k.b.grown hg (fun e => by injection e with e; simp at e; omega), grown_tr k.gr hg, h1, h2, h3, h4⟩
theorem Lv.setB {w W : World} {L R A B : Nat} {s : Lg} {rq va vb : Array Value} (k : Lv w W L R A B s rq va vb) (j : Nat) (v : Value) (hj : j < vb.size) : Lv w (W.setCell ⟨B, j, none⟩ v) L R A B s rq va (vb.setIfInBounds j v) := by
  have hg := grown_setCellK W ⟨B, j, none⟩ v
  have h1 := k.lt; have h2 := k.r; have h3 := k.ra; have h4 := k.ab
  exact ⟨k.lg.grown hg (fun e => by injection e with e; simp at e; omega), k.rq.grown hg (fun e => by injection e with e; simp at e; omega), k.a.grown hg (fun e => by injection e with e; simp at e; omega), bx_setC v k.b hj, grown_new k.gr hg (by simp; omega), h1, h2, h3, h4⟩
theorem Lv.drew {w W : World} {L R A B : Nat} {s : Lg} {rq va vb : Array Value} (k : Lv w W L R A B s rq va vb) : Lv w W.drew L R A B s rq va vb :=
  ⟨k.lg.drew, k.rq.drew, k.a.drew, k.b.drew, grown_tr k.gr (grown_drew _ _), k.lt, k.r, k.ra, k.ab⟩
theorem Lv.turn {w W W' : World} {L R A B : Nat} {s : Lg} {rq va vb vc : Array Value} (k : Lv w W L R A B s rq va vb) (hg : W.grownBy W' (some A)) (hA : Bx W' A vc) : Lv w W' L R A B s rq vc vb := by
  have h1 := k.lt; have h2 := k.r; have h3 := k.ra; have h4 := k.ab
  exact ⟨k.lg.grown hg (fun e => by injection e with e; omega), k.rq.grown hg (fun e => by injection e with e; omega), hA, k.b.grown hg (fun e => by injection e with e; omega), grown_new k.gr hg (by omega), h1, h2, h3, h4⟩
theorem Lv.turnB {w W W' : World} {L R A B : Nat} {s : Lg} {rq va vb vc : Array Value} (k : Lv w W L R A B s rq va vb) (hg : W.grownBy W' (some B)) (hB : Bx W' B vc) : Lv w W' L R A B s rq va vc := by
  have h1 := k.lt; have h2 := k.r; have h3 := k.ra; have h4 := k.ab
  exact ⟨k.lg.grown hg (fun e => by injection e with e; omega), k.rq.grown hg (fun e => by injection e with e; omega), k.a.grown hg (fun e => by injection e with e; omega), hB, grown_new k.gr hg (by omega), h1, h2, h3, h4⟩
def ansL (kv : Value) : Array Value := #[.int .u8 0, .int .u8 0, .int .u8 1, .int .u8 0, .bool false, kv]
def ansG (kv : Value) : Array Value := #[.int .u8 0, .int .u8 0, .int .u8 1, .int .u8 3, .bool true, kv]

set_option maxRecDepth 100000 in
set_option maxHeartbeats 4000000 in
theorem leave_any (h : Hd) (L : Nat) (s : Lg) (w : World) (hX : Bx w L s.v) (hpr : s.proved = true) :
    Calls Tryz.prog 30 #[.pointer (some ⟨L, 0, none⟩), .agg (rqv h), .slice none 0 0] w fun e w' => e = .returned (.agg (ansG (.slice none 0 0))) ∧ Bx w' L { s with stage := 3, done := true, over := true }.v ∧ w.grownBy w' (some L) := by
  have h0 : Kpt (∀ (R A B : Nat) (w1 w2 w3 : World), w.heap.size ≤ R → Bx w1 R (rqv h) → Below w.heap.size w w1 → w1.heap.size ≤ A → Bx w2 A ansZ → Below w1.heap.size w1 w2 → w2.heap.size ≤ B → Bx w3 B ansZ → Below w2.heap.size w2 w3 → Lv w w3 L R A B s (rqv h) ansZ ansZ) := ⟨fun R A B w1 w2 w3 a1 a2 a3 a4 a5 a6 a7 a8 a9 => by
    have b2 := a3.trans (a6.mono a3.size)
    have b3 := b2.trans (a9.mono b2.size)
    have := a2.lt
    have := a5.lt
    exact ⟨hX.below b3 hX.lt, (a2.below a6 a2.lt).below a9 (a2.below a6 a2.lt).lt, a5.below a9 a5.lt, a8, grown_of_below b3 _, hX.lt, a1, by omega, by omega⟩⟩
  clear hX
  go_enter Tryz.func30, Tryz.ntmps30
  go_wp2_with (first
    | (refine (?_ : wpList _ _ _ (Oper.mk none (Op.store 46 _ _) _ _ _ _ :: _) _ _); go_must (refine wpList_store_bx rfl 46 (.tmp 7) (.tmp 11) rfl B ansZ (ansL (.slice none 0 0)) rfl rfl k3.out.b rfl szAns (by simp [ansL, Value.oneCell']) rfl ?_; intro w4 hB4 hg4; have k4 := Kpt.mk (k3.out.turnB hg4 hB4); clear hg4 hB4; have r1 := k4.out.rq.cells 1 (by simp [rqv]); have r2 := k4.out.rq.cells 2 (by simp [rqv]); have c9 := k4.out.lg.cells 9 (by simp [Lg.v]); have b3 := k4.out.b.cells 3 (by simp [ansL]); have b4 := k4.out.b.cells 4 (by simp [ansL]); have f3 := k4.out.b.free 3; have f4 := k4.out.b.free 4; simp [rqv, Lg.v, ansL, hpr] at r1 r2 c9 b3 b4))
    | (refine (?_ : wpList _ _ _ (Oper.mk (some 7) _ _ _ _ _ :: _) _ _); refine wpList_var rfl 46 rfl ansZ zAns ?_; intro B w3 hB2 hBx hb3; have k3 := Kpt.mk (h0.out R A B w1 w2 w3 hR.out hBq.out hbe.out hA.out hAx.out hb2.out hB2 hBx hb3); clear hB2 hBx hb3)
    | (refine (?_ : wpList _ _ _ (Oper.mk (some 6) _ _ _ _ _ :: _) _ _); refine wpList_var rfl 46 rfl ansZ zAns ?_; intro A w2 hA hAx hb2; have r0 := (hBq.out.below hb2 hBq.out.lt).cells 0 (by simp [rqv]); simp [rqv] at r0; replace hA := Kpt.mk hA; replace hAx := Kpt.mk hAx; replace hb2 := Kpt.mk hb2)
    | (refine (?_ : wpList _ _ _ (Oper.mk _ (Op.box 39 _) _ _ _ _ :: _) _ _); go_must (refine wpList_box rfl 39 (.tmp 1) rfl (rqv h) rfl ?_; intro R w1 hR hBq hbe _; replace hR := Kpt.mk hR; replace hBq := Kpt.mk hBq; replace hbe := Kpt.mk hbe)))
  go_region
  have k5 := ((k4.out.setB 4 (.bool true) (by simp [ansL])).setB 3 (.int .u8 3) (by simp [ansL])).drew
  have eG : ((ansL (.slice none 0 0)).setIfInBounds 4 (.bool true)).setIfInBounds 3 (.int .u8 3) = ansG (.slice none 0 0) := by simp [ansL, ansG]
  rw [eG] at k5
  obtain ⟨W5, hW5⟩ : ∃ W, W = ((w4.setCell ⟨B, 4, none⟩ (.bool true)).setCell ⟨B, 3, none⟩ (.int .u8 3)).drew := ⟨_, rfl⟩
  rw [← hW5] at k5 ⊢
  clear hW5 k4 r1 r2 c9 b3 b4 f3 f4 eG r0
  have k6 := k5.setL (s' := { s with stage := 3 }) 6 (.int .u8 3) (by omega) (by simp [Lg.v])
  have k7 := k6.setL (s' := { s with stage := 3, done := true }) 10 (.bool true) (by omega) (by simp [Lg.v])
  have k8 := Kpt.mk (k7.setL (s' := { s with stage := 3, done := true, over := true }) 11 (.bool true) (by omega) (by simp [Lg.v]))
  have m1 := k5.rq.cells 1 (by simp [rqv])
  have m2 := k6.rq.cells 1 (by simp [rqv])
  have m3 := k5.lg.cells 6 (by simp [Lg.v])
  have m4 := k6.lg.cells 10 (by simp [Lg.v])
  have m5 := k7.lg.cells 10 (by simp [Lg.v])
  have m6 := k7.lg.cells 11 (by simp [Lg.v])
  have g3 := k5.lg.free 6
  have g4 := k6.lg.free 10
  have g6 := k7.lg.free 11
  simp [rqv, Lg.v] at m1 m2 m3 m4 m5 m6
  replace k5 := Kpt.mk k5
  replace k6 := Kpt.mk k6
  replace k7 := Kpt.mk k7
  go_wp2_with (first
    | (refine (?_ : wpList _ _ _ (Oper.mk none (Op.store 46 _ _) _ _ _ _ :: _) _ _); go_must (refine wpList_store_bx rfl 46 (.tmp 6) (.tmp 45) rfl A ansZ (ansG (.slice none 0 0)) rfl rfl k8.out.a rfl szAns (by simp [ansG, Value.oneCell']) rfl ?_; intro w9 hA9 hg9; have k9 := Kpt.mk (k8.out.turn hg9 hA9); clear hg9 hA9))
    | (refine (?_ : wpList _ _ _ (Oper.mk _ (Op.load 46 _) _ _ _ _ :: _) _ _); go_must (refine wpList_load_bx rfl 46 (.tmp 7) rfl B (ansG (.slice none 0 0)) rfl k8.out.b _ Tryz.underlying46 rfl szAns ?_)))
  refine bodyPost_ret (v := .agg (ansG (.slice none 0 0))) (by simp [results, Tryz.results30, asAddr, Act.put, run_res k9.out.a 46 _ Tryz.underlying46 rfl szAns]) rfl ⟨rfl, k9.out.lg, k9.out.gr⟩
end Go.Proofs.YtplifodddfjhdaaGreatDoor
