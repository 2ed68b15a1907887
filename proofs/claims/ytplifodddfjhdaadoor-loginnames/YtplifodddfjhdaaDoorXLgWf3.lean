/-
  login: names, case f3.
-/
import Derived.Test.YtplifodddfjhdaaDoorXLgV
namespace Go.Proofs.YtplifodddfjhdaaDoor
open Go.RowKit
set_option linter.unusedVariables false
set_option linter.unusedSimpArgs false

set_option maxRecDepth 100000 in
set_option maxHeartbeats 8000000 in
theorem nm_f3 (I T S : ByteArray) (a : Option Addr) (n c : Nat) (os : List ByteArray) (w : World) (hos : StAt w (.slice a n c) os) (hn : n * 16 ≤ 140737488355328) (hI : (I.toList == []) = false) (hSd : (S.toList == [68, 105, 115, 99, 111, 118, 101, 114, 121]) = false) (hSn : (S.toList == [78, 111, 114, 109, 97, 108]) = true) (hT : (T.toList == []) = false) (hh2 : Lib.containsS os T = false) :
    Calls Tryd.prog 5 #[.string I, .string T, .string S, .bool true, .slice a n c] w fun e w' => e = .returned (.bool true) ∧ Below w.heap.size w w' := by
  have hlen : os.length = n := by obtain ⟨a', c', hv, _⟩ := hos; simp only [Value.slice.injEq] at hv; exact hv.2.1.symm
  have hnm : n ≤ maxLen := by unfold maxLen; omega
  have fN : Kpt (∀ W, Below w.heap.size w W → Calls Tryd.prog 7 #[.agg #[.slice a n c, .slice none 0 0, .bool false], .int .u8 1, .slice none 0 0] W fun e w' => (∃ L a' c', e = .returned (.pointer (some ⟨L, 0, none⟩)) ∧ W.heap.size ≤ L ∧ Bx w' L (lg0 (.slice a' n c')).v ∧ StAt w' (.slice a' n c') os ∧ Off a' L) ∧ Below W.heap.size W w') := ⟨fun W hb => new_any a n c os W (hos.bel hb) hn⟩
  have fS : Kpt (∀ (W : World) (L : Nat) (ka : Option Addr) (kn kc : Nat) (a' : Option Addr) (c' : Nat), w.heap.size ≤ L → Bx W L (lg0 (.slice a' n c')).v → PsAt W (.slice ka kn kc) (ps3 I T S) → kn ≤ maxLen → Off ka L → StAt W (.slice a' n c') os → Off a' L → Below w.heap.size w W →
      Calls Tryd.prog 8 #[.pointer (some ⟨L, 0, none⟩), .agg #[.int .u8 1, .int .u8 3, .bool true, .slice ka kn kc]] W fun e w' => e = .returned (.tuple #[.agg (ansF 3), .int .i64 0]) ∧ (∃ s' : Lg, Bx w' L s'.v ∧ s'.over = true ∧ s'.done = false) ∧ Below w.heap.size w w') := ⟨fun W L ka kn kc a' c' h1 h2 h3 h4 h5 h6 h7 h8 => by
    obtain ⟨h, hh⟩ : ∃ h : Hd, h = ⟨ka, kn, kc, ps3 I T S, a', n, c', os⟩ := ⟨_, rfl⟩
    have e1 : h.ini = I := by rw [hh]; unfold Hd.ini; simp only; rw [f3I]; rfl
    have e2 : h.ses = S := by rw [hh]; unfold Hd.ses; simp only; rw [f3S]; rfl
    have e3 : h.fnd = true := by rw [hh]; unfold Hd.fnd; simp only; rw [f3S]; rfl
    have e4 : h.tgt = T := by rw [hh]; unfold Hd.tgt; simp only; rw [f3T]; rfl
    have e5 : h.os = os := by rw [hh]
    have EI : ¬ h.ini = ⟨#[]⟩ := by rw [e1]; exact fun e => by have := (lit_iff I _ _ (by rw [ByteArray.toList_eq])).1 e; rw [hI] at this; cases this
    have EF : h.fnd = true := e3
    have ESd : ¬ h.ses = vDis := by rw [e2]; exact fun e => by have := (lit_iff S _ _ (by rw [vDis, ByteArray.toList_eq])).1 e; rw [hSd] at this; cases this
    have ESn : h.ses = vNor := by rw [e2]; exact (lit_iff S _ _ (by rw [vNor, ByteArray.toList_eq])).2 hSn
    have EK : ¬ kBad h.fnd h.ses := fun k => k.2.1 ESn
    obtain ⟨q1, q2⟩ := beg_cho EI EK ESd
    rw [e4, e5] at q1 q2
    have ET : ¬ T = ⟨#[]⟩ := fun e => by have := (lit_iff T _ _ (by rw [ByteArray.toList_eq])).1 e; rw [hT] at this; cases this
    have Q1 : begO h = false := by rw [q1]; unfold choO; rw [hh2]; simp
    have Q2 : begD h = 3 := by rw [q2]; unfold choD; rw [if_neg ET, hh2]; simp
    have hst := step_any h L (lg0 (.slice a' n c')) W h2 (by rw [hh]; exact ⟨h3, h4, h5, h6, hnm, h7⟩) (by rw [hh]; rfl) rfl rfl rfl (by rw [hh]; exact ig3 _ _ _)
    rw [show (Value.agg (rqv h)) = .agg #[.int .u8 1, .int .u8 3, .bool true, .slice ka kn kc] by rw [hh]; rfl] at hst
    refine hst.mono ?_
    rintro e w' ⟨rfl, hx, hg⟩
    obtain ⟨r1, r2, r3⟩ := stp_fail (lg0 (.slice a' n c')) Q1 rfl
    rw [Q2] at r1
    exact ⟨by rw [r1], ⟨_, hx, r2, r3⟩, h8.grown hg h8.size (fun q e => by cases e; exact h1)⟩⟩
  have fA : Kpt (∀ W : World, Calls Tryd.prog 6 #[] W fun e w' => e = .returned (.bool true) ∧ Below W.heap.size W w') := ⟨awake_any⟩
  have fO : Kpt (∀ (W : World) (L : Nat) (s : Lg), Bx W L s.v → Calls Tryd.prog 10 #[.pointer (some ⟨L, 0, none⟩)] W fun e w' => e = .returned (.bool s.over) ∧ w' = W) := ⟨fun W L s h => over_any L s W h⟩
  have fD : Kpt (∀ (W : World) (L : Nat) (s : Lg), Bx W L s.v → Calls Tryd.prog 13 #[.pointer (some ⟨L, 0, none⟩)] W fun e w' => e = .returned (.bool s.done) ∧ w' = W) := ⟨fun W L s h => done_any L s W h⟩
  have fP : Kpt (∀ (W : World) (L : Nat) (s : Lg), Bx W L s.v → Calls Tryd.prog 12 #[.pointer (some ⟨L, 0, none⟩)] W fun e w' => e = .returned (.agg s.p) ∧ Below W.heap.size W w') := ⟨fun W L s h => params_any L s W h⟩
  have hcel : Kpt (∀ W, Below w.heap.size w W → ∀ j, j < n → ∃ b off, a = some ⟨b, off, none⟩ ∧ W.cell? ⟨b, off + j, none⟩ = some (.string (os.getD j ByteArray.empty))) := ⟨fun W hb j hj => st_cells (hos.bel hb) j hj⟩
  have hlen' := Kpt.mk hlen
  unfold maxLen at hnm
  clear hos hlen hn
  go_enter Tryd.func5, Tryd.ntmps5
  go_wp2_with (first
    | (refine wpList_append_prB rfl (.tmp 31) (.tmp 34) rfl w2.heap.size (.slice (some ⟨w2.heap.size, 0, none⟩) 2 2) (ps2 I T) (kSes, S) 2 rfl (own_two2 w2 w2.heap.size (Nat.le_refl _) (kIni, I) (kTgt, T) _) (w2.heap.size + 1) (by simp [Act.eval, Act.put]) (by simp [kSes]) (by simp) (by omega) (by simp; omega) ?_; intro v3 w3 how hg3; have hbq : Below w2.heap.size w2 w3 := (((Below.refl w2.heap.size w2).alloc (Nat.le_refl _) _).alloc (by simp) _).grown hg3 (by simp; omega) (fun q e => by simp [Value.ownBlock] at e; omega); obtain ⟨kps, ka, kc, rfl, hkc, -, hnw, hkn⟩ := psB_of how; clear how hg3)
    | (go_at_call 7; go_must (refine (fN.out _ b1.out).mono ?_; rintro e w2 ⟨⟨L, a', c', rfl, hL0, hX, hst2, hof⟩, hq⟩; have b2 : Kpt (Below w.heap.size w w2) := ⟨b1.out.trans (hq.mono b1.out.size)⟩; have hL : Kpt (w.heap.size ≤ L) := ⟨Nat.le_trans b1.out.size hL0⟩; replace hX := Kpt.mk hX; replace hst2 := Kpt.mk hst2; replace hof := Kpt.mk hof; clear hL0 hq))
    | (go_at_call 6; go_must (refine (fA.out _).mono ?_; rintro e w1 ⟨rfl, hq⟩; have b1 : Kpt (Below w.heap.size w w1) := ⟨hq⟩; clear hq)))
  obtain ⟨kn, hkn3⟩ : ∃ k, k = 3 := ⟨_, rfl⟩
  have hkm : 3 ≤ maxLen := by unfold maxLen; omega
  have kps' : PsAt w3 (.slice ka 3 kc) (ps3 I T S) := kps
  have hoff : Off ka L := fun x e => by have := hnw x e; have := hX.out.lt; omega
  have hb3 : Below w.heap.size w w3 := b2.out.trans (hbq.mono b2.out.size)
  have hstep := Kpt.mk (fS.out w3 L ka 3 kc a' c' hL.out (hX.out.below hbq hX.out.lt) kps' hkm hoff (hst2.out.bel hbq) hof.out hb3)
  have hc3 := Kpt.mk (hcel.out w3 hb3)
  replace hb3 := Kpt.mk hb3
  clear hbq hoff kps' hkm hnw fS fN hcel hst2 hof
  go_loop [13, 14] (fun t13 t => ∃ (hb : Bool) (k : Nat), k ≤ n ∧ t13 = .bool hb ∧ t = .int .i64 k ∧ Kpt (hb = true ↔ ∃ j, j < k ∧ os.getD j ByteArray.empty = T)) (fun _ t => n - (intOf t).toNat)
  case atStart => exact ⟨false, 0, by omega, rfl, rfl, ⟨⟨fun e => (by cases e), fun ⟨j, hj, _⟩ => (by omega)⟩⟩⟩
  case round =>
    obtain ⟨hb, k, hk, rfl, rfl, hq⟩ := hrel
    by_cases hlt : k < n
    · have hltI : (k : Int) < n := by omega
      obtain ⟨b, off, rfl, hcj⟩ := hc3.out k hlt
      obtain ⟨x, hx⟩ : ∃ x, x = os.getD k ByteArray.empty := ⟨_, rfl⟩
      rw [← hx] at hcj
      cases hb with
      | true =>
        have hq2 : Kpt (true = true ↔ ∃ j, j < k + 1 ∧ os.getD j ByteArray.empty = T) := ⟨⟨fun _ => by obtain ⟨j, hj, he⟩ := hq.out.1 rfl; exact ⟨j, by omega, he⟩, fun _ => rfl⟩⟩
        clear hx
        go_wp2
        go_round
        case rel => exact ⟨true, k + 1, by omega, rfl, by go_num, hq2⟩
        case measure => simp [intOf]; omega
      | false =>
        have hno : ∀ j, j < k → ¬ os.getD j ByteArray.empty = T := fun j hj he => by have := hq.out.2 ⟨j, hj, he⟩; cases this
        by_cases hxT : x = T
        · have hq2 : Kpt (true = true ↔ ∃ j, j < k + 1 ∧ os.getD j ByteArray.empty = T) := ⟨⟨fun _ => ⟨k, by omega, by rw [← hx]; exact hxT⟩, fun _ => rfl⟩⟩
          have heq : (x.toList == T.toList) = true := by rw [hxT]; exact beq_self_eq_true _
          clear hx hxT hno
          go_wp2
          go_round
          case rel => exact ⟨true, k + 1, by omega, rfl, by go_num, hq2⟩
          case measure => simp [intOf]; omega
        · have hq2 : Kpt (false = true ↔ ∃ j, j < k + 1 ∧ os.getD j ByteArray.empty = T) := ⟨⟨fun e => (by cases e), fun ⟨j, hj, he⟩ => by
            by_cases hjk : j < k
            · exact absurd he (hno j hjk)
            · obtain rfl : j = k := by omega
              exact absurd (hx.trans he) hxT⟩⟩
          have heq := toList_ne hxT
          clear hx hxT hno
          go_wp2
          go_round
          case rel => exact ⟨false, k + 1, by omega, rfl, by go_num, hq2⟩
          case measure => simp [intOf]; omega
    · have hltI : ¬ (k : Int) < n := by omega
      obtain rfl : k = n := by omega
      have hhas := has_iff os T hb (by rw [hlen'.out]; exact hq.out)
      rw [hh2] at hhas
      subst hhas
      clear hq hc3
      go_wp2_with (first
        | (go_at_call 13; go_must (have hd := fD.out _ _ _ k9.out; rw [hs2] at hd; refine hd.mono ?_; rintro e wx ⟨rfl, rfl⟩))
        | (go_at_call 10; go_must (have hd := fO.out _ _ _ k9.out; rw [hs1] at hd; refine hd.mono ?_; rintro e wx ⟨rfl, rfl⟩))
        | (refine (?_ : wpList _ _ _ (Oper.mk none (Op.store 33 _ _) _ _ _ _ :: _) _ _); go_must (refine wpList_store_bx rfl 33 (.tmp 17) (.tmp 82) rfl A ansZ (ansF 3) rfl rfl hAx.out rfl szAns (by simp [ansF, Value.oneCell']) rfl ?_; intro w9 hA9 hg9; have k9 : Kpt (Bx w9 L s4.v) := ⟨k8.out.grown hg9 (fun e => by injection e with e; have := hA.out; have := hs4'.out.lt; omega)⟩; have hb9 : Kpt (Below w.heap.size w w9) := ⟨hb8.out.grown hg9 hb8.out.size (fun q e => by injection e with e; subst e; have := hA.out; have := hb4.out.size; omega)⟩; have q0 := hA9.cells 0 (by simp [ansF]); have q1 := hA9.cells 1 (by simp [ansF]); simp [ansF] at q0 q1; replace hA9 := Kpt.mk hA9; clear hg9))
        | (refine (?_ : wpList _ _ _ (Oper.mk (some 17) _ _ _ _ _ :: _) _ _); refine wpList_var rfl 33 rfl ansZ zAns ?_; intro A w8 hA hAx hb'; have k8 : Kpt (Bx w8 L s4.v) := ⟨hs4'.out.below hb' hs4'.out.lt⟩; have hb8 : Kpt (Below w.heap.size w w8) := ⟨hb4.out.trans (hb'.mono hb4.out.size)⟩; replace hA := Kpt.mk hA; replace hAx := Kpt.mk hAx; clear hb')
        | (go_at_call 8; go_must (refine hstep.out.mono ?_; rintro e w4 ⟨rfl, ⟨s4, hs4', hs1, hs2⟩, hb4⟩; replace hs4' := Kpt.mk hs4'; replace hb4 := Kpt.mk hb4)))
      go_ret
      exact ⟨rfl, hb9.out⟩
end Go.Proofs.YtplifodddfjhdaaDoor
