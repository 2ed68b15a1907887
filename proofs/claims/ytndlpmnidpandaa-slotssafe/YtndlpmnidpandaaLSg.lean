/-
  Slots: a save that may find the power off; a crash behind it.
-/
import Derived.Test.YtndlpmnidpandaaLSf
namespace Go.Proofs.Ytndlpmnidpandaa
open Go.RowKit
set_option linter.unusedVariables false
set_option linter.unusedSimpArgs false

theorem crash_h (w : World) (B : Nat) (tag : Tags) (st : St) (h : Wd w B tag st) (P : Nat → List Int) (k n0 : Nat) (hD : Dn st P k n0) (kp cut : Nat) (hk : kp < 1000) (hc : cut < 1000) :
    Calls Try.prog 18 #[.pointer (some ⟨B, 0, none⟩), .int .i64 (kp : Int), .int .i64 (cut : Int)] w fun e w' => e = .returned (.tuple #[]) ∧
      ∃ tag' st', Wd w' B tag' st' ∧ FinF st'.seen P k n0 ∧ (∀ x, st'.fails x = false) ∧ st'.cnt ≤ 10000 ∧ Step w w' tag tag' (fun _ => True) := by
  have hcn := hD.cnt
  by_cases hlt : kp < st.waits.length
  · refine (crash_in w B tag st h (by omega) hD.wrs kp cut hlt (by omega)).mono ?_
    rintro e w' ⟨rfl, tag', hw, hs⟩
    exact ⟨rfl, tag', _, hw, hD.fin kp cut, fun _ => rfl, by show st.cnt + kp + 1 ≤ _; omega, hs⟩
  · refine (crash_all w B tag st h (by omega) hD.wrs kp cut (by omega) (by omega)).mono ?_
    rintro e w' ⟨rfl, tag', hw, hs⟩
    exact ⟨rfl, tag', _, hw, hD.fin _ cut, fun _ => rfl, by show st.cnt + st.waits.length ≤ _; omega, hs⟩

theorem load_f (S B : Nat) (kn : Bool) (g nx : Int) (tag : Tags) (st : St) (w : World) (hS : Sl w S B tag KK kn g nx) (h : Wd w B tag st) (P : Nat → List Int) (k n0 : Nat) (hF : FinF st.seen P k n0) (hf : ∀ x, st.fails x = false) (hc : st.cnt ≤ 10000) :
    Calls Try.prog 19 #[.pointer (some ⟨S, 0, none⟩)] w fun e w' => Sp w w' S tag tag ∧ ((k = 0 ∧ ∃ a c, e = .returned (.tuple #[.slice a 0 c, .int .u64 0, .int .i64 8])) ∨
      ∃ (G : Nat) (a : Option Addr) (c : Nat), k ≤ G ∧ G ≤ k + 1 ∧ 1 ≤ G ∧ G ≤ n0 ∧ e = .returned (.tuple #[.slice a (P (G - 1)).length c, .int .u64 (G : Int), .int .i64 0]) ∧ RdAt w' (.slice a (P (G - 1)).length c) (P (G - 1))) := by
  refine (load_any S B KK kn g nx tag st w hS h (by omega) (hf _) (hf _) (by rw [size_k]; omega) (by rw [size_k]; omega) hF.1 _ _ rfl rfl).mono ?_
  rintro e w' ⟨a, c, he, hp, hw, hs, hl⟩
  refine ⟨hs, ?_⟩
  rcases hF.2 with ⟨h0, e1⟩ | ⟨G, h1, h2, h3, h4, e1⟩
  · rw [e1] at he
    exact .inl ⟨h0, a, c, he⟩
  · rw [e1] at he hp
    exact .inr ⟨G, a, c, h1, h2, h3, h4, he, hp.row.rd⟩

theorem save_r (S B : Nat) (g nx : Int) (tag : Tags) (st : St) (w : World) (k : Nat) (p : List Int) (sp : Int) (hS : Sl w S B tag KK (decide (0 < k)) g nx) (h : Wd w B tag st)
    (hR : Run st k p sp (if k = 0 then 0 else 2 * k + 2)) (hcn : st.cnt ≤ 100 * k + 2) (hah : (if k = 0 then 0 else 2 * (k : Int) + 2) ≤ sp) (hk : k < 12) (hkn : Knows (decide (0 < k)) g nx k) (P : Nat → List Int) (n0 : Nat) (hk0 : k < n0) (hp : 1 ≤ k → p = P (k - 1))
    (a : Option Addr) (n c : Nat) (hrd : RdAt w (.slice a n c) (P k)) (hl : (P k).length = n) (hn : n ≤ 200) (hb : Bytes (P k))
    (hz : P k ≠ [] → ∀ q, (Value.slice a n c).ownBlock = some q → tag q = none ∧ q ≠ S)
    (hfair : ∀ j, j < 20 + n → Fair ((st.seen (fnk k)).getD []) ((k : Int) + 1) (P k) j) :
    Calls Try.prog 17 #[.pointer (some ⟨S, 0, none⟩), .slice a n c] w fun e w' => ∃ tag' st', Wd w' B tag' st' ∧ Sp w w' S tag tag' ∧
      ((∃ v, e = .returned (.tuple #[.int .u64 v, .int .i64 0]) ∧ Run st' (k + 1) (P k) sp (2 * (k : Int) + 4) ∧ 2 * (k : Int) + 4 ≤ sp ∧ st'.cnt ≤ 100 * (k + 1) + 2 ∧ Sl w' S B tag' KK true ((k + 1 : Nat) : Int) (((k + 1) % 2 : Nat) : Int) ∧ st'.seen = updF st.seen (fnk k) (some (laidL ((st.seen (fnk k)).getD []) 0 (recL ((k : Int) + 1) (P k))))) ∨
       (e = .returned (.tuple #[.int .u64 0, .int .i64 7]) ∧ Dn st' P k n0)) := by
  have s1 : 1 ≤ KK.size := by rw [size_k]; omega
  have s2 : KK.size ≤ 30 := by rw [size_k]; omega
  by_cases hearly : k = 0 ∧ sp < 2
  · obtain ⟨rfl, hsp⟩ := hearly
    have ho : st.ops = 0 := by have := hR.ops; simpa using this
    have hS' : Sl w S B tag KK false g nx := hS
    by_cases h0 : sp = 0
    · have hL := load_down0 S B KK false g nx tag st w hS' h (by omega) (by rw [hR.stop, ho, h0]) hR.off s1 s2
      refine (save_nolearn S B tag (dnSt st) w (learn_down S B KK g nx tag _ w hS' hL) a n c (by omega)).mono ?_
      rintro e w' ⟨rfl, hw, hs⟩
      exact ⟨tag, _, hw, hs, .inr ⟨rfl, dn_calm P hR rfl rfl (by show st.cnt + 1 ≤ _; omega) hp (by omega)⟩⟩
    · have h1 : sp = 1 := by simp at hah; omega
      have hh := hold_zero hR.hold
      have hn0 : slotOf (st.seen (KK ++ ⟨#[46, 48]⟩)) = none := by have := hR.hold; unfold Hold at this; rw [if_pos rfl] at this; exact this.1
      have hL := load_down1 S B KK false g nx tag st w hS' h (by omega) (by rw [hR.fails, ho, h1]; rfl) (by rw [hR.stop, ho, h1]; rfl) hR.off hR.byt hn0 s1 s2
      refine (save_nolearn S B tag _ w (learn_down S B KK g nx tag _ w hS' hL) a n c (by omega)).mono ?_
      rintro e w' ⟨rfl, hw, hs⟩
      exact ⟨tag, _, hw, hs, .inr ⟨rfl, dn_calm P hR rfl rfl (by show st.cnt + 1 + 1 ≤ _; omega) hp (by omega)⟩⟩
  · -- what learn leaves
    have HL : ∃ st1, Run st1 k p sp (2 * (k : Int) + 2) ∧ st1.seen = st.seen ∧ st1.cnt ≤ 100 * k + 4 ∧ Calls Try.prog 33 #[.pointer (some ⟨S, 0, none⟩)] w fun e w' => e = .returned (.int .i64 0) ∧ Wd w' B tag st1 ∧ Sp w w' S tag tag ∧ Sl w' S B tag KK true k ((k % 2 : Nat) : Int) := by
      by_cases h0 : k = 0
      · subst h0
        have ho : st.ops = 0 := by have := hR.ops; simpa using this
        have hS' : Sl w S B tag KK false g nx := hS
        have f0 : st.fails st.ops = false := by rw [hR.fails, ho]; simp at hearly; simp; omega
        have f1 : st.fails (st.ops + 1) = false := by rw [hR.fails, ho]; simp at hearly; simp; omega
        have hc2 : ({ st with ops := st.ops + 2, cnt := st.cnt + 2 } : St).cnt ≤ 4 := by show st.cnt + 2 ≤ 4; omega
        refine ⟨{ st with ops := st.ops + 2, cnt := st.cnt + 2 }, ⟨hR.hold, hR.byt, hR.calm, hR.fails, hR.stop, hR.off, by show st.ops + 2 = _; rw [ho]; simp, hR.dur, hR.len, by show st.cnt + 2 ≤ _; omega⟩, rfl, hc2, (learn_any S B KK g nx tag st w hS' h (by omega) f0 f1 s1 s2 hR.byt _ _ rfl rfl).mono ?_⟩
        rintro e w' ⟨rfl, hw, hs, hl⟩
        obtain ⟨e1, e2⟩ := hold_zero hR.hold
        rw [e1, e2] at hl
        exact ⟨rfl, hw, hs, hl⟩
      · have hS' : Sl w S B tag KK true g nx := by have := hS; rw [decide_eq_true (by omega : 0 < k)] at this; exact this
        rw [decide_eq_true (by omega : 0 < k)] at hkn
        obtain ⟨rfl, rfl⟩ := hkn.is rfl
        refine ⟨st, ?_, rfl, by omega, (learn_known S B KK _ _ tag w hS').mono ?_⟩
        · have := hR; rw [if_neg h0] at this; exact this
        · rintro e w' ⟨rfl, rfl⟩
          exact ⟨rfl, h, Sp.refl _ _ _, hS'⟩
    obtain ⟨st1, hR1, hse, hc1, HL⟩ := HL
    have hah2 : 2 * (k : Int) + 2 ≤ sp := by
      by_cases h0 : k = 0
      · subst h0; simp at hearly hah; simp; omega
      · rw [if_neg h0] at hah; exact hah
    have hcw : st1.waits.length < 1000000 := by rw [hR1.calm]; simp
    have hwr : Wrs st1.waits := by rw [hR1.calm]; intro c hc; cases hc
    rw [← hse] at hfair ⊢
    by_cases d1 : sp = 2 * (k : Int) + 2
    · by_cases h2k : k % 2 = 0
      · have efk : fnk k = fn0 KK := if_pos h2k
        rw [h2k] at HL
        refine (save_dw S B KK k 0 tag st1 (dnSt st1) w hS.bx.lt hS.bare HL (by omega) (by omega) a n c (P k) hrd (by omega) hz (fun W hW hSW hr => swrite_d0 S B KK false k (k + 1) tag st1 W hSW hW (by omega) hcw (by rw [hR1.stop, hR1.ops]; exact d1) hR1.off hwr s1 s2 (by omega) (by omega) a n c (P k) hr hl (by omega) hb)).mono ?_
        rintro e w' ⟨rfl, tag', hw, hs⟩
        exact ⟨tag', _, hw, hs, .inr ⟨rfl, dn_calm P hR1 rfl rfl (by show st1.cnt + 1 ≤ _; omega) hp (by omega)⟩⟩
      · have efk : fnk k = fn1 KK := if_neg h2k
        rw [(by omega : k % 2 = 1)] at HL
        refine (save_dw S B KK k 1 tag st1 (dnSt st1) w hS.bx.lt hS.bare HL (by omega) (by omega) a n c (P k) hrd (by omega) hz (fun W hW hSW hr => swrite_d1 S B KK false k (k + 1) tag st1 W hSW hW (by omega) hcw (by rw [hR1.stop, hR1.ops]; exact d1) hR1.off hwr s1 s2 (by omega) (by omega) a n c (P k) hr hl (by omega) hb)).mono ?_
        rintro e w' ⟨rfl, tag', hw, hs⟩
        exact ⟨tag', _, hw, hs, .inr ⟨rfl, dn_calm P hR1 rfl rfl (by show st1.cnt + 1 ≤ _; omega) hp (by omega)⟩⟩
    · by_cases d2 : sp = 2 * (k : Int) + 3
      · by_cases h2k : k % 2 = 0
        · have efk : fnk k = fn0 KK := if_pos h2k
          rw [h2k] at HL
          refine (save_dw S B KK k 0 tag st1 (wrSt st1 (fn0 KK) (recL ((k : Int) + 1) (P k))) w hS.bx.lt hS.bare HL (by omega) (by omega) a n c (P k) hrd (by omega) hz (fun W hW hSW hr => swrite_s0 S B KK false k (k + 1) tag st1 W hSW hW (by omega) hcw (by rw [hR1.fails, hR1.ops]; simp; omega) (by rw [hR1.stop, hR1.ops]; omega) hR1.off hwr s1 s2 (by omega) (by omega) a n c (P k) hr hl (by omega) hb)).mono ?_
          rintro e w' ⟨rfl, tag', hw, hs⟩
          refine ⟨tag', _, hw, hs, .inr ⟨rfl, dn_torn P hR1 hb (by omega) hk ?_ rfl (by show st1.cnt + 2 + 1 ≤ _; omega) hp hk0 (by rw [hl]; exact hfair)⟩⟩
          show st1.waits ++ [.wr (fn0 KK) 0 (recL ((k : Int) + 1) (P k))] = _
          rw [hR1.calm, efk]; rfl
        · have efk : fnk k = fn1 KK := if_neg h2k
          rw [(by omega : k % 2 = 1)] at HL
          refine (save_dw S B KK k 1 tag st1 (wrSt st1 (fn1 KK) (recL ((k : Int) + 1) (P k))) w hS.bx.lt hS.bare HL (by omega) (by omega) a n c (P k) hrd (by omega) hz (fun W hW hSW hr => swrite_s1 S B KK false k (k + 1) tag st1 W hSW hW (by omega) hcw (by rw [hR1.fails, hR1.ops]; simp; omega) (by rw [hR1.stop, hR1.ops]; omega) hR1.off hwr s1 s2 (by omega) (by omega) a n c (P k) hr hl (by omega) hb)).mono ?_
          rintro e w' ⟨rfl, tag', hw, hs⟩
          refine ⟨tag', _, hw, hs, .inr ⟨rfl, dn_torn P hR1 hb (by omega) hk ?_ rfl (by show st1.cnt + 2 + 1 ≤ _; omega) hp hk0 (by rw [hl]; exact hfair)⟩⟩
          show st1.waits ++ [.wr (fn1 KK) 0 (recL ((k : Int) + 1) (P k))] = _
          rw [hR1.calm, efk]; rfl
      · by_cases h2k : k % 2 = 0
        · have efk : fnk k = fn0 KK := if_pos h2k
          rw [h2k] at HL
          have hOk := run_sav hR1 (P k) hb (by omega) hk
          have hcs : (savSt st1 (fnk k) (recL ((k : Int) + 1) (P k))).cnt ≤ 100 * (k + 1) + 2 := by show st1.cnt + 4 + st1.waits.length ≤ _; rw [hR1.calm]; simp; omega
          rw [efk] at hOk hcs ⊢
          have e2 : (((k + 1) % 2 : Nat) : Int) = 1 := by omega
          have e3 : ((k + 1 : Nat) : Int) = (k : Int) + 1 := by omega
          have e4 : 2 * (k : Int) + 2 + 2 = 2 * (k : Int) + 4 := by omega
          rw [e2, e3]
          rw [e4] at hOk
          refine (save0 S B KK k tag st1 w hS.bx.lt hS.bare HL (by omega) hcw (by rw [hR1.fails, hR1.ops]; simp; omega) (by rw [hR1.fails, hR1.ops]; simp; omega) hwr s1 s2 (by omega) (by omega) a n c (P k) hrd hl (by omega) hb hz).mono ?_
          rintro e w' ⟨rfl, tag', hw, hs, hsl⟩
          exact ⟨tag', _, hw, hs, .inl ⟨_, rfl, hOk, by omega, hcs, hsl, rfl⟩⟩
        · have efk : fnk k = fn1 KK := if_neg h2k
          rw [(by omega : k % 2 = 1)] at HL
          have hOk := run_sav hR1 (P k) hb (by omega) hk
          have hcs : (savSt st1 (fnk k) (recL ((k : Int) + 1) (P k))).cnt ≤ 100 * (k + 1) + 2 := by show st1.cnt + 4 + st1.waits.length ≤ _; rw [hR1.calm]; simp; omega
          rw [efk] at hOk hcs ⊢
          have e2 : (((k + 1) % 2 : Nat) : Int) = 0 := by omega
          have e3 : ((k + 1 : Nat) : Int) = (k : Int) + 1 := by omega
          have e4 : 2 * (k : Int) + 2 + 2 = 2 * (k : Int) + 4 := by omega
          rw [e2, e3]
          rw [e4] at hOk
          refine (save1 S B KK k tag st1 w hS.bx.lt hS.bare HL (by omega) hcw (by rw [hR1.fails, hR1.ops]; simp; omega) (by rw [hR1.fails, hR1.ops]; simp; omega) hwr s1 s2 (by omega) (by omega) a n c (P k) hrd hl (by omega) hb hz).mono ?_
          rintro e w' ⟨rfl, tag', hw, hs, hsl⟩
          exact ⟨tag', _, hw, hs, .inl ⟨_, rfl, hOk, by omega, hcs, hsl, rfl⟩⟩
end Go.Proofs.Ytndlpmnidpandaa
