/-
  Slots: Save and Load, told by how many saves there were.
-/
import Derived.Test.YtndlpmnidpandaaLSem
namespace Go.Proofs.Ytndlpmnidpandaa
open Go.RowKit
set_option linter.unusedVariables false
set_option linter.unusedSimpArgs false

/-- A state behind k saves that all went well. -/
structure Ok (st : St) (f : ByteArray) (k : Nat) (p : List Int) : Prop where
  hold : Hold st f k p
  byt : Byt st
  calm : st.waits = []
  fails : ∀ i, st.fails i = false
theorem ok_st0 (f : ByteArray) : Ok st0 f 0 [] := ⟨hold_st0 f, fun s zs h => by simp [st0] at h, rfl, fun _ => rfl⟩
theorem Ok.ops {st : St} {f : ByteArray} {k : Nat} {p : List Int} (h : Ok st f k p) (o : Int) (c : Nat) : Ok { st with ops := o, cnt := c } f k p := ⟨h.hold, h.byt, h.calm, h.fails⟩

/-- What slots know. -/
structure Knows (kn : Bool) (g nx : Int) (k : Nat) : Prop where
  is : kn = true → g = k ∧ nx = ((k % 2 : Nat) : Int)

theorem load_h (S B : Nat) (f : ByteArray) (kn : Bool) (g nx : Int) (tag : Tags) (st : St) (w : World) (hS : Sl w S B tag f kn g nx) (h : Wd w B tag st) (hc : st.cnt < 500000000000) (h1 : 1 ≤ f.size) (h2 : f.size ≤ 30)
    (k : Nat) (p : List Int) (hO : Ok st f k p) (hk : 1 ≤ k) :
    Calls Try.prog 19 #[.pointer (some ⟨S, 0, none⟩)] w fun e w' => ∃ a c, e = .returned (.tuple #[.slice a p.length c, .int .u64 k, .int .i64 0]) ∧ Row w' (.slice a p.length c) p ∧ (∀ q, (Value.slice a p.length c).ownBlock = some q → w.heap.size ≤ q) ∧
      Wd w' B tag { st with ops := st.ops + 2, cnt := st.cnt + 2 } ∧ Sp w w' S tag tag ∧ Sl w' S B tag f true k ((k % 2 : Nat) : Int) := by
  obtain ⟨e1, e2⟩ := hold_best hO.hold hk
  refine (load_any S B f kn g nx tag st w hS h hc (hO.fails _) (hO.fails _) h1 h2 hO.byt _ _ rfl rfl).mono ?_
  rintro e w' ⟨a, c, he, hp, hw, hs, hl⟩
  rw [e1] at he hp hl
  rw [e2] at hl
  exact ⟨a, c, he, hp.row, hp.lo, hw, hs, hl⟩

theorem save_h (S B : Nat) (f : ByteArray) (kn : Bool) (g nx : Int) (tag : Tags) (st : St) (w : World) (hS : Sl w S B tag f kn g nx) (h : Wd w B tag st) (hc : st.cnt < 400000000000) (h1 : 1 ≤ f.size) (h2 : f.size ≤ 30)
    (k : Nat) (p : List Int) (hO : Ok st f k p) (hk : k < 1000000) (hkn : Knows kn g nx k)
    (a : Option Addr) (n c : Nat) (zs : List Int) (hrd : RdAt w (.slice a n c) zs) (hl : zs.length = n) (hn : n ≤ 4096) (hb : Bytes zs)
    (hz : zs ≠ [] → ∀ q, (Value.slice a n c).ownBlock = some q → tag q = none ∧ q ≠ S) :
    Calls Try.prog 17 #[.pointer (some ⟨S, 0, none⟩), .slice a n c] w fun e w' => e = .returned (.tuple #[.int .u64 ((k + 1 : Nat) : Int), .int .i64 0]) ∧
      ∃ tag' st', Wd w' B tag' st' ∧ Ok st' f (k + 1) zs ∧ st'.cnt ≤ st.cnt + 6 ∧ Sp w w' S tag tag' ∧ Sl w' S B tag' f true ((k + 1 : Nat) : Int) (((k + 1) % 2 : Nat) : Int) := by
  -- what learn leaves
  have HL : ∃ st1, Ok st1 f k p ∧ st1.cnt ≤ st.cnt + 2 ∧ Calls Try.prog 33 #[.pointer (some ⟨S, 0, none⟩)] w fun e w' => e = .returned (.int .i64 0) ∧ Wd w' B tag st1 ∧ Sp w w' S tag tag ∧ Sl w' S B tag f true k ((k % 2 : Nat) : Int) := by
    cases kn with
    | true =>
      obtain ⟨rfl, rfl⟩ := hkn.is rfl
      refine ⟨st, hO, by omega, (learn_known S B f _ _ tag w hS).mono ?_⟩
      rintro e w' ⟨rfl, rfl⟩
      exact ⟨rfl, h, Sp.refl _ _ _, hS⟩
    | false =>
      refine ⟨{ st with ops := st.ops + 2, cnt := st.cnt + 2 }, hO.ops _ _, Nat.le_refl _, (learn_any S B f g nx tag st w hS h (by omega) (hO.fails _) (hO.fails _) h1 h2 hO.byt _ _ rfl rfl).mono ?_⟩
      rintro e w' ⟨rfl, hw, hs, hl⟩
      refine ⟨rfl, hw, hs, ?_⟩
      by_cases h0 : k = 0
      · subst h0
        obtain ⟨e1, e2⟩ := hold_zero hO.hold
        rw [e1, e2] at hl
        exact hl
      · obtain ⟨e1, e2⟩ := hold_best hO.hold (by omega)
        rw [e1, e2] at hl
        exact hl
  obtain ⟨st1, hO1, hc1, HL⟩ := HL
  have hcw : st1.waits.length < 1000000 := by rw [hO1.calm]; simp
  have hwr : Wrs st1.waits := by rw [hO1.calm]; intro c hc; cases hc
  have hN := hold_next hO1.hold zs (by omega) hk
  have hcast : ((k + 1 : Nat) : Int) = (k : Int) + 1 := by omega
  have hcn : (savSt st1 (if k % 2 = 0 then fn0 f else fn1 f) (recL ((k : Int) + 1) zs)).cnt ≤ st.cnt + 6 := by show st1.cnt + 4 + st1.waits.length ≤ _; rw [hO1.calm]; simp; omega
  have hOk : Ok (savSt st1 (if k % 2 = 0 then fn0 f else fn1 f) (recL ((k : Int) + 1) zs)) f (k + 1) zs := ⟨hN, byt_sav hO1.byt _ _ _ hb, rfl, hO1.fails⟩
  rw [hcast]
  by_cases h2k : k % 2 = 0
  · rw [if_pos h2k] at hcn hOk
    rw [h2k] at HL
    have e2 : (k + 1) % 2 = 1 := by omega
    rw [e2]
    refine (save0 S B f k tag st1 w hS.bx.lt hS.bare HL (by omega) hcw (hO1.fails _) (hO1.fails _) hwr h1 h2 (by omega) (by omega) a n c zs hrd hl hn hb hz).mono ?_
    rintro e w' ⟨rfl, tag', hw, hs, hsl⟩
    exact ⟨rfl, tag', _, hw, hOk, hcn, hs, hsl⟩
  · rw [if_neg h2k] at hcn hOk
    have e1 : k % 2 = 1 := by omega
    rw [e1] at HL
    have e2 : (k + 1) % 2 = 0 := by omega
    rw [e2]
    refine (save1 S B f k tag st1 w hS.bx.lt hS.bare HL (by omega) hcw (hO1.fails _) (hO1.fails _) hwr h1 h2 (by omega) (by omega) a n c zs hrd hl hn hb hz).mono ?_
    rintro e w' ⟨rfl, tag', hw, hs, hsl⟩
    exact ⟨rfl, tag', _, hw, hOk, hcn, hs, hsl⟩
theorem open_h (B : Nat) (f : ByteArray) (tag : Tags) (st : St) (w : World) (h : Wd w B tag st) (h1 : 1 ≤ f.size) (h2 : f.size ≤ 30) :
    Calls Try.prog 13 #[.pointer (some ⟨B, 0, none⟩), .string f] w fun e w' => ∃ S, e = .returned (.tuple #[.pointer (some ⟨S, 0, none⟩), .int .i64 0]) ∧ Wd w' B tag st ∧ Sl w' S B tag f false 0 0 ∧ w.heap.size ≤ S ∧ Below w.heap.size w w' := by
  refine (open_any B f w h1 h2).mono ?_
  rintro e w' ⟨rfl, rfl⟩
  have hb : Below w.heap.size w (w.alloc (.cells #[.pointer (some ⟨B, 0, none⟩), .string f, .bool false, .int .u64 0, .int .i64 0] 74)) := (Below.refl _ _).alloc (Nat.le_refl _) _
  exact ⟨w.heap.size, rfl, h.below hb, ⟨bx_new w _ _, wd_none h (Nat.le_refl _)⟩, Nat.le_refl _, hb⟩
end Go.Proofs.Ytndlpmnidpandaa
