/-
  The contract of Write.
-/
import Derived.Test.YtndlpmnidpandaaDo
namespace Go.Proofs.Ytndlpmnidpandaa
open Go.RowKit Go.Maps
set_option linter.unusedVariables false
set_option linter.unusedSimpArgs false

/-- A world behind a pointer. -/
def Wd (w : World) (B : Nat) (tag : Tags) (st : St) : Prop := ∃ M1 M2 wv fv f1 f2 l n2, Inv w B tag st M1 M2 wv fv f1 f2 l n2

theorem Wd.step {w w' : World} {B : Nat} {tag tag' : Tags} {st : St} (h : Wd w B tag st) (s : Step w w' tag tag' (fun _ => False)) : Wd w' B tag' st := by
  obtain ⟨M1, M2, wv, fv, f1, f2, l, n2, h⟩ := h
  exact ⟨M1, M2, wv, fv, f1, f2, l, n2, h.step s⟩

theorem Wd.live {w : World} {B : Nat} {tag : Tags} {st : St} (h : Wd w B tag st) (hf : st.fails st.ops = false) : st.stop ≠ st.ops ∧ st.off = false := by
  obtain ⟨M1, M2, wv, fv, f1, f2, l, n2, h⟩ := h
  exact h.live hf
theorem Wd.lt {w : World} {B : Nat} {tag : Tags} {st : St} (h : Wd w B tag st) : ∀ i, tag i ≠ none → i < w.heap.size := by
  obtain ⟨M1, M2, wv, fv, f1, f2, l, n2, h⟩ := h
  exact h.lt

set_option maxRecDepth 100000 in
set_option maxHeartbeats 1000000 in
theorem write_any (w : World) (B : Nat) (tag : Tags) (st : St) (h : Wd w B tag st) (hc : st.cnt < 549755813888) (s : ByteArray) (h1 : 1 ≤ s.size) (h2 : s.size ≤ 32) (off : Nat) (dv : Value) (ds : List Int) (hrd : RdAt w dv ds)
    (hdt : ds ≠ [] → ∀ g, dv.ownBlock = some g → tag g = none) (ho : off + ds.length ≤ 1048576) (hlv : st.stop ≠ st.ops ∧ st.off = false) :
    Calls Try.prog 22 #[.pointer (some ⟨B, 0, none⟩), .string s, .int .i64 (off : Int), dv] w fun e w' => e = .returned (.int .i64 (if st.fails st.ops then 6 else 0)) ∧
      ∃ tag', Wd w' B tag' (if st.fails st.ops then { st with ops := st.ops + 1, cnt := st.cnt + 1 } else { st with seen := (Chg.wr s off ds).run st.seen, waits := st.waits ++ [.wr s off ds], ops := st.ops + 1, cnt := st.cnt + 2 }) ∧ Step w w' tag tag' (fun _ => True) := by
  obtain ⟨M1, M2, wv, fv, f1, f2, l, n2, h⟩ := h
  obtain ⟨a, c, rfl, hn⟩ := rd_shape hrd
  have hcl := call_any w B tag st M1 M2 n2 wv fv f1 f2 l h (by omega) hlv
  obtain ⟨p, hp⟩ : ∃ p, p = st.fails st.ops := ⟨_, rfl⟩
  rw [← hp] at hcl ⊢
  have H1 : ¬ ((off : Int) < 0) := by omega
  have H2 : ¬ ((1048576 : Int) - (ds.length : Int) < (off : Int)) := by omega
  have hBt := h.tB
  cases p
  · simp only [Bool.false_eq_true, if_false] at hcl ⊢
    -- the clone is new memory
    have key : ∀ w1, Inv w1 B tag { st with ops := st.ops + 1, cnt := st.cnt + 1 } M1 M2 wv fv f1 f2 l n2 → w.grownBy w1 (some B) → RdAt w1 (.slice a ds.length c) ds := by
      intro w1 hI hg
      by_cases h0 : ds.length = 0
      · obtain ⟨a', c', hx, h1, h2, _⟩ := hrd
        exact ⟨a', c', hx, h1, h2, .inl h0⟩
      · exact hrd.of_block (fun g hg' => hg.block g (hrd.lt (by omega) hg') (fun e => by cases e; have := hdt (fun e => h0 (by rw [e]; rfl)) B hg'; rw [hBt] at this; cases this))
    have key2 : ∀ (w1 w2 : World) (v' : Value), Inv w1 B tag { st with ops := st.ops + 1, cnt := st.cnt + 1 } M1 M2 wv fv f1 f2 l n2 → Row w2 v' ds → w1.grownBy w2 none → (∀ g, v'.ownBlock = some g → w1.heap.size ≤ g) → 
        Inv w2 B tag { st with ops := st.ops + 1, cnt := st.cnt + 1 } M1 M2 wv fv f1 f2 l n2 ∧ (Chg.wr s off ds).pre w2 tag v' ∧ ∀ u ∈ [Value.int .i64 0, .string s, .string ⟨#[]⟩, .int .i64 (off : Int), v'], u.oneCell' = true := by
      intro w1 w2 v' hI hr hg hnew
      refine ⟨hI.step (Step.grown hg _ _), ⟨h2, ho, hr, fun g hg' => ⟨hr.lt hg', ?_⟩⟩, ?_⟩
      · cases hh : tag g with
        | none => rfl
        | some t => have := hI.lt g (by rw [hh]; simp); have := hnew g hg'; omega
      · obtain ⟨a', c', hx, _⟩ := hr.rd
        simp [hx, Value.oneCell']
    replace key := Kpt.mk key
    replace key2 := Kpt.mk key2
    have hI := Kpt.mk h
    replace hrd := Kpt.mk hrd
    replace hdt := Kpt.mk hdt
    clear h hp
    go_enter Try.func22, Try.ntmps22
    go_wp2_with (first
      | (go_at_call 40; refine (named_ok s _ h1 h2).mono ?_; rintro e w' ⟨rfl, hw'⟩; rw [hw'])
      | (go_at_call 41; refine hcl.mono ?_; rintro e w1 ⟨rfl, hI1, hg1⟩)
      | (go_at_call 28; refine (clone_any _ (.slice a ds.length c) ds (key.out _ hI1 hg1) (by omega)).mono ?_; rintro e w2 ⟨v', rfl, hr2, hg2, hnew2⟩; obtain ⟨a', c', rfl, _⟩ := rd_shape hr2.rd)
      | (go_at_call 42; refine (do_any _ B tag _ M1 M2 n2 wv fv f1 f2 l (key2.out _ _ _ hI1 hr2 hg2 hnew2).1 (by show st.cnt + 1 < 1099511627776; omega) (.wr s off ds) (.int .i64 0) (.string s) (.string ⟨#[]⟩) (.int .i64 (off : Int)) (.slice a' ds.length c') rfl (applies_wr s off ds _) (key2.out _ _ _ hI1 hr2 hg2 hnew2).2.1 (key2.out _ _ _ hI1 hr2 hg2 hnew2).2.2).mono ?_; rintro e w3 ⟨rfl, tagA, wv', f1', hI3, hs3⟩))
    go_ret
    refine ⟨rfl, tagDt (.slice a' ds.length c') tagA, ⟨M1, M2, wv', fv, f1', f2, _, n2, hI3⟩, ?_⟩
    have st1 : Step w w1 tag tag (fun _ => True) := Step.turned hg1 tag hBt trivial
    exact ((st1.trans (Step.grown hg2 _ _)).trans hs3).retag (fun g hg => ⟨Nat.le_trans st1.size (hnew2 g hg), Nat.lt_of_lt_of_le (hr2.lt hg) hs3.size⟩)
  · simp only [if_true] at hcl ⊢
    clear h hp
    go_enter Try.func22, Try.ntmps22
    go_wp2_with (first
      | (go_at_call 40; refine (named_ok s _ h1 h2).mono ?_; rintro e w' ⟨rfl, hw'⟩; rw [hw'])
      | (go_at_call 41; refine hcl.mono ?_; rintro e w1 ⟨rfl, hI1, hg1⟩))
    go_ret
    exact ⟨rfl, tag, ⟨M1, M2, wv, fv, f1, f2, l, n2, hI1⟩, Step.turned hg1 tag hBt trivial⟩
end Go.Proofs.Ytndlpmnidpandaa
