/-
  The contract of do: a change is shown, and waits.
-/
import Derived.Test.YtndlpmnidpandaaApply
import Derived.Test.YtndlpmnidpandaaCall
import Derived.Test.YtndlpmnidpandaaClone
import Derived.Test.YtndlpmnidpandaaApp
namespace Go.Proofs.Ytndlpmnidpandaa
open Go.RowKit Go.Maps
set_option linter.unusedVariables false
set_option linter.unusedSimpArgs false

/-! ### more tags -/
def Ext (tag tag' : Tags) : Prop := ∀ i t, tag i = some t → tag' i = some t

theorem Files.ext {w : World} {tag tag' : Tags} {T : ByteArray → Tag} {f : ByteArray → Option Value} {F : FilesF} (h : Files w tag T f F) (e : Ext tag tag') : Files w tag' T f F := by
  intro s
  have := h s
  cases hF : F s with
  | none => rw [hF] at this; exact this
  | some zs => rw [hF] at this; obtain ⟨hl, v, hf, hr, ht⟩ := this; exact ⟨hl, v, hf, hr, fun g hg => e _ _ (ht g hg)⟩

theorem Chg.ok.ext {w : World} {tag tag' : Tags} {c : Chg} {dv : Value} (h : c.ok w tag dv) (e : Ext tag tag') : c.ok w tag' dv := by
  obtain ⟨two, three, s, t, off, ds⟩ := c
  cases two with
  | false => obtain ⟨h1, h2, hr, ht⟩ := h; exact ⟨h1, h2, hr, fun g hg => e _ _ (ht g hg)⟩
  | true => cases three <;> exact h

theorem FailsIs.ext {w : World} {tag tag' : Tags} {fv : Option Nat} {p : Int → Bool} (h : FailsIs w tag fv p) (e : Ext tag tag') : FailsIs w tag' fv p := by
  cases fv with
  | none => exact h
  | some b => exact ⟨e _ _ h.1, h.2⟩

/-- A value whose block is of nobody yet, or that has none. -/
def Fresh (w : World) (tag : Tags) (dv : Value) : Prop := ∀ g, dv.ownBlock = some g → g < w.heap.size ∧ tag g = none

/-- What the data of a change must be ahead of do. -/
def Chg.pre (w : World) (tag : Tags) : Chg → Value → Prop
  | ⟨false, _, s, _, off, ds⟩, dv => s.size ≤ 32 ∧ off + ds.length ≤ 1048576 ∧ Row w dv ds ∧ Fresh w tag dv
  | ⟨true, false, a, b, _, _⟩, dv => a.size ≤ 32 ∧ b.size ≤ 32 ∧ dv = .slice none 0 0
  | ⟨true, true, a, _, _, _⟩, dv => a.size ≤ 32 ∧ dv = .slice none 0 0

/-- apply does it. -/
def Applies (c : Chg) (dv : Value) : Prop := ∀ (w : World) (tag : Tags) (T : ByteArray → Tag) (mt : Tag) (M n : Nat) (f : ByteArray → Option Value) (F : FilesF),
    (∀ a b, T a = T b → a = b) → (∀ a, T a ≠ mt) → (∀ a, T a ≠ .dt) → tag M = some mt → (∀ i, tag i ≠ none → i < w.heap.size) → MapIs w M n f → Files w tag T f F → n < 1099511627776 →
    (c.pre w tag dv ∨ c.ok w tag dv) → 
    Calls Try.prog 50 #[.agg (c.vals dv), .map (some M)] w fun e w' => e = .returned (.tuple #[]) ∧ ∃ tag' f', Applied w w' tag tag' T mt M (n + 1) (c.run F) f'

theorem applies_wr (s : ByteArray) (off : Nat) (ds : List Int) (dv : Value) : Applies (.wr s off ds) dv := by
  intro w tag T mt M n f F hTi hTm hTd ht hlt hmap hfiles hn hok
  rcases hok with ⟨h1, h2, h3, h4⟩ | ⟨h1, h2, h3, h4⟩
  · exact apply_wr w tag T mt M n f F s ⟨#[]⟩ off ds dv hTi hTm ht hlt hmap hfiles hn h1 h2 h3.rd (fun g hg => .inr (h4 g hg)) hTd
  · exact apply_wr w tag T mt M n f F s ⟨#[]⟩ off ds dv hTi hTm ht hlt hmap hfiles hn h1 h2 h3.rd (fun g hg => .inl (h4 g hg)) hTd

/-- The data's block is the change's now. -/
def tagDt (dv : Value) (tag : Tags) : Tags := fun i => if dv.ownBlock = some i then some .dt else tag i

theorem tagDt_none {dv : Value} (h : dv.ownBlock = none) (tag : Tags) : tagDt dv tag = tag := by
  funext i; simp [tagDt, h]

theorem Step.retag {w w' : World} {tag tagA : Tags} {dv : Value} (h : Step w w' tag tagA (fun _ => True)) (hg : ∀ g, dv.ownBlock = some g → w.heap.size ≤ g ∧ g < w'.heap.size) : Step w w' tag (tagDt dv tagA) (fun _ => True) where
  os := h.os
  tape := h.tape
  output := h.output
  size := h.size
  block := h.block
  other := fun i t ht => absurd trivial ht
  bare := fun i hi hn => by
    have : dv.ownBlock ≠ some i := fun e => by have := hg i e; omega
    simp [tagDt, this, h.bare i hi hn]
  lt := fun hl i hi => by
    by_cases e : dv.ownBlock = some i
    · exact (hg i e).2
    · simp [tagDt, e] at hi; exact h.lt hl i hi

theorem do_fin {w w1 w2 w3 : World} {B : Nat} {tag tag1 : Tags} {st : St} {M1 M2 n2 : Nat} {wv wv' : Value} {fv : Option Nat} {f1 f1' f2 : ByteArray → Option Value} {l : List (Chg × Value)} {c : Chg} {k fi na of dv : Value}
    (h : Inv w B tag st M1 M2 wv fv f1 f2 l n2) (hv : c.vals dv = #[k, fi, na, of, dv]) (hpre : c.pre w tag dv)
    (hst : Step w w1 tag tag1 (fun t => t = .m1 ∨ ∃ s, t = .r1 s)) (hmap : MapIs w1 M1 (st.cnt + 1) f1') (hfiles : Files w1 tag1 .r1 f1' (c.run st.seen)) (htM : tag1 M1 = some .m1)
    (hg2 : w1.grownBy w2 none) (hg3 : w2.grownBy w3 wv.ownBlock) (hown : w3.ownsRow 0 83 5 wv' (l.length + 1) ((l.flatMap fun p => (p.1.vals p.2).toList) ++ [k, fi, na, of, dv]))
    (hblk : wv'.ownBlock = wv.ownBlock ∨ ∃ g, wv'.ownBlock = some g ∧ w2.heap.size ≤ g) (hlt1 : ∀ i, tag1 i ≠ none → i < w1.heap.size) :
    ∃ tagA, Inv (w3.setCell ⟨B, 2, none⟩ wv') B (tagDt dv tagA) { st with seen := c.run st.seen, waits := st.waits ++ [c], cnt := st.cnt + 1 } M1 M2 wv' fv f1' f2 (l ++ [(c, dv)]) n2 ∧ Step w (w3.setCell ⟨B, 2, none⟩ wv') tag tagA (fun _ => True) := by
  have hBlt : B < w.heap.size := (Array.getElem?_eq_some_iff.1 h.cell).1
  have kB := hst.keep hBlt h.tB (by simp)
  have k2 := hst.keep h.map2.lt h.t2 (by simp)
  have hW1 := h.waits.step hst (by simp) (by simp)
  have hwt : ∀ g, wv.ownBlock = some g → tag1 g = some .wt := hW1.2.2
  have hBlt1 : B < w1.heap.size := Nat.lt_of_lt_of_le hBlt hst.size
  have s12 : Step w1 w2 tag1 tag1 (fun t => t = .wt ∨ t = .wd) := Step.grown hg2 _ _
  have s23 : Step w2 w3 tag1 tag1 (fun t => t = .wt ∨ t = .wd) := by
    cases hb : wv.ownBlock with
    | none => rw [hb] at hg3; exact Step.grown hg3 _ _
    | some g => rw [hb] at hg3; exact Step.turned hg3 _ (hwt g hb) (.inl rfl)
  have s13 := s12.trans s23
  obtain ⟨tagA, htagA⟩ : ∃ tagA : Tags, tagA = fun i => if wv'.ownBlock = some i then some .wt else tag1 i := ⟨_, rfl⟩
  have s13A : Step w1 w3 tag1 tagA (fun t => t = .wt ∨ t = .wd) := by
    rcases hblk with hb | ⟨g, hb, hge⟩
    · have : tagA = tag1 := by
        rw [htagA]; funext i
        by_cases e : wv'.ownBlock = some i
        · rw [if_pos e]; rw [hb] at e; exact (hwt i e).symm
        · rw [if_neg e]
      rw [this]; exact s13
    · have hgl : g < w3.heap.size := (hown.lt g hb).2
      have : tagA = fun i => if i = g then some .wt else tag1 i := by
        rw [htagA]; funext i
        by_cases e : i = g
        · subst e; simp [hb]
        · have e' : ¬ g = i := fun h => e h.symm
          simp [hb, e, e']
      rw [this]
      exact s13.tagged g (Nat.le_trans hg2.size hge) hgl (.inl rfl) hlt1
  have hne : ∀ i t, tag1 i = some t → t ≠ .wt → wv'.ownBlock ≠ some i := by
    intro i t ht hn e
    rcases hblk with hb | ⟨g, hb, hge⟩
    · rw [hb] at e; have := hwt i e; rw [ht] at this; cases this; exact hn rfl
    · rw [hb] at e; cases e; have := hlt1 _ (by rw [ht]; simp); have := hg2.size; omega
  have hAB : tagA B = some .wd := by
    rw [htagA]; simp [hne B .wd kB.2 (by simp), kB.2]
  have s34 : Step w3 (w3.setCell ⟨B, 2, none⟩ wv') tagA tagA (fun t => t = .wt ∨ t = .wd) := Step.turned (grown_setCell w3 B 2 wv') _ hAB (.inr rfl)
  have sA := s13A.trans s34
  have hdv : ∀ g, dv.ownBlock = some g → g < w.heap.size ∧ tag g = none := by
    obtain ⟨two, three, s, t, off, ds⟩ := c
    cases two with
    | false => exact hpre.2.2.2
    | true =>
      cases three with
      | false => intro g hg; rw [hpre.2.2] at hg; simp [Value.ownBlock] at hg
      | true => intro g hg; rw [hpre.2] at hg; simp [Value.ownBlock] at hg
  have hAn : ∀ g, dv.ownBlock = some g → tagA g = none := by
    intro g hg
    have h1 := hst.bare g (hdv g hg).1 (hdv g hg).2
    exact sA.bare g (Nat.lt_of_lt_of_le (hdv g hg).1 hst.size) h1
  have hext : Ext tagA (tagDt dv tagA) := by
    intro i t ht
    by_cases e : dv.ownBlock = some i
    · rw [hAn i e] at ht; cases ht
    · simp [tagDt, e, ht]
  have hdblk : ∀ g, dv.ownBlock = some g → (w3.setCell ⟨B, 2, none⟩ wv').heap[g]? = w.heap[g]? := by
    intro g hg
    have h1 := hst.bare g (hdv g hg).1 (hdv g hg).2
    rw [sA.block g (Nat.lt_of_lt_of_le (hdv g hg).1 hst.size) (by simp [h1]), hst.block g (hdv g hg).1 (by simp [(hdv g hg).2])]
  have keepA : ∀ i t, i < w1.heap.size → tag1 i = some t → t ≠ .wt → t ≠ .wd → (w3.setCell ⟨B, 2, none⟩ wv').heap[i]? = w1.heap[i]? ∧ tagDt dv tagA i = some t := by
    intro i t hi ht h1 h2
    have := sA.keep hi ht (by simp [h1, h2])
    exact ⟨this.1, hext _ _ this.2⟩
  have hcell3 : w3.heap[B]? = some (.cells (wdCells M1 M2 wv fv st.ops st.stop st.off) 71 (0, 0)) := by
    have hb1 : w1.heap[B]? = some (.cells (wdCells M1 M2 wv fv st.ops st.stop st.off) 71 (0, 0)) := kB.1.trans h.cell
    have hb2 := (hg2.block B hBlt1 (by simp)).trans hb1
    rw [hg3.block B (Nat.lt_of_lt_of_le hBlt1 hg2.size) (fun e => by have := hwt B e.symm; rw [kB.2] at this; cases this)]
    exact hb2
  have hwl : ∀ p ∈ l, p.1.ok (w3.setCell ⟨B, 2, none⟩ wv') (tagDt dv tagA) p.2 := fun p hp => ((hW1.1 p hp).step sA (by simp)).ext hext
  refine ⟨tagA, ?_, (hst.weaken (fun _ _ => trivial)).trans (sA.weaken (fun _ _ => trivial))⟩
  exact {
    cell := by rw [setCell_own w3 B 2 wv' _ _ hcell3]; simp [wdCells]
    tB := hext _ _ hAB
    t1 := (keepA M1 .m1 (hmap.lt) htM (by simp) (by simp)).2
    t2 := (keepA M2 .m2 (Nat.lt_of_lt_of_le h.map2.lt hst.size) k2.2 (by simp) (by simp)).2
    map1 := hmap.of_block (keepA M1 .m1 (hmap.lt) htM (by simp) (by simp)).1
    map2 := (h.map2.of_block k2.1).of_block (keepA M2 .m2 (Nat.lt_of_lt_of_le h.map2.lt hst.size) k2.2 (by simp) (by simp)).1
    seen := (hfiles.step sA (by simp)).ext hext
    dur := ((h.dur.step hst (by simp)).step sA (by simp)).ext hext
    waits := by
      refine ⟨fun p hp => ?_, ?_, ?_⟩
      · rcases List.mem_append.1 hp with hp | hp
        · exact hwl p hp
        · simp only [List.mem_singleton] at hp
          subst hp
          obtain ⟨two, three, s, t, off, ds⟩ := c
          cases two with
          | false =>
            obtain ⟨h1, h2, hr, hf⟩ := hpre
            exact ⟨h1, h2, hr.of_block hdblk, fun g hg => by simp [tagDt, hg]⟩
          | true => cases three <;> exact hpre
      · have e1 : ((l ++ [(c, dv)]).flatMap fun p => (p.1.vals p.2).toList) = (l.flatMap fun p => (p.1.vals p.2).toList) ++ [k, fi, na, of, dv] := by
          rw [List.flatMap_append]; simp [hv]
        rw [e1]
        have e2 : (l ++ [(c, dv)]).length = l.length + 1 := by simp
        rw [e2]
        have hx := hown
        refine ⟨hx.1, ?_⟩
        rcases hx.2 with hn | ⟨g, cap, cur, hg, h0, hgg, rest⟩
        · exact .inl hn
        · refine .inr ⟨g, cap, cur, hg, h0, ?_, rest⟩
          rw [setCell_other w3 _ _ ?_]
          · exact hgg
          · intro e
            have e' : g = B := e
            exact hne B .wd kB.2 (by simp) (by rw [hg]; simp [Value.ownBlock, e'])
      · intro g hg
        exact hext _ _ (by rw [htagA]; simp [hg])
    l_eq := by rw [List.map_append, h.l_eq]; rfl
    fails := (by obtain ⟨p, q1, q2⟩ := h.fails; exact ⟨p, ((q1.step hst (by simp)).step sA (by simp)).ext hext, q2⟩)
    lt := by
      have hl := sA.lt hlt1
      intro i hi
      by_cases e : dv.ownBlock = some i
      · exact Nat.lt_of_lt_of_le (hdv i e).1 (Nat.le_trans hst.size sA.size)
      · simp [tagDt, e] at hi; exact hl i hi
    opsLo := h.opsLo
    opsHi := by have := h.opsHi; show st.ops ≤ ((st.cnt + 1 : Nat) : Int); omega
    cnt2 := by have := h.cnt2; show n2 + (l ++ [(c, dv)]).length ≤ st.cnt + 1; simp; omega }

set_option maxRecDepth 100000 in
set_option maxHeartbeats 2000000 in
theorem do_any (w : World) (B : Nat) (tag : Tags) (st : St) (M1 M2 n2 : Nat) (wv : Value) (fv : Option Nat) (f1 f2 : ByteArray → Option Value) (l : List (Chg × Value))
    (h : Inv w B tag st M1 M2 wv fv f1 f2 l n2) (hc : st.cnt < 1099511627776) (c : Chg) (k fi na of dv : Value) (hv : c.vals dv = #[k, fi, na, of, dv]) (hap : Applies c dv) (hpre : c.pre w tag dv)
    (hone : ∀ u ∈ [k, fi, na, of, dv], u.oneCell' = true) :
    Calls Try.prog 42 #[.pointer (some ⟨B, 0, none⟩), .agg #[k, fi, na, of, dv]] w fun e w' => e = .returned (.tuple #[]) ∧
      ∃ tagA wv' f1', Inv w' B (tagDt dv tagA) { st with seen := c.run st.seen, waits := st.waits ++ [c], cnt := st.cnt + 1 } M1 M2 wv' fv f1' f2 (l ++ [(c, dv)]) n2 ∧ Step w w' tag tagA (fun _ => True) := by
  obtain ⟨w0, hw0⟩ : ∃ w0, w0 = w.alloc (.cells #[k, fi, na, of, dv] 83) := ⟨_, rfl⟩
  have hgr0 : w.grownBy w0 none := by rw [hw0]; exact World.grownBy_alloc w _ none
  obtain ⟨b0, hb0⟩ : ∃ b0, b0 = w.heap.size := ⟨_, rfl⟩
  have hh0 : w0.heap[b0]? = some (.cells #[k, fi, na, of, dv] 83 (0, 0)) := by rw [hw0, hb0]; exact heap_alloc_new w _
  have hI0 : Inv w0 B tag st M1 M2 wv fv f1 f2 l n2 := h.step (Step.grown hgr0 tag _)
  have hsz0 : w.heap.size < w0.heap.size := by rw [hw0]; simp
  have htb0 : tag b0 = none := by
    cases hh : tag b0 with
    | none => rfl
    | some t => have := h.lt b0 (by rw [hh]; simp); omega
  have one0 : k.oneCell' = true := hone k (by simp)
  have one1 : fi.oneCell' = true := hone fi (by simp)
  have one2 : na.oneCell' = true := hone na (by simp)
  have one3 : of.oneCell' = true := hone of (by simp)
  have one4 : dv.oneCell' = true := hone dv (by simp)
  have q0 : w0.cell? ⟨b0, 0, none⟩ = some k := by simp [World.cell?, hh0]
  have q1 : w0.cell? ⟨b0, 1, none⟩ = some fi := by simp [World.cell?, hh0]
  have q2 : w0.cell? ⟨b0, 2, none⟩ = some na := by simp [World.cell?, hh0]
  have q3 : w0.cell? ⟨b0, 3, none⟩ = some of := by simp [World.cell?, hh0]
  have q4 : w0.cell? ⟨b0, 4, none⟩ = some dv := by simp [World.cell?, hh0]
  obtain ⟨c0, c1, c2, c3, c4, c5, c6⟩ := hI0.at
  go_enter Try.func42, Try.ntmps42
  go_wp2
  rw [← hw0, ← hb0]
  replace hw0 := Kpt.mk hw0
  replace hb0 := Kpt.mk hb0
  refine wp_region_any (by kernel_rfl) ?_
  refine wpAny_of_C (C := fun W => W.cell? ⟨b0, 0, none⟩ = some k ∧ W.cell? ⟨b0, 1, none⟩ = some fi ∧ W.cell? ⟨b0, 2, none⟩ = some na ∧ W.cell? ⟨b0, 3, none⟩ = some of ∧ W.cell? ⟨b0, 4, none⟩ = some dv ∧ W.cell? ⟨B, 0, none⟩ = some (.map (some M1))) _ _ _ _ ?_
  refine wpAnyC_take 0 (.agg #[k, fi, na, of, dv]) rfl (by kernel_rfl) (by kernel_rfl) (by kernel_rfl) (fun _ _ _ h => h) (by rfl) (fun W ⟨p0, p1, p2, p3, p4, p5⟩ => by clear q0 q1 q2 q3 q4 c0 c1 c2 c3 c4 c5 c6; go_simp) ?_
  refine wpAnyC_take 1 (.pointer (some ⟨B, 0, none⟩)) rfl (by kernel_rfl) (by kernel_rfl) (by kernel_rfl) (fun _ _ _ h => h) (by rfl) (fun W _ => by go_simp) ?_
  refine wpAnyC_take 2 (.pointer (some ⟨B, 0, none⟩)) rfl (by kernel_rfl) (by kernel_rfl) (by kernel_rfl) (fun _ _ _ h => h) (by rfl) (fun W ⟨p0, p1, p2, p3, p4, p5⟩ => by clear q0 q1 q2 q3 q4 c0 c1 c2 c3 c4 c5 c6; go_simp) ?_
  refine wpAnyC_take 3 (.pointer (some ⟨B, 0, none⟩)) rfl (by kernel_rfl) (by kernel_rfl) (by kernel_rfl) (fun _ _ _ h => h) (by rfl) (fun W _ => by go_simp) ?_
  refine wpAnyC_take 4 (.map (some M1)) rfl (by kernel_rfl) (by kernel_rfl) (by kernel_rfl) (fun _ _ _ h => h) (by rfl) (fun W ⟨p0, p1, p2, p3, p4, p5⟩ => by clear q0 q1 q2 q3 q4 c0 c1 c2 c3 c4 c5 c6; go_simp) ?_
  change wpAnyC _ _ _ _ _ _ _ _ w0.drew
  refine wpAnyC_one 5 ⟨q0, q1, q2, q3, q4, c0⟩ rfl (by kernel_rfl) (by rfl) (fun K hK => ?_)
  go_simp
  rw [← hv]
  have hpre0 : c.pre w0.drew tag dv := by
    clear hv hap hone
    obtain ⟨two, three, s, t, off, ds⟩ := c
    cases two with
    | false =>
      obtain ⟨h1, h2, hr, hf⟩ := hpre
      exact ⟨h1, h2, hr.of_block (fun g hg => hgr0.block g (hf g hg).1 (by simp)), fun g hg => ⟨Nat.lt_trans (hf g hg).1 hsz0, (hf g hg).2⟩⟩
    | true => cases three <;> exact hpre
  refine (hap w0.drew tag .r1 .m1 M1 st.cnt f1 st.seen (fun a b e => by injection e) (fun a e => by cases e) (fun a e => by cases e) h.t1 (fun i hi => Nat.lt_trans (h.lt i hi) hsz0) hI0.map1 hI0.seen hc (.inl hpre0)).mono ?_
  rintro e w1 ⟨rfl, tag1, f1', ha⟩
  have hsB : w0.heap.size ≤ w1.heap.size := ha.step.size
  have kB := ha.step.keep (t := .wd) (i := B) (show B < w0.drew.heap.size from (Array.getElem?_eq_some_iff.1 hI0.cell).1) h.tB (by simp)
  have kb0 : w1.heap[b0]? = w0.heap[b0]? := ha.step.block b0 (by show b0 < w0.heap.size; have := hb0.out; omega) (by simp [htb0])
  have e0 : w1.cell? ⟨b0, 0, none⟩ = some k := (World.cell?_of_block (a := ⟨b0, 0, none⟩) kb0).trans q0
  have e1 : w1.cell? ⟨b0, 1, none⟩ = some fi := (World.cell?_of_block (a := ⟨b0, 1, none⟩) kb0).trans q1
  have e2 : w1.cell? ⟨b0, 2, none⟩ = some na := (World.cell?_of_block (a := ⟨b0, 2, none⟩) kb0).trans q2
  have e3 : w1.cell? ⟨b0, 3, none⟩ = some of := (World.cell?_of_block (a := ⟨b0, 3, none⟩) kb0).trans q3
  have e4 : w1.cell? ⟨b0, 4, none⟩ = some dv := (World.cell?_of_block (a := ⟨b0, 4, none⟩) kb0).trans q4
  have d0 : w1.cell? ⟨B, 0, none⟩ = some (.map (some M1)) := (World.cell?_of_block (a := ⟨B, 0, none⟩) kB.1).trans c0
  have d2 : w1.cell? ⟨B, 2, none⟩ = some wv := (World.cell?_of_block (a := ⟨B, 2, none⟩) kB.1).trans c2
  have hcellB : w1.heap[B]? = some (.cells (wdCells M1 M2 wv fv st.ops st.stop st.off) 71 (0, 0)) := kB.1.trans hI0.cell
  have hbB : b0 ≠ B := fun e => by rw [e, h.tB] at htb0; cases htb0
  replace hcellB := Kpt.mk hcellB
  replace kB := Kpt.mk kB
  replace kb0 := Kpt.mk kb0
  have hv' := Kpt.mk hv
  replace hh0 := Kpt.mk hh0
  dsimp only
  refine hK _ _ ?_
  clear hK K
  refine wpAnyC_done ⟨e0, e1, e2, e3, e4, d0⟩ (by kernel_rfl) ?_
  clear q0 q1 q2 q3 q4 c0 c1 c2 c3 c4 c5 c6 hv
  go_wp2
  refine wp_region_any (by kernel_rfl) ?_
  refine wpAny_of_C (C := fun W => W.cell? ⟨b0, 0, none⟩ = some k ∧ W.cell? ⟨b0, 1, none⟩ = some fi ∧ W.cell? ⟨b0, 2, none⟩ = some na ∧ W.cell? ⟨b0, 3, none⟩ = some of ∧ W.cell? ⟨b0, 4, none⟩ = some dv) _ _ _ _ ?_
  refine wpAnyC_take 0 (.pointer (some ⟨B, 0, none⟩)) rfl (by kernel_rfl) (by kernel_rfl) (by kernel_rfl) (fun _ _ _ h => h) (by rfl) (fun W _ => by go_simp) ?_
  refine wpAnyC_take 1 (.pointer (some ⟨B, 0, none⟩)) rfl (by kernel_rfl) (by kernel_rfl) (by kernel_rfl) (fun _ _ _ h => h) (by rfl) (fun W _ => by go_simp) ?_
  refine wpAnyC_take 2 (.pointer (some ⟨B, 0, none⟩)) rfl (by kernel_rfl) (by kernel_rfl) (by kernel_rfl) (fun _ _ _ h => h) (by rfl) (fun W _ => by go_simp) ?_
  refine wpAnyC_take 3 (.pointer (some ⟨B, 2, none⟩)) rfl (by kernel_rfl) (by kernel_rfl) (by kernel_rfl) (fun _ _ _ h => h) (by rfl) (fun W _ => by go_simp) ?_
  refine wpAnyC_take 5 (.agg #[k, fi, na, of, dv]) rfl (by kernel_rfl) (by kernel_rfl) (by kernel_rfl) (fun _ _ _ h => h) (by rfl) (fun W ⟨p0, p1, p2, p3, p4⟩ => by clear e0 e1 e2 e3 e4 d0 d2; go_simp) ?_
  change wpAnyC _ _ _ _ _ _ _ _ w1.drew
  have hst01 : Step w w1 tag tag1 (fun t => t = .m1 ∨ ∃ s, t = .r1 s) := by
    have hgr0' : w.grownBy w0.drew none := ⟨hgr0.os, hgr0.tape, hgr0.output, hgr0.size, hgr0.block⟩
    exact (Step.grown hgr0' tag _).trans ha.step
  have hW1 := h.waits.step hst01 (by simp) (by simp)
  obtain ⟨w2, hw2⟩ : ∃ w2, w2 = (w1.alloc (.cells #[k, fi, na, of, dv] 83)).drew := ⟨_, rfl⟩
  obtain ⟨b2, hb2⟩ : ∃ b2, b2 = w1.heap.size := ⟨_, rfl⟩
  have hgr2 : w1.grownBy w2 none := by
    rw [hw2]; have := World.grownBy_alloc w1 (.cells #[k, fi, na, of, dv] 83) none; exact ⟨this.os, this.tape, this.output, this.size, this.block⟩
  have hh2 : w2.heap[b2]? = some (.cells #[k, fi, na, of, dv] 83 (0, 0)) := by rw [hw2, hb2]; exact heap_alloc_new w1 _
  have hown2 : w2.ownsRow 0 83 5 wv l.length (l.flatMap fun p => (p.1.vals p.2).toList) := hW1.2.1.kept hgr2 (by cases wv.ownBlock <;> simp)
  obtain ⟨wv', w3, hrun, hown3, hg3, hblk, hone'⟩ := run_append_chg w2 wv l.length _ hown2 ⟨b2, 0, none⟩ 1 [k, fi, na, of, dv] rfl (by
    intro j u hj
    rw [Go.WideShapes.add_plain]
    simp only [World.cell?, hh2, Nat.zero_add]
    simpa using hj) hone (by have := h.cnt2; omega)
  obtain ⟨aw, nw, cw, rfl⟩ : ∃ a n c, wv' = .slice a n c := by
    rcases hown3.2 with ⟨rfl, _⟩ | ⟨g, cap, cur, rfl, _⟩
    · exact ⟨_, _, _, rfl⟩
    · exact ⟨_, _, _, rfl⟩
  have hlt1 := ha.lt
  have hfin := do_fin h hv'.out hpre hst01 ha.map ha.files ha.tM hgr2 hg3 hown3 hblk hlt1
  have hbne : wv.ownBlock ≠ some b0 := fun e => by
    have h1 := h.waits.2.2 b0 e
    rw [htb0] at h1; cases h1
  have hBlt1 : B < w1.heap.size := (Array.getElem?_eq_some_iff.1 hcellB.out).1
  have hwB : wv.ownBlock ≠ some B := fun e => by
    have h1 := h.waits.2.2 B e
    rw [h.tB] at h1; cases h1
  have r0 : w2.cell? ⟨b0, 0, none⟩ = some k := hgr2.cell (a := ⟨b0, 0, none⟩) e0 (by simp)
  have r1 : w2.cell? ⟨b0, 1, none⟩ = some fi := hgr2.cell (a := ⟨b0, 1, none⟩) e1 (by simp)
  have r2 : w2.cell? ⟨b0, 2, none⟩ = some na := hgr2.cell (a := ⟨b0, 2, none⟩) e2 (by simp)
  have r3 : w2.cell? ⟨b0, 3, none⟩ = some of := hgr2.cell (a := ⟨b0, 3, none⟩) e3 (by simp)
  have r4 : w2.cell? ⟨b0, 4, none⟩ = some dv := hgr2.cell (a := ⟨b0, 4, none⟩) e4 (by simp)
  have s0 : w3.cell? ⟨b0, 0, none⟩ = some k := hg3.cell (a := ⟨b0, 0, none⟩) r0 (fun e => hbne e.symm)
  have s1 : w3.cell? ⟨b0, 1, none⟩ = some fi := hg3.cell (a := ⟨b0, 1, none⟩) r1 (fun e => hbne e.symm)
  have s2 : w3.cell? ⟨b0, 2, none⟩ = some na := hg3.cell (a := ⟨b0, 2, none⟩) r2 (fun e => hbne e.symm)
  have s3 : w3.cell? ⟨b0, 3, none⟩ = some of := hg3.cell (a := ⟨b0, 3, none⟩) r3 (fun e => hbne e.symm)
  have s4 : w3.cell? ⟨b0, 4, none⟩ = some dv := hg3.cell (a := ⟨b0, 4, none⟩) r4 (fun e => hbne e.symm)
  have hB3 : w3.heap[B]? = some (.cells (wdCells M1 M2 wv fv st.ops st.stop st.off) 71 (0, 0)) := by
    rw [hg3.block B (Nat.lt_of_lt_of_le hBlt1 hgr2.size) (fun e => hwB e.symm), hgr2.block B hBlt1 (by simp)]; exact hcellB.out
  have d2' : w2.cell? ⟨B, 2, none⟩ = some wv := hgr2.cell (a := ⟨B, 2, none⟩) d2 (by simp)
  have t2 : w3.cell? ⟨B, 2, none⟩ = some wv := by simp [World.cell?, hB3, wdCells]
  have tz : w3.frozen? ⟨B, 2, none⟩ = false := by simp [World.frozen?, hB3]
  have kb4 : (w3.setCell ⟨B, 2, none⟩ (.slice aw nw cw)).heap[b0]? = w3.heap[b0]? := setCell_other w3 _ _ hbB
  have u0 := (World.cell?_of_block (a := ⟨b0, 0, none⟩) kb4).trans s0
  have u1 := (World.cell?_of_block (a := ⟨b0, 1, none⟩) kb4).trans s1
  have u2 := (World.cell?_of_block (a := ⟨b0, 2, none⟩) kb4).trans s2
  have u3 := (World.cell?_of_block (a := ⟨b0, 3, none⟩) kb4).trans s3
  have u4 := (World.cell?_of_block (a := ⟨b0, 4, none⟩) kb4).trans s4
  replace hfin := Kpt.mk hfin
  replace hrun := Kpt.mk hrun
  have hC1 : Kpt (w1.drew.cell? ⟨b0, 0, none⟩ = some k ∧ w1.drew.cell? ⟨b0, 1, none⟩ = some fi ∧ w1.drew.cell? ⟨b0, 2, none⟩ = some na ∧ w1.drew.cell? ⟨b0, 3, none⟩ = some of ∧ w1.drew.cell? ⟨b0, 4, none⟩ = some dv) := ⟨e0, e1, e2, e3, e4⟩
  have hC2 : Kpt (w2.cell? ⟨b0, 0, none⟩ = some k ∧ w2.cell? ⟨b0, 1, none⟩ = some fi ∧ w2.cell? ⟨b0, 2, none⟩ = some na ∧ w2.cell? ⟨b0, 3, none⟩ = some of ∧ w2.cell? ⟨b0, 4, none⟩ = some dv) := ⟨r0, r1, r2, r3, r4⟩
  have hC3 : Kpt (w3.cell? ⟨b0, 0, none⟩ = some k ∧ w3.cell? ⟨b0, 1, none⟩ = some fi ∧ w3.cell? ⟨b0, 2, none⟩ = some na ∧ w3.cell? ⟨b0, 3, none⟩ = some of ∧ w3.cell? ⟨b0, 4, none⟩ = some dv) := ⟨s0, s1, s2, s3, s4⟩
  have hC4 : Kpt ((w3.setCell ⟨B, 2, none⟩ (.slice aw nw cw)).cell? ⟨b0, 0, none⟩ = some k ∧ (w3.setCell ⟨B, 2, none⟩ (.slice aw nw cw)).cell? ⟨b0, 1, none⟩ = some fi ∧ (w3.setCell ⟨B, 2, none⟩ (.slice aw nw cw)).cell? ⟨b0, 2, none⟩ = some na ∧ (w3.setCell ⟨B, 2, none⟩ (.slice aw nw cw)).cell? ⟨b0, 3, none⟩ = some of ∧ (w3.setCell ⟨B, 2, none⟩ (.slice aw nw cw)).cell? ⟨b0, 4, none⟩ = some dv) := ⟨u0, u1, u2, u3, u4⟩
  clear e0 e1 e2 e3 e4 r0 r1 r2 r3 r4 s0 s1 s2 s3 s4 u0 u1 u2 u3 u4 hh2 hB3 kb4 hown3 hown2 hW1 hst01 hone' d0
  refine wpAnyC_two 4 6 hC1.out rfl rfl (by kernel_rfl) (by rfl) (by rfl) (fun K hK => ?_) (fun K hK => ?_)
  · go_simp
    refine hK _ _ ?_
    clear hK K
    refine wpAnyC_one 6 hC1.out rfl (by kernel_rfl) (by rfl) (fun K hK => ?_)
    go_simp
    rw [← hw2, ← hb2]
    replace hw2 := Kpt.mk hw2
    replace hb2 := Kpt.mk hb2
    refine hK _ _ ?_
    clear hK K
    refine wpAnyC_one 7 hC2.out rfl (by kernel_rfl) (by rfl) (fun K hK => ?_)
    refine Lib.wp_append_run _ (.tmp 14) (.tmp 16) 68 68 rfl wv (.slice (some ⟨b2, 0, none⟩) 1 1) rfl rfl (.slice aw nw cw) w3 (hrun.out _) ?_
    refine hK _ _ ?_
    clear hK K
    refine wpAnyC_one 8 hC3.out rfl (by kernel_rfl) (by rfl) (fun K hK => ?_)
    go_simp
    refine hK _ _ ?_
    clear hK K
    refine wpAnyC_one 9 hC3.out rfl (by kernel_rfl) (by rfl) (fun K hK => ?_)
    go_simp
    refine hK _ _ ?_
    clear hK K
    refine wpAnyC_one 10 hC3.out rfl (by kernel_rfl) (by rfl) (fun K hK => ?_)
    go_simp
    refine hK _ _ ?_
    clear hK K
    refine wpAnyC_done hC4.out (by kernel_rfl) ?_
    go_wp2
    refine bodyPost_end (results_none rfl _ _ _) rfl ?_
    obtain ⟨tagA, hA1, hA2⟩ := hfin.out
    exact ⟨rfl, tagA, _, _, hA1, hA2⟩
  · go_simp
    rw [← hw2, ← hb2]
    replace hw2 := Kpt.mk hw2
    replace hb2 := Kpt.mk hb2
    refine hK _ _ ?_
    clear hK K
    refine wpAnyC_one 4 hC2.out rfl (by kernel_rfl) (by rfl) (fun K hK => ?_)
    go_simp
    refine hK _ _ ?_
    clear hK K
    refine wpAnyC_one 7 hC2.out rfl (by kernel_rfl) (by rfl) (fun K hK => ?_)
    refine Lib.wp_append_run _ (.tmp 14) (.tmp 16) 68 68 rfl wv (.slice (some ⟨b2, 0, none⟩) 1 1) rfl rfl (.slice aw nw cw) w3 (hrun.out _) ?_
    refine hK _ _ ?_
    clear hK K
    refine wpAnyC_one 8 hC3.out rfl (by kernel_rfl) (by rfl) (fun K hK => ?_)
    go_simp
    refine hK _ _ ?_
    clear hK K
    refine wpAnyC_one 9 hC3.out rfl (by kernel_rfl) (by rfl) (fun K hK => ?_)
    go_simp
    refine hK _ _ ?_
    clear hK K
    refine wpAnyC_one 10 hC3.out rfl (by kernel_rfl) (by rfl) (fun K hK => ?_)
    go_simp
    refine hK _ _ ?_
    clear hK K
    refine wpAnyC_done hC4.out (by kernel_rfl) ?_
    go_wp2
    refine bodyPost_end (results_none rfl _ _ _) rfl ?_
    obtain ⟨tagA, hA1, hA2⟩ := hfin.out
    exact ⟨rfl, tagA, _, _, hA1, hA2⟩
end Go.Proofs.Ytndlpmnidpandaa
