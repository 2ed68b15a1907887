/-
  The contract of twin: files of the same bytes in memory of their own.
-/
import Derived.Test.YtndlpmnidpandaaLSync
namespace Go.Proofs.Ytndlpmnidpandaa
open Go.RowKit Go.Maps
set_option linter.unusedVariables false
set_option linter.unusedSimpArgs false

/-- The files that have been copied. -/
def part (F : FilesF) (left : Lit → Bool) : FilesF := fun s => if left (lit s) then none else F s

theorem laidL_nil (ds : List Int) : laidL [] 0 ds = ds := by simp [laidL, over]
theorem sameKey_lit (s t : ByteArray) : (lit t).sameKey (lit s) = decide (t = s) := by
  by_cases h : t = s
  · subst h; simp [lit, Lit.sameKey]
  · rw [sameKey_ne (lit_ne h)]; simp [h]

theorem part_strike (F : FilesF) (left : Lit → Bool) (x : ByteArray) (zs : List Int) (h : F x = some zs) : part F (fun z => left z && !z.sameKey (lit x)) = updF (part F left) x (some zs) := by
  funext s
  by_cases e : s = x
  · subst e; simp [part, sameKey_lit, h]
  · rw [updF_other _ _ e]; simp [part, sameKey_lit, e]

theorem key_inv9 (key : Value) (kl : Lit) (h : keyOf Try.prog 9 key = some kl) : ∃ x : ByteArray, key = .string x := by
  cases key <;> simp [keyOf, Try.underlying9, mapKey] at h
  exact ⟨_, rfl⟩

theorem key_str9 {x : ByteArray} {kl : Lit} (h : keyOf Try.prog 9 (.string x) = some kl) : kl = lit x ∧ x.size ≤ maxLen := by
  simp [keyOf, Try.underlying9, mapKey] at h
  exact ⟨h.2.symm, h.1⟩

/-- A block that is new since turns. -/
theorem Step.after {w wr w3 : World} {tag tagj : Tags} {X : Tag → Prop} {r : Nat} (h : Step w wr tag tagj X) (hg : wr.grownBy w3 (some r)) (hr : w.heap.size ≤ r) : Step w w3 tag tagj X where
  os := hg.os.trans h.os
  tape := hg.tape.trans h.tape
  output := hg.output.trans h.output
  size := Nat.le_trans h.size hg.size
  block := fun i hi hx => by rw [hg.block i (Nat.lt_of_lt_of_le hi h.size) (fun e => by cases e; omega), h.block i hi hx]
  other := h.other
  bare := h.bare
  lt := fun hl i hi => Nat.lt_of_lt_of_le (h.lt hl i hi) hg.size

theorem Files.of_blocks {w w' : World} {tag : Tags} {T : ByteArray → Tag} {f : ByteArray → Option Value} {F : FilesF} (h : Files w tag T f F) (hb : ∀ i t, i < w.heap.size → tag i = some t → w'.heap[i]? = w.heap[i]?) : Files w' tag T f F := by
  intro s
  have := h s
  cases hF : F s with
  | none => rw [hF] at this; exact this
  | some zs =>
    rw [hF] at this
    obtain ⟨hl, v, hf, hr, ht⟩ := this
    exact ⟨hl, v, hf, hr.of_block (fun g hg => hb g _ (hr.lt hg) (ht g hg)), ht⟩

/-- What the loop keeps. -/
structure TwinR (w wr : World) (tag : Tags) (F : FilesF) (D : DataW Value) (M2 Mo r n2 : Nat) (f2 : ByteArray → Option Value) (left : Lit → Bool) (cnt : Nat) (tagj : Tags) (fj : ByteArray → Option Value) (nj : Nat) : Prop where
  rg : wr.ranges Try.prog 9 rawElem M2 r n2 D left cnt
  cn : nj + cnt ≤ n2
  map : MapIs wr Mo nj fj
  files : Files wr tagj .r1 fj (part F left)
  tM : tagj Mo = some .m1
  lt : ∀ i, tagj i ≠ none → i < wr.heap.size
  step : Step w wr tag tagj (fun t => t = .m1 ∨ ∃ s, t = .r1 s)
  tr : tagj r = none

set_option maxRecDepth 100000 in
set_option maxHeartbeats 2000000 in
theorem twin_any (w : World) (tag : Tags) (M2 n2 : Nat) (f2 : ByteArray → Option Value) (F : FilesF) (hmap : MapIs w M2 n2 f2) (hfiles : Files w tag .r2 f2 F) (ht2 : tag M2 = some .m2)
    (hlt : ∀ i, tag i ≠ none → i < w.heap.size) (hn : n2 < 1099511627776) :
    Calls Try.prog 37 #[.map (some M2)] w fun e w' => ∃ Mo tag' f', e = .returned (.map (some Mo)) ∧ MapIs w' Mo n2 f' ∧ Files w' tag' .r1 f' F ∧ tag' Mo = some .m1 ∧
      Step w w' tag tag' (fun t => t = .m1 ∨ ∃ s, t = .r1 s) ∧ ∀ i, tag' i ≠ none → i < w'.heap.size := by
  have hM2 := hmap.lt
  obtain ⟨D, hown, hD⟩ := hmap
  have hsz : Maps.size D ≤ n2 := hown.size_le
  have hmm := @run_makeMap Try.prog
  obtain ⟨w1, hw1⟩ : ∃ w1, w1 = w.alloc (.map #[] 0) := ⟨_, rfl⟩
  obtain ⟨Mo, hMo⟩ : ∃ Mo, Mo = w.heap.size := ⟨_, rfl⟩
  have hg1 : w.grownBy w1 none := by rw [hw1]; exact World.grownBy_alloc _ _ _
  have hown1 : w1.ownsMap Try.prog 9 rawElem M2 n2 D := by rw [hw1]; exact hown.alloc _
  have hmo1 : MapIs w1 Mo 0 (fun _ => none) := by rw [hw1, hMo]; exact MapIs.made w
  have hsz1 : w1.heap.size = Mo + 1 := by rw [hw1, hMo]; simp
  obtain ⟨tag1, htag1⟩ : ∃ tag1 : Tags, tag1 = fun i => if i = Mo then some .m1 else tag i := ⟨_, rfl⟩
  have hs1 : Step w w1 tag tag1 (fun t => t = .m1 ∨ ∃ s, t = .r1 s) := by
    rw [htag1]; exact (Step.grown hg1 tag _).tagged Mo (by omega) (by omega) (.inl rfl) hlt
  have hlt1 := hs1.lt hlt
  have hhas : ∀ s : ByteArray, has D (lit s) = (f2 s).isSome := by
    intro s
    cases hf : f2 s with
    | none => exact has_false_of_atKey (fun z => by rw [hD s, hf])
    | some x => exact has_true_of_atKey (y := .held x) (fun z => by rw [hD s, hf])
  have hpart0 : part F (has D) = fun _ => none := by
    funext s
    have := hfiles s
    cases hF : F s with
    | none => simp [part, hF]
    | some zs => rw [hF] at this; obtain ⟨_, v, hv, _⟩ := this; simp [part, hhas s, hv]
  replace hsz1 := Kpt.mk hsz1
  replace hhas := Kpt.mk hhas
  replace hpart0 := Kpt.mk hpart0
  replace htag1 := Kpt.mk htag1
  replace hD := Kpt.mk hD
  replace hlt := Kpt.mk hlt
  replace hlt1 := Kpt.mk hlt1
  go_enter Try.func37, Try.ntmps37
  go_wp2_with (first
    | (at_range; rw [← hw1, ← hMo]; refine wpList_range_own _ rfl _ 67 rfl 9 23 Try.law9 Try.underlying67 rawElem M2 n2 D rfl hown1 ?_; intro w2 hrg2 hg2 hs2)
    | go_in)
  go_frame
  replace hw1 := Kpt.mk hw1
  replace hMo := Kpt.mk hMo
  clear hmm
  have start : TwinR w w2 tag F D M2 Mo w1.heap.size n2 f2 (has D) (Maps.size D) tag1 (fun _ => none) 0 := by
    have hMlt : Mo < w1.heap.size := by have := hsz1.out; omega
    have hMne : M2 ≠ Mo := by have := hMo.out; omega
    exact {
      rg := hrg2
      cn := by omega
      map := hmo1.of_block (hg2.block Mo hMlt (by simp))
      files := by rw [hpart0.out]; intro s; rfl
      tM := by rw [htag1.out]; simp
      lt := fun i hi => Nat.lt_of_lt_of_le (hlt1.out i hi) hg2.size
      step := hs1.trans (Step.grown hg2 _ _)
      tr := by
        cases hh : tag1 w1.heap.size with
        | none => rfl
        | some t => have := hlt1.out _ (by rw [hh]; simp); omega }
  clear hrg2 hg2 hs2
  go_loopw [4] (fun _ wr => ∃ left cnt tagj fj nj, TwinR w wr tag F D M2 Mo w1.heap.size n2 f2 left cnt tagj fj nj) (fun _ wr => wr.rangeLeft M2 w1.heap.size)
  case atStart => exact ⟨_, _, _, _, _, start⟩
  case round =>
    obtain ⟨left, cnt, tagj, fj, nj, hR⟩ := hrel
    have hrg := hR.rg
    go_wp2_with (first
      | (at_next; refine wpList_next_ranges _ rfl _ rfl 9 Try.law9 rawElem Value.string (id : Value → Value) key_inv9 (fun v y _ => ⟨v, rfl⟩) M2 w1.heap.size n2 D left cnt rfl hrg ?_ ?_)
      | go_in)
    · intro hc0 hl0
      go_wp2
      go_ret
      refine ⟨Mo, tagj, fj, rfl, hR.map.mono (by have := hR.cn; omega), ?_, hR.tM, hR.step, hR.lt⟩
      have : part F left = F := by funext s; simp [part, hl0]
      have hf := hR.files
      rw [this] at hf
      exact hf
    · intro x c kl y1 y2 w3 cnt3 hkey hlk hv hat hrg3 hlt3 hg3 hs3 hen
      obtain ⟨rfl, hxs⟩ := key_str9 hkey
      have hy : y1 = .held c := raw_held hv
      have hfx : f2 x = some c := by
        have h1 := hat .nil
        rw [hD.out x, hy] at h1
        cases hf : f2 x with
        | none => rw [hf] at h1; simp at h1
        | some v => rw [hf] at h1; simp at h1; rw [h1]
      obtain ⟨zs, hFx, hzl, hrow, hrt⟩ : ∃ zs, F x = some zs ∧ zs.length ≤ 1048576 ∧ Row w c zs ∧ ∀ g, c.ownBlock = some g → tag g = some (.r2 x) := by
        have := hfiles x
        cases hF : F x with
        | none => rw [hF] at this; rw [hfx] at this; cases this
        | some zs => rw [hF] at this; obtain ⟨h1, v, h2, h3, h4⟩ := this; rw [hfx] at h2; cases h2; exact ⟨zs, rfl, h1, h3, h4⟩
      have hrne : ∀ i t, tagj i = some t → i ≠ w1.heap.size := fun i t h e => by rw [e, hR.tr] at h; cases h
      have hrl : w1.heap.size < wr.heap.size := hrg.lt
      have hcrow : Row w3 c zs := by
        have h1 : Row wr c zs := hrow.of_block (fun g hg => (hR.step.keep (hrow.lt hg) (hrt g hg) (by simp)).1)
        exact h1.of_block (fun g hg => hg3.block g (h1.lt hg) (fun e => hrne g _ ((hR.step.keep (hrow.lt hg) (hrt g hg) (by simp)).2) (by cases e; rfl)))
      have hb3 : ∀ i t, i < wr.heap.size → tagj i = some t → w3.heap[i]? = wr.heap[i]? := fun i t hi ht => hg3.block i hi (fun e => hrne i t ht (by cases e; rfl))
      have hMlt : Mo < wr.heap.size := hR.lt Mo (by rw [hR.tM]; simp)
      have hmap3 : MapIs w3 Mo nj fj := hR.map.of_block (hb3 Mo _ hMlt hR.tM)
      have hfiles3 : Files w3 tagj .r1 fj (part F left) := hR.files.of_blocks hb3
      have hstep3 := hR.step.after hg3 (by have := hsz1.out; have := hMo.out; omega)
      have hlt3' : ∀ i, tagj i ≠ none → i < w3.heap.size := fun i hi => Nat.lt_of_lt_of_le (hR.lt i hi) hg3.size
      have hpx : part F left x = none := by simp [part, hlk]
      have hfjx : fj x = none := by have := hR.files x; rw [hpx] at this; exact this
      obtain ⟨ca, cc, hcv, _⟩ := rd_shape hcrow.rd
      have hne0 : ∀ g, (Value.slice none 0 0).ownBlock = some g → c.ownBlock ≠ some g := by simp [Value.ownBlock]
      have hM2Mo : M2 ≠ Mo := by have := hMo.out; omega
      have hMor : Mo ≠ w1.heap.size := hrne Mo _ hR.tM
      subst hcv
      have fin : ∀ w4 v', w3.grownBy w4 none → Row w4 v' (laidL [] 0 zs) → (v'.ownBlock = none ∨ ∃ g, v'.ownBlock = some g ∧ w3.heap.size ≤ g) → ∃ w5, (Instr.mapUpdate 67 (.map (some Mo)) (.string x) v').run Try.prog w4 = .ok () w5 ∧ w5.rangeLeft M2 w1.heap.size < wr.rangeLeft M2 w1.heap.size ∧ ∃ left cnt tagj fj nj, TwinR w w5 tag F D M2 Mo w1.heap.size n2 f2 left cnt tagj fj nj := by
        intro w4 v' hg4 hr4 hb4
        have hmap4 : MapIs w4 Mo nj fj := hmap3.of_block (hg4.block Mo (Nat.lt_of_lt_of_le hMlt hg3.size) (by simp))
        obtain ⟨w5, hst, hmap5, hturn⟩ := hmap4.store hxs (by have := hR.cn; unfold maxLen; omega) v'
        obtain ⟨tag5, ha⟩ := applied_wr (w0 := w3) (w1 := w4) (w2 := w5) (tag := tagj) (T := .r1) (mt := .m1) (M := Mo) (n := nj) (f := fj) (F := part F left) (s := x) (v := .slice none 0 0) (v' := v') (ds := zs) (off := 0)
          (fun a b e => by injection e) (fun a e => by cases e) hR.tM hlt3' hfiles3 (by rw [hfjx]; rfl) (by omega) (by rw [hpx]; exact hr4) (by simpa [Value.ownBlock] using hg4) (by simpa [Value.ownBlock] using hb4) hmap5 hturn
        have hrg4 := hrg3.kept hg4 (by simp) (by simp)
        have hrg5 := hrg4.kept hturn.grown (fun e => hM2Mo (by cases e; rfl)) (fun e => hMor (by cases e; rfl))
        refine ⟨w5, hst, by rw [hrg5.left_eq, hrg.left_eq]; exact hlt3, (fun z => left z && !z.sameKey (lit x)), cnt3, tag5, updF fj x (some v'), nj + 1, ?_⟩
        exact {
          rg := hrg5
          cn := by have := hR.cn; omega
          map := ha.map
          files := by
            have hfa := ha.files
            rw [hpx] at hfa
            rw [part_strike F left x zs hFx]
            rw [show laidL ((none : Option (List Int)).getD []) 0 zs = zs from laidL_nil zs] at hfa
            exact hfa
          tM := ha.tM
          lt := ha.lt
          step := hstep3.trans ha.step
          tr := ha.step.bare _ (Nat.lt_of_lt_of_le hrl hg3.size) hR.tr }
      replace fin := Kpt.mk fin
      have hcrowK := Kpt.mk hcrow
      have hwk := Kpt.mk hne0
      clear hrg3 hmap3 hfiles3 hstep3 hR hrow hrt hv hat hkey hb3 hcrow hne0 hrne
      go_wp2_with (go_at_call 51; refine (laid_any _ (.slice none 0 0) (.slice ca zs.length cc) [] zs 0 (row_nil _) hcrowK.out.rd hwk.out (by simp) (by omega)).mono ?_; rintro e w4 ⟨v', rfl, hr4, hg4, hb4⟩; obtain ⟨w5, hst5, hm5, hrel5⟩ := fin.out w4 v' (by simpa [Value.ownBlock] using hg4) hr4 (by simpa [Value.ownBlock] using hb4))
      go_roundw
      case rel => exact hrel5
      case measure => exact hm5
end Go.Proofs.Ytndlpmnidpandaa
