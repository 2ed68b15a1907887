/-
  The contract of Plan (the power goes off at no call).
-/
import Derived.Test.YtfcbacmfjhabgaaNil
namespace Go.Proofs.Ytfcbacmfjhabgaa
open Go.RowKit Go.Maps
set_option linter.unusedVariables false
set_option linter.unusedSimpArgs false

/-- A slice of ints that can be read. -/
def IntsAt (w : World) (v : Value) (xs : List Int) : Prop :=
  ∃ a c, v = .slice a xs.length c ∧ (xs.length = 0 ∨ ∃ b off, a = some ⟨b, off, none⟩ ∧ ∀ j x, xs[j]? = some x → w.cell? ⟨b, off + j, none⟩ = some (.int .i64 x))

theorem IntsAt.of_block {w w' : World} {v : Value} {xs : List Int} (h : IntsAt w v xs) (hb : ∀ g, v.ownBlock = some g → w'.heap[g]? = w.heap[g]?) : IntsAt w' v xs := by
  obtain ⟨a, c, rfl, h⟩ := h
  refine ⟨a, c, rfl, ?_⟩
  rcases h with h | ⟨b, off, rfl, hc⟩
  · exact .inl h
  · exact .inr ⟨b, off, rfl, fun j x hx => (World.cell?_of_block (a := ⟨b, off + j, none⟩) (hb b rfl)).trans (hc j x hx)⟩

theorem IntsAt.lt {w : World} {v : Value} {xs : List Int} (h : IntsAt w v xs) (h0 : 0 < xs.length) {g : Nat} (hg : v.ownBlock = some g) : g < w.heap.size := by
  obtain ⟨a, c, rfl, h⟩ := h
  rcases h with h | ⟨b, off, rfl, hc⟩
  · omega
  · simp [Value.ownBlock] at hg
    subst hg
    exact World.block_lt_of_cell? w ⟨b, off + 0, none⟩ (hc 0 (xs[0]'h0) (by rw [List.getElem?_eq_getElem]))

section
variable {w w' : World} {B : Nat} {tag : Tags} {st : St} {M1 M2 n2 b : Nat} {wv : Value} {fv : Option Nat} {f1 f2 : ByteArray → Option Value} {l : List (Chg × Value)}

/-- A new set of numbers. -/
theorem Inv.newFails (h : Inv w B tag st M1 M2 wv fv f1 f2 l n2) (b : Nat) (hb : b = w.heap.size) :
    Inv ((w.alloc (.map #[] 0)).setCell ⟨B, 3, none⟩ (.map (some b))) B (fun i => if i = b then some .fl else tag i) { st with fails := fun _ => false } M1 M2 wv (some b) f1 f2 l n2 ∧
    Step w ((w.alloc (.map #[] 0)).setCell ⟨B, 3, none⟩ (.map (some b))) tag (fun i => if i = b then some .fl else tag i) (fun t => t = .fl ∨ t = .wd) ∧
    ((w.alloc (.map #[] 0)).setCell ⟨B, 3, none⟩ (.map (some b))).ownsMap (H := Unit) Try.prog 3 unitElem b 0 (.map []) := by
  have g1 := World.grownBy_alloc w (.map #[] 0) none
  have hBlt := (Array.getElem?_eq_some_iff.1 h.cell).1
  have hBb : B ≠ b := by omega
  have hM1 := h.map1.lt
  have hM2 := h.map2.lt
  have s1 : Step w (w.alloc (.map #[] 0)) tag (fun i => if i = b then some .fl else tag i) (fun t => t = .fl ∨ t = .wd) := (Step.grown g1 tag _).tagged b (by omega) (by simp; omega) (.inl rfl) h.lt
  have hB1 : (w.alloc (.map #[] 0)).heap[B]? = some (.cells (wdCells M1 M2 wv fv st.ops) 51 (0, 0)) := (g1.block B hBlt (by simp)).trans h.cell
  have s2 : Step (w.alloc (.map #[] 0)) ((w.alloc (.map #[] 0)).setCell ⟨B, 3, none⟩ (.map (some b))) (fun i => if i = b then some .fl else tag i) (fun i => if i = b then some .fl else tag i) (fun t => t = .fl ∨ t = .wd) := Step.turned (grown_setCell _ B 3 _) _ (t := .wd) (by simp [hBb, h.tB]) (.inr rfl)
  have s := s1.trans s2
  have hown : ((w.alloc (.map #[] 0)).setCell ⟨B, 3, none⟩ (.map (some b))).ownsMap (H := Unit) Try.prog 3 unitElem b 0 (.map []) := by
    have h0 : (w.alloc (.map #[] 0)).ownsMap (H := Unit) Try.prog 3 unitElem b 0 (.map []) := by rw [hb]; exact World.ownsMap_made w Try.prog 3 unitElem
    exact h0.setCell (fun e => hBb e.symm) _
  refine ⟨?_, s, hown⟩
  have hM1b : M1 ≠ b := by omega
  have hM2b : M2 ≠ b := by omega
  exact {
    cell := by rw [setCell_own _ B 3 _ _ _ hB1]; simp [wdCells]
    tB := by simp [hBb, h.tB]
    t1 := by simp [hM1b, h.t1]
    t2 := by simp [hM2b, h.t2]
    map1 := h.map1.of_block (s.keep hM1 h.t1 (by simp)).1
    map2 := h.map2.of_block (s.keep hM2 h.t2 (by simp)).1
    seen := h.seen.step s (by simp)
    dur := h.dur.step s (by simp)
    waits := h.waits.step s (by simp) (by simp)
    l_eq := h.l_eq
    fails := ⟨by simp, 0, .map [], hown, fun x _ => by simp [has]⟩
    lt := s.lt h.lt
    opsLo := h.opsLo
    opsHi := h.opsHi
    cnt2 := h.cnt2 }

/-- The set of numbers has turned. -/
theorem Inv.turnFails (h : Inv w B tag st M1 M2 wv (some b) f1 f2 l n2) (hturn : w.mapTurned w' b) (p : Int → Bool) (hp : FailsIs w' tag (some b) p) :
    Inv w' B tag { st with fails := p } M1 M2 wv (some b) f1 f2 l n2 ∧ Step w w' tag tag (fun t => t = .fl ∨ t = .wd) := by
  have s : Step w w' tag tag (fun t => t = .fl) := Step.turned hturn.grown tag h.fails.1 rfl
  refine ⟨?_, s.weaken (fun t h => .inl h)⟩
  have hBlt := (Array.getElem?_eq_some_iff.1 h.cell).1
  exact {
    cell := (s.keep hBlt h.tB (by simp)).1.trans h.cell
    tB := h.tB
    t1 := h.t1
    t2 := h.t2
    map1 := h.map1.of_block (s.keep h.map1.lt h.t1 (by simp)).1
    map2 := h.map2.of_block (s.keep h.map2.lt h.t2 (by simp)).1
    seen := h.seen.step s (by simp)
    dur := h.dur.step s (by simp)
    waits := h.waits.step s (by simp) (by simp)
    l_eq := h.l_eq
    fails := hp
    lt := s.lt h.lt
    opsLo := h.opsLo
    opsHi := h.opsHi
    cnt2 := h.cnt2 }

/-- Calls are counted anew. -/
theorem Inv.anew (h : Inv w B tag st M1 M2 wv fv f1 f2 l n2) :
    Inv ((w.setCell ⟨B, 4, none⟩ (.int .i64 (-1))).setCell ⟨B, 5, none⟩ (.int .i64 0)) B tag { st with ops := 0 } M1 M2 wv fv f1 f2 l n2 ∧ Step w ((w.setCell ⟨B, 4, none⟩ (.int .i64 (-1))).setCell ⟨B, 5, none⟩ (.int .i64 0)) tag tag (fun t => t = .fl ∨ t = .wd) := by
  have g : w.grownBy ((w.setCell ⟨B, 4, none⟩ (.int .i64 (-1))).setCell ⟨B, 5, none⟩ (.int .i64 0)) (some B) := (grown_setCell w B 4 _).andThen (grown_setCell _ B 5 _) (fun j h => .inr h)
  have s : Step w ((w.setCell ⟨B, 4, none⟩ (.int .i64 (-1))).setCell ⟨B, 5, none⟩ (.int .i64 0)) tag tag (fun t => t = .wd) := Step.turned g tag h.tB rfl
  refine ⟨?_, s.weaken (fun t h => .inr h)⟩
  exact {
    cell := by rw [setCell_own _ B 5 _ _ _ (setCell_own w B 4 _ _ _ h.cell)]; simp [wdCells]
    tB := h.tB
    t1 := h.t1
    t2 := h.t2
    map1 := h.map1.of_block (s.keep h.map1.lt h.t1 (by simp)).1
    map2 := h.map2.of_block (s.keep h.map2.lt h.t2 (by simp)).1
    seen := h.seen.step s (by simp)
    dur := h.dur.step s (by simp)
    waits := h.waits.step s (by simp) (by simp)
    l_eq := h.l_eq
    fails := h.fails.step s (by simp)
    lt := s.lt h.lt
    opsLo := Int.le_refl _
    opsHi := by show (0 : Int) ≤ (st.cnt : Int); omega
    cnt2 := h.cnt2 }
end

def stP (st : St) (xs : List Int) : St := { st with fails := fun x => decide (x ∈ xs), ops := 0 }

/-- One number more. -/
theorem plan_step {wr : World} {b j : Nat} {D : DataW Unit} {xs : List Int} {x : Int} (hown : wr.ownsMap Try.prog 3 unitElem b j D) (hp : ∀ y : Int, (Lit.int .i64 y).wf = true → has D (.int .i64 y) = decide (y ∈ xs.take j)) (hj : j < 1099511627776)
    (hx : xs[j]? = some x) (hwx : (Lit.int .i64 x).wf = true) :
    ∃ (w' : World) (D' : DataW Unit), (Instr.mapUpdate 49 (.map (some b)) (.int .i64 x) (.agg #[])).run Try.prog wr = .ok () w' ∧ w'.ownsMap Try.prog 3 unitElem b (j + 1) D' ∧ (∀ y : Int, (Lit.int .i64 y).wf = true → has D' (.int .i64 y) = decide (y ∈ xs.take (j + 1))) ∧ wr.mapTurned w' b := by
  obtain ⟨w', hrun, hown', ht⟩ := hown.store Try.law3 Try.underlying49 (by unfold maxLen; omega) (keyOf_int_mk Try.underlying3 hwx) (unitElem_mk (H := Unit))
  refine ⟨w', _, hrun, hown', fun y hy => ?_, ht⟩
  have e : xs.take (j + 1) = xs.take j ++ [x] := by rw [List.take_add_one, hx]; rfl
  rw [e]
  by_cases hyx : y = x
  · subst hyx
    rw [has_put_same hown.isMap (by simp [WideAt.IsKeyLit])]
    simp
  · rw [has_put_other (by simpa using hyx), hp y hy]
    simp [hyx]

set_option maxRecDepth 100000 in
set_option maxHeartbeats 2000000 in
theorem plan_any (w : World) (B : Nat) (tag : Tags) (st : St) (h : Wd w B tag st) (a : Option Addr) (c : Nat) (xs : List Int) (hx : IntsAt w (.slice a xs.length c) xs) (hxl : xs.length < 1099511627776) (hwf : ∀ x ∈ xs, (Lit.int .i64 x).wf = true)
    (hbare : xs ≠ [] → ∀ g, (Value.slice a xs.length c).ownBlock = some g → tag g = none) :
    Calls Try.prog 21 #[.pointer (some ⟨B, 0, none⟩), .slice a xs.length c, .int .i64 (-1)] w fun e w' => e = .returned (.tuple #[]) ∧ ∃ tag', Wd w' B tag' (stP st xs) ∧ Step w w' tag tag' (fun _ => True) := by
  obtain ⟨M1, M2, wv, fv, f1, f2, l, n2, h⟩ := h
  obtain ⟨b, hb⟩ : ∃ b, b = w.heap.size := ⟨_, rfl⟩
  obtain ⟨w0, hw0⟩ : ∃ w0, w0 = (w.alloc (.map #[] 0)).setCell ⟨B, 3, none⟩ (.map (some b)) := ⟨_, rfl⟩
  obtain ⟨hI0, hs0, hown0⟩ := h.newFails b hb
  rw [← hw0] at hI0 hs0 hown0
  obtain ⟨tag0, htag0⟩ : ∃ tag0 : Tags, tag0 = fun i => if i = b then some .fl else tag i := ⟨_, rfl⟩
  rw [← htag0] at hI0 hs0
  have c3 : (w.alloc (.map #[] 0)).cell? ⟨B, 3, none⟩ = some (.map fv) := (World.grownBy_alloc w (.map #[] 0) none).cell (a := ⟨B, 3, none⟩) h.at.2.2.2.1 (by simp)
  have z3 : (w.alloc (.map #[] 0)).frozen? ⟨B, 3, none⟩ = false := by
    have hB1 := ((World.grownBy_alloc w (.map #[] 0) none).block B (Array.getElem?_eq_some_iff.1 h.cell).1 (by simp)).trans h.cell
    simp [World.frozen?, hB1]
  have hmm := @run_makeMap Try.prog
  -- the list of numbers is read as it was
  have keep : ∀ wr, Step w0 wr tag0 tag0 (fun t => t = .fl ∨ t = .wd) → IntsAt wr (.slice a xs.length c) xs := by
    intro wr hs
    by_cases h0 : xs.length = 0
    · obtain ⟨a', c', e, _⟩ := hx
      exact ⟨a', c', e, .inl h0⟩
    · have hne : xs ≠ [] := fun e => h0 (by rw [e]; rfl)
      refine hx.of_block (fun g hg => ?_)
      have hgl := hx.lt (by omega) hg
      have hgn := hbare hne g hg
      rw [hs.block g (Nat.lt_of_lt_of_le hgl hs0.size) (by intro t _; rw [hs0.bare g hgl hgn]; simp), hs0.block g hgl (by simp [hgn])]
  have hFl : tag0 b = some .fl := hI0.fails.1
  obtain ⟨n, hn⟩ : ∃ n, n = xs.length := ⟨_, rfl⟩
  rw [← hn] at keep ⊢
  have hnb : n < 1099511627776 := by omega
  replace keep := Kpt.mk keep
  replace hn := Kpt.mk hn
  replace hI0 := Kpt.mk hI0
  replace hs0 := Kpt.mk hs0
  replace hown0 := Kpt.mk hown0
  replace htag0 := Kpt.mk htag0
  clear h hx hbare
  go_enter Try.func21, Try.ntmps21
  go_wp2
  rw [← hb, ← hw0]
  replace hb := Kpt.mk hb
  replace hw0 := Kpt.mk hw0
  clear hmm c3 z3
  go_loopw [16] (fun t wr => ∃ j : Nat, j ≤ n ∧ t = .int .i64 j ∧ ∃ D : DataW Unit, wr.ownsMap Try.prog 3 unitElem b j D ∧ (∀ y : Int, (Lit.int .i64 y).wf = true → has D (.int .i64 y) = decide (y ∈ xs.take j)) ∧
    Inv wr B tag0 { st with fails := fun x => decide (x ∈ xs.take j) } M1 M2 wv (some b) f1 f2 l n2 ∧ Step w0 wr tag0 tag0 (fun t => t = .fl ∨ t = .wd)) (fun t _ => n - (intOf t).toNat)
  case atStart =>
    refine ⟨0, by omega, rfl, .map [], hown0.out, fun y _ => by simp [has], ?_, Step.refl _ _ _⟩
    have := hI0.out
    simpa using this
  case round =>
    obtain ⟨j, hj, rfl, D, hown, hp, hI, hS⟩ := hrel
    by_cases hlt : j < n
    · have hlt' : (j : Int) < (n : Int) := by omega
      obtain ⟨x, hxj⟩ : ∃ x, xs[j]? = some x := ⟨_, List.getElem?_eq_getElem (by have := hn.out; omega)⟩
      have hwx := hwf x (List.mem_of_getElem? hxj)
      obtain ⟨g, off, rfl, hcx⟩ : ∃ g off, a = some ⟨g, off, none⟩ ∧ wr.cell? ⟨g, off + j, none⟩ = some (.int .i64 x) := by
        obtain ⟨a', c', e, h'⟩ := keep.out wr hS
        have hn' := hn.out
        simp only [Value.slice.injEq] at e
        obtain ⟨rfl, _, rfl⟩ := e
        rcases h' with h' | ⟨g, off, rfl, hc⟩
        · omega
        · exact ⟨g, off, rfl, hc j x hxj⟩
      obtain ⟨w', D', hst, hown', hp', hturn⟩ := plan_step hown hp (by have := hn.out; omega) hxj hwx
      have hI' := hI.turnFails hturn (fun x => decide (x ∈ xs.take (j + 1))) ⟨hFl, j + 1, D', hown', hp'⟩
      have cB := hI.at.2.2.2.1
      have hrel' : ∃ D : DataW Unit, w'.ownsMap Try.prog 3 unitElem b (j + 1) D ∧ (∀ y : Int, (Lit.int .i64 y).wf = true → has D (.int .i64 y) = decide (y ∈ xs.take (j + 1))) ∧
        Inv w' B tag0 { st with fails := fun x => decide (x ∈ xs.take (j + 1)) } M1 M2 wv (some b) f1 f2 l n2 ∧ Step w0 w' tag0 tag0 (fun t => t = .fl ∨ t = .wd) := ⟨D', hown', hp', hI'.1, hS.trans hI'.2⟩
      replace hrel' := Kpt.mk hrel'
      clear hown hp hI hS hown' hp' hI' hturn hwx hxj
      go_wp2
      go_roundw
      case rel => exact ⟨j + 1, by omega, by go_num, hrel'.out⟩
      case measure => simp [intOf]; omega
    · obtain rfl : j = n := by omega
      have c4 := hI.at.2.2.2.2.1
      have c5 := hI.at.2.2.2.2.2.1
      have z4 := hI.frozen 4
      have z5 := hI.frozen 5
      have fin : ∃ tag', Wd ((wr.setCell ⟨B, 4, none⟩ (.int .i64 (-1))).setCell ⟨B, 5, none⟩ (.int .i64 0)) B tag' (stP st xs) ∧ Step w ((wr.setCell ⟨B, 4, none⟩ (.int .i64 (-1))).setCell ⟨B, 5, none⟩ (.int .i64 0)) tag tag' (fun _ => True) := by
        obtain ⟨hA, hsA⟩ := hI.anew
        refine ⟨tag0, ⟨M1, M2, wv, some b, f1, f2, l, n2, ?_⟩, ((hs0.out.trans hS).trans hsA).weaken (fun _ _ => trivial)⟩
        rw [List.take_of_length_le (by rw [hn.out]; exact Nat.le_refl _)] at hA
        exact hA
      replace fin := Kpt.mk fin
      clear hown hp hI hS
      go_wp2
      first | (refine bodyPost_end (results_none rfl _ _ _) rfl ?_) | (refine bodyPost_ret (results_none rfl _ _ _) rfl ?_)
      exact ⟨rfl, fin.out⟩
end Go.Proofs.Ytfcbacmfjhabgaa
