/-
  The contracts of remove, Index, Contains.
-/
import Derived.Test.YtmnoolcffkjmhaaPOth
namespace Go.Proofs.Ytmnoolcffkjmhaa
open Go.RowKit
set_option linter.unusedVariables false
set_option linter.unusedSimpArgs false

theorem regsTo_mem (f : Nat → Int) : ∀ (k : Nat) (r : Int × Int), r ∈ regsTo f k ↔ ∃ m : Nat, m < k ∧ r = ((m : Int), f m) ∧ f m ≠ 0
  | 0, r => by simp [regsTo]
  | k + 1, r => by
    unfold regsTo
    rw [List.mem_append, regsTo_mem f k r]
    constructor
    · rintro (⟨m, h1, h2, h3⟩ | h)
      · exact ⟨m, by omega, h2, h3⟩
      · split at h
        · rename_i hk
          exact ⟨k, by omega, by simpa using h, hk⟩
        · simp at h
    · rintro ⟨m, h1, h2, h3⟩
      by_cases e : m = k
      · subst e; right; simp [h3, h2]
      · exact .inl ⟨m, by omega, h2, h3⟩
theorem regs_mem (t : Tb) (r : Int × Int) : r ∈ t.regs ↔ ∃ m : Nat, m < 8 ∧ r = ((m : Int), t.ks m) ∧ t.ks m ≠ 0 := regsTo_mem t.ks 8 r
theorem regs_at {t : Tb} {k : Nat} {r : Int × Int} (h : t.regs[k]? = some r) : ∃ m : Nat, m < 8 ∧ r = ((m : Int), t.ks m) ∧ t.ks m ≠ 0 := (regs_mem t r).1 (List.mem_of_getElem? h)

/-- Is that registration to go? -/
def rmP (n key : Int) (r : Int × Int) : Bool := decide (r.1 ≠ n ∧ (key = 0 ∨ r.2 = key))
/-- The keys without those of a list that are to go. -/
def rmK (f : Nat → Int) (n key : Int) (xs : List (Int × Int)) : Nat → Int := fun i => if xs.any (fun r => decide (r.1 = (i : Int)) && rmP n key r) = true then 0 else f i
def rmL (n key : Int) (l : List (Int × Int)) : List (Int × Int) := (l.filter (rmP n key)).map (fun r => (r.1, 10757))
theorem rmL_len (n key : Int) (l : List (Int × Int)) : (rmL n key l).length ≤ l.length := by
  unfold rmL
  rw [List.length_map]
  exact List.length_filter_le _ _
theorem rmL_step (n key : Int) (l : List (Int × Int)) (k : Nat) (r : Int × Int) (h : l[k]? = some r) : rmL n key (l.take (k + 1)) = rmL n key (l.take k) ++ if rmP n key r = true then [(r.1, 10757)] else [] := by
  rw [List.take_add_one, h]
  simp only [rmL, Option.toList_some, List.filter_append, List.map_append]
  by_cases e : rmP n key r = true <;> simp [e]
theorem rmK_step (f : Nat → Int) (n key : Int) (l : List (Int × Int)) (k m : Nat) (y : Int) (h : l[k]? = some ((m : Int), y)) :
    rmK f n key (l.take (k + 1)) = if rmP n key ((m : Int), y) = true then upd (rmK f n key (l.take k)) m 0 else rmK f n key (l.take k) := by
  funext i
  rw [List.take_add_one, h]
  by_cases e : rmP n key ((m : Int), y) = true
  · rw [if_pos e]
    unfold upd rmK
    simp only [Option.toList_some, List.any_append, List.any_cons, List.any_nil, Bool.or_false, e]
    by_cases hi : i = m
    · subst hi; simp
    · have hi2 : decide ((m : Int) = (i : Int)) = false := decide_eq_false (by omega)
      rw [hi2, Bool.false_and, Bool.or_false, if_neg hi]
  · rw [if_neg e]
    unfold rmK
    have e' : rmP n key ((m : Int), y) = false := by simpa using e
    simp only [Option.toList_some, List.any_append, List.any_cons, List.any_nil, Bool.or_false, e', Bool.and_false]
/-- The keys without those that are to go. -/
def Tb.rm (t : Tb) (n key : Int) : Tb := { t with ks := fun i => if rmP n key ((i : Int), t.ks i) = true then 0 else t.ks i }
theorem rmK_all (t : Tb) (n key : Int) (i : Nat) (hi : i < 8) : (t.rm n key).ks i = rmK t.ks n key t.regs i := by
  unfold rmK Tb.rm
  simp only
  by_cases hz : t.ks i = 0
  · simp [hz]
  · have : (t.regs.any (fun r => decide (r.1 = (i : Int)) && rmP n key r) = true) ↔ rmP n key ((i : Int), t.ks i) = true := by
      rw [List.any_eq_true]
      constructor
      · rintro ⟨r, hr, h⟩
        obtain ⟨m, hm, rfl, _⟩ := (regs_mem t r).1 hr
        simp at h
        have : m = i := by omega
        subst this
        exact h.2
      · intro h
        exact ⟨((i : Int), t.ks i), (regs_mem t _).2 ⟨i, hi, rfl, hz⟩, by simp [h]⟩
    by_cases e : rmP n key ((i : Int), t.ks i) = true
    · rw [if_pos e, if_pos (this.2 e)]
    · rw [if_neg e, if_neg (fun x => e (this.1 x))]

theorem grown_via {w1 wr w3 : World} {B p : Nat} {u : Value} {row : Option Nat} (h : w1.grownBy wr (some B)) (o1 o2 : Obj) (h3 : (((wr.setCell ⟨B, p, none⟩ u).alloc o1).alloc o2).drew.grownBy w3 row) (hr : ∀ g, row = some g → w1.heap.size ≤ g) : w1.grownBy w3 (some B) :=
  ⟨h3.os.trans h.os, h3.tape.trans h.tape, h3.output.trans h.output, Nat.le_trans h.size (Nat.le_trans (by simp; omega) h3.size), fun j hj hk => by
    have hj' : j < wr.heap.size := Nat.lt_of_lt_of_le hj h.size
    refine (h3.block j (by simp; omega) (fun e => by have := hr j e.symm; omega)).trans ?_
    exact (Below.heap_alloc _ _ _ (by simp; omega)).trans ((Below.heap_alloc _ _ _ (by simp; omega)).trans ((Below.heap_setCell _ _ _ _ (fun e => hk (by rw [e]))).trans (h.block j hj hk)))⟩

set_option maxRecDepth 100000 in
set_option maxHeartbeats 2000000 in
theorem remove_any (B : Nat) (t : Tb) (n key : Int) (w : World) (h : Tab w B t) :
    Calls Try.prog 58 #[.pointer (some ⟨B, 0, none⟩), .int .i64 n, .int .u64 key] w fun e w' => ∃ v, e = .returned v ∧ Own .u16 55 w.heap.size w' v (rmL n key t.regs) ∧ Tab w' B (t.rm n key) ∧ w.grownBy w' (some B) := by
  have HR := Kpt.mk (regs_any B t w h)
  have hl := regs_len t
  have hBl := h.lt
  have hat : Kpt (∀ k r, t.regs[k]? = some r → ∃ m : Nat, m < 8 ∧ r = ((m : Int), t.ks m) ∧ t.ks m ≠ 0) := ⟨fun k r h => regs_at h⟩
  have hfin : Kpt (∀ W, Tab W B { t with ks := rmK t.ks n key t.regs } → Tab W B (t.rm n key)) := ⟨fun W hW => hW.congr (fun j hj => rmK_all t n key j hj) rfl rfl rfl rfl⟩
  have hst0 : Kpt (Tab w B { t with ks := rmK t.ks n key (t.regs.take 0) }) := ⟨h.congr (fun j hj => by simp [rmK]) rfl rfl rfl rfl⟩
  generalize t.rm n key = T at *
  generalize t.regs = l at *
  clear h
  go_enter Try.func58, Try.ntmps58
  go_wp2_with (go_at_call 19; go_must (refine HR.out.mono ?_; rintro e w1 ⟨v, rfl, hO1, hB1⟩; obtain ⟨a, cp, hv, hs⟩ := hO1.shape; subst hv; replace hs := Kpt.mk hs; replace hB1 := Kpt.mk hB1; clear hO1))
  obtain ⟨m, hm⟩ : ∃ m, m = l.length := ⟨_, rfl⟩
  rw [← hm] at hl hs ⊢
  replace hm := Kpt.mk hm
  have hs0 : w.heap.size ≤ w1.heap.size := hB1.out.size
  go_loopw [7, 13] (fun r tt wr => ∃ (k : Nat) (x : Value), k ≤ m ∧ r = x ∧ tt = .int .i64 k ∧ Kpt (Own .u16 55 w1.heap.size wr x (rmL n key (l.take k))) ∧ Kpt (Tab wr B { t with ks := rmK t.ks n key (l.take k) }) ∧ Kpt (w1.grownBy wr (some B))) (fun _ t _ => m - (intOf t).toNat)
  case atStart => exact ⟨0, _, Nat.zero_le _, rfl, rfl, ⟨own_nil _ _ _ _⟩, ⟨hst0.out.below hB1.out hBl⟩, ⟨grown_refl _ _⟩⟩
  case round =>
    obtain ⟨k, x, hk, hx0, rfl, hO, hT, hG⟩ := hrel
    replace hx0 := hx0.symm
    subst hx0
    by_cases hlt2 : k < m
    · have e1 : (k : Int) < m := by omega
      have hkz : k < l.length := by rw [← hm.out]; exact hlt2
      obtain ⟨r, hr⟩ : ∃ r, l[k]? = some r := ⟨_, List.getElem?_eq_getElem hkz⟩
      obtain ⟨p, hp, rfl, _⟩ := hat.out k r hr
      rcases hs.out with ⟨_, _, hz⟩ | ⟨g, rfl, hbg, hg, hc1, hc2, hrr⟩
      · omega
      obtain ⟨r0, r1⟩ := range2 (rangeAt_of_block (hrr k _ hr) (hG.out.block g hg (fun e => by simp at e; omega)))
      have hst := Kpt.mk (rmL_step n key l k _ hr)
      have hsk := Kpt.mk (rmK_step t.ks n key l k p _ hr)
      have hll : Kpt ((rmL n key (l.take k)).length ≤ 8) := ⟨by have := rmL_len n key (l.take k); have : (l.take k).length ≤ k := by simp; omega
                                                                omega⟩
      have hgl : g < wr.heap.size := Nat.lt_of_lt_of_le hg hG.out.size
      have hs1 : w1.heap.size ≤ wr.heap.size := hG.out.size
      generalize t.ks p = y at *
      simp only at r0 r1 hst
      have hpe : Kpt (rmP n key ((p : Int), y) = decide ((p : Int) ≠ n ∧ (key = 0 ∨ y = key))) := ⟨rfl⟩
      have hBw : B < wr.heap.size := by omega
      clear hrr hr hs
      by_cases hy : (p : Int) = n
      · have hyb : ((p : Int) != n) = false := by simp [hy]
        go_wp2
        go_roundw
        case rel => exact ⟨k + 1, x, by omega, rfl, by go_num, ⟨by rw [hst.out, hpe.out]; simpa [hy] using hO.out.of_block (fun g hg => Below.heap_alloc _ _ _ (hO.out.lt hg).2)⟩, ⟨by rw [hsk.out, hpe.out]; simpa [hy] using hT.out.alloc _⟩, ⟨grown_trans hG.out (grown_alloc _ _ _)⟩⟩
        case measure => simp [intOf]; omega
      · have hyb : ((p : Int) != n) = true := by simp [hy]
        have hcs : (key = 0 ∨ (key ≠ 0 ∧ y = key)) ∨ (key ≠ 0 ∧ y ≠ key) := by omega
        rcases hcs with hcs | ⟨hk0, hk1⟩
        · have hpt : Kpt (rmP n key ((p : Int), y) = true) := ⟨by rw [hpe.out]; simp only [decide_eq_true_eq]; exact ⟨hy, by omega⟩⟩
          rw [hpt.out] at hst hsk
          have hTa := hT.out.alloc (.cells #[.int .i64 p, .int .u64 y] 67)
          have hkp := hTa.key p hp
          have hfr := hTa.free p
          have hT3 := Kpt.mk (hT.out.setKey p hp 0)
          have hbk : Kpt (∀ g, x.ownBlock = some g → ∀ (o1 o2 : Obj), (((wr.setCell ⟨B, p, none⟩ (.int .u64 0)).alloc o1).alloc o2).heap[g]? = wr.heap[g]?) := ⟨fun g hg o1 o2 => by
            have h1 := hO.out.lt hg
            exact (Below.heap_alloc _ _ _ (by simp; omega)).trans ((Below.heap_alloc _ _ _ (by simp; omega)).trans (Below.heap_setCell _ _ _ _ (fun e => by simp at e; omega)))⟩
          have hp8 : (p : Int) < 8 := by omega
          clear hTa hpe hpt
          rcases hcs with rfl | ⟨hk0, rfl⟩
          all_goals
            go_wp2_with fail
            go_region
            go_wp2_with (at_builtin; go_must (refine wpList_append_row (κ := .u16) Try.underlying45 Try.infoEV rfl (by decide) rfl (.tmp 37) (.tmp 41) rfl w1.heap.size x (.slice (some ⟨wr.heap.size + 1, 0, none⟩) 1 1) (rmL n _ (l.take k)) [((p : Int), 10757)] rfl rfl (rowOf_at .u16 _ ((p : Int), 10757) _ _ (by simp)) (hO.out.of_block (fun g hg => hbk.out g hg _ _)) (by have := hll.out; simp; omega) (by simp; omega) ?_; intro v' w3 ho3 hg3 hor))
            have hTT : Kpt (Tab w3 B _) := ⟨((hT3.out.alloc _).alloc _).drew.grown hg3.out (fun e => by have := (hO.out.lt e).1; omega)⟩
            have hGG : Kpt (w1.grownBy w3 (some B)) := ⟨grown_via hG.out _ _ hg3.out (fun g hg => (hO.out.lt hg).1)⟩
            go_wp2
            go_roundw
            case rel => exact ⟨k + 1, v', by omega, rfl, by go_num, ⟨by rw [hst.out]; simpa using ho3.out⟩, ⟨by rw [hsk.out]; simpa using hTT.out⟩, hGG⟩
            case measure => simp [intOf]; omega
        · have hpt : Kpt (rmP n key ((p : Int), y) = false) := ⟨by rw [hpe.out]; simp only [decide_eq_false_iff_not]; omega⟩
          rw [hpt.out] at hst hsk
          have hb0 : ((key : Int) == 0) = false := by simp [hk0]
          have hb1 : ((y : Int) == key) = false := by simp [hk1]
          go_wp2
          go_roundw
          case rel => exact ⟨k + 1, x, by omega, rfl, by go_num, ⟨by rw [hst.out]; simpa using hO.out.of_block (fun g hg => Below.heap_alloc _ _ _ (hO.out.lt hg).2)⟩, ⟨by rw [hsk.out]; simpa using hT.out.alloc _⟩, ⟨grown_trans hG.out (grown_alloc _ _ _)⟩⟩
          case measure => simp [intOf]; omega
    · have e1 : ¬ (k : Int) < m := by omega
      have ek : k = m := by omega
      have hfi : Kpt (l.take k = l) := ⟨by rw [ek, hm.out]; simp⟩
      go_wp2
      go_ret
      exact ⟨x, rfl, by have := hO.out; rw [hfi.out] at this; exact this.lower hs0, hfin.out _ (by have := hT.out; rw [hfi.out] at this; exact this), grown_trans (grown_below hB1.out) hG.out⟩
end Go.Proofs.Ytmnoolcffkjmhaa
