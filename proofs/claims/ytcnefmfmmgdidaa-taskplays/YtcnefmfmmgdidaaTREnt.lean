/-
  The contract of the document's Enter.
-/
import Derived.Test.YtcnefmfmmgdidaaTREnd
namespace Go.Proofs.Ytcnefmfmmgdidaa
open Go.RowKit
set_option linter.unusedVariables false
set_option linter.unusedSimpArgs false

theorem Try.size63 : (Try.prog.info? 63).map (·.size) = some 4 := by kernel_rfl
theorem exec_load_taskR {W : World} {o : Oper} {a : Act} (x : Operand) (ho : o.op = .load 63 x) (b : Nat) (t : Tk) (hx : a.eval x = .pointer (some ⟨b, 0, none⟩)) (hB : W.rangeAt b 0 t.valsR.toList) :
    (execOp a.eval o).run Try.prog W = .ok (.value (.agg t.valsR)) W := by
  have := run_loadAt_mid (P := Try.prog) W b 0 63 t.valsR.toList _ hB Try.underlying63 rfl Try.size63
  unfold execOp
  simp only [ho, hx]
  simp [this]

theorem range_setR {w : World} {b : Nat} {t : Tk} (h : w.rangeAt b 0 t.valsR.toList) : (w.setCell ⟨b, 3, none⟩ (.bool false)).rangeAt b 0 ({ t with st := false } : Tk).valsR.toList := by
  obtain ⟨q0, q1, q2, q3⟩ := range4R h
  have ne : ∀ j, j ≠ 3 → (⟨b, 3, none⟩ : Addr) ≠ ⟨b, j, none⟩ := fun j hj e => by injection e with _ e2; omega
  have so : ∀ j, j ≠ 3 → (w.setCell ⟨b, 3, none⟩ (.bool false)).cell? ⟨b, j, none⟩ = w.cell? ⟨b, j, none⟩ := fun j hj => by
    have hne := ne j hj
    first | exact World.cell?_setCell_other _ _ _ _ hne | exact World.cell?_setCell_other _ _ _ hne
  intro j u hu
  have hj : j < 4 := by have := (List.getElem?_eq_some_iff.1 hu).1; simpa using this
  rw [Nat.zero_add]
  have hcs : j = 0 ∨ j = 1 ∨ j = 2 ∨ j = 3 := by omega
  rcases hcs with rfl | rfl | rfl | rfl
  · rw [so 0 (by decide), q0]; simpa using hu
  · rw [so 1 (by decide)]; simp at q1; rw [q1]; simpa using hu
  · rw [so 2 (by decide)]; simp at q2; rw [q2]; simpa using hu
  · simp at q3
    rw [World.cell?_setCell_same' _ _ _ (by rw [q3]; rfl)]; simpa using hu


abbrev REntPost (base B : Nat) (ts us : List Tk) (st : Int) (v : Value) (w : World) (s f : Int) (e : Ending) (w' : World) : Prop :=
  e = .returned (.tuple #[.int .i64 s, .int .i64 f]) ∧ ∃ v', StR base w' B us st v' ∧ Trn w w' B v v' ∧ Below base w w'

theorem rent_same {base B : Nat} {ts : List Tk} {st : Int} {v : Value} {w w' : World} {s f : Int} {e : Ending} (h : StR base w B ts st v) (he : e = .returned (.tuple #[.int .i64 s, .int .i64 f])) (hb : Below w.heap.size w w') : REntPost base B ts ts st v w s f e w' :=
  ⟨he, v, h.below hb, Trn.of_below _ _ hb, hb.mono (Nat.le_trans h.le (Nat.le_of_lt h.lt))⟩

set_option maxHeartbeats 2000000 in
theorem rent_arg (base B : Nat) (ts : List Tk) (st : Int) (v : Value) (t : Tk) (w : World) (h : StR base w B ts st v) (hr : ¬ (0 ≤ t.nx ∧ t.nx < 8) ∨ 3 < t.ar) :
    Calls Try.prog 26 #[.pointer (some ⟨B, 0, none⟩), .agg t.valsR] w (REntPost base B ts ts st v w 0 1) := by
  obtain ⟨nx, tg, ar, sd⟩ := t
  have hK := Kpt.mk h
  clear h
  simp only at hr
  simp only [Tk.valsR]
  have hcs : nx < 0 ∨ (¬ nx < 0 ∧ 7 < nx) ∨ (¬ nx < 0 ∧ ¬ 7 < nx ∧ 3 < ar) := by omega
  clear hr
  rcases hcs with h1 | ⟨h1, h2⟩ | ⟨h1, h2, h3⟩
  all_goals
    go_enter Try.func26, Try.ntmps26
    go_wp2
    go_ret2
    exact rent_same hK.out rfl ((Below.refl _ _).alloc (Nat.le_refl _) _)


set_option maxRecDepth 100000 in
set_option maxHeartbeats 4000000 in
theorem rent_else (base B : Nat) (ts : List Tk) (st : Int) (v : Value) (t : Tk) (w : World) (h : StR base w B ts st v) (hst0 : st = -1 ∨ 0 ≤ st) (hn : 0 ≤ t.nx ∧ t.nx < 8) (h3 : ¬ 3 < t.ar) :
    Calls Try.prog 26 #[.pointer (some ⟨B, 0, none⟩), .agg t.valsR] w (REntPost base B ts (entL ts st t) st v w (entR ts st t).1 (entR ts st t).2) := by
  have hR : Kpt (entR ts st t = if 0 ≤ fidx (isT t.nx t.tg) ts 0 then (0, 9) else if kOff st t = true then (48, 0) else if 16 ≤ ts.length then (40, 0) else (0, 0)) := ⟨by unfold entR; rw [if_neg (by rintro (h | h); exact h hn; exact h3 h)]⟩
  have hL : Kpt (entL ts st t = if entR ts st t = (0, 0) then ts ++ [{ t with st := false }] else ts) := ⟨rfl⟩
  have hn1 : ¬ t.nx < 0 := by omega
  have hn2 : ¬ 7 < t.nx := by omega
  obtain ⟨w1, hw1⟩ : ∃ w1, w1 = w.alloc (.cells t.valsR 63) := ⟨_, rfl⟩
  have hb1 : Below w.heap.size w w1 := by rw [hw1]; exact (Below.refl _ _).alloc (Nat.le_refl _) _
  have HF := Kpt.mk (rfind_any base B ts st v t.nx t.tg w1 (h.below hb1))
  have hK := Kpt.mk h
  have hlt := h.lt
  have hr3 : Kpt (w1.rangeAt w.heap.size 0 t.valsR.toList) := ⟨by rw [hw1]; exact range_newR w t 63⟩
  have hsz3 : w.heap.size < w1.heap.size := by rw [hw1]; simp
  have f3 : w1.frozen? ⟨w.heap.size, 3, none⟩ = false := by rw [hw1]; simp
  have hB3 := Kpt.mk hb1
  obtain ⟨a, c, hv, _⟩ := h.own.shape
  have hc0 := Kpt.mk h.c0
  have hc1 := Kpt.mk h.c1
  rw [hv] at hc0
  clear h hb1
  obtain ⟨x, hx⟩ : ∃ x, x = fidx (isT t.nx t.tg) ts 0 := ⟨_, rfl⟩
  rw [← hx] at HF hR
  have hko : Kpt (kOff st t = if st = -1 then decide (t.ar = 3) else decide (t.ar ≠ 3 ∨ t.nx ≠ st)) := ⟨rfl⟩
  obtain ⟨ko, hko0⟩ : ∃ ko, ko = kOff st t := ⟨_, rfl⟩
  rw [← hko0] at hR hko
  obtain ⟨m, hm⟩ : ∃ m, m = ts.length := ⟨_, rfl⟩
  rw [← hm] at hR hc0 hv
  clear hx hko0 hn
  replace hm := Kpt.mk hm
  replace hv := Kpt.mk hv
  replace hw1 := Kpt.mk hw1
  obtain ⟨q0, q1, q2, q3⟩ := range4R hr3.out
  simp only [Nat.zero_add] at q1 q2 q3
  have kc0 := (hB3.out.cell (p := ⟨B, 0, none⟩) hlt).trans hc0.out
  have kc1 := (hB3.out.cell (p := ⟨B, 1, none⟩) hlt).trans hc1.out
  have klt : B < w1.heap.size := Nat.lt_of_lt_of_le hlt hB3.out.size
  obtain ⟨s, hs⟩ : ∃ s, s = (entR ts st t).1 := ⟨_, rfl⟩
  obtain ⟨f, hf⟩ : ∃ f, f = (entR ts st t).2 := ⟨_, rfl⟩
  obtain ⟨us, hus⟩ : ∃ us, us = entL ts st t := ⟨_, rfl⟩
  rw [← hs, ← hf, ← hus]
  replace hs := Kpt.mk hs
  replace hf := Kpt.mk hf
  replace hus := Kpt.mk hus
  go_enter Try.func26, Try.ntmps26
  go_wp2_with fail
  rw [show w.alloc (.cells #[.int .i64 t.nx, .int .u32 t.tg, .int .i64 t.ar, .bool t.st] 63) = w1 from hw1.out.symm]
  refine HF.out.mono ?_
  rintro e w3 ⟨rfl, rfl⟩
  by_cases hx0 : 0 ≤ x
  · have eR : entR ts st t = (0, 9) := by rw [hR.out, if_pos hx0]
    have eL : us = ts := by rw [hus.out, hL.out, eR, if_neg (by decide)]
    have es : s = 0 := by rw [hs.out, eR]
    have ef : f = 9 := by rw [hf.out, eR]
    clear hR hL hko hs hf hus eR
    subst es ef eL
    go_wp2
    go_ret2
    exact rent_same hK.out rfl hB3.out
  · have hoff : (ko = true ∧ ((st = -1 ∧ t.ar = 3) ∨ (0 ≤ st ∧ ¬ t.ar = 3) ∨ (0 ≤ st ∧ t.ar = 3 ∧ ¬ t.nx = st))) ∨ (ko = false ∧ ((st = -1 ∧ ¬ t.ar = 3) ∨ (0 ≤ st ∧ t.ar = 3 ∧ t.nx = st))) := by
      rw [hko.out]
      rcases hst0 with e | e
      · subst e
        by_cases h : t.ar = 3 <;> simp [h]
      · have e' : ¬ st = -1 := by omega
        rw [if_neg e']
        by_cases h : t.ar = 3 <;> by_cases h2 : t.nx = st <;> simp [h, h2, e]
    clear hko hst0
    rcases hoff with ⟨rfl, hoff⟩ | ⟨rfl, hoff⟩
    · have eR : entR ts st t = (48, 0) := by rw [hR.out, if_neg hx0, if_pos rfl]
      have eL : us = ts := by rw [hus.out, hL.out, eR, if_neg (by decide)]
      have es : s = 48 := by rw [hs.out, eR]
      have ef : f = 0 := by rw [hf.out, eR]
      clear hR hL hs hf hus eR
      subst es ef eL
      rcases hoff with ⟨h5, h6⟩ | ⟨h5, h6⟩ | ⟨h5, h6, h7⟩
      · subst h5
        have f6 : (t.ar == 3) = true := by simpa using h6
        clear h6
        go_wp2
        go_ret2
        exact rent_same hK.out rfl hB3.out
      · have f6 : (t.ar != 3) = true := by simpa using h6
        go_wp2
        go_quiet (fail)
        go_wp2
        go_ret2
        exact rent_same hK.out rfl (below_drewN hB3.out _)
      · have f6 : (t.ar != 3) = false := by simpa using h6
        have f7 : (t.nx != st) = true := by simpa using h7
        clear h6
        go_wp2
        go_quiet (fail)
        go_wp2
        go_ret2
        exact rent_same hK.out rfl (below_drewN hB3.out _)
    · by_cases h16 : 16 ≤ m
      · have eR : entR ts st t = (40, 0) := by rw [hR.out, if_neg hx0, if_neg (by simp), if_pos h16]
        have eL : us = ts := by rw [hus.out, hL.out, eR, if_neg (by decide)]
        have es : s = 40 := by rw [hs.out, eR]
        have ef : f = 0 := by rw [hf.out, eR]
        have e16 : (16 : Int) ≤ m := by omega
        clear hR hL hs hf hus eR
        subst es ef eL
        rcases hoff with ⟨h5, h6⟩ | ⟨h5, h6, h7⟩
        · subst h5
          have f6 : (t.ar == 3) = false := by simpa using h6
          go_wp2
          go_ret2
          exact rent_same hK.out rfl hB3.out
        · have f6 : (t.ar != 3) = false := by simpa using h6
          have f7 : (t.nx != st) = false := by simpa using h7
          clear h6 h7
          go_wp2
          go_quiet (fail)
          go_wp2
          go_ret2
          exact rent_same hK.out rfl (below_drewN hB3.out _)
      · have eR : entR ts st t = (0, 0) := by rw [hR.out, if_neg hx0, if_neg (by simp), if_neg h16]
        have eL : us = ts ++ [{ t with st := false }] := by rw [hus.out, hL.out, eR, if_pos rfl]
        have es : s = 0 := by rw [hs.out, eR]
        have ef : f = 0 := by rw [hf.out, eR]
        have e16 : ¬ (16 : Int) ≤ m := by omega
        clear hR hL hs hf hus eR
        subst es ef eL
        rcases hoff with ⟨h5, h6⟩ | ⟨h5, h6, h7⟩
        · subst h5
          have f6 : (t.ar == 3) = false := by simpa using h6
          go_wp2_with fail
          obtain ⟨w4, hw4⟩ : ∃ w4, w4 = w3.setCell ⟨w.heap.size, 3, none⟩ (.bool false) := ⟨_, rfl⟩
          rw [← hw4]
          obtain ⟨t4, ht4⟩ : ∃ t4, t4 = ({ t with st := false } : Tk) := ⟨_, rfl⟩
          rw [← ht4]
          have hr4 : Kpt (w4.rangeAt w.heap.size 0 t4.valsR.toList) := ⟨by rw [hw4, ht4]; exact range_setR hr3.out⟩
          have hB4 : Kpt (Below w.heap.size w w4) := ⟨by rw [hw4]; exact hB3.out.setCell (p := ⟨w.heap.size, 3, none⟩) (Nat.le_refl _) _⟩
          have hS4 := Kpt.mk (hK.out.below hB4.out)
          have hc4 : w4.cell? ⟨B, 0, none⟩ = some (.slice a m c) := by rw [← hv.out]; exact hS4.out.c0
          have hf4 := hS4.out.free 0
          have hlt4 := hS4.out.lt
          have hp4 : w.heap.size < w4.heap.size := by rw [hw4]; simpa using hsz3
          have hBv : some B ≠ (Value.slice a m c).ownBlock := fun e => hS4.out.other B (by rw [hv.out]; exact e.symm) rfl
          have hpv : some w.heap.size ≠ (Value.slice a m c).ownBlock := fun e => by have := (hK.out.own.lt (g := w.heap.size) (by rw [hv.out]; exact e.symm)).2; omega
          have hpB : w.heap.size ≠ B := by omega
          have hO4 : ∀ W, (∀ k, k < w4.heap.size → W.heap[k]? = w4.heap[k]?) → Kpt (OwnR base W (.slice a m c) ts) := fun W hW => ⟨by rw [← hv.out]; exact hS4.out.own.of_block (fun g hg => hW g (hS4.out.own.lt hg).2)⟩
          have hl100 : Kpt (ts.length ≤ 100) := ⟨by rw [← hm.out]; omega⟩
          have hbl : base ≤ w4.heap.size := Nat.le_trans hS4.out.le (Nat.le_of_lt hlt4)
          have fin : ∀ av lv cv (w5 : World), OwnR base w5 (.slice av lv cv) (ts ++ [t4]) → w4.grownBy w5 (Value.slice a m c).ownBlock → ((Value.slice av lv cv).ownBlock = (Value.slice a m c).ownBlock ∨ ∃ q, (Value.slice av lv cv).ownBlock = some q ∧ w4.heap.size ≤ q) →
              ∃ v', StR base (w5.setCell ⟨B, 0, none⟩ (.slice av lv cv)) B (ts ++ [t4]) (-1) v' ∧ Trn w (w5.setCell ⟨B, 0, none⟩ (.slice av lv cv)) B v v' ∧ Below base w (w5.setCell ⟨B, 0, none⟩ (.slice av lv cv)) := by
            intro av lv cv w5 ho hg hor
            rw [← hv.out] at hg hor
            obtain ⟨x1, x2, x3⟩ := hS4.out.turn hg ho (by rcases hor with e | e; exact .inl e; exact .inr (.inr e)) (by rw [List.length_append, ← hm.out]; simp; omega)
            exact ⟨_, x1, (Trn.of_below B v hB4.out).trans x2, (hB4.out.mono (Nat.le_trans hK.out.le (Nat.le_of_lt hK.out.lt))).trans x3⟩
          replace hw4 := Kpt.mk hw4
          replace ht4 := Kpt.mk ht4
          clear f3 kc0 kc1 q0 q1 q2 q3
          refine wp_region_any (by kernel_rfl) ?_
          refine wpAny_of_C (C := fun W => W.rangeAt w.heap.size 0 t4.valsR.toList) _ _ _ _ ?_
          refine wpAnyC_take 0 (.pointer (some ⟨B, 0, none⟩)) rfl (by kernel_rfl) (by kernel_rfl) (by kernel_rfl) (fun _ _ _ h => h) (by rfl) (fun W hW => by rfl) ?_
          refine wpAnyC_take 1 (.pointer (some ⟨B, 0, none⟩)) rfl (by kernel_rfl) (by kernel_rfl) (by kernel_rfl) (fun _ _ _ h => h) (by rfl) (fun W hW => by rfl) ?_
          refine wpAnyC_take 2 (.pointer (some ⟨B, 0, none⟩)) rfl (by kernel_rfl) (by kernel_rfl) (by kernel_rfl) (fun _ _ _ h => h) (by rfl) (fun W hW => by go_simp) ?_
          refine wpAnyC_take 3 (.pointer (some ⟨B, 0, none⟩)) rfl (by kernel_rfl) (by kernel_rfl) (by kernel_rfl) (fun _ _ _ h => h) (by rfl) (fun W hW => by go_simp) ?_
          refine wpAnyC_take 5 (.agg t4.valsR) rfl (by kernel_rfl) (by kernel_rfl) (by kernel_rfl) (fun _ _ _ h => h) (by rfl) (fun W hW => exec_load_taskR (.tmp 3) rfl w.heap.size t4 rfl hW) ?_
          refine wpAnyC_two 4 6 hr4.out rfl rfl (by kernel_rfl) (by rfl) (by rfl) (fun KA hKA => ?_) (fun KA hKA => ?_)
          · go_simp
            refine hKA _ _ ?_
            clear hKA KA
            refine wpAnyC_one 6 hr4.out rfl (by kernel_rfl) (by rfl) (fun KB hKB => ?_)
            go_simp
            refine hKB _ _ ?_
            clear hKB KB
            refine wpAnyC_one 7 (rangeAt_of_block hr4.out (Below.heap_alloc _ _ _ hp4)) rfl (by kernel_rfl) (by rfl) (fun KC hKC => ?_)
            refine wp_append_taskR (.tmp 57) (.tmp 59) rfl base w4.heap.size (.slice a m c) ts t4 rfl rfl (range_newR w4.drew t4 63) (hO4 _ (fun k hk => Below.heap_alloc _ _ _ hk)).out hl100.out (by simp; omega) ?_
            intro v' w5 ho5 hg5 hor
            have hgw : w4.grownBy w5 (Value.slice a m c).ownBlock := ⟨hg5.os, hg5.tape, hg5.output, Nat.le_trans (by simp) hg5.size, fun k hk hne => (hg5.block k (by simp; omega) hne).trans (Below.heap_alloc _ _ _ hk)⟩
            have hB5 : w5.heap[B]? = w4.heap[B]? := hgw.block B hlt4 hBv
            have k1 : w5.cell? ⟨B, 0, none⟩ = some (.slice a m c) := (World.cell?_of_block (w := w4) (w' := w5) (a := ⟨B, 0, none⟩) hB5).trans hc4
            have k2 : w5.frozen? ⟨B, 0, none⟩ = false := (World.frozen?_of_block (w := w4) (w' := w5) (a := ⟨B, 0, none⟩) hB5).trans hf4
            have hr5 : w5.rangeAt w.heap.size 0 t4.valsR.toList := rangeAt_of_block hr4.out (hgw.block _ hp4 hpv)
            obtain ⟨av, cv, hv', _⟩ := ho5.shape
            obtain ⟨lv, hlv⟩ : ∃ l, l = (ts ++ [t4]).length := ⟨_, rfl⟩
            rw [← hlv] at hv'
            subst hv'
            replace hlv := Kpt.mk hlv
            replace hgw := Kpt.mk hgw
            replace ho5 := Kpt.mk ho5
            replace hor := Kpt.mk hor
            clear hB5 hg5
            refine hKC _ _ ?_
            clear hKC KC
            refine wpAnyC_take 8 (.pointer (some ⟨B, 0, none⟩)) rfl (by kernel_rfl) (by kernel_rfl) (by kernel_rfl) (fun _ _ _ h => h) (by rfl) (fun W hW => by go_simp) ?_
            refine wpAnyC_take 9 (.pointer (some ⟨B, 0, none⟩)) rfl (by kernel_rfl) (by kernel_rfl) (by kernel_rfl) (fun _ _ _ h => h) (by rfl) (fun W hW => by go_simp) ?_
            refine wpAnyC_one 10 hr5 rfl (by kernel_rfl) (by rfl) (fun KD hKD => ?_)
            go_simp
            refine hKD _ _ ?_
            clear hKD KD
            refine wpAnyC_done (rangeAt_of_block hr5 (Below.heap_setCell _ _ _ _ (fun e => hpB (by simpa using e)))) (by kernel_rfl) ?_
            clear hr5 k1 k2
            go_wp2
            go_ret2
            exact ⟨rfl, by rw [← ht4.out]; exact fin _ _ _ w5 ho5.out hgw.out (by rcases hor.out with e | e; exact .inl e; exact .inr ⟨_, e, by simp⟩)⟩
          · go_simp
            refine hKA _ _ ?_
            clear hKA KA
            have hcell2 : (w4.drew.alloc (.cells t4.valsR 63)).cell? ⟨B, 0, none⟩ = some (.slice a m c) := (World.cell?_of_block (w := w4) (a := ⟨B, 0, none⟩) (Below.heap_alloc _ _ _ hlt4)).trans hc4
            refine wpAnyC_one 4 (rangeAt_of_block hr4.out (Below.heap_alloc _ _ _ hp4)) rfl (by kernel_rfl) (by rfl) (fun KB hKB => ?_)
            go_simp
            refine hKB _ _ ?_
            clear hKB KB hcell2
            refine wpAnyC_one 7 (rangeAt_of_block hr4.out (Below.heap_alloc _ _ _ hp4)) rfl (by kernel_rfl) (by rfl) (fun KC hKC => ?_)
            refine wp_append_taskR (.tmp 57) (.tmp 59) rfl base w4.heap.size (.slice a m c) ts t4 rfl rfl (range_newR w4.drew t4 63) (hO4 _ (fun k hk => Below.heap_alloc _ _ _ hk)).out hl100.out (by simp; omega) ?_
            intro v' w5 ho5 hg5 hor
            have hgw : w4.grownBy w5 (Value.slice a m c).ownBlock := ⟨hg5.os, hg5.tape, hg5.output, Nat.le_trans (by simp) hg5.size, fun k hk hne => (hg5.block k (by simp; omega) hne).trans (Below.heap_alloc _ _ _ hk)⟩
            have hB5 : w5.heap[B]? = w4.heap[B]? := hgw.block B hlt4 hBv
            have k1 : w5.cell? ⟨B, 0, none⟩ = some (.slice a m c) := (World.cell?_of_block (w := w4) (w' := w5) (a := ⟨B, 0, none⟩) hB5).trans hc4
            have k2 : w5.frozen? ⟨B, 0, none⟩ = false := (World.frozen?_of_block (w := w4) (w' := w5) (a := ⟨B, 0, none⟩) hB5).trans hf4
            have hr5 : w5.rangeAt w.heap.size 0 t4.valsR.toList := rangeAt_of_block hr4.out (hgw.block _ hp4 hpv)
            obtain ⟨av, cv, hv', _⟩ := ho5.shape
            obtain ⟨lv, hlv⟩ : ∃ l, l = (ts ++ [t4]).length := ⟨_, rfl⟩
            rw [← hlv] at hv'
            subst hv'
            replace hlv := Kpt.mk hlv
            replace hgw := Kpt.mk hgw
            replace ho5 := Kpt.mk ho5
            replace hor := Kpt.mk hor
            clear hB5 hg5
            refine hKC _ _ ?_
            clear hKC KC
            refine wpAnyC_take 8 (.pointer (some ⟨B, 0, none⟩)) rfl (by kernel_rfl) (by kernel_rfl) (by kernel_rfl) (fun _ _ _ h => h) (by rfl) (fun W hW => by go_simp) ?_
            refine wpAnyC_take 9 (.pointer (some ⟨B, 0, none⟩)) rfl (by kernel_rfl) (by kernel_rfl) (by kernel_rfl) (fun _ _ _ h => h) (by rfl) (fun W hW => by go_simp) ?_
            refine wpAnyC_one 10 hr5 rfl (by kernel_rfl) (by rfl) (fun KD hKD => ?_)
            go_simp
            refine hKD _ _ ?_
            clear hKD KD
            refine wpAnyC_done (rangeAt_of_block hr5 (Below.heap_setCell _ _ _ _ (fun e => hpB (by simpa using e)))) (by kernel_rfl) ?_
            clear hr5 k1 k2
            go_wp2
            go_ret2
            exact ⟨rfl, by rw [← ht4.out]; exact fin _ _ _ w5 ho5.out hgw.out (by rcases hor.out with e | e; exact .inl e; exact .inr ⟨_, e, by simp⟩)⟩
        · have f6 : (t.ar != 3) = false := by simpa using h6
          have f7 : (t.nx != st) = false := by simpa using h7
          clear h6 h7
          go_wp2
          go_quiet (fail)
          obtain ⟨w6, hw6⟩ : ∃ w6, w6 = w3.drewN nq := ⟨_, rfl⟩
          have hB6 : Kpt (Below w.heap.size w w6) := ⟨by rw [hw6]; exact below_drewN hB3.out _⟩
          have hr6 : Kpt (w6.rangeAt w.heap.size 0 t.valsR.toList) := ⟨by rw [hw6]; exact hr3.out⟩
          have hsz6 : w.heap.size < w6.heap.size := by rw [hw6]; exact hsz3
          have fz6 : w6.frozen? ⟨w.heap.size, 3, none⟩ = false := by rw [hw6]; exact f3
          have p3 : w6.cell? ⟨w.heap.size, 3, none⟩ = some (.bool t.st) := by rw [hw6]; exact q3
          have pc0 : w6.cell? ⟨B, 0, none⟩ = some (.slice a m c) := by rw [hw6]; exact kc0
          have plt : B < w6.heap.size := by rw [hw6]; exact klt
          rw [← hw6]
          clear hw6 hB3 hr3 hsz3 f3 q0 q1 q2 q3 kc0 kc1 klt HF hw1
          go_wp2_with fail
          obtain ⟨w4, hw4⟩ : ∃ w4, w4 = w6.setCell ⟨w.heap.size, 3, none⟩ (.bool false) := ⟨_, rfl⟩
          rw [← hw4]
          obtain ⟨t4, ht4⟩ : ∃ t4, t4 = ({ t with st := false } : Tk) := ⟨_, rfl⟩
          rw [← ht4]
          have hr4 : Kpt (w4.rangeAt w.heap.size 0 t4.valsR.toList) := ⟨by rw [hw4, ht4]; exact range_setR hr6.out⟩
          have hB4 : Kpt (Below w.heap.size w w4) := ⟨by rw [hw4]; exact hB6.out.setCell (p := ⟨w.heap.size, 3, none⟩) (Nat.le_refl _) _⟩
          have hS4 := Kpt.mk (hK.out.below hB4.out)
          have hc4 : w4.cell? ⟨B, 0, none⟩ = some (.slice a m c) := by rw [← hv.out]; exact hS4.out.c0
          have hf4 := hS4.out.free 0
          have hlt4 := hS4.out.lt
          have hp4 : w.heap.size < w4.heap.size := by rw [hw4]; simpa using hsz6
          have hBv : some B ≠ (Value.slice a m c).ownBlock := fun e => hS4.out.other B (by rw [hv.out]; exact e.symm) rfl
          have hpv : some w.heap.size ≠ (Value.slice a m c).ownBlock := fun e => by have := (hK.out.own.lt (g := w.heap.size) (by rw [hv.out]; exact e.symm)).2; omega
          have hpB : w.heap.size ≠ B := by omega
          have hO4 : ∀ W, (∀ k, k < w4.heap.size → W.heap[k]? = w4.heap[k]?) → Kpt (OwnR base W (.slice a m c) ts) := fun W hW => ⟨by rw [← hv.out]; exact hS4.out.own.of_block (fun g hg => hW g (hS4.out.own.lt hg).2)⟩
          have hl100 : Kpt (ts.length ≤ 100) := ⟨by rw [← hm.out]; omega⟩
          have hbl : base ≤ w4.heap.size := Nat.le_trans hS4.out.le (Nat.le_of_lt hlt4)
          have fin : ∀ av lv cv (w5 : World), OwnR base w5 (.slice av lv cv) (ts ++ [t4]) → w4.grownBy w5 (Value.slice a m c).ownBlock → ((Value.slice av lv cv).ownBlock = (Value.slice a m c).ownBlock ∨ ∃ q, (Value.slice av lv cv).ownBlock = some q ∧ w4.heap.size ≤ q) →
              ∃ v', StR base (w5.setCell ⟨B, 0, none⟩ (.slice av lv cv)) B (ts ++ [t4]) st v' ∧ Trn w (w5.setCell ⟨B, 0, none⟩ (.slice av lv cv)) B v v' ∧ Below base w (w5.setCell ⟨B, 0, none⟩ (.slice av lv cv)) := by
            intro av lv cv w5 ho hg hor
            rw [← hv.out] at hg hor
            obtain ⟨x1, x2, x3⟩ := hS4.out.turn hg ho (by rcases hor with e | e; exact .inl e; exact .inr (.inr e)) (by rw [List.length_append, ← hm.out]; simp; omega)
            exact ⟨_, x1, (Trn.of_below B v hB4.out).trans x2, (hB4.out.mono (Nat.le_trans hK.out.le (Nat.le_of_lt hK.out.lt))).trans x3⟩
          replace hw4 := Kpt.mk hw4
          replace ht4 := Kpt.mk ht4
          clear fz6 pc0 p3
          refine wp_region_any (by kernel_rfl) ?_
          refine wpAny_of_C (C := fun W => W.rangeAt w.heap.size 0 t4.valsR.toList) _ _ _ _ ?_
          refine wpAnyC_take 0 (.pointer (some ⟨B, 0, none⟩)) rfl (by kernel_rfl) (by kernel_rfl) (by kernel_rfl) (fun _ _ _ h => h) (by rfl) (fun W hW => by rfl) ?_
          refine wpAnyC_take 1 (.pointer (some ⟨B, 0, none⟩)) rfl (by kernel_rfl) (by kernel_rfl) (by kernel_rfl) (fun _ _ _ h => h) (by rfl) (fun W hW => by rfl) ?_
          refine wpAnyC_take 2 (.pointer (some ⟨B, 0, none⟩)) rfl (by kernel_rfl) (by kernel_rfl) (by kernel_rfl) (fun _ _ _ h => h) (by rfl) (fun W hW => by go_simp) ?_
          refine wpAnyC_take 3 (.pointer (some ⟨B, 0, none⟩)) rfl (by kernel_rfl) (by kernel_rfl) (by kernel_rfl) (fun _ _ _ h => h) (by rfl) (fun W hW => by go_simp) ?_
          refine wpAnyC_take 5 (.agg t4.valsR) rfl (by kernel_rfl) (by kernel_rfl) (by kernel_rfl) (fun _ _ _ h => h) (by rfl) (fun W hW => exec_load_taskR (.tmp 3) rfl w.heap.size t4 rfl hW) ?_
          refine wpAnyC_two 4 6 hr4.out rfl rfl (by kernel_rfl) (by rfl) (by rfl) (fun KA hKA => ?_) (fun KA hKA => ?_)
          · go_simp
            refine hKA _ _ ?_
            clear hKA KA
            refine wpAnyC_one 6 hr4.out rfl (by kernel_rfl) (by rfl) (fun KB hKB => ?_)
            go_simp
            refine hKB _ _ ?_
            clear hKB KB
            refine wpAnyC_one 7 (rangeAt_of_block hr4.out (Below.heap_alloc _ _ _ hp4)) rfl (by kernel_rfl) (by rfl) (fun KC hKC => ?_)
            refine wp_append_taskR (.tmp 57) (.tmp 59) rfl base w4.heap.size (.slice a m c) ts t4 rfl rfl (range_newR w4.drew t4 63) (hO4 _ (fun k hk => Below.heap_alloc _ _ _ hk)).out hl100.out (by simp; omega) ?_
            intro v' w5 ho5 hg5 hor
            have hgw : w4.grownBy w5 (Value.slice a m c).ownBlock := ⟨hg5.os, hg5.tape, hg5.output, Nat.le_trans (by simp) hg5.size, fun k hk hne => (hg5.block k (by simp; omega) hne).trans (Below.heap_alloc _ _ _ hk)⟩
            have hB5 : w5.heap[B]? = w4.heap[B]? := hgw.block B hlt4 hBv
            have k1 : w5.cell? ⟨B, 0, none⟩ = some (.slice a m c) := (World.cell?_of_block (w := w4) (w' := w5) (a := ⟨B, 0, none⟩) hB5).trans hc4
            have k2 : w5.frozen? ⟨B, 0, none⟩ = false := (World.frozen?_of_block (w := w4) (w' := w5) (a := ⟨B, 0, none⟩) hB5).trans hf4
            have hr5 : w5.rangeAt w.heap.size 0 t4.valsR.toList := rangeAt_of_block hr4.out (hgw.block _ hp4 hpv)
            obtain ⟨av, cv, hv', _⟩ := ho5.shape
            obtain ⟨lv, hlv⟩ : ∃ l, l = (ts ++ [t4]).length := ⟨_, rfl⟩
            rw [← hlv] at hv'
            subst hv'
            replace hlv := Kpt.mk hlv
            replace hgw := Kpt.mk hgw
            replace ho5 := Kpt.mk ho5
            replace hor := Kpt.mk hor
            clear hB5 hg5
            refine hKC _ _ ?_
            clear hKC KC
            refine wpAnyC_take 8 (.pointer (some ⟨B, 0, none⟩)) rfl (by kernel_rfl) (by kernel_rfl) (by kernel_rfl) (fun _ _ _ h => h) (by rfl) (fun W hW => by go_simp) ?_
            refine wpAnyC_take 9 (.pointer (some ⟨B, 0, none⟩)) rfl (by kernel_rfl) (by kernel_rfl) (by kernel_rfl) (fun _ _ _ h => h) (by rfl) (fun W hW => by go_simp) ?_
            refine wpAnyC_one 10 hr5 rfl (by kernel_rfl) (by rfl) (fun KD hKD => ?_)
            go_simp
            refine hKD _ _ ?_
            clear hKD KD
            refine wpAnyC_done (rangeAt_of_block hr5 (Below.heap_setCell _ _ _ _ (fun e => hpB (by simpa using e)))) (by kernel_rfl) ?_
            clear hr5 k1 k2
            go_wp2
            go_ret2
            exact ⟨rfl, by rw [← ht4.out]; exact fin _ _ _ w5 ho5.out hgw.out (by rcases hor.out with e | e; exact .inl e; exact .inr ⟨_, e, by simp⟩)⟩
          · go_simp
            refine hKA _ _ ?_
            clear hKA KA
            have hcell2 : (w4.drew.alloc (.cells t4.valsR 63)).cell? ⟨B, 0, none⟩ = some (.slice a m c) := (World.cell?_of_block (w := w4) (a := ⟨B, 0, none⟩) (Below.heap_alloc _ _ _ hlt4)).trans hc4
            refine wpAnyC_one 4 (rangeAt_of_block hr4.out (Below.heap_alloc _ _ _ hp4)) rfl (by kernel_rfl) (by rfl) (fun KB hKB => ?_)
            go_simp
            refine hKB _ _ ?_
            clear hKB KB hcell2
            refine wpAnyC_one 7 (rangeAt_of_block hr4.out (Below.heap_alloc _ _ _ hp4)) rfl (by kernel_rfl) (by rfl) (fun KC hKC => ?_)
            refine wp_append_taskR (.tmp 57) (.tmp 59) rfl base w4.heap.size (.slice a m c) ts t4 rfl rfl (range_newR w4.drew t4 63) (hO4 _ (fun k hk => Below.heap_alloc _ _ _ hk)).out hl100.out (by simp; omega) ?_
            intro v' w5 ho5 hg5 hor
            have hgw : w4.grownBy w5 (Value.slice a m c).ownBlock := ⟨hg5.os, hg5.tape, hg5.output, Nat.le_trans (by simp) hg5.size, fun k hk hne => (hg5.block k (by simp; omega) hne).trans (Below.heap_alloc _ _ _ hk)⟩
            have hB5 : w5.heap[B]? = w4.heap[B]? := hgw.block B hlt4 hBv
            have k1 : w5.cell? ⟨B, 0, none⟩ = some (.slice a m c) := (World.cell?_of_block (w := w4) (w' := w5) (a := ⟨B, 0, none⟩) hB5).trans hc4
            have k2 : w5.frozen? ⟨B, 0, none⟩ = false := (World.frozen?_of_block (w := w4) (w' := w5) (a := ⟨B, 0, none⟩) hB5).trans hf4
            have hr5 : w5.rangeAt w.heap.size 0 t4.valsR.toList := rangeAt_of_block hr4.out (hgw.block _ hp4 hpv)
            obtain ⟨av, cv, hv', _⟩ := ho5.shape
            obtain ⟨lv, hlv⟩ : ∃ l, l = (ts ++ [t4]).length := ⟨_, rfl⟩
            rw [← hlv] at hv'
            subst hv'
            replace hlv := Kpt.mk hlv
            replace hgw := Kpt.mk hgw
            replace ho5 := Kpt.mk ho5
            replace hor := Kpt.mk hor
            clear hB5 hg5
            refine hKC _ _ ?_
            clear hKC KC
            refine wpAnyC_take 8 (.pointer (some ⟨B, 0, none⟩)) rfl (by kernel_rfl) (by kernel_rfl) (by kernel_rfl) (fun _ _ _ h => h) (by rfl) (fun W hW => by go_simp) ?_
            refine wpAnyC_take 9 (.pointer (some ⟨B, 0, none⟩)) rfl (by kernel_rfl) (by kernel_rfl) (by kernel_rfl) (fun _ _ _ h => h) (by rfl) (fun W hW => by go_simp) ?_
            refine wpAnyC_one 10 hr5 rfl (by kernel_rfl) (by rfl) (fun KD hKD => ?_)
            go_simp
            refine hKD _ _ ?_
            clear hKD KD
            refine wpAnyC_done (rangeAt_of_block hr5 (Below.heap_setCell _ _ _ _ (fun e => hpB (by simpa using e)))) (by kernel_rfl) ?_
            clear hr5 k1 k2
            go_wp2
            go_ret2
            exact ⟨rfl, by rw [← ht4.out]; exact fin _ _ _ w5 ho5.out hgw.out (by rcases hor.out with e | e; exact .inl e; exact .inr ⟨_, e, by simp⟩)⟩

theorem renter_any (base B : Nat) (ts : List Tk) (st : Int) (v : Value) (t : Tk) (w : World) (h : StR base w B ts st v) (hst0 : st = -1 ∨ 0 ≤ st) :
    Calls Try.prog 26 #[.pointer (some ⟨B, 0, none⟩), .agg t.valsR] w (REntPost base B ts (entL ts st t) st v w (entR ts st t).1 (entR ts st t).2) := by
  by_cases hr : ¬ (0 ≤ t.nx ∧ t.nx < 8) ∨ 3 < t.ar
  · have e1 : entR ts st t = (0, 1) := by unfold entR; rw [if_pos hr]
    have e2 : entL ts st t = ts := by unfold entL; rw [e1, if_neg (by decide)]
    rw [e1, e2]
    exact rent_arg base B ts st v t w h hr
  · exact rent_else base B ts st v t w h hst0 (by omega) (by omega)
end Go.Proofs.Ytcnefmfmmgdidaa
