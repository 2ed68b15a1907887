/-
  Slots: the closure that spoils a file.
-/
import Derived.Test.YtndlpmnidpandaaLSpl
import Derived.Conc.MuLone
namespace Go.Proofs.Ytndlpmnidpandaa
open Go.RowKit
set_option linter.unusedVariables false
set_option linter.unusedSimpArgs false

theorem hcf20 : ∀ (args : Array Value) (W : World), (callFunc 20 args).run Try.prog W = .ok (Next.enter 20 args) W := fun args W => Go.MuLone.run_callFunc_enter (P := Try.prog) Try.func20 (by kernel_rfl) rfl args W
theorem cast5000 : ((5000 : Nat) : Int) = 5000 := rfl
/-- The byte that is turned. -/
def spI (at_ m : Nat) : Nat := if 12 ≤ at_ % m ∧ at_ % m < 16 then 0 else at_ % m
theorem spI_lt (at_ m : Nat) (hm : 0 < m) : spI at_ m < m := by
  unfold spI
  have := Nat.mod_lt at_ hm
  split <;> omega
theorem spI_ok (at_ m : Nat) : spI at_ m < 12 ∨ 16 ≤ spI at_ m := by
  unfold spI
  split <;> omega
/-- A variable that a closure has caught. -/
structure Cv (W : World) (tag : Tags) (b : Nat) (v : Value) : Prop where
  at_ : W.cell? ⟨b, 0, none⟩ = some v
  bare : tag b = none
theorem Cv.lt {W : World} {tag : Tags} {b : Nat} {v : Value} (h : Cv W tag b v) : b < W.heap.size := World.block_lt_of_cell? W ⟨b, 0, none⟩ h.at_
theorem Cv.step {W W' : World} {tag tag' : Tags} {X : Tag → Prop} {b : Nat} {v : Value} (h : Cv W tag b v) (s : Step W W' tag tag' X) : Cv W' tag' b v :=
  ⟨(World.cell?_of_block (a := ⟨b, 0, none⟩) (s.block b h.lt (fun t _ e => by rw [h.bare] at e; cases e))).trans h.at_, s.bare b h.lt h.bare⟩
theorem Cv.below {W W' : World} {tag : Tags} {b : Nat} {v : Value} (h : Cv W tag b v) (hb : Below W.heap.size W W') : Cv W' tag b v := h.step (step_below hb tag (fun _ => True))
theorem Cv.sp {W W' : World} {tag tag' : Tags} {S b : Nat} {v : Value} (h : Cv W tag b v) (s : Sp W W' S tag tag') (hne : b ≠ S) : Cv W' tag' b v :=
  ⟨(World.cell?_of_block (a := ⟨b, 0, none⟩) (s.block b h.lt h.bare hne)).trans h.at_, s.bare b h.lt h.bare⟩
/-- The state behind a write of one byte. -/
def spSt (st : St) (s : ByteArray) (i : Nat) (y : Int) : St := { st with seen := (Chg.wr s i [y]).run st.seen, waits := st.waits ++ [.wr s i [y]], ops := st.ops + 2, cnt := st.cnt + 3 }

theorem rd_byte (w : World) (x : Int) : RdAt (w.alloc (.cells #[.int .u8 x] 5)) (.slice (some ⟨w.heap.size, 0, none⟩) 1 1) [x] := by
  refine ⟨_, _, rfl, by simp, by simp, .inr ⟨_, _, rfl, fun j u hu => ?_⟩⟩
  have hh := heap_alloc_new w (.cells #[.int .u8 x] 5)
  simp only [World.cell?, hh]
  simpa [cels] using hu

theorem rd_byte_d (w : World) (x : Int) : RdAt (w.alloc (.cells #[.int .u8 x] 5)).drew (.slice (some ⟨w.heap.size, 0, none⟩) 1 1) [x] := (rd_byte w x).bel ⟨rfl, rfl, rfl, Nat.le_refl _, fun _ _ => rfl⟩
set_option maxRecDepth 100000 in
set_option maxHeartbeats 2000000 in
theorem spoil_any (s : ByteArray) (bw ba bb B : Nat) (at_ by_ : Nat) (tag : Tags) (st : St) (w : World) (h : Wd w B tag st) (hw : Cv w tag bw (.pointer (some ⟨B, 0, none⟩))) (ha : Cv w tag ba (.int .u16 at_)) (hb : Cv w tag bb (.int .u8 by_))
    (hc : st.cnt < 500000000000) (hf : ∀ i, st.fails i = false) (h1 : 1 ≤ s.size) (h2 : s.size ≤ 32) (R : List Int) (hs : st.seen s = some R) (m : Nat) (hm : R.length = m) (hm1 : 16 ≤ m) (hm2 : m ≤ 4000) (hby : Bytes R) (hat : at_ < 65536) (hbb : by_ < 256) :
    Calls Try.prog 20 #[.string s, .pointer (some ⟨bw, 0, none⟩), .pointer (some ⟨ba, 0, none⟩), .pointer (some ⟨bb, 0, none⟩)] w fun e w' => e = .returned (.bool true) ∧
      ∃ tag', Wd w' B tag' (spSt st s (spI at_ m) (((R.getD (spI at_ m) 0).toNat ^^^ by_ : Nat) : Int)) ∧ Step w w' tag tag' (fun _ => True) := by
  have HR : Kpt (∀ W, Wd W B tag st → Calls Try.prog 21 #[.pointer (some ⟨B, 0, none⟩), .string s, .int .i64 0, .int .i64 5000] W fun e w' => ∃ g c, e = .returned (.tuple #[.slice (some ⟨g, 0, none⟩) m c, .int .i64 0]) ∧ Wd w' B tag { st with ops := st.ops + 1, cnt := st.cnt + 1 } ∧ Step W w' tag tag (fun _ => True) ∧ Row w' (.slice (some ⟨g, 0, none⟩) m c) R ∧ W.heap.size ≤ g) := ⟨fun W hW => by
    have hx := read_ok W B tag st hW (by omega) (hf _) s h1 h2 0 5000 (by decide) (by decide) R hs
    rw [cast0, cast5000] at hx
    refine hx.mono ?_
    rintro e w2 ⟨v, rfl, h1, h2, h3, h4⟩
    rw [List.drop_zero, List.take_of_length_le (by omega)] at h3
    obtain ⟨a, c, rfl, hn⟩ := rd_shape h3.rd
    rw [hm] at h3 h4 hn ⊢
    cases a with
    | none => have := (hn rfl).1; omega
    | some x =>
      rcases h3.2 with ⟨e, _⟩ | ⟨g', cap, cur, e, hb, _⟩
      · cases e
      · cases e
        exact ⟨g', c, rfl, h1, h2, h3, h4 g' rfl⟩⟩
  obtain ⟨r, hr⟩ : ∃ r, r = R.getD (spI at_ m) 0 := ⟨_, rfl⟩
  have hrb := hby (spI at_ m)
  rw [← hr] at hrb ⊢
  obtain ⟨rn, hrn⟩ : ∃ rn : Nat, r = (rn : Int) := ⟨r.toNat, by omega⟩
  obtain ⟨y, hy⟩ : ∃ y : Nat, y = r.toNat ^^^ by_ := ⟨_, rfl⟩
  rw [← hy]
  have hxor : bits BinOp.xor IntKind.u8 r (by_ : Int) = (y : Int) := by
    rw [hy, hrn, Int.toNat_natCast]
    exact u8_xor_nat rn by_ (by omega) hbb
  obtain ⟨ix, hix⟩ : ∃ ix, ix = spI at_ m := ⟨_, rfl⟩
  rw [← hix] at hr ⊢
  have hixl : ix < m := by rw [hix]; exact spI_lt at_ m (by omega)
  have HW : Kpt (∀ W x, Wd W B tag { st with ops := st.ops + 1, cnt := st.cnt + 1 } → RdAt W (.slice (some ⟨x, 0, none⟩) 1 1) [(y : Int)] → tag x = none → Calls Try.prog 22 #[.pointer (some ⟨B, 0, none⟩), .string s, .int .i64 ix, .slice (some ⟨x, 0, none⟩) 1 1] W fun e w' => e = .returned (.int .i64 0) ∧ ∃ tag', Wd w' B tag' (spSt st s ix y) ∧ Step W w' tag tag' (fun _ => True)) := ⟨fun W x hW hrd ht => by
    have hx := write_any W B tag _ hW (by show st.cnt + 1 < _; omega) s h1 h2 ix (.slice (some ⟨x, 0, none⟩) 1 1) [(y : Int)] hrd (fun _ q hq => by simp [Value.ownBlock] at hq; subst hq; exact ht) (by simp; omega)
    rw [hf] at hx
    simp only [Bool.false_eq_true, if_false] at hx
    refine hx.mono ?_
    rintro e w2 ⟨rfl, tag', h1, h2⟩
    refine ⟨rfl, tag', ?_, h2⟩
    have e1 : st.ops + 1 + 1 = st.ops + 2 := by omega
    have e2 : st.cnt + 1 + 2 = st.cnt + 3 := by omega
    simp only [e1, e2] at h1
    exact h1⟩
  obtain ⟨stA, hstA⟩ : ∃ x, x = ({ st with ops := st.ops + 1, cnt := st.cnt + 1 } : St) := ⟨_, rfl⟩
  obtain ⟨stB, hstB⟩ : ∃ x, x = spSt st s ix y := ⟨_, rfl⟩
  rw [← hstA] at HR HW
  rw [← hstB] at HW ⊢
  have HWd := Kpt.mk h
  have cw := hw.at_
  replace hw := Kpt.mk hw
  replace ha := Kpt.mk ha
  replace hb := Kpt.mk hb
  replace hm := Kpt.mk hm
  replace hr := Kpt.mk hr
  have q1 : ¬ (m : Int) = 0 := by omega
  have q2 : IntKind.i64.wrap (at_ : Int) = at_ := by rw [IntKind.wrap_i64]; omega
  have q3 : (at_ : Int).tmod (m : Int) = ((at_ % m : Nat) : Int) := by rw [Int.tmod_eq_emod_of_nonneg (by omega)]; omega
  obtain ⟨d, hd⟩ : ∃ d, d = at_ % m := ⟨_, rfl⟩
  rw [← hd] at q3
  have hixd : ix = if 12 ≤ d ∧ d < 16 then 0 else d := by rw [hix, hd]; rfl
  have hdm : d < m := by rw [hd]; exact Nat.mod_lt _ (by omega)
  replace hd := Kpt.mk hd
  have hrow : Kpt (∀ (W : World) g c, Row W (.slice (some ⟨g, 0, none⟩) m c) R → W.cell? ⟨g, ix, none⟩ = some (.int .u8 r)) := ⟨fun W g c ho => by
    have hx := (rd_cells ho.rd).2 ix (by first | exact hixl | (rw [hm.out]; exact hixl))
    rw [Nat.zero_add] at hx
    rw [hx, hr.out]⟩
  have il : (ix : Int) < m := by omega
  clear h hc hf hby hy hrn hstA hstB hix
  by_cases h12 : 12 ≤ d
  · by_cases h16 : d < 16
    · rw [if_pos ⟨h12, h16⟩] at hixd
      subst hixd
      simp only [cast0] at HW
      have i1 : (12 : Int) ≤ d := by omega
      have i2 : (d : Int) < 16 := by omega
      go_enter Try.func20, Try.ntmps20
      go_wp2_with (go_at_call 21; go_must (refine (HR.out _ HWd.out).mono ?_; rintro e w1 ⟨g1, c1, rfl, hw1, hs1, hr1, hg1⟩; have cv1 := Kpt.mk (hw.out.step hs1); have ca1 := Kpt.mk (ha.out.step hs1); have cb1 := Kpt.mk (hb.out.step hs1); have x1 := ca1.out.at_; have tg1 : tag g1 = none := wd_none HWd.out hg1; replace hw1 := Kpt.mk hw1; replace hs1 := Kpt.mk hs1; have cg1 := hrow.out _ _ _ hr1; replace hr1 := Kpt.mk hr1))
      have cs1 : w1.cell? ⟨bw, 0, none⟩ = some (.pointer (some ⟨B, 0, none⟩)) ∧ w1.cell? ⟨g1, 0, none⟩ = some (.int .u8 r) ∧ w1.cell? ⟨bb, 0, none⟩ = some (.int .u8 by_) := ⟨cv1.out.at_, cg1, cb1.out.at_⟩
      refine wp_region_any (by kernel_rfl) ?_
      refine wpAny_of_C (C := fun W => W.cell? ⟨bw, 0, none⟩ = some (.pointer (some ⟨B, 0, none⟩)) ∧ W.cell? ⟨g1, 0, none⟩ = some (.int .u8 r) ∧ W.cell? ⟨bb, 0, none⟩ = some (.int .u8 by_)) _ _ _ _ ?_
      refine wpAnyC_take 0 (.pointer (some ⟨B, 0, none⟩)) rfl (by kernel_rfl) (by kernel_rfl) (by kernel_rfl) (fun _ _ _ h => h) (wanted_free rfl _) (fun W hW => by have h := hW.1; go_simp) ?_
      try simp only [Act.put, List.getElem_toArray, List.getElem_cons_succ, List.getElem_cons_zero, List.setIfInBounds_toArray, List.set_cons_succ, List.set_cons_zero]
      refine wpAnyC_take 1 (.string s) rfl (by kernel_rfl) (by kernel_rfl) (by kernel_rfl) (fun _ _ _ h => h) (wanted_free rfl _) (fun W hW => by go_simp) ?_
      try simp only [Act.put, List.getElem_toArray, List.getElem_cons_succ, List.getElem_cons_zero, List.setIfInBounds_toArray, List.set_cons_succ, List.set_cons_zero]
      refine wpAnyC_take 2 (.int .i64 0) rfl (by kernel_rfl) (by kernel_rfl) (by kernel_rfl) (fun _ _ _ h => h) (wanted_free rfl _) (fun W hW => by go_simp) ?_
      try simp only [Act.put, List.getElem_toArray, List.getElem_cons_succ, List.getElem_cons_zero, List.setIfInBounds_toArray, List.set_cons_succ, List.set_cons_zero]
      refine wpAnyC_take 3 (.slice (some ⟨g1, 0, none⟩) m c1) rfl (by kernel_rfl) (by kernel_rfl) (by kernel_rfl) (fun _ _ _ h => h) (wanted_free rfl _) (fun W hW => by go_simp) ?_
      try simp only [Act.put, List.getElem_toArray, List.getElem_cons_succ, List.getElem_cons_zero, List.setIfInBounds_toArray, List.set_cons_succ, List.set_cons_zero]
      refine wpAnyC_take 4 (.int .i64 0) rfl (by kernel_rfl) (by kernel_rfl) (by kernel_rfl) (fun _ _ _ h => h) (wanted_free rfl _) (fun W hW => by go_simp) ?_
      try simp only [Act.put, List.getElem_toArray, List.getElem_cons_succ, List.getElem_cons_zero, List.setIfInBounds_toArray, List.set_cons_succ, List.set_cons_zero]
      refine wpAnyC_take 5 (.pointer (some ⟨g1, 0, none⟩)) rfl (by kernel_rfl) (by kernel_rfl) (by kernel_rfl) (fun _ _ _ h => h) (wanted_free rfl _) (fun W hW => by go_simp) ?_
      try simp only [Act.put, List.getElem_toArray, List.getElem_cons_succ, List.getElem_cons_zero, List.setIfInBounds_toArray, List.set_cons_succ, List.set_cons_zero]
      refine wpAnyC_take 6 (.int .u8 r) rfl (by kernel_rfl) (by kernel_rfl) (by kernel_rfl) (fun _ _ _ h => h) (wanted_free rfl _) (fun W hW => by have h := hW.2.1; go_simp) ?_
      try simp only [Act.put, List.getElem_toArray, List.getElem_cons_succ, List.getElem_cons_zero, List.setIfInBounds_toArray, List.set_cons_succ, List.set_cons_zero]
      refine wpAnyC_take 7 (.int .u8 by_) rfl (by kernel_rfl) (by kernel_rfl) (by kernel_rfl) (fun _ _ _ h => h) (wanted_free rfl _) (fun W hW => by have h := hW.2.2; go_simp) ?_
      try simp only [Act.put, List.getElem_toArray, List.getElem_cons_succ, List.getElem_cons_zero, List.setIfInBounds_toArray, List.set_cons_succ, List.set_cons_zero]
      refine wpAnyC_take 8 (.int .u8 y) rfl (by kernel_rfl) (by kernel_rfl) (by kernel_rfl) (fun _ _ _ h => h) (wanted_free rfl _) (fun W hW => by go_simp) ?_
      try simp only [Act.put, List.getElem_toArray, List.getElem_cons_succ, List.getElem_cons_zero, List.setIfInBounds_toArray, List.set_cons_succ, List.set_cons_zero]
      refine wpAnyC_one 9 cs1 rfl (by kernel_rfl) (wanted_free rfl _) (fun KA hKA => ?_)
      go_simp
      refine hKA _ _ ?_
      clear hKA KA
      try simp only [Act.put, List.getElem_toArray, List.getElem_cons_succ, List.getElem_cons_zero, List.setIfInBounds_toArray, List.set_cons_succ, List.set_cons_zero]
      have g1l : g1 < w1.heap.size := hr1.out.lt rfl
      have hbA : Below w1.heap.size w1 (w1.alloc (.cells #[.int .u8 (y : Int)] 5)).drew := ((Below.refl w1.heap.size w1).alloc (Nat.le_refl _) _).trans ⟨rfl, rfl, rfl, Nat.le_refl _, fun _ _ => rfl⟩
      refine wpAnyC_one 10 (⟨(cv1.out.below hbA).at_, (World.cell?_of_block (a := ⟨g1, 0, none⟩) (hbA.block g1 g1l)).trans cg1, (cb1.out.below hbA).at_⟩) rfl (by kernel_rfl) (wanted_free rfl _) (fun KA hKA => ?_)
      go_simp
      refine (HW.out _ w1.heap.size (hw1.out.below hbA) (rd_byte_d _ _) (wd_none hw1.out (Nat.le_refl _))).mono ?_
      rintro e y2 ⟨rfl, tag2, hw2, hst2⟩
      have hs2 := Kpt.mk ((hs1.out.trans (step_below hbA tag _)).trans hst2)
      have cv2 := (cv1.out.below hbA).step hst2
      have cb2 := (cb1.out.below hbA).step hst2
      have cg2 : y2.cell? ⟨g1, 0, none⟩ = some (.int .u8 r) := (World.cell?_of_block (a := ⟨g1, 0, none⟩) (hst2.block g1 (Nat.lt_of_lt_of_le g1l hbA.size) (fun t _ e => by rw [tg1] at e; cases e))).trans ((World.cell?_of_block (a := ⟨g1, 0, none⟩) (hbA.block g1 g1l)).trans cg1)
      replace hw2 := Kpt.mk hw2
      clear hst2
      refine hKA _ _ ?_
      clear hKA KA
      try simp only [Act.put, List.getElem_toArray, List.getElem_cons_succ, List.getElem_cons_zero, List.setIfInBounds_toArray, List.set_cons_succ, List.set_cons_zero]
      refine wpAnyC_take 11 (.bool true) rfl (by kernel_rfl) (by kernel_rfl) (by kernel_rfl) (fun _ _ _ h => h) (wanted_free rfl _) (fun W hW => by go_simp) ?_
      try simp only [Act.put, List.getElem_toArray, List.getElem_cons_succ, List.getElem_cons_zero, List.setIfInBounds_toArray, List.set_cons_succ, List.set_cons_zero]
      refine wpAnyC_take 12 (.bool true) rfl (by kernel_rfl) (by kernel_rfl) (by kernel_rfl) (fun _ _ _ h => h) (wanted_free rfl _) (fun W hW => by go_simp) ?_
      try simp only [Act.put, List.getElem_toArray, List.getElem_cons_succ, List.getElem_cons_zero, List.setIfInBounds_toArray, List.set_cons_succ, List.set_cons_zero]
      refine wpAnyC_done (⟨cv2.at_, cg2, cb2.at_⟩) (by kernel_rfl) ?_
      go_wp2_with fail
      go_ret
      exact ⟨rfl, tag2, hw2.out, hs2.out⟩

    · rw [if_neg (fun h => h16 h.2)] at hixd
      subst hixd
      have i1 : (12 : Int) ≤ ix := by omega
      have i2 : ¬ (ix : Int) < 16 := by omega
      go_enter Try.func20, Try.ntmps20
      go_wp2_with (go_at_call 21; go_must (refine (HR.out _ HWd.out).mono ?_; rintro e w1 ⟨g1, c1, rfl, hw1, hs1, hr1, hg1⟩; have cv1 := Kpt.mk (hw.out.step hs1); have ca1 := Kpt.mk (ha.out.step hs1); have cb1 := Kpt.mk (hb.out.step hs1); have x1 := ca1.out.at_; have tg1 : tag g1 = none := wd_none HWd.out hg1; replace hw1 := Kpt.mk hw1; replace hs1 := Kpt.mk hs1; have cg1 := hrow.out _ _ _ hr1; replace hr1 := Kpt.mk hr1))
      have cs1 : w1.cell? ⟨bw, 0, none⟩ = some (.pointer (some ⟨B, 0, none⟩)) ∧ w1.cell? ⟨g1, ix, none⟩ = some (.int .u8 r) ∧ w1.cell? ⟨bb, 0, none⟩ = some (.int .u8 by_) := ⟨cv1.out.at_, cg1, cb1.out.at_⟩
      refine wp_region_any (by kernel_rfl) ?_
      refine wpAny_of_C (C := fun W => W.cell? ⟨bw, 0, none⟩ = some (.pointer (some ⟨B, 0, none⟩)) ∧ W.cell? ⟨g1, ix, none⟩ = some (.int .u8 r) ∧ W.cell? ⟨bb, 0, none⟩ = some (.int .u8 by_)) _ _ _ _ ?_
      refine wpAnyC_take 0 (.pointer (some ⟨B, 0, none⟩)) rfl (by kernel_rfl) (by kernel_rfl) (by kernel_rfl) (fun _ _ _ h => h) (wanted_free rfl _) (fun W hW => by have h := hW.1; go_simp) ?_
      try simp only [Act.put, List.getElem_toArray, List.getElem_cons_succ, List.getElem_cons_zero, List.setIfInBounds_toArray, List.set_cons_succ, List.set_cons_zero]
      refine wpAnyC_take 1 (.string s) rfl (by kernel_rfl) (by kernel_rfl) (by kernel_rfl) (fun _ _ _ h => h) (wanted_free rfl _) (fun W hW => by go_simp) ?_
      try simp only [Act.put, List.getElem_toArray, List.getElem_cons_succ, List.getElem_cons_zero, List.setIfInBounds_toArray, List.set_cons_succ, List.set_cons_zero]
      refine wpAnyC_take 2 (.int .i64 ix) rfl (by kernel_rfl) (by kernel_rfl) (by kernel_rfl) (fun _ _ _ h => h) (wanted_free rfl _) (fun W hW => by go_simp) ?_
      try simp only [Act.put, List.getElem_toArray, List.getElem_cons_succ, List.getElem_cons_zero, List.setIfInBounds_toArray, List.set_cons_succ, List.set_cons_zero]
      refine wpAnyC_take 3 (.slice (some ⟨g1, 0, none⟩) m c1) rfl (by kernel_rfl) (by kernel_rfl) (by kernel_rfl) (fun _ _ _ h => h) (wanted_free rfl _) (fun W hW => by go_simp) ?_
      try simp only [Act.put, List.getElem_toArray, List.getElem_cons_succ, List.getElem_cons_zero, List.setIfInBounds_toArray, List.set_cons_succ, List.set_cons_zero]
      refine wpAnyC_take 4 (.int .i64 ix) rfl (by kernel_rfl) (by kernel_rfl) (by kernel_rfl) (fun _ _ _ h => h) (wanted_free rfl _) (fun W hW => by go_simp) ?_
      try simp only [Act.put, List.getElem_toArray, List.getElem_cons_succ, List.getElem_cons_zero, List.setIfInBounds_toArray, List.set_cons_succ, List.set_cons_zero]
      refine wpAnyC_take 5 (.pointer (some ⟨g1, ix, none⟩)) rfl (by kernel_rfl) (by kernel_rfl) (by kernel_rfl) (fun _ _ _ h => h) (wanted_free rfl _) (fun W hW => by go_simp) ?_
      try simp only [Act.put, List.getElem_toArray, List.getElem_cons_succ, List.getElem_cons_zero, List.setIfInBounds_toArray, List.set_cons_succ, List.set_cons_zero]
      refine wpAnyC_take 6 (.int .u8 r) rfl (by kernel_rfl) (by kernel_rfl) (by kernel_rfl) (fun _ _ _ h => h) (wanted_free rfl _) (fun W hW => by have h := hW.2.1; go_simp) ?_
      try simp only [Act.put, List.getElem_toArray, List.getElem_cons_succ, List.getElem_cons_zero, List.setIfInBounds_toArray, List.set_cons_succ, List.set_cons_zero]
      refine wpAnyC_take 7 (.int .u8 by_) rfl (by kernel_rfl) (by kernel_rfl) (by kernel_rfl) (fun _ _ _ h => h) (wanted_free rfl _) (fun W hW => by have h := hW.2.2; go_simp) ?_
      try simp only [Act.put, List.getElem_toArray, List.getElem_cons_succ, List.getElem_cons_zero, List.setIfInBounds_toArray, List.set_cons_succ, List.set_cons_zero]
      refine wpAnyC_take 8 (.int .u8 y) rfl (by kernel_rfl) (by kernel_rfl) (by kernel_rfl) (fun _ _ _ h => h) (wanted_free rfl _) (fun W hW => by go_simp) ?_
      try simp only [Act.put, List.getElem_toArray, List.getElem_cons_succ, List.getElem_cons_zero, List.setIfInBounds_toArray, List.set_cons_succ, List.set_cons_zero]
      refine wpAnyC_one 9 cs1 rfl (by kernel_rfl) (wanted_free rfl _) (fun KA hKA => ?_)
      go_simp
      refine hKA _ _ ?_
      clear hKA KA
      try simp only [Act.put, List.getElem_toArray, List.getElem_cons_succ, List.getElem_cons_zero, List.setIfInBounds_toArray, List.set_cons_succ, List.set_cons_zero]
      have g1l : g1 < w1.heap.size := hr1.out.lt rfl
      have hbA : Below w1.heap.size w1 (w1.alloc (.cells #[.int .u8 (y : Int)] 5)).drew := ((Below.refl w1.heap.size w1).alloc (Nat.le_refl _) _).trans ⟨rfl, rfl, rfl, Nat.le_refl _, fun _ _ => rfl⟩
      refine wpAnyC_one 10 (⟨(cv1.out.below hbA).at_, (World.cell?_of_block (a := ⟨g1, ix, none⟩) (hbA.block g1 g1l)).trans cg1, (cb1.out.below hbA).at_⟩) rfl (by kernel_rfl) (wanted_free rfl _) (fun KA hKA => ?_)
      go_simp
      refine (HW.out _ w1.heap.size (hw1.out.below hbA) (rd_byte_d _ _) (wd_none hw1.out (Nat.le_refl _))).mono ?_
      rintro e y2 ⟨rfl, tag2, hw2, hst2⟩
      have hs2 := Kpt.mk ((hs1.out.trans (step_below hbA tag _)).trans hst2)
      have cv2 := (cv1.out.below hbA).step hst2
      have cb2 := (cb1.out.below hbA).step hst2
      have cg2 : y2.cell? ⟨g1, ix, none⟩ = some (.int .u8 r) := (World.cell?_of_block (a := ⟨g1, ix, none⟩) (hst2.block g1 (Nat.lt_of_lt_of_le g1l hbA.size) (fun t _ e => by rw [tg1] at e; cases e))).trans ((World.cell?_of_block (a := ⟨g1, ix, none⟩) (hbA.block g1 g1l)).trans cg1)
      replace hw2 := Kpt.mk hw2
      clear hst2
      refine hKA _ _ ?_
      clear hKA KA
      try simp only [Act.put, List.getElem_toArray, List.getElem_cons_succ, List.getElem_cons_zero, List.setIfInBounds_toArray, List.set_cons_succ, List.set_cons_zero]
      refine wpAnyC_take 11 (.bool true) rfl (by kernel_rfl) (by kernel_rfl) (by kernel_rfl) (fun _ _ _ h => h) (wanted_free rfl _) (fun W hW => by go_simp) ?_
      try simp only [Act.put, List.getElem_toArray, List.getElem_cons_succ, List.getElem_cons_zero, List.setIfInBounds_toArray, List.set_cons_succ, List.set_cons_zero]
      refine wpAnyC_take 12 (.bool true) rfl (by kernel_rfl) (by kernel_rfl) (by kernel_rfl) (fun _ _ _ h => h) (wanted_free rfl _) (fun W hW => by go_simp) ?_
      try simp only [Act.put, List.getElem_toArray, List.getElem_cons_succ, List.getElem_cons_zero, List.setIfInBounds_toArray, List.set_cons_succ, List.set_cons_zero]
      refine wpAnyC_done (⟨cv2.at_, cg2, cb2.at_⟩) (by kernel_rfl) ?_
      go_wp2_with fail
      go_ret
      exact ⟨rfl, tag2, hw2.out, hs2.out⟩

  · rw [if_neg (fun h => h12 h.1)] at hixd
    subst hixd
    have i1 : ¬ (12 : Int) ≤ ix := by omega
    go_enter Try.func20, Try.ntmps20
    go_wp2_with (go_at_call 21; go_must (refine (HR.out _ HWd.out).mono ?_; rintro e w1 ⟨g1, c1, rfl, hw1, hs1, hr1, hg1⟩; have cv1 := Kpt.mk (hw.out.step hs1); have ca1 := Kpt.mk (ha.out.step hs1); have cb1 := Kpt.mk (hb.out.step hs1); have x1 := ca1.out.at_; have tg1 : tag g1 = none := wd_none HWd.out hg1; replace hw1 := Kpt.mk hw1; replace hs1 := Kpt.mk hs1; have cg1 := hrow.out _ _ _ hr1; replace hr1 := Kpt.mk hr1))
    have cs1 : w1.cell? ⟨bw, 0, none⟩ = some (.pointer (some ⟨B, 0, none⟩)) ∧ w1.cell? ⟨g1, ix, none⟩ = some (.int .u8 r) ∧ w1.cell? ⟨bb, 0, none⟩ = some (.int .u8 by_) := ⟨cv1.out.at_, cg1, cb1.out.at_⟩
    refine wp_region_any (by kernel_rfl) ?_
    refine wpAny_of_C (C := fun W => W.cell? ⟨bw, 0, none⟩ = some (.pointer (some ⟨B, 0, none⟩)) ∧ W.cell? ⟨g1, ix, none⟩ = some (.int .u8 r) ∧ W.cell? ⟨bb, 0, none⟩ = some (.int .u8 by_)) _ _ _ _ ?_
    refine wpAnyC_take 0 (.pointer (some ⟨B, 0, none⟩)) rfl (by kernel_rfl) (by kernel_rfl) (by kernel_rfl) (fun _ _ _ h => h) (wanted_free rfl _) (fun W hW => by have h := hW.1; go_simp) ?_
    try simp only [Act.put, List.getElem_toArray, List.getElem_cons_succ, List.getElem_cons_zero, List.setIfInBounds_toArray, List.set_cons_succ, List.set_cons_zero]
    refine wpAnyC_take 1 (.string s) rfl (by kernel_rfl) (by kernel_rfl) (by kernel_rfl) (fun _ _ _ h => h) (wanted_free rfl _) (fun W hW => by go_simp) ?_
    try simp only [Act.put, List.getElem_toArray, List.getElem_cons_succ, List.getElem_cons_zero, List.setIfInBounds_toArray, List.set_cons_succ, List.set_cons_zero]
    refine wpAnyC_take 2 (.int .i64 ix) rfl (by kernel_rfl) (by kernel_rfl) (by kernel_rfl) (fun _ _ _ h => h) (wanted_free rfl _) (fun W hW => by go_simp) ?_
    try simp only [Act.put, List.getElem_toArray, List.getElem_cons_succ, List.getElem_cons_zero, List.setIfInBounds_toArray, List.set_cons_succ, List.set_cons_zero]
    refine wpAnyC_take 3 (.slice (some ⟨g1, 0, none⟩) m c1) rfl (by kernel_rfl) (by kernel_rfl) (by kernel_rfl) (fun _ _ _ h => h) (wanted_free rfl _) (fun W hW => by go_simp) ?_
    try simp only [Act.put, List.getElem_toArray, List.getElem_cons_succ, List.getElem_cons_zero, List.setIfInBounds_toArray, List.set_cons_succ, List.set_cons_zero]
    refine wpAnyC_take 4 (.int .i64 ix) rfl (by kernel_rfl) (by kernel_rfl) (by kernel_rfl) (fun _ _ _ h => h) (wanted_free rfl _) (fun W hW => by go_simp) ?_
    try simp only [Act.put, List.getElem_toArray, List.getElem_cons_succ, List.getElem_cons_zero, List.setIfInBounds_toArray, List.set_cons_succ, List.set_cons_zero]
    refine wpAnyC_take 5 (.pointer (some ⟨g1, ix, none⟩)) rfl (by kernel_rfl) (by kernel_rfl) (by kernel_rfl) (fun _ _ _ h => h) (wanted_free rfl _) (fun W hW => by go_simp) ?_
    try simp only [Act.put, List.getElem_toArray, List.getElem_cons_succ, List.getElem_cons_zero, List.setIfInBounds_toArray, List.set_cons_succ, List.set_cons_zero]
    refine wpAnyC_take 6 (.int .u8 r) rfl (by kernel_rfl) (by kernel_rfl) (by kernel_rfl) (fun _ _ _ h => h) (wanted_free rfl _) (fun W hW => by have h := hW.2.1; go_simp) ?_
    try simp only [Act.put, List.getElem_toArray, List.getElem_cons_succ, List.getElem_cons_zero, List.setIfInBounds_toArray, List.set_cons_succ, List.set_cons_zero]
    refine wpAnyC_take 7 (.int .u8 by_) rfl (by kernel_rfl) (by kernel_rfl) (by kernel_rfl) (fun _ _ _ h => h) (wanted_free rfl _) (fun W hW => by have h := hW.2.2; go_simp) ?_
    try simp only [Act.put, List.getElem_toArray, List.getElem_cons_succ, List.getElem_cons_zero, List.setIfInBounds_toArray, List.set_cons_succ, List.set_cons_zero]
    refine wpAnyC_take 8 (.int .u8 y) rfl (by kernel_rfl) (by kernel_rfl) (by kernel_rfl) (fun _ _ _ h => h) (wanted_free rfl _) (fun W hW => by go_simp) ?_
    try simp only [Act.put, List.getElem_toArray, List.getElem_cons_succ, List.getElem_cons_zero, List.setIfInBounds_toArray, List.set_cons_succ, List.set_cons_zero]
    refine wpAnyC_one 9 cs1 rfl (by kernel_rfl) (wanted_free rfl _) (fun KA hKA => ?_)
    go_simp
    refine hKA _ _ ?_
    clear hKA KA
    try simp only [Act.put, List.getElem_toArray, List.getElem_cons_succ, List.getElem_cons_zero, List.setIfInBounds_toArray, List.set_cons_succ, List.set_cons_zero]
    have g1l : g1 < w1.heap.size := hr1.out.lt rfl
    have hbA : Below w1.heap.size w1 (w1.alloc (.cells #[.int .u8 (y : Int)] 5)).drew := ((Below.refl w1.heap.size w1).alloc (Nat.le_refl _) _).trans ⟨rfl, rfl, rfl, Nat.le_refl _, fun _ _ => rfl⟩
    refine wpAnyC_one 10 (⟨(cv1.out.below hbA).at_, (World.cell?_of_block (a := ⟨g1, ix, none⟩) (hbA.block g1 g1l)).trans cg1, (cb1.out.below hbA).at_⟩) rfl (by kernel_rfl) (wanted_free rfl _) (fun KA hKA => ?_)
    go_simp
    refine (HW.out _ w1.heap.size (hw1.out.below hbA) (rd_byte_d _ _) (wd_none hw1.out (Nat.le_refl _))).mono ?_
    rintro e y2 ⟨rfl, tag2, hw2, hst2⟩
    have hs2 := Kpt.mk ((hs1.out.trans (step_below hbA tag _)).trans hst2)
    have cv2 := (cv1.out.below hbA).step hst2
    have cb2 := (cb1.out.below hbA).step hst2
    have cg2 : y2.cell? ⟨g1, ix, none⟩ = some (.int .u8 r) := (World.cell?_of_block (a := ⟨g1, ix, none⟩) (hst2.block g1 (Nat.lt_of_lt_of_le g1l hbA.size) (fun t _ e => by rw [tg1] at e; cases e))).trans ((World.cell?_of_block (a := ⟨g1, ix, none⟩) (hbA.block g1 g1l)).trans cg1)
    replace hw2 := Kpt.mk hw2
    clear hst2
    refine hKA _ _ ?_
    clear hKA KA
    try simp only [Act.put, List.getElem_toArray, List.getElem_cons_succ, List.getElem_cons_zero, List.setIfInBounds_toArray, List.set_cons_succ, List.set_cons_zero]
    refine wpAnyC_take 11 (.bool true) rfl (by kernel_rfl) (by kernel_rfl) (by kernel_rfl) (fun _ _ _ h => h) (wanted_free rfl _) (fun W hW => by go_simp) ?_
    try simp only [Act.put, List.getElem_toArray, List.getElem_cons_succ, List.getElem_cons_zero, List.setIfInBounds_toArray, List.set_cons_succ, List.set_cons_zero]
    refine wpAnyC_take 12 (.bool true) rfl (by kernel_rfl) (by kernel_rfl) (by kernel_rfl) (fun _ _ _ h => h) (wanted_free rfl _) (fun W hW => by go_simp) ?_
    try simp only [Act.put, List.getElem_toArray, List.getElem_cons_succ, List.getElem_cons_zero, List.setIfInBounds_toArray, List.set_cons_succ, List.set_cons_zero]
    refine wpAnyC_done (⟨cv2.at_, cg2, cb2.at_⟩) (by kernel_rfl) ?_
    go_wp2_with fail
    go_ret
    exact ⟨rfl, tag2, hw2.out, hs2.out⟩

end Go.Proofs.Ytndlpmnidpandaa
