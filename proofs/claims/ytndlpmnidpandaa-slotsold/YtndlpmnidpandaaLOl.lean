/-
  Slots: what SlotsOld does, step by step.
-/
import Derived.Test.YtndlpmnidpandaaLSpw
namespace Go.Proofs.Ytndlpmnidpandaa
open Go.RowKit
set_option linter.unusedVariables false
set_option linter.unusedSimpArgs false

theorem exec_box1 {o : Oper} {a : Act} {w : World} (ty : TypeId) (x : Operand) (ho : o.op = .box ty x) (v : Value) (hx : a.eval x = v) (hv : v.cells = #[v]) : (execOp a.eval o).run Try.prog w = .ok (.value (.pointer (some ⟨w.heap.size, 0, none⟩))) (w.alloc (.cells #[v] ty)) := by
  unfold execOp
  simp only [ho]
  simp [hx, Instr.box, newVar, newRow, newObj, hv]
  rfl
theorem wpList_box1 {w : World} {ops : Array Oper} {rest : List Oper} {o : Oper} {a : Act} {Q : Exit → Act → World → Prop} (hgd : o.guard = none) (ty : TypeId) (x : Operand) (ho : o.op = .box ty x) (v : Value) (hx : a.eval x = v) (hv : v.cells = #[v])
    (h : ∀ b w', w.heap.size ≤ b → Bx w' b #[v] → Below w.heap.size w w' → wpList Try.prog ops Q rest (a.put o.dst (.pointer (some ⟨b, 0, none⟩))) w') : wpList Try.prog ops Q (o :: rest) a w :=
  wpList_of_exec hgd (exec_box1 ty x ho v hx hv) (h _ _ (Nat.le_refl _) (bx_new w #[v] ty) ((Below.refl _ _).alloc (Nat.le_refl _) _))
theorem info_zero1 {ty : TypeId} {z : Value} (h : (Try.prog.info? ty).map (fun i => i.zero) = some (some z)) (hz : z.cells = #[z]) : ∀ (o : Oper) (a : Act) (w : World), o.op = .alloc ty → (execOp a.eval o).run Try.prog w = .ok (.value (.pointer (some ⟨w.heap.size, 0, none⟩))) (w.alloc (.cells #[z] ty)) := by
  cases hi : Try.prog.info? ty with
  | none => rw [hi] at h; simp at h
  | some i =>
    rw [hi] at h
    simp only [Option.map_some, Option.some.injEq] at h
    intro o a w ho
    unfold execOp
    simp only [ho]
    simp [Instr.alloc, zeroValue, typeInfo, hi, h, newVar, newRow, newObj, hz]
    rfl
theorem wpList_var1 {w : World} {ops : Array Oper} {rest : List Oper} {o : Oper} {a : Act} {Q : Exit → Act → World → Prop} (hgd : o.guard = none) (ty : TypeId) (ho : o.op = .alloc ty) (z : Value) (hz : (Try.prog.info? ty).map (fun i => i.zero) = some (some z)) (hc : z.cells = #[z])
    (h : ∀ b w', w.heap.size ≤ b → Bx w' b #[z] → Below w.heap.size w w' → wpList Try.prog ops Q rest (a.put o.dst (.pointer (some ⟨b, 0, none⟩))) w') : wpList Try.prog ops Q (o :: rest) a w :=
  wpList_of_exec hgd (info_zero1 hz hc o a w ho) (h _ _ (Nat.le_refl _) (bx_new w #[z] ty) ((Below.refl _ _).alloc (Nat.le_refl _) _))
theorem zeroP : (Try.prog.info? 35).map (fun i => i.zero) = some (some (.pointer none)) := by kernel_rfl
theorem infoP : (Try.prog.info? 35).map (·.size) = some 1 := by kernel_rfl

abbrev kN : ByteArray := ⟨#[107]⟩
theorem kN0 : fn0 kN = ⟨#[107, 46, 48]⟩ := by apply ByteArray.ext; simp [fn0, kN]
theorem kN1 : fn1 kN = ⟨#[107, 46, 49]⟩ := by apply ByteArray.ext; simp [fn1, kN]

/-- What the two files hold. -/
structure Fs (st : St) (F0 F1 : List Int) : Prop where
  s0 : st.seen (fn0 kN) = some F0
  s1 : st.seen (fn1 kN) = some F1
  byt : Byt st
  fails : ∀ i, st.fails i = false
  cnt : st.cnt ≤ 100
/-- How it stands: the world, what the closure has caught. -/
structure Sc (w W : World) (B bw ba bb at_ by_ : Nat) (tag : Tags) (st : St) : Prop where
  wd : Wd W B tag st
  below : Below w.heap.size w W
  low : ∀ i, i < w.heap.size → tag i = none
  cw : Cv W tag bw (.pointer (some ⟨B, 0, none⟩))
  ca : Cv W tag ba (.int .u16 at_)
  cb : Cv W tag bb (.int .u8 by_)
section
variable {w W W' : World} {B bw ba bb at_ by_ S : Nat} {tag tag' : Tags} {st st' : St}
theorem Sc.bel (h : Sc w W B bw ba bb at_ by_ tag st) (hb : Below W.heap.size W W') : Sc w W' B bw ba bb at_ by_ tag st :=
  ⟨h.wd.below hb, h.below.trans (hb.mono h.below.size), h.low, h.cw.below hb, h.ca.below hb, h.cb.below hb⟩
theorem Sc.sp (h : Sc w W B bw ba bb at_ by_ tag st) (hw : Wd W' B tag' st') (s : Sp W W' S tag tag') (h1 : w.heap.size ≤ S) (h2 : bw ≠ S) (h3 : ba ≠ S) (h4 : bb ≠ S) : Sc w W' B bw ba bb at_ by_ tag' st' :=
  ⟨hw, h.below.trans (s.bel h.below.size h.low h1), fun i hi => s.bare i (Nat.lt_of_lt_of_le hi h.below.size) (h.low i hi), h.cw.sp s h2, h.ca.sp s h3, h.cb.sp s h4⟩
theorem Step.bel {n : Nat} {X : Tag → Prop} (s : Step W W' tag tag' X) (hn : n ≤ W.heap.size) (ht : ∀ i, i < n → tag i = none) : Below n W W' :=
  ⟨s.os, s.tape, s.output, s.size, fun i hi => s.block i (by omega) (fun t _ e => by rw [ht i hi] at e; cases e)⟩
theorem Sc.step (h : Sc w W B bw ba bb at_ by_ tag st) (hw : Wd W' B tag' st') (s : Step W W' tag tag' (fun _ => True)) : Sc w W' B bw ba bb at_ by_ tag' st' :=
  ⟨hw, h.below.trans (s.bel h.below.size h.low), fun i hi => s.bare i (Nat.lt_of_lt_of_le hi h.below.size) (h.low i hi), h.cw.step s, h.ca.step s, h.cb.step s⟩

theorem sc_open (h : Sc w W B bw ba bb at_ by_ tag st) : Calls Try.prog 13 #[.pointer (some ⟨B, 0, none⟩), .string ⟨#[107]⟩] W fun e w' => ∃ S, e = .returned (.tuple #[.pointer (some ⟨S, 0, none⟩), .int .i64 0]) ∧ Sc w w' B bw ba bb at_ by_ tag st ∧ Sl w' S B tag kN false 0 0 ∧ w.heap.size ≤ S ∧ bw ≠ S ∧ ba ≠ S ∧ bb ≠ S := by
  refine (open_h B ⟨#[107]⟩ tag st W h.wd (by rw [size_k]; omega) (by rw [size_k]; omega)).mono ?_
  rintro e w' ⟨S, h1, h2, h3, h4, h5⟩
  have a := h.cw.lt
  have b := h.ca.lt
  have c := h.cb.lt
  exact ⟨S, h1, h.bel h5, h3, Nat.le_trans h.below.size h4, by omega, by omega, by omega⟩

theorem laid_nil (R : List Int) : laidL [] 0 R = R := by
  obtain ⟨q, hq, hm⟩ := laid_front [] R
  rw [hq]
  cases q with
  | nil => simp
  | cons x r => exact absurd (hm x (by simp)) (by simp)

theorem sc_save1 (h : Sc w W B bw ba bb at_ by_ tag st0) (hS : Sl W S B tag kN false 0 0) (h1 : w.heap.size ≤ S) (h2 : bw ≠ S) (h3 : ba ≠ S) (h4 : bb ≠ S) (a : Option Addr) (n c : Nat) (zs : List Int) (hrd : RdAt w (.slice a n c) zs) (hl : zs.length = n) (hn : n ≤ 500) (hb : Bytes zs) :
    Calls Try.prog 17 #[.pointer (some ⟨S, 0, none⟩), .slice a n c] W fun e w' => e = .returned (.tuple #[.int .u64 1, .int .i64 0]) ∧ ∃ tag', Sc w w' B bw ba bb at_ by_ tag' (savSt { st0 with ops := st0.ops + 2, cnt := st0.cnt + 2 } (fn0 kN) (recL 1 zs)) ∧ Sl w' S B tag' kN true 1 1 := by
  have HL := learn_any S B kN 0 0 tag st0 W hS h.wd (by simp [st0]) rfl rfl (by rw [size_k]; omega) (by rw [size_k]; omega) (fun s zs h => by simp [st0] at h) none none rfl rfl
  have hx := save0 S B kN 0 tag { st0 with ops := st0.ops + 2, cnt := st0.cnt + 2 } W hS.bx.lt hS.bare HL (by simp [st0]) (by simp [st0]) rfl rfl (fun c hc => by simp [st0] at hc) (by rw [size_k]; omega) (by rw [size_k]; omega) (by omega) (by omega) a n c zs (hrd.bel h.below) hl (by omega) hb (fun hne q hq => by
    have : q < w.heap.size := hrd.lt (by cases zs; exact absurd rfl hne; simp) hq
    exact ⟨h.low q this, by omega⟩)
  refine hx.mono ?_
  rintro e w' ⟨rfl, tag', hw, hs, hsl⟩
  exact ⟨rfl, tag', h.sp hw hs h1 h2 h3 h4, hsl⟩

theorem sc_save2 (stA : St) (hst : stA.waits = [] ∧ (∀ i, stA.fails i = false) ∧ stA.cnt ≤ 10) (h : Sc w W B bw ba bb at_ by_ tag stA) (hS : Sl W S B tag kN true 1 1) (h1 : w.heap.size ≤ S) (h2 : bw ≠ S) (h3 : ba ≠ S) (h4 : bb ≠ S) (a : Option Addr) (n c : Nat) (zs : List Int) (hrd : RdAt w (.slice a n c) zs) (hl : zs.length = n) (hn : n ≤ 500) (hb : Bytes zs) :
    Calls Try.prog 17 #[.pointer (some ⟨S, 0, none⟩), .slice a n c] W fun e w' => e = .returned (.tuple #[.int .u64 2, .int .i64 0]) ∧ ∃ tag', Sc w w' B bw ba bb at_ by_ tag' (savSt stA (fn1 kN) (recL 2 zs)) := by
  have HL : Calls Try.prog 33 #[.pointer (some ⟨S, 0, none⟩)] W fun e w' => e = .returned (.int .i64 0) ∧ Wd w' B tag stA ∧ Sp W w' S tag tag ∧ Sl w' S B tag kN true 1 1 := (learn_known S B kN 1 1 tag W hS).mono (fun e w' ⟨he, hw⟩ => by subst hw; exact ⟨he, h.wd, Sp.refl _ _ _, hS⟩)
  have hx := save1 S B kN 1 tag stA W hS.bx.lt hS.bare HL (by omega) (by rw [hst.1]; simp) (hst.2.1 _) (hst.2.1 _) (by rw [hst.1]; intro c hc; cases hc) (by rw [size_k]; omega) (by rw [size_k]; omega) (by omega) (by omega) a n c zs (hrd.bel h.below) hl (by omega) hb (fun hne q hq => by
    have : q < w.heap.size := hrd.lt (by cases zs; exact absurd rfl hne; simp) hq
    exact ⟨h.low q this, by omega⟩)
  refine hx.mono ?_
  rintro e w' ⟨rfl, tag', hw, hs, hsl⟩
  exact ⟨rfl, tag', h.sp hw hs h1 h2 h3 h4⟩
end
/-- The files behind two saves. -/
theorem fs_two (zs ys : List Int) (hz : Bytes zs) (hy : Bytes ys) : Fs (savSt (savSt { st0 with ops := st0.ops + 2, cnt := st0.cnt + 2 } (fn0 kN) (recL 1 zs)) (fn1 kN) (recL 2 ys)) (recL 1 zs) (recL 2 ys) := by
  have hne := fn_ne kN
  refine ⟨?_, ?_, ?_, fun _ => rfl, by simp [savSt, st0]⟩
  · rw [sav_other _ _ hne]
    show updF st0.seen (fn0 kN) (some (laidL ((st0.seen (fn0 kN)).getD []) 0 (recL 1 zs))) (fn0 kN) = _
    rw [updF_same]
    show some (laidL [] 0 (recL 1 zs)) = _
    rw [laid_nil]
  · show updF (savSt { st0 with ops := st0.ops + 2, cnt := st0.cnt + 2 } (fn0 kN) (recL 1 zs)).seen (fn1 kN) (some (laidL (((savSt { st0 with ops := st0.ops + 2, cnt := st0.cnt + 2 } (fn0 kN) (recL 1 zs)).seen (fn1 kN)).getD []) 0 (recL 2 ys))) (fn1 kN) = _
    rw [updF_same, sav_other _ _ hne.symm]
    show some (laidL [] 0 (recL 2 ys)) = _
    rw [laid_nil]
  · exact byt_sav (byt_sav (fun s zs h => by simp [st0] at h) _ _ _ hz) _ _ _ hy
end Go.Proofs.Ytndlpmnidpandaa
