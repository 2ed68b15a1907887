/-
  Slots: from one save to the next.
-/
import Derived.Test.YtndlpmnidpandaaLSh0
namespace Go.Proofs.Ytndlpmnidpandaa
open Go.RowKit
set_option linter.unusedVariables false
set_option linter.unusedSimpArgs false

section
variable {w W W' y w7 : World} {B S FB k : Nat} {P : Nat → List Int} {sp : Int} {tag tag7 : Tags} {st st7 : St} {g nx : Int} {p : List Int} {a0 a1 : Option Addr} {m0 c0 m1 c1 : Nat}
theorem Sf.bel (L : Sf w W B S FB k P sp tag st g nx p a0 m0 c0 a1 m1 c1) (hb : Below W.heap.size W W') : Sf w W' B S FB k P sp tag st g nx p a0 m0 c0 a1 m1 c1 :=
  { L with wd := L.wd.below hb, sl := L.sl.below hb, bx := L.bx.below hb L.bx.lt, r0 := L.r0.bel hb, r1 := L.r1.bel hb, below := L.below.trans (hb.mono L.below.size) }
theorem spF (hg : W.grownBy y (some FB)) (tag : Tags) : Sp W y FB tag tag := ⟨hg.os, hg.tape, hg.output, hg.size, fun i hi _ hn => hg.block i hi (fun e => by cases e; exact hn rfl), fun _ _ h => h⟩
theorem rd_F {v : Value} {X : List Int} (hg : W.grownBy y (some FB)) (hX : RdAt W v X) (hq : Aside tag S FB v X) : RdAt y v X :=
  hX.sp (spF hg tag) (fun h q hq' => ⟨(hq h q hq').1, (hq h q hq').2.2⟩)
theorem rd_S {v : Value} {X : List Int} (hs : Sp y w7 S tag tag7) (hX : RdAt y v X) (hq : Aside tag S FB v X) : RdAt w7 v X :=
  hX.sp hs (fun h q hq' => ⟨(hq h q hq').1, (hq h q hq').2.1⟩)
theorem aside_S {v : Value} {X : List Int} (hs : Sp y w7 S tag tag7) (hX : RdAt y v X) (hq : Aside tag S FB v X) : Aside tag7 S FB v X := fun h q hq' =>
  ⟨hs.bare q (hX.lt (by cases X; exact absurd rfl h; simp) hq') (hq h q hq').1, (hq h q hq').2⟩
theorem Sf.at0 (L : Sf w W B S FB k P sp tag st g nx p a0 m0 c0 a1 m1 c1) : W.cell? ⟨FB, 0, none⟩ = some (.slice a0 m0 c0) := L.bx.cells 0 (by simp)
theorem Sf.at1 (L : Sf w W B S FB k P sp tag st g nx p a0 m0 c0 a1 m1 c1) : W.cell? ⟨FB, 1, none⟩ = some (.slice a1 m1 c1) := L.bx.cells 1 (by simp)
theorem rd_lenF {v : Option Addr} {m c : Nat} {X : List Int} (h : RdAt W (.slice v m c) X) : X.length = m := by obtain ⟨a, c', e, _⟩ := h; cases e; rfl

theorem sf_next0 (L : Sf w W B S FB k P sp tag st g nx p a0 m0 c0 a1 m1 c1) (hpar : k % 2 = 0) (hk : k < 12) {a : Option Addr} {N c : Nat} {X : List Int} (hXe : X = laidL ((st.seen (fnk k)).getD []) 0 (recL ((k : Int) + 1) (P k))) (hX : RdAt W (.slice a N c) X) (hq : Aside tag S FB (.slice a N c) X)
    (hg : W.grownBy y (some FB)) (hb : Bx y FB #[.slice a N c, .slice a1 m1 c1])
    (h1 : Wd w7 B tag7 st7) (hs : Sp y w7 S tag tag7) (h2 : Run st7 (k + 1) (P k) sp (2 * (k : Int) + 4)) (h3 : 2 * (k : Int) + 4 ≤ sp) (h4 : st7.cnt ≤ 100 * (k + 1) + 2) (h5 : Sl w7 S B tag7 KK true ((k + 1 : Nat) : Int) (((k + 1) % 2 : Nat) : Int)) (h6 : st7.seen = updF st.seen (fnk k) (some (laidL ((st.seen (fnk k)).getD []) 0 (recL ((k : Int) + 1) (P k))))) :
    Sf w w7 B S FB (k + 1) P sp tag7 st7 ((k + 1 : Nat) : Int) (((k + 1) % 2 : Nat) : Int) (P k) a N c a1 m1 c1 := by
  have efk : fnk k = fn0 KK := if_pos hpar
  have e1 : (2 : Int) * ((k + 1 : Nat) : Int) + 2 = 2 * (k : Int) + 4 := by omega
  have hsz : w.heap.size ≤ y.heap.size := Nat.le_trans L.below.size hg.size
  rw [← hXe, efk] at h6
  have q0 : st7.seen (fn0 KK) = some X := by rw [h6, updF_same]
  have q1 : st7.seen (fn1 KK) = st.seen (fn1 KK) := by rw [h6, updF_other _ _ (fn_ne KK).symm]
  have dec : decide (0 < k + 1) = true := decide_eq_true (by omega)
  have z0 : RdAt y (.slice a N c) X := rd_F hg hX hq
  have z1 := rd_F hg L.r1 L.s1
  exact {
    wd := h1
    sl := by rw [dec]; exact h5
    run := by rw [if_neg (by omega : ¬ k + 1 = 0), e1]; exact h2
    cnt := h4
    ahead := by rw [if_neg (by omega : ¬ k + 1 = 0), e1]; exact h3
    knows := ⟨fun _ => ⟨rfl, rfl⟩⟩
    pay := fun _ => rfl
    tags := fun i hi => hs.bare i (by omega) (L.tags i hi)
    tF := hs.bare FB hb.lt L.tF
    bx := hb.sp hs L.tF L.ne
    r0 := by rw [q0]; exact rd_S hs z0 hq
    r1 := by rw [q1]; exact rd_S hs z1 L.s1
    s0 := by rw [q0]; exact aside_S hs z0 hq
    s1 := by rw [q1]; exact aside_S hs z1 L.s1
    below := (L.below.trans (Below.ofGrown hg L.below.size L.loF)).trans (hs.bel hsz L.tags L.lo)
    lo := L.lo
    loF := L.loF
    ne := L.ne }

theorem sf_next1 (L : Sf w W B S FB k P sp tag st g nx p a0 m0 c0 a1 m1 c1) (hpar : k % 2 = 1) (hk : k < 12) {a : Option Addr} {N c : Nat} {X : List Int} (hXe : X = laidL ((st.seen (fnk k)).getD []) 0 (recL ((k : Int) + 1) (P k))) (hX : RdAt W (.slice a N c) X) (hq : Aside tag S FB (.slice a N c) X)
    (hg : W.grownBy y (some FB)) (hb : Bx y FB #[.slice a0 m0 c0, .slice a N c])
    (h1 : Wd w7 B tag7 st7) (hs : Sp y w7 S tag tag7) (h2 : Run st7 (k + 1) (P k) sp (2 * (k : Int) + 4)) (h3 : 2 * (k : Int) + 4 ≤ sp) (h4 : st7.cnt ≤ 100 * (k + 1) + 2) (h5 : Sl w7 S B tag7 KK true ((k + 1 : Nat) : Int) (((k + 1) % 2 : Nat) : Int)) (h6 : st7.seen = updF st.seen (fnk k) (some (laidL ((st.seen (fnk k)).getD []) 0 (recL ((k : Int) + 1) (P k))))) :
    Sf w w7 B S FB (k + 1) P sp tag7 st7 ((k + 1 : Nat) : Int) (((k + 1) % 2 : Nat) : Int) (P k) a0 m0 c0 a N c := by
  have efk : fnk k = fn1 KK := if_neg (by omega)
  have e1 : (2 : Int) * ((k + 1 : Nat) : Int) + 2 = 2 * (k : Int) + 4 := by omega
  have hsz : w.heap.size ≤ y.heap.size := Nat.le_trans L.below.size hg.size
  rw [← hXe, efk] at h6
  have q0 : st7.seen (fn1 KK) = some X := by rw [h6, updF_same]
  have q1 : st7.seen (fn0 KK) = st.seen (fn0 KK) := by rw [h6, updF_other _ _ (fn_ne KK)]
  have dec : decide (0 < k + 1) = true := decide_eq_true (by omega)
  have z0 : RdAt y (.slice a N c) X := rd_F hg hX hq
  have z1 := rd_F hg L.r0 L.s0
  exact {
    wd := h1
    sl := by rw [dec]; exact h5
    run := by rw [if_neg (by omega : ¬ k + 1 = 0), e1]; exact h2
    cnt := h4
    ahead := by rw [if_neg (by omega : ¬ k + 1 = 0), e1]; exact h3
    knows := ⟨fun _ => ⟨rfl, rfl⟩⟩
    pay := fun _ => rfl
    tags := fun i hi => hs.bare i (by omega) (L.tags i hi)
    tF := hs.bare FB hb.lt L.tF
    bx := hb.sp hs L.tF L.ne
    r1 := by rw [q0]; exact rd_S hs z0 hq
    r0 := by rw [q1]; exact rd_S hs z1 L.s0
    s1 := by rw [q0]; exact aside_S hs z0 hq
    s0 := by rw [q1]; exact aside_S hs z1 L.s0
    below := (L.below.trans (Below.ofGrown hg L.below.size L.loF)).trans (hs.bel hsz L.tags L.lo)
    lo := L.lo
    loF := L.loF
    ne := L.ne }

theorem sf_save (L : Sf w W B S FB k P sp tag st g nx p a0 m0 c0 a1 m1 c1) (hg : W.grownBy y (some FB)) (hk : k < 12) (n0 : Nat) (hk0 : k < n0)
    (a : Option Addr) (n c : Nat) (hrd : RdAt w (.slice a n c) (P k)) (hl : (P k).length = n) (hn : n ≤ 200) (hb : Bytes (P k))
    (hfair : ∀ j, j < 20 + n → Fair ((st.seen (fnk k)).getD []) ((k : Int) + 1) (P k) j) :
    Calls Try.prog 17 #[.pointer (some ⟨S, 0, none⟩), .slice a n c] y fun e w' => ∃ tag' st', Wd w' B tag' st' ∧ Sp y w' S tag tag' ∧
      ((∃ v, e = .returned (.tuple #[.int .u64 v, .int .i64 0]) ∧ Run st' (k + 1) (P k) sp (2 * (k : Int) + 4) ∧ 2 * (k : Int) + 4 ≤ sp ∧ st'.cnt ≤ 100 * (k + 1) + 2 ∧ Sl w' S B tag' KK true ((k + 1 : Nat) : Int) (((k + 1) % 2 : Nat) : Int) ∧ st'.seen = updF st.seen (fnk k) (some (laidL ((st.seen (fnk k)).getD []) 0 (recL ((k : Int) + 1) (P k))))) ∨
       (e = .returned (.tuple #[.int .u64 0, .int .i64 7]) ∧ Dn st' P k n0)) := by
  have hby : Below w.heap.size w y := L.below.trans (Below.ofGrown hg L.below.size L.loF)
  have hlo := L.lo
  refine save_r S B g nx tag st y k p sp (L.sl.grown hg (by have := L.ne; simpa using this)) (L.wd.own hg L.tF) L.run L.cnt L.ahead hk L.knows P n0 hk0 L.pay a n c (hrd.bel hby) hl hn hb (fun hne q hq => ?_) hfair
  have : q < w.heap.size := hrd.lt (by rw [hl]; cases hP : P k with | nil => exact absurd hP hne | cons x t => rw [hP] at hl; simp at hl; omega) hq
  exact ⟨L.tags q this, by omega⟩
theorem sf_calm (L : Sf w W B S FB k P sp tag st g nx p a0 m0 c0 a1 m1 c1) (hk : k ≤ 12) (n0 : Nat) (hk0 : k ≤ n0) : Dn st P k n0 := dn_calm P L.run rfl rfl (by have := L.cnt; omega) L.pay hk0
end
end Go.Proofs.Ytndlpmnidpandaa
