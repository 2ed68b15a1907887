/-
  Slots: the walk of SlotsSafe.
-/
import Derived.Test.YtndlpmnidpandaaLSg
import Derived.Test.YtndlpmnidpandaaLTn
namespace Go.Proofs.Ytndlpmnidpandaa
open Go.RowKit
set_option linter.unusedVariables false
set_option linter.unusedSimpArgs false

theorem wpAnyC_skip {P : Program} {md : Region.Mode} {ops : Array Oper} {C : World → Prop} {Q : Exit → Act → World → Prop} (i : Nat) {oi : Oper} {fuel : Nat} {listed : Array Bool} {a : Act} {w : World} (hi : ops[i]? = some oi)
    (hs : Region.noSelect ops = true) (hf : Region.free md ops listed i = true) (hr : (Region.ready md ops listed).contains i = true)
    (hQ : ∀ c a w, Q (.panic c) (a.put oi.dst undef) w → Q (.panic c) a w) (hw : Region.wanted oi (yielded ops a.tmps) = false)
    (h : wpAnyC P md ops C Q fuel (listed.setIfInBounds i true) (a.put oi.dst undef) w) : wpAnyC P md ops C Q (fuel + 1) listed a w :=
  wpAnyC_first hi (Region.noSelect_spec hs) hQ fuel listed a w (Region.free_spec hi hf) (by simpa using hr) (.inr ⟨hw, rfl⟩) h
theorem wanted_no (b : Bool) {o oj : Oper} {ops : Array Oper} {tmps : Array Value} {j d : Nat} (hg : o.guard = some (j, b)) (hj : ops[j]? = some oj) (hd : oj.dst = some d) (ht : tmps[d]? = some (.bool !b)) : Region.wanted o (yielded ops tmps) = false := by
  unfold Region.wanted yielded
  rw [hg]
  cases b <;> simp [hj, hd, ht]
theorem wanted_undef (b : Bool) {o oj : Oper} {ops : Array Oper} {tmps : Array Value} {j d : Nat} (hg : o.guard = some (j, b)) (hj : ops[j]? = some oj) (hd : oj.dst = some d) (ht : tmps[d]? = some undef) : Region.wanted o (yielded ops tmps) = false := by
  unfold Region.wanted yielded
  rw [hg]
  simp [hj, hd, ht, undef]

theorem load_j (S B : Nat) (kn : Bool) (g nx : Int) (tag : Tags) (st : St) (w : World) (hS : Sl w S B tag KK kn g nx) (h : Wd w B tag st) (P : Nat → List Int) (k n0 : Nat) (hF : FinF st.seen P k n0) (hf : ∀ x, st.fails x = false) (hc : st.cnt ≤ 10000) :
    Calls Try.prog 19 #[.pointer (some ⟨S, 0, none⟩)] w fun e w' => Sp w w' S tag tag ∧ ((k = 0 ∧ ∃ a c, e = .returned (.tuple #[.slice a 0 c, .int .u64 0, .int .i64 8])) ∨
      ∃ (J : Nat) (a : Option Addr) (c : Nat), k ≤ J + 1 ∧ J ≤ k ∧ J < n0 ∧ e = .returned (.tuple #[.slice a (P J).length c, .int .u64 ((J : Int) + 1), .int .i64 0]) ∧ RdAt w' (.slice a (P J).length c) (P J)) := by
  refine (load_f S B kn g nx tag st w hS h P k n0 hF hf hc).mono ?_
  rintro e w' ⟨hs, hor⟩
  refine ⟨hs, ?_⟩
  rcases hor with hh | ⟨G, a, c, h1, h2, h3, h4, he, hr⟩
  · exact .inl hh
  · obtain ⟨J, rfl⟩ : ∃ J, G = J + 1 := ⟨G - 1, by omega⟩
    refine .inr ⟨J, a, c, h1, by omega, by omega, ?_, hr⟩
    have e1 : ((J + 1 : Nat) : Int) = (J : Int) + 1 := by omega
    rw [e1] at he
    exact he

/-- A slice that lies in none of the blocks that turn. -/
def Aside (tag : Tags) (S FB : Nat) (v : Value) (zs : List Int) : Prop := zs ≠ [] → ∀ q, v.ownBlock = some q → tag q = none ∧ q ≠ S ∧ q ≠ FB

/-- How far the saves have come. -/
structure Sf (w W : World) (B S FB k : Nat) (P : Nat → List Int) (sp : Int) (tag : Tags) (st : St) (g nx : Int) (p : List Int) (a0 : Option Addr) (m0 c0 : Nat) (a1 : Option Addr) (m1 c1 : Nat) : Prop where
  wd : Wd W B tag st
  sl : Sl W S B tag KK (decide (0 < k)) g nx
  run : Run st k p sp (if k = 0 then 0 else 2 * k + 2)
  cnt : st.cnt ≤ 100 * k + 2
  ahead : (if k = 0 then 0 else 2 * (k : Int) + 2) ≤ sp
  knows : Knows (decide (0 < k)) g nx k
  pay : 1 ≤ k → p = P (k - 1)
  tags : ∀ i, i < w.heap.size → tag i = none
  tF : tag FB = none
  bx : Bx W FB #[.slice a0 m0 c0, .slice a1 m1 c1]
  r0 : RdAt W (.slice a0 m0 c0) ((st.seen (fn0 KK)).getD [])
  r1 : RdAt W (.slice a1 m1 c1) ((st.seen (fn1 KK)).getD [])
  s0 : Aside tag S FB (.slice a0 m0 c0) ((st.seen (fn0 KK)).getD [])
  s1 : Aside tag S FB (.slice a1 m1 c1) ((st.seen (fn1 KK)).getD [])
  below : Below w.heap.size w W
  lo : w.heap.size ≤ S
  loF : w.heap.size ≤ FB
  ne : FB ≠ S

theorem zero41 : (Try.prog.info? 41).map (fun i => i.zero) = some (some (.agg #[.slice none 0 0, .slice none 0 0])) := by kernel_rfl
theorem info23 : (Try.prog.info? 23).map (·.size) = some 1 := by kernel_rfl
end Go.Proofs.Ytndlpmnidpandaa
