/-
  SbcCompares holds for every input: COMPARE AND WRITE writes all or nothing, and tells the first byte that differs. No conditions.
-/
import Derived.Test.YtklboieemljmiaaRows
import Derived.Test.YtklboieemljmiaaMC
import Derived.WalkKit
import Derived.ProofKit
import Derived.OpenShut
import Derived.ShutString
import Derived.ChangeOld
import Derived.Below
import Derived.Lib.SmallJoins
namespace Go.Proofs.Ytklboieemljmiaa.sbcCompares
open Go.ChangeShapes Go.WideShapes Go.ChangeAt Go.RowKit Go.Joins
open Go.ChangeMaps (open_string shut_string)
set_option linter.unusedVariables false
set_option linter.unusedSimpArgs false

theorem own : ownKnob Try.prog.godebug = none := by kernel_rfl
theorem laidOut : laidOutB Try.prog = true := by kernel_rfl

/-- A slice of bytes that came in. -/
def IsRow (k : IntKind) (w : World) (a : Option Addr) (len cap : Nat) (zs : List Int) : Prop :=
  (a = none ∧ len = 0 ∧ cap = 0 ∧ zs = []) ∨
  ∃ x, a = some x ∧ len ≤ cap ∧ cap ≤ maxLen ∧ zs.length = cap ∧ (∀ i, i < zs.length → w.cell? (x.add i) = some (.int k (zs.getD i 0))) ∧ ∀ n ∈ zs, (Lit.int k n).wf = true

/-! ### The walk: the Go text returns true. -/
theorem least {p : Nat → Prop} : ∀ n, p n → ∃ j, p j ∧ j ≤ n ∧ ∀ i, i < j → ¬ p i := by
  intro n
  induction n using Nat.strongRecOn with
  | ind n ih =>
    intro h
    by_cases hx : ∃ i, i < n ∧ p i
    · obtain ⟨i, hi, hp⟩ := hx
      obtain ⟨j, h1, h2, h3⟩ := ih i hi hp
      exact ⟨j, h1, by omega, h3⟩
    · exact ⟨n, h, Nat.le_refl _, fun i hi hp => hx ⟨i, hi, hp⟩⟩
theorem walk (a0 : Option Addr) (len0 cap0 : Nat) (z0 : List Int) (a1 : Option Addr) (len1 cap1 : Nat) (z1 : List Int) (a2 : Option Addr) (len2 cap2 : Nat) (z2 : List Int) (a3 a4 : Int) (w : World) (w0 : IsRow .u8 w a0 len0 cap0 z0) (w1 : IsRow .u8 w a1 len1 cap1 z1) (w2 : IsRow .u8 w a2 len2 cap2 z2) (w3 : (Lit.int .u8 a3).wf = true) (w4 : (Lit.int .u8 a4).wf = true) :
    Calls Try.prog 3 #[.slice a0 len0 cap0, .slice a1 len1 cap1, .slice a2 len2 cap2, .int .u8 a3, .int .u8 a4] w fun e w' => e = .returned (.bool true) ∧ Below w.heap.size w w' := by
  have I0 : Inp w a0 len0 cap0 z0 := inp_of w0
  have I1 : Inp w a1 len1 cap1 z1 := inp_of w1
  have I2 : Inp w a2 len2 cap2 z2 := inp_of w2
  have h3 := wf_u8 w3
  have h4 := wf_u8 w4
  obtain ⟨n, hn⟩ : ∃ n : Nat, (1 : Int) + a4 % 4 = n := ⟨(1 + a4 % 4).toNat, by omega⟩
  have hn1 : 1 ≤ n := by omega
  have hn4 : n ≤ 4 := by omega
  obtain ⟨q, hq⟩ : ∃ q : Nat, (17 : Int) - n = q := ⟨17 - n, by omega⟩
  have hq13 : 13 ≤ q := by omega
  have hm1 : 0 ≤ a3 % (q : Int) := Int.emod_nonneg _ (by omega)
  have hm2 : a3 % (q : Int) < q := Int.emod_lt_of_pos _ (by omega)
  obtain ⟨l, hl⟩ : ∃ l : Nat, a3 % (q : Int) = l := ⟨(a3 % (q : Int)).toNat, by omega⟩
  obtain ⟨L, hL⟩ : ∃ L, L = n * 16 := ⟨_, rfl⟩
  by_cases hs : len0 < L ∨ len1 < L ∨ len2 < L
  · exact compares_short a0 a1 a2 len0 cap0 len1 cap1 len2 cap2 n L q l a3 a4 w hn hn4 hn1 hq hq13 hl (by omega) h4 h3 hs
  · obtain ⟨g0, o0, rfl, hg0⟩ := I0.shape (by omega)
    obtain ⟨g1, o1, rfl, hg1⟩ := I1.shape (by omega)
    obtain ⟨g2, o2, rfl, hg2⟩ := I2.shape (by omega)
    have m0 : len0 ≤ maxLen := Nat.le_trans I0.hl I0.hc
    have m1 : len1 ≤ maxLen := Nat.le_trans I1.hl I1.hc
    have m2 : len2 ≤ maxLen := Nat.le_trans I2.hl I2.hc
    have t0 : (z0.take L).length = L := by rw [List.length_take]; have := I0.hz; omega
    have t1 : (z1.take L).length = L := by rw [List.length_take]; have := I1.hz; omega
    have t2 : (z2.take L).length = L := by rw [List.length_take]; have := I2.hz; omega
    by_cases he : ∃ j, j < L ∧ (z0.take L).getD j 0 ≠ (z1.take L).getD j 0
    · obtain ⟨j0, hj0, hne0⟩ := he
      obtain ⟨pl, ⟨hp1, hp2⟩, _, hp3⟩ := least (p := fun j => j < L ∧ (z0.take L).getD j 0 ≠ (z1.take L).getD j 0) j0 ⟨hj0, hne0⟩
      exact compares_dif g0 o0 g1 o1 g2 o2 len0 cap0 len1 cap1 len2 cap2 n L q l a3 a4 _ _ _ w hn hn4 hn1 hq hq13 hl (by omega) hL h4 h3 (by omega) (by omega) (by omega) I0.hl I1.hl I2.hl m0 m1 m2 hg0 hg1 hg2
        (I0.rd L (by omega)) (I1.rd L (by omega)) (I2.rd L (by omega)) t0 t1 t2 (take_bytes I0.byt _) (take_bytes I1.byt _) (take_bytes I2.byt _) pl hp1 hp2 (fun j hj => Classical.byContradiction fun hne => hp3 j hj ⟨by omega, hne⟩)
    · exact compares_same g0 o0 g1 o1 g2 o2 len0 cap0 len1 cap1 len2 cap2 n L q l a3 a4 _ _ _ w hn hn4 hn1 hq hq13 hl (by omega) hL h4 h3 (by omega) (by omega) (by omega) I0.hl I1.hl I2.hl m0 m1 m2 hg0 hg1 hg2
        (I0.rd L (by omega)) (I1.rd L (by omega)) (I2.rd L (by omega)) t0 t1 t2 (take_bytes I0.byt _) (take_bytes I1.byt _) (take_bytes I2.byt _) (fun j hj => Classical.byContradiction fun hne => he ⟨j, hj, hne⟩)

/-! ### The row. -/
set_option maxRecDepth 100000 in
theorem lifted (os : Os) (started : os.Started) (H : Type) (enc : TypeId × Value → H) :
    ReturnsInHanded {} Try.checked os 3 .any (Rows.sbcComparesSpec.pre6 enc Try.prog Try.f3 Rows.sbcComparesRow.domain false) (Rows.sbcComparesSpec.post enc Try.prog Try.f3 false true false false) := by
  refine returnsInHanded_of_change (C := Try.checked) own started (by kernel_rfl) Try.func3
    (ChangeSpec.witness6 (enc := enc) (C := Try.checked) false ⟨#[], #[.slice none 0 0, .slice none 0 0, .slice none 0 0, .int .u8 0, .int .u8 0], []⟩ 8 (by kernel_rfl) (by kernel_rfl) (by kernel_rfl) (by kernel_rfl)) ?_
  intro W base args ds gs before hval0 hW hcnd _
  have hval : ∀ (j : Nat) t v, Try.f3.params[j]? = some t → args[j]? = some v → Value.okWide Try.prog W .any base t v := hval0
  have hW' := hW
  obtain ⟨p, q, hA0, hV, rfl, hfz, hnd⟩ := hW
  have hA : DataW.TrodAll enc Try.prog W 0 (fun _ => true) true Try.f3.params.toList args.toList ds p := hA0
  rw [Try.params3] at hA hval
  obtain ⟨v0, vs0, d0, ds0, p0, q0, hargs, rfl, rfl, h0, r0⟩ := trodAll_cons hA
  obtain ⟨v1, vs1, d1, ds1, p1, q1, rfl, rfl, rfl, h1, r1⟩ := trodAll_cons r0
  obtain ⟨v2, vs2, d2, ds2, p2, q2, rfl, rfl, rfl, h2, r2⟩ := trodAll_cons r1
  obtain ⟨v3, vs3, d3, ds3, p3, q3, rfl, rfl, rfl, h3, r3⟩ := trodAll_cons r2
  obtain ⟨v4, vs4, d4, ds4, p4, q4, rfl, rfl, rfl, h4, r4⟩ := trodAll_cons r3
  obtain ⟨rfl, rfl, rfl⟩ := trodAll_nil r4
  obtain rfl : args = #[v0, v1, v2, v3, v4] := by cases args; simp_all
  obtain ⟨rfl, rfl⟩ := trodVars_none hV
  have k0 := h0
  have lt0 : ∀ x ∈ p0, x.block < W.heap.size := by obtain ⟨m, hm⟩ := k0; exact DataW.trod_lt m _ _ _ hm
  obtain ⟨a0, len0, cap0, rfl⟩ := okWide_slice Try.underlying22 (hval 0 22 v0 rfl rfl)
  obtain ⟨z0, w0⟩ : ∃ zs, IsRow .u8 W a0 len0 cap0 zs := by
    obtain ⟨fuel, hf⟩ := h0
    rcases open_ints Try.underlying22 Try.underlying5 (by kernel_rfl) hf with ⟨hcs, _⟩ | ⟨x, l, c, zs, hcs, _, hl, hm, hz, _, hcell, hwz⟩
    · simp [Value.cells] at hcs
      obtain ⟨rfl, rfl, rfl⟩ := hcs
      exact ⟨[], .inl ⟨rfl, rfl, rfl, rfl⟩⟩
    · simp [Value.cells] at hcs
      obtain ⟨rfl, rfl, rfl⟩ := hcs
      exact ⟨zs, .inr ⟨_, rfl, hl, hm, by simpa using hz, hcell, hwz⟩⟩
  have k1 := h1
  have lt1 : ∀ x ∈ p1, x.block < W.heap.size := by obtain ⟨m, hm⟩ := k1; exact DataW.trod_lt m _ _ _ hm
  obtain ⟨a1, len1, cap1, rfl⟩ := okWide_slice Try.underlying22 (hval 1 22 v1 rfl rfl)
  obtain ⟨z1, w1⟩ : ∃ zs, IsRow .u8 W a1 len1 cap1 zs := by
    obtain ⟨fuel, hf⟩ := h1
    rcases open_ints Try.underlying22 Try.underlying5 (by kernel_rfl) hf with ⟨hcs, _⟩ | ⟨x, l, c, zs, hcs, _, hl, hm, hz, _, hcell, hwz⟩
    · simp [Value.cells] at hcs
      obtain ⟨rfl, rfl, rfl⟩ := hcs
      exact ⟨[], .inl ⟨rfl, rfl, rfl, rfl⟩⟩
    · simp [Value.cells] at hcs
      obtain ⟨rfl, rfl, rfl⟩ := hcs
      exact ⟨zs, .inr ⟨_, rfl, hl, hm, by simpa using hz, hcell, hwz⟩⟩
  have k2 := h2
  have lt2 : ∀ x ∈ p2, x.block < W.heap.size := by obtain ⟨m, hm⟩ := k2; exact DataW.trod_lt m _ _ _ hm
  obtain ⟨a2, len2, cap2, rfl⟩ := okWide_slice Try.underlying22 (hval 2 22 v2 rfl rfl)
  obtain ⟨z2, w2⟩ : ∃ zs, IsRow .u8 W a2 len2 cap2 zs := by
    obtain ⟨fuel, hf⟩ := h2
    rcases open_ints Try.underlying22 Try.underlying5 (by kernel_rfl) hf with ⟨hcs, _⟩ | ⟨x, l, c, zs, hcs, _, hl, hm, hz, _, hcell, hwz⟩
    · simp [Value.cells] at hcs
      obtain ⟨rfl, rfl, rfl⟩ := hcs
      exact ⟨[], .inl ⟨rfl, rfl, rfl, rfl⟩⟩
    · simp [Value.cells] at hcs
      obtain ⟨rfl, rfl, rfl⟩ := hcs
      exact ⟨zs, .inr ⟨_, rfl, hl, hm, by simpa using hz, hcell, hwz⟩⟩
  obtain ⟨a3, rfl, rfl, rfl, w3⟩ := open_int Try.underlying5 (hval 3 5 v3 rfl rfl) h3
  obtain ⟨a4, rfl, rfl, rfl, w4⟩ := open_int Try.underlying5 (hval 4 5 v4 rfl rfl) h4
  clear hA0 hval0
  refine (walk a0 len0 cap0 z0 a1 len1 cap1 z1 a2 len2 cap2 z2 a3 a4 W w0 w1 w2 w3 w4).mono fun e W' ⟨he, bel⟩ => ?_
  subst he
  exact ⟨_, rfl, _, _, _, [], _, [], hW', trodAll_mk1 (shut_bool Try.underlying4 _), (trodAll_cons_mk (Below.trod laidOut (by kernel_rfl) (of_decide_eq_true (by kernel_rfl)) k0 bel lt0) (trodAll_cons_mk (Below.trod laidOut (by kernel_rfl) (of_decide_eq_true (by kernel_rfl)) k1 bel lt1) (trodAll_cons_mk (Below.trod laidOut (by kernel_rfl) (of_decide_eq_true (by kernel_rfl)) k2 bel lt2) (trodAll_cons_mk (shut_int Try.underlying5 w3) (trodAll_cons_mk (shut_int Try.underlying5 w4) trodAll_mk0))))), rfl, bel.frame _, fun h => by cases h⟩

theorem over : Rows.sbcComparesRow.holds Try.pinned (OpenSpec.ofChange Rows.sbcComparesSpec) :=
  OpenClaim.holds_of_wide 3 Try.f3 rfl rfl rfl rfl rfl rfl rfl ⟨rfl, rfl, rfl, rfl, rfl⟩ rfl rfl rfl rfl rfl (by kernel_rfl) Try.func3 (by kernel_rfl)
    (of_decide_eq_true (by kernel_rfl)) (by unfold Func.isWrapper; first | (rw [if_pos (by decide +kernel)]; kernel_rfl) | (rw [if_neg (by decide +kernel)]; exact ⟨rfl, rfl⟩))
    (fun os started H enc _ => lifted os started H enc)

/-- The statement. -/
theorem proved : Rows.SbcComparesSaid := over
#print axioms proved
end Go.Proofs.Ytklboieemljmiaa.sbcCompares
