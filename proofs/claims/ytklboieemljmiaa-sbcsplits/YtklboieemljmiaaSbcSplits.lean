/-
  Proved: on a device of 16 blocks, of any kind of protection, a write of some blocks is as if each were written by itself, a read of all is the reads of each one behind the other, and WRITE SAME is as many writes of its block; for any bytes, any place.
-/
import Derived.Test.YtklboieemljmiaaRows
import Derived.Test.YtklboieemljmiaaMU
import Derived.Test.YtklboieemljmiaaMT
import Derived.WalkKit
import Derived.ProofKit
import Derived.OpenShut
import Derived.ShutString
import Derived.ChangeOld
import Derived.Below
import Derived.Lib.SmallJoins
namespace Go.Proofs.Ytklboieemljmiaa.sbcSplits
open Go.ChangeShapes Go.WideShapes Go.ChangeAt Go.RowKit Go.Joins
open Go.ChangeMaps (open_string shut_string)
set_option linter.unusedVariables false
set_option linter.unusedSimpArgs false

theorem own : ownKnob Try.prog.godebug = none := by kernel_rfl
theorem laidOut : laidOutB Try.prog = true := by kernel_rfl

/-- A slice of bytes that came in. -/
def IsRow (k : IntKind) (w : World) (a : Option Addr) (len cap : Nat) (zs : List Int) : Prop :=
  (a = none ∧ len = 0 ∧ cap = 0 ∧ zs = []) ∨
  ∃ x, a = some x ∧ len ≤ cap ∧ cap ≤ maxLen ∧ zs.length = cap ∧ (∀ i, i < zs.length → w.cell? (x.add i) = some (.int k (zs.getD i 0))) ∧ ∀ n ∈ zs, (Lit.int k n).wf = true

/-! ### The walk: the Go text returns true. -/
theorem walk (a0 : Option Addr) (len0 cap0 : Nat) (z0 : List Int) (a1 a2 : Int) (a3 : Bool) (w : World) (w0 : IsRow .u8 w a0 len0 cap0 z0) (w1 : (Lit.int .u8 a1).wf = true) (w2 : (Lit.int .u8 a2).wf = true) :
    Calls Try.prog 7 #[.slice a0 len0 cap0, .int .u8 a1, .int .u8 a2, .bool a3] w fun e w' => e = .returned (.bool true) ∧ Below w.heap.size w w' := by
  have hI : Inp w a0 len0 cap0 z0 := inp_of w0
  have h1 := wf_u8 w1
  have h2 := wf_u8 w2
  by_cases hs : len0 < 16
  · exact splits_0 a0 len0 cap0 a2 a1 (a2 % 4) a3 w hs rfl h2 h1
  · obtain ⟨ga, oa, rfl, hga⟩ := hI.shape (by omega)
    obtain ⟨n, hn1, hn6, hnl, hnq⟩ : ∃ n : Nat, 1 ≤ n ∧ n ≤ 6 ∧ n * 16 ≤ len0 ∧ (((len0 : Int) / 16 ≤ 6 ∧ (len0 : Int) / 16 = n) ∨ (6 < (len0 : Int) / 16 ∧ n = 6)) := by
      by_cases h6 : (len0 : Int) / 16 ≤ 6
      · exact ⟨len0 / 16, by omega, by omega, by omega, .inl ⟨h6, by omega⟩⟩
      · exact ⟨6, by omega, by omega, by omega, .inr ⟨by omega, rfl⟩⟩
    have t1 : (z0.take len0).length = len0 := by rw [List.length_take]; have := hI.hz; have := hI.hl; omega
    by_cases hk : a2 % 4 = 0
    · cases a3
      · exact splits_wz ga oa len0 cap0 n (a1 % 10).toNat a2 a1  (z0.take len0) w hn1 hn6 (by omega) hI.hl hI.hc hnq (by omega) (by omega) (by omega) h2 h1 hga (hI.rd len0 (Nat.le_refl _)) t1 (take_bytes hI.byt _)
      · exact splits_sz ga oa len0 cap0 n (a1 % 10).toNat a2 a1  (z0.take len0) w hn1 hn6 (by omega) hI.hl hI.hc hnq (by omega) (by omega) (by omega) h2 h1 hga (hI.rd len0 (Nat.le_refl _)) t1 (take_bytes hI.byt _)
    · cases a3
      · exact splits_wk ga oa len0 cap0 n (a1 % 10).toNat a2 a1 (a2 % 4)  (z0.take len0) w hn1 hn6 (by omega) hI.hl hI.hc hnq (by omega) (by omega) (by omega) (by omega) (by omega) h2 h1 hga (hI.rd len0 (Nat.le_refl _)) t1 (take_bytes hI.byt _)
      · exact splits_sk ga oa len0 cap0 n (a1 % 10).toNat a2 a1 (a2 % 4)  (z0.take len0) w hn1 hn6 (by omega) hI.hl hI.hc hnq (by omega) (by omega) (by omega) (by omega) (by omega) h2 h1 hga (hI.rd len0 (Nat.le_refl _)) t1 (take_bytes hI.byt _)

/-! ### The row. -/
set_option maxRecDepth 100000 in
theorem lifted (os : Os) (started : os.Started) (H : Type) (enc : TypeId × Value → H) :
    ReturnsInHanded {} Try.checked os 7 .any (Rows.sbcSplitsSpec.pre6 enc Try.prog Try.f7 Rows.sbcSplitsRow.domain false) (Rows.sbcSplitsSpec.post enc Try.prog Try.f7 false true false false) := by
  refine returnsInHanded_of_change (C := Try.checked) own started (by kernel_rfl) Try.func7
    (ChangeSpec.witness6 (enc := enc) (C := Try.checked) false ⟨#[], #[.slice none 0 0, .int .u8 0, .int .u8 0, .bool false], []⟩ 8 (by kernel_rfl) (by kernel_rfl) (by kernel_rfl) (by kernel_rfl)) ?_
  intro W base args ds gs before hval0 hW hcnd _
  have hval : ∀ (j : Nat) t v, Try.f7.params[j]? = some t → args[j]? = some v → Value.okWide Try.prog W .any base t v := hval0
  have hW' := hW
  obtain ⟨p, q, hA0, hV, rfl, hfz, hnd⟩ := hW
  have hA : DataW.TrodAll enc Try.prog W 0 (fun _ => true) true Try.f7.params.toList args.toList ds p := hA0
  rw [Try.params7] at hA hval
  obtain ⟨v0, vs0, d0, ds0, p0, q0, hargs, rfl, rfl, h0, r0⟩ := trodAll_cons hA
  obtain ⟨v1, vs1, d1, ds1, p1, q1, rfl, rfl, rfl, h1, r1⟩ := trodAll_cons r0
  obtain ⟨v2, vs2, d2, ds2, p2, q2, rfl, rfl, rfl, h2, r2⟩ := trodAll_cons r1
  obtain ⟨v3, vs3, d3, ds3, p3, q3, rfl, rfl, rfl, h3, r3⟩ := trodAll_cons r2
  obtain ⟨rfl, rfl, rfl⟩ := trodAll_nil r3
  obtain rfl : args = #[v0, v1, v2, v3] := by cases args; simp_all
  obtain ⟨rfl, rfl⟩ := trodVars_none hV
  have k0 := h0
  have lt0 : ∀ x ∈ p0, x.block < W.heap.size := by obtain ⟨m, hm⟩ := k0; exact DataW.trod_lt m _ _ _ hm
  obtain ⟨a0, len0, cap0, rfl⟩ := okWide_slice Try.underlying22 (hval 0 22 v0 rfl rfl)
  obtain ⟨z0, w0⟩ : ∃ zs, IsRow .u8 W a0 len0 cap0 zs := by
    obtain ⟨fuel, hf⟩ := h0
    rcases open_ints Try.underlying22 Try.underlying5 (by kernel_rfl) hf with ⟨hcs, _⟩ | ⟨x, l, c, zs, hcs, _, hl, hm, hz, _, hcell, hwz⟩
    · simp [Value.cells] at hcs
      obtain ⟨rfl, rfl, rfl⟩ := hcs
      exact ⟨[], .inl ⟨rfl, rfl, rfl, rfl⟩⟩
    · simp [Value.cells] at hcs
      obtain ⟨rfl, rfl, rfl⟩ := hcs
      exact ⟨zs, .inr ⟨_, rfl, hl, hm, by simpa using hz, hcell, hwz⟩⟩
  obtain ⟨a1, rfl, rfl, rfl, w1⟩ := open_int Try.underlying5 (hval 1 5 v1 rfl rfl) h1
  obtain ⟨a2, rfl, rfl, rfl, w2⟩ := open_int Try.underlying5 (hval 2 5 v2 rfl rfl) h2
  obtain ⟨a3, rfl, rfl, rfl⟩ := open_bool Try.underlying4 (hval 3 4 v3 rfl rfl) h3
  clear hA0 hval0
  refine (walk a0 len0 cap0 z0 a1 a2 a3 W w0 w1 w2).mono fun e W' ⟨he, bel⟩ => ?_
  subst he
  exact ⟨_, rfl, _, _, _, [], _, [], hW', trodAll_mk1 (shut_bool Try.underlying4 _), (trodAll_cons_mk (Below.trod laidOut (by kernel_rfl) (of_decide_eq_true (by kernel_rfl)) k0 bel lt0) (trodAll_cons_mk (shut_int Try.underlying5 w1) (trodAll_cons_mk (shut_int Try.underlying5 w2) (trodAll_cons_mk (shut_bool Try.underlying4 a3) trodAll_mk0)))), rfl, bel.frame _, fun h => by cases h⟩

theorem over : Rows.sbcSplitsRow.holds Try.pinned (OpenSpec.ofChange Rows.sbcSplitsSpec) :=
  OpenClaim.holds_of_wide 7 Try.f7 rfl rfl rfl rfl rfl rfl rfl ⟨rfl, rfl, rfl, rfl, rfl⟩ rfl rfl rfl rfl rfl (by kernel_rfl) Try.func7 (by kernel_rfl)
    (of_decide_eq_true (by kernel_rfl)) (by unfold Func.isWrapper; first | (rw [if_pos (by decide +kernel)]; kernel_rfl) | (rw [if_neg (by decide +kernel)]; exact ⟨rfl, rfl⟩))
    (fun os started H enc _ => lifted os started H enc)

/-- The statement. -/
theorem proved : Rows.SbcSplitsSaid := over
#print axioms proved
end Go.Proofs.Ytklboieemljmiaa.sbcSplits
