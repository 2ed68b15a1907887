/-
  Proved: on a device of 16 blocks with protection, blocks that were unmapped, by UNMAP or by WRITE SAME of noughts, are read as noughts, and all others as they were written; for any bytes, any place and count (fewer than 256 bytes are let be).
-/
import Derived.Test.YtklboieemljmiabRows
import Derived.Test.YtklboieemljmiabVUn0
import Derived.Test.YtklboieemljmiabVUnu
import Derived.Test.YtklboieemljmiabVUns
import Derived.WalkKit
import Derived.ProofKit
import Derived.OpenShut
import Derived.ShutString
import Derived.ChangeOld
import Derived.Below
import Derived.Lib.SmallJoins
namespace Go.Proofs.Ytklboieemljmiab.sbcUnmaps
open Go.ChangeShapes Go.WideShapes Go.ChangeAt Go.RowKit Go.Joins
open Go.ChangeMaps (open_string shut_string)
set_option linter.unusedVariables false
set_option linter.unusedSimpArgs false

theorem own : ownKnob Try.prog.godebug = none := by kernel_rfl
theorem laidOut : laidOutB Try.prog = true := by kernel_rfl

/-- A slice of bytes that came in. -/
def IsRow (k : IntKind) (w : World) (a : Option Addr) (len cap : Nat) (zs : List Int) : Prop :=
  (a = none ∧ len = 0 ∧ cap = 0 ∧ zs = []) ∨
  ∃ x, a = some x ∧ len ≤ cap ∧ cap ≤ maxLen ∧ zs.length = cap ∧ (∀ i, i < zs.length → w.cell? (x.add i) = some (.int k (zs.getD i 0))) ∧ ∀ n ∈ zs, (Lit.int k n).wf = true

/-! ### The walk: the Go text returns true. -/
theorem walk (a0 : Option Addr) (len0 cap0 : Nat) (z0 : List Int) (a1 a2 : Int) (a3 : Bool) (w : World) (w0 : IsRow .u8 w a0 len0 cap0 z0) (w1 : (Lit.int .u8 a1).wf = true) (w2 : (Lit.int .u8 a2).wf = true) :
    Calls Try.prog 3 #[.slice a0 len0 cap0, .int .u8 a1, .int .u8 a2, .bool a3] w fun e w' => e = .returned (.bool true) ∧ Below w.heap.size w w' := by
  have hI : Inp w a0 len0 cap0 z0 := inp_of w0
  have h1 := wf_u8 w1
  have h2 := wf_u8 w2
  have hlm : len0 < 9223372036854775808 := by have := hI.hc; have := hI.hl; unfold maxLen at *; omega
  by_cases hs : len0 < 256
  · exact unmaps_0 a0 len0 cap0 a1 a2 a3 w hs
  · obtain ⟨ga, oa, rfl, hga⟩ := hI.shape (by omega)
    have t1 : (z0.take 256).length = 256 := by rw [List.length_take]; have := hI.hz; omega
    obtain ⟨l, hl⟩ : ∃ l : Nat, a1 % 16 = l := ⟨(a1 % 16).toNat, by omega⟩
    obtain ⟨q, hq⟩ : ∃ q : Nat, (16 : Int) - l = q := ⟨16 - l, by omega⟩
    have hq1 : (0 : Int) < q := by omega
    have r0 := Int.emod_nonneg a2 (show (q : Int) ≠ 0 by omega)
    have r1 := Int.emod_lt_of_pos a2 hq1
    obtain ⟨r, hr⟩ : ∃ r : Nat, a2 % q = r := ⟨(a2 % q).toNat, by omega⟩
    rw [hr] at r0 r1
    have hZd : ∀ (W : World), Below w.heap.size w W → ∀ j, j < 256 → W.cell? ⟨ga, oa + j, none⟩ = some (.int .u8 ((z0.take 256).getD j 0)) := fun W hW j hj => rd_byte (rd_below (hI.rd 256 (by omega)) hW) t1 j hj
    cases a3
    · exact unmaps_u ga oa len0 cap0 l q r (1 + r) a1 a2 _ w (by omega) hI.hl hlm (by omega) (by omega) hl hq hr (by omega) (by omega) (by omega) (by omega) hga (hI.rd 256 (by omega)) t1 (take_bytes hI.byt _) hZd
    · exact unmaps_s ga oa len0 cap0 l q r (1 + r) a1 a2 _ w (by omega) hI.hl hlm (by omega) (by omega) hl hq hr (by omega) (by omega) (by omega) (by omega) hga (hI.rd 256 (by omega)) t1 (take_bytes hI.byt _) hZd

/-! ### The row. -/
set_option maxRecDepth 100000 in
theorem lifted (os : Os) (started : os.Started) (H : Type) (enc : TypeId × Value → H) :
    ReturnsInHanded {} Try.checked os 3 .any (Rows.sbcUnmapsSpec.pre6 enc Try.prog Try.f3 Rows.sbcUnmapsRow.domain false) (Rows.sbcUnmapsSpec.post enc Try.prog Try.f3 false true false false) := by
  refine returnsInHanded_of_change (C := Try.checked) own started (by kernel_rfl) Try.func3
    (ChangeSpec.witness6 (enc := enc) (C := Try.checked) false ⟨#[], #[.slice none 0 0, .int .u8 0, .int .u8 0, .bool false], []⟩ 8 (by kernel_rfl) (by kernel_rfl) (by kernel_rfl) (by kernel_rfl)) ?_
  intro W base args ds gs before hval0 hW hcnd _
  have hval : ∀ (j : Nat) t v, Try.f3.params[j]? = some t → args[j]? = some v → Value.okWide Try.prog W .any base t v := hval0
  have hW' := hW
  obtain ⟨p, q, hA0, hV, rfl, hfz, hnd⟩ := hW
  have hA : DataW.TrodAll enc Try.prog W 0 (fun _ => true) true Try.f3.params.toList args.toList ds p := hA0
  rw [Try.params3] at hA hval
  obtain ⟨v0, vs0, d0, ds0, p0, q0, hargs, rfl, rfl, h0, r0⟩ := trodAll_cons hA
  obtain ⟨v1, vs1, d1, ds1, p1, q1, rfl, rfl, rfl, h1, r1⟩ := trodAll_cons r0
  obtain ⟨v2, vs2, d2, ds2, p2, q2, rfl, rfl, rfl, h2, r2⟩ := trodAll_cons r1
  obtain ⟨v3, vs3, d3, ds3, p3, q3, rfl, rfl, rfl, h3, r3⟩ := trodAll_cons r2
  obtain ⟨rfl, rfl, rfl⟩ := trodAll_nil r3
  obtain rfl : args = #[v0, v1, v2, v3] := by cases args; simp_all
  obtain ⟨rfl, rfl⟩ := trodVars_none hV
  have k0 := h0
  have lt0 : ∀ x ∈ p0, x.block < W.heap.size := by obtain ⟨m, hm⟩ := k0; exact DataW.trod_lt m _ _ _ hm
  obtain ⟨a0, len0, cap0, rfl⟩ := okWide_slice Try.underlying22 (hval 0 22 v0 rfl rfl)
  obtain ⟨z0, w0⟩ : ∃ zs, IsRow .u8 W a0 len0 cap0 zs := by
    obtain ⟨fuel, hf⟩ := h0
    rcases open_ints Try.underlying22 Try.underlying5 (by kernel_rfl) hf with ⟨hcs, _⟩ | ⟨x, l, c, zs, hcs, _, hl, hm, hz, _, hcell, hwz⟩
    · simp [Value.cells] at hcs
      obtain ⟨rfl, rfl, rfl⟩ := hcs
      exact ⟨[], .inl ⟨rfl, rfl, rfl, rfl⟩⟩
    · simp [Value.cells] at hcs
      obtain ⟨rfl, rfl, rfl⟩ := hcs
      exact ⟨zs, .inr ⟨_, rfl, hl, hm, by simpa using hz, hcell, hwz⟩⟩
  obtain ⟨a1, rfl, rfl, rfl, w1⟩ := open_int Try.underlying5 (hval 1 5 v1 rfl rfl) h1
  obtain ⟨a2, rfl, rfl, rfl, w2⟩ := open_int Try.underlying5 (hval 2 5 v2 rfl rfl) h2
  obtain ⟨a3, rfl, rfl, rfl⟩ := open_bool Try.underlying4 (hval 3 4 v3 rfl rfl) h3
  clear hA0 hval0
  refine (walk a0 len0 cap0 z0 a1 a2 a3 W w0 w1 w2).mono fun e W' ⟨he, bel⟩ => ?_
  subst he
  exact ⟨_, rfl, _, _, _, [], _, [], hW', trodAll_mk1 (shut_bool Try.underlying4 _), (trodAll_cons_mk (Below.trod laidOut (by kernel_rfl) (of_decide_eq_true (by kernel_rfl)) k0 bel lt0) (trodAll_cons_mk (shut_int Try.underlying5 w1) (trodAll_cons_mk (shut_int Try.underlying5 w2) (trodAll_cons_mk (shut_bool Try.underlying4 a3) trodAll_mk0)))), rfl, bel.frame _, fun h => by cases h⟩

theorem over : Rows.sbcUnmapsRow.holds Try.pinned (OpenSpec.ofChange Rows.sbcUnmapsSpec) :=
  OpenClaim.holds_of_wide 3 Try.f3 rfl rfl rfl rfl rfl rfl rfl ⟨rfl, rfl, rfl, rfl, rfl⟩ rfl rfl rfl rfl rfl (by kernel_rfl) Try.func3 (by kernel_rfl)
    (of_decide_eq_true (by kernel_rfl)) (by unfold Func.isWrapper; first | (rw [if_pos (by decide +kernel)]; kernel_rfl) | (rw [if_neg (by decide +kernel)]; exact ⟨rfl, rfl⟩))
    (fun os started H enc _ => lifted os started H enc)

/-- The statement. -/
theorem proved : Rows.SbcUnmapsSaid := over
#print axioms proved
end Go.Proofs.Ytklboieemljmiab.sbcUnmaps
