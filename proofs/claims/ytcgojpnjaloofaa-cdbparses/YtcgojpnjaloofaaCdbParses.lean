/-
  Any bytes as a command, or the sense that tells why they are none: CdbParses returns true for every list of bytes; no condition.
-/
import Derived.Test.YtcgojpnjaloofaaRows
import Derived.Test.YtcgojpnjaloofaaCLaw
import Derived.Test.YtcgojpnjaloofaaCRany
import Derived.WalkKit
import Derived.ProofKit
import Derived.OpenShut
import Derived.ShutString
import Derived.ChangeOld
import Derived.Below
import Derived.Lib.SmallJoins
namespace Go.Proofs.Ytcgojpnjaloofaa.cdbParses
open Go.ChangeShapes Go.WideShapes Go.ChangeAt Go.RowKit Go.Joins
open Go.ChangeMaps (open_string shut_string)
set_option linter.unusedVariables false
set_option linter.unusedSimpArgs false

theorem own : ownKnob Try.prog.godebug = none := by kernel_rfl
theorem laidOut : laidOutB Try.prog = true := by kernel_rfl

/-- A slice of bytes that came in. -/
def IsRow (k : IntKind) (w : World) (a : Option Addr) (len cap : Nat) (zs : List Int) : Prop :=
  (a = none ∧ len = 0 ∧ cap = 0 ∧ zs = []) ∨
  ∃ x, a = some x ∧ len ≤ cap ∧ cap ≤ maxLen ∧ zs.length = cap ∧ (∀ i, i < zs.length → w.cell? (x.add i) = some (.int k (zs.getD i 0))) ∧ ∀ n ∈ zs, (Lit.int k n).wf = true

/-! ### The walk: the Go text returns true. -/
set_option maxRecDepth 100000 in
set_option maxHeartbeats 2000000 in
theorem walk_gen (a0 : Option Addr) (len0 cap0 : Nat) (R : Cm) (S : Sn) (ok : Bool) (w : World)
    (HP : Kpt (∀ W, Below w.heap.size w W → Calls Try.prog 10 #[.slice a0 len0 cap0] W fun e w' => e = .returned (.tuple #[.agg R.vals, .agg S.vals, .bool ok]) ∧ Below W.heap.size W w'))
    (HQ : Kpt (∀ W, Below w.heap.size w W → Calls Try.prog 11 #[.slice a0 len0 cap0] W fun e w' => e = .returned (.tuple #[.agg R.vals, .agg S.vals, .bool ok]) ∧ Below W.heap.size W w')) :
    Calls Try.prog 3 #[.slice a0 len0 cap0] w fun e w' => e = .returned (.bool true) ∧ Below w.heap.size w w' := by
  have HA := fun w => Kpt.mk (awake_any w)
  obtain ⟨kind, long, lba, blocks, alloc, fua, prot, unmap, evpd, page, control, save, service, type, bytes⟩ := R
  obtain ⟨key, code, info, hi, field, bit, hf, ic⟩ := S
  simp only [Cm.vals, Sn.vals] at HP HQ
  go_enter Try.func3, Try.ntmps3
  go_wp2_with (first
    | (go_at_call 9; refine (HA _).out.mono ?_; rintro e w1 ⟨rfl, hb1⟩; replace hb1 := Kpt.mk hb1)
    | (go_at_call 10; refine (HP.out w1 hb1.out).mono ?_; rintro e w2 ⟨rfl, hb2⟩; have HB2 : Kpt (Below w.heap.size w w2) := ⟨hb1.out.trans (hb2.mono hb1.out.size)⟩; clear hb2)
    | (go_at_call 11; refine (HQ.out _ ((HB2.out.alloc HB2.out.size _).alloc (by have := HB2.out.size; simp; omega) _)).mono ?_; rintro e w3 ⟨rfl, hb3⟩; have HB3 : Kpt (Below w.heap.size w w3) := ⟨((HB2.out.alloc HB2.out.size _).alloc (by have := HB2.out.size; simp; omega) _).trans (hb3.mono (by have := HB2.out.size; simp; omega))⟩; have X3 : Kpt (Bx w3 w2.heap.size #[.int .u8 kind, .bool long, .int .u64 lba, .int .u64 blocks, .int .i64 alloc, .bool fua, .int .u8 prot, .bool unmap, .bool evpd, .int .u8 page, .int .u8 control, .bool save, .int .u8 service, .int .u8 type, .bool bytes]) := ⟨((bx_new w2 _ 27).alloc _).below hb3 (by simp; omega)⟩; have Y3 : Kpt (Bx w3 (w2.heap.size + 1) #[.int .u8 key, .int .u16 code, .int .u64 info, .bool hi, .int .i64 field, .int .i64 bit, .bool hf, .bool ic]) := ⟨(bx_new2 w2 _ _ 30).below hb3 (by simp)⟩; have l1 := X3.out.lt; have l2 := Y3.out.lt; have c0 := X3.out.cells 0 (by simp); have c1 := X3.out.cells 1 (by simp); have c2 := X3.out.cells 2 (by simp); have c3 := X3.out.cells 3 (by simp); have c4 := X3.out.cells 4 (by simp); have c5 := X3.out.cells 5 (by simp); have c6 := X3.out.cells 6 (by simp); have c7 := X3.out.cells 7 (by simp); have c8 := X3.out.cells 8 (by simp); have c9 := X3.out.cells 9 (by simp); have c10 := X3.out.cells 10 (by simp); have c11 := X3.out.cells 11 (by simp); have c12 := X3.out.cells 12 (by simp); have c13 := X3.out.cells 13 (by simp); have c14 := X3.out.cells 14 (by simp); simp at c0 c1 c2 c3 c4 c5 c6 c7 c8 c9 c10 c11 c12 c13 c14; have d0 := Y3.out.cells 0 (by simp); have d1 := Y3.out.cells 1 (by simp); have d2 := Y3.out.cells 2 (by simp); have d3 := Y3.out.cells 3 (by simp); have d4 := Y3.out.cells 4 (by simp); have d5 := Y3.out.cells 5 (by simp); have d6 := Y3.out.cells 6 (by simp); have d7 := Y3.out.cells 7 (by simp); simp at d0 d1 d2 d3 d4 d5 d6 d7; clear hb3))
  go_ret
  exact ⟨rfl, (HB3.out.alloc HB3.out.size _).alloc (by have := HB3.out.size; simp; omega) _⟩

theorem walk (a0 : Option Addr) (len0 cap0 : Nat) (z0 : List Int) (w : World) (w0 : IsRow .u8 w a0 len0 cap0 z0) :
    Calls Try.prog 3 #[.slice a0 len0 cap0] w fun e w' => e = .returned (.bool true) ∧ Below w.heap.size w w' := by
  obtain ⟨hr, hb, hlen, hmax, hlc⟩ := rd_of w0
  have HP : ∀ W, Below w.heap.size w W → Calls Try.prog 10 #[.slice a0 len0 cap0] W fun e w' => e = .returned (parseRes (z0.take len0)) ∧ Below W.heap.size W w' := fun W hW => parse_any _ _ W (hr.below hW) hb (by omega)
  have HQ : ∀ W, Below w.heap.size w W → Calls Try.prog 11 #[.slice a0 len0 cap0] W fun e w' => e = .returned (parseRes (z0.take len0)) ∧ Below W.heap.size W w' := fun W hW => rparse_any _ _ W (hr.below hW) hb (by omega)
  cases hf : faultL (z0.take len0) with
  | some s =>
    have e : parseRes (z0.take len0) = .tuple #[.agg noC.vals, .agg s.vals, .bool false] := by unfold parseRes; rw [hf]
    rw [e] at HP HQ
    exact walk_gen a0 len0 cap0 noC s false w ⟨HP⟩ ⟨HQ⟩
  | none =>
    have e : parseRes (z0.take len0) = .tuple #[.agg (cmdL ((z0.take len0).getD 0 0) (z0.take len0)).vals, .agg noS.vals, .bool true] := by unfold parseRes; rw [hf]
    rw [e] at HP HQ
    exact walk_gen a0 len0 cap0 _ noS true w ⟨HP⟩ ⟨HQ⟩

/-! ### The row. -/
set_option maxRecDepth 100000 in
theorem lifted (os : Os) (started : os.Started) (H : Type) (enc : TypeId × Value → H) :
    ReturnsInHanded {} Try.checked os 3 .any (Rows.cdbParsesSpec.pre6 enc Try.prog Try.f3 Rows.cdbParsesRow.domain false) (Rows.cdbParsesSpec.post enc Try.prog Try.f3 false true false false) := by
  refine returnsInHanded_of_change (C := Try.checked) own started (by kernel_rfl) Try.func3
    (ChangeSpec.witness6 (enc := enc) (C := Try.checked) false ⟨#[], #[.slice none 0 0], []⟩ 8 (by kernel_rfl) (by kernel_rfl) (by kernel_rfl) (by kernel_rfl)) ?_
  intro W base args ds gs before hval0 hW hcnd _
  have hval : ∀ (j : Nat) t v, Try.f3.params[j]? = some t → args[j]? = some v → Value.okWide Try.prog W .any base t v := hval0
  have hW' := hW
  obtain ⟨p, q, hA0, hV, rfl, hfz, hnd⟩ := hW
  have hA : DataW.TrodAll enc Try.prog W 0 (fun _ => true) true Try.f3.params.toList args.toList ds p := hA0
  rw [Try.params3] at hA hval
  obtain ⟨v0, vs0, d0, ds0, p0, q0, hargs, rfl, rfl, h0, r0⟩ := trodAll_cons hA
  obtain ⟨rfl, rfl, rfl⟩ := trodAll_nil r0
  obtain rfl : args = #[v0] := by cases args; simp_all
  obtain ⟨rfl, rfl⟩ := trodVars_none hV
  have k0 := h0
  have lt0 : ∀ x ∈ p0, x.block < W.heap.size := by obtain ⟨m, hm⟩ := k0; exact DataW.trod_lt m _ _ _ hm
  obtain ⟨a0, len0, cap0, rfl⟩ := okWide_slice Try.underlying22 (hval 0 22 v0 rfl rfl)
  obtain ⟨z0, w0⟩ : ∃ zs, IsRow .u8 W a0 len0 cap0 zs := by
    obtain ⟨fuel, hf⟩ := h0
    rcases open_ints Try.underlying22 Try.underlying5 (by kernel_rfl) hf with ⟨hcs, _⟩ | ⟨x, l, c, zs, hcs, _, hl, hm, hz, _, hcell, hwz⟩
    · simp [Value.cells] at hcs
      obtain ⟨rfl, rfl, rfl⟩ := hcs
      exact ⟨[], .inl ⟨rfl, rfl, rfl, rfl⟩⟩
    · simp [Value.cells] at hcs
      obtain ⟨rfl, rfl, rfl⟩ := hcs
      exact ⟨zs, .inr ⟨_, rfl, hl, hm, by simpa using hz, hcell, hwz⟩⟩
  clear hA0 hval0
  refine (walk a0 len0 cap0 z0 W w0).mono fun e W' ⟨he, bel⟩ => ?_
  subst he
  exact ⟨_, rfl, _, _, _, [], _, [], hW', trodAll_mk1 (shut_bool Try.underlying4 _), (trodAll_cons_mk (Below.trod laidOut (by kernel_rfl) (of_decide_eq_true (by kernel_rfl)) k0 bel lt0) trodAll_mk0), rfl, bel.frame _, fun h => by cases h⟩

theorem over : Rows.cdbParsesRow.holds Try.pinned (OpenSpec.ofChange Rows.cdbParsesSpec) :=
  OpenClaim.holds_of_wide 3 Try.f3 rfl rfl rfl rfl rfl rfl rfl ⟨rfl, rfl, rfl, rfl, rfl⟩ rfl rfl rfl rfl rfl (by kernel_rfl) Try.func3 (by kernel_rfl)
    (of_decide_eq_true (by kernel_rfl)) (by unfold Func.isWrapper; first | (rw [if_pos (by decide +kernel)]; kernel_rfl) | (rw [if_neg (by decide +kernel)]; exact ⟨rfl, rfl⟩))
    (fun os started H enc _ => lifted os started H enc)

/-- The statement. -/
theorem proved : Rows.CdbParsesSaid := over
#print axioms proved
end Go.Proofs.Ytcgojpnjaloofaa.cdbParses
