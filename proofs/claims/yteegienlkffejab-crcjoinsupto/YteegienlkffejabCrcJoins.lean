/-
  Proved: for every two lists of bytes p and q of bulk together at most 1048576 the statement CrcJoins returns true: the sum of two pieces, one behind the other, is that of the whole, for both sums.
-/
import Derived.Test.YteegienlkffejabRows
import Derived.Test.YteegienlkffejabAwake
import Derived.Test.YteegienlkffejabJoin
import Derived.Deep.RegionWith
import Derived.JoinedCond
import Derived.WalkKit
import Derived.ProofKit
import Derived.OpenShut
import Derived.ShutString
import Derived.ChangeOld
import Derived.Below
namespace Go.Proofs.Yteegienlkffejab.crcJoins
open Go.ChangeShapes Go.WideShapes Go.ChangeAt Go.RowKit
open Go.ChangeMaps (open_string shut_string)
set_option linter.unusedVariables false

theorem own : ownKnob Try.prog.godebug = none := by kernel_rfl
/-- So many values hold at least so much. -/
theorem bulk_all {H : Type} (l : List (DataW H)) : l.length ≤ Rows.uptoBulkAll l := by
  induction l with
  | nil => simp
  | cons x r ih =>
    have h1 : 1 ≤ Rows.uptoBulk x := by
      cases x with
      | lit y => cases y <;> simp [Rows.uptoBulk]
      | _ => simp [Rows.uptoBulk]
    simp only [Rows.uptoBulkAll, List.length_cons]
    omega
theorem bulk_slice {H : Type} (l r : List (DataW H)) : l.length ≤ Rows.uptoBulk (.slice l r) := by
  have := bulk_all l
  simp only [Rows.uptoBulk]
  omega
theorem bulk_bound {H : Type} {l : List (DataW H)} (hk : Rows.uptoSmall H l = true) : Rows.uptoBulkAll l ≤ 1048576 := of_decide_eq_true hk
theorem laidOut : laidOutB Try.prog = true := by kernel_rfl

/-- A list of integers that came in: nil, or a row of cells that hold them. -/
def IsRow (k : IntKind) (w : World) (a : Option Addr) (len cap : Nat) (zs : List Int) : Prop :=
  (a = none ∧ len = 0 ∧ cap = 0 ∧ zs = []) ∨
  ∃ x, a = some x ∧ len ≤ cap ∧ cap ≤ maxLen ∧ zs.length = cap ∧ (∀ i, i < zs.length → w.cell? (x.add i) = some (.int k (zs.getD i 0))) ∧ ∀ n ∈ zs, (Lit.int k n).wf = true

/-! ### The walk: the Go text returns true. -/
theorem walk (a0 : Option Addr) (len0 cap0 : Nat) (z0 : List Int) (a1 : Option Addr) (len1 cap1 : Nat) (z1 : List Int) (w : World) (hsum : len0 + len1 ≤ 140737488355328) (w0 : IsRow .u8 w a0 len0 cap0 z0) (w1 : IsRow .u8 w a1 len1 cap1 z1) :
    Calls Try.prog 4 #[.slice a0 len0 cap0, .slice a1 len1 cap1] w fun e w' => e = .returned (.bool true) ∧ Below w.heap.size w w' := by
  obtain ⟨hp0, hz0, hl0⟩ := rowAt_of w0
  obtain ⟨hq0, hy0, hl1⟩ := rowAt_of w1
  have hzl : (z0.take len0).length = len0 := by
    rcases w0 with ⟨_, h, _⟩ | ⟨x, _, h1, h2, h3, _⟩
    · rw [h]; simp
    · rw [List.length_take]; omega
  have hyl : (z1.take len1).length = len1 := by
    rcases w1 with ⟨_, h, _⟩ | ⟨x, _, h1, h2, h3, _⟩
    · rw [h]; simp
    · rw [List.length_take]; omega
  have hn0 : a0 = none → len0 = 0 ∧ cap0 = 0 := by
    intro h
    rcases w0 with ⟨_, h1, h2, _⟩ | ⟨x, h', _⟩
    · exact ⟨h1, h2⟩
    · rw [h] at h'; cases h'
  have hn1 : a1 = none → len1 = 0 ∧ cap1 = 0 := by
    intro h
    rcases w1 with ⟨_, h1, h2, _⟩ | ⟨x, h', _⟩
    · exact ⟨h1, h2⟩
    · rw [h] at h'; cases h'
  have hp := hp0.take
  have hb := hz0.take len0
  have hq := hq0.take
  have hc := hy0.take len1
  obtain ⟨Z, hZ⟩ : ∃ Z, Z = z0.take len0 := ⟨_, rfl⟩
  obtain ⟨Y, hY⟩ : ∃ Y, Y = z1.take len1 := ⟨_, rfl⟩
  rw [← hZ] at hp hb hzl
  rw [← hY] at hq hc hyl
  clear hZ hY hp0 hz0 hq0 hy0 w0 w1
  have hac : Bytes (Z ++ Y) := by
    intro j
    have h1 := hb j
    have h2 := hc (j - Z.length)
    rw [List.getD_eq_getElem?_getD] at *
    rw [List.getElem?_append]
    split
    · exact h1
    · exact h2
  have hal : (Z ++ Y).length = len0 + len1 := by simp [hzl, hyl]
  have hla : len0 + len1 ≤ maxLen := by unfold maxLen; omega
  have r1 := reg32_lt Z hb.mem 4294967295 (by omega)
  have r2 := reg16_lt Z hb.mem 0 (by omega)
  obtain ⟨P, hP⟩ : ∃ P, P = 4294967295 - reg32 4294967295 Z := ⟨_, rfl⟩
  obtain ⟨A, hA⟩ : ∃ A, A = 4294967295 - reg32 (4294967295 - P) Y := ⟨_, rfl⟩
  obtain ⟨S, hS⟩ : ∃ S, S = reg16 0 Z := ⟨_, rfl⟩
  obtain ⟨T, hT⟩ : ∃ T, T = reg16 S Y := ⟨_, rfl⟩
  have hA2 : 4294967295 - reg32 4294967295 (Z ++ Y) = A := by rw [hA, reg32_append, hP]; congr 2; omega
  have hT2 : reg16 0 (Z ++ Y) = T := by rw [hT, reg16_append, hS]
  have kP := fun (W : World) (h : RowAt W a0 len0 Z) => c32_any a0 len0 cap0 Z W hzl hl0 hb h
  have kA := fun (W : World) (h : RowAt W a1 len1 Y) => add32_any P a1 len1 cap1 Y W (by omega) hyl hl1 hc h
  have kC := fun (W : World) (a : Option Addr) (c : Nat) (h : RowAt W a (len0 + len1) (Z ++ Y)) => c32_any a (len0 + len1) c (Z ++ Y) W hal hla hac h
  have kS := fun (W : World) (h : RowAt W a0 len0 Z) => c16_any a0 len0 cap0 Z W hzl hl0 hb h
  have kT := fun (W : World) (h : RowAt W a1 len1 Y) => add16_any S a1 len1 cap1 Y W (by omega) hyl hl1 hc h
  have kU := fun (W : World) (a : Option Addr) (c : Nat) (h : RowAt W a (len0 + len1) (Z ++ Y)) => c16_any a (len0 + len1) c (Z ++ Y) W hal hla hac h
  rw [← hP] at kP
  rw [← hA] at kA
  rw [hA2] at kC
  rw [← hS] at kS
  rw [← hT] at kT
  rw [hT2] at kU
  clear hP hA hS hT hA2 hT2 r1 r2 hac hal hla hb hc
  have hr0 : 0 + len0 ≤ 140737488355328 := by omega
  go_enter Try.func4, Try.ntmps4
  go_wp2_with (first | (go_at_call 7; refine (awake_any _).mono ?_; rintro e w1 ⟨rfl, hb1⟩; have hp1 := hp.below hb1) | (at_builtin; refine wpList_append_row rfl (.tmp 8) (.tmp 9) rfl w1.heap.size (.slice none 0 0) 0 [] rfl (World.ownsRow_nil _ _ _ _) a0 len0 cap0 Z rfl hn0 hzl hp1 hr0 (Nat.le_refl _) ?_; intro v1 w2 ho1 hb2; simp only [Nat.zero_add, List.nil_append] at ho1; have hb12 := hb1.trans (hb2.mono hb1.size); have hq2 := hq.below hb12; clear hp1) | (at_builtin; refine wpList_append_row rfl (.tmp 11) (.tmp 12) rfl w1.heap.size v1 len0 Z rfl ho1 a1 len1 cap1 Y rfl hn1 hyl hq2 hsum hb2.size ?_; intro v2 w3 ho2 hb3; have hb123 := hb12.trans (hb3.mono hb1.size); have hp3 := hp.below hb123; have hq3 := hq.below hb123; obtain ⟨a2, c2, hv2, hr2⟩ := rowAt_owned ho2; rw [hv2]; clear hv2 ho1 ho2 hq2) | (go_at_call_of 8 cap0; refine (kP _ hp3).mono ?_; rintro e w' ⟨rfl, rfl⟩) | (go_at_call 12; refine (kA _ hq3).mono ?_; rintro e w' ⟨rfl, rfl⟩) | (go_at_call_of 8 c2; refine (kC _ _ _ hr2).mono ?_; rintro e w' ⟨rfl, rfl⟩) | (go_at_call_of 10 cap0; refine (kS _ hp3).mono ?_; rintro e w' ⟨rfl, rfl⟩) | (go_at_call 14; refine (kT _ hq3).mono ?_; rintro e w' ⟨rfl, rfl⟩) | (go_at_call_of 10 c2; refine (kU _ _ _ hr2).mono ?_; rintro e w' ⟨rfl, rfl⟩))
  go_ret
  exact ⟨rfl, hb123⟩

/-! ### The row. -/
set_option maxRecDepth 100000 in
theorem lifted (os : Os) (started : os.Started) (H : Type) (enc : TypeId × Value → H) (F : Stop.Interp) :
    ReturnsInHanded {} Try.checked os 4 .any ((Rows.OpenSpec.upto Rows.crcJoinsSpec).pre6 enc Try.prog Try.f4 Rows.crcJoinsUptoRow.domain false) (((Rows.OpenSpec.upto Rows.crcJoinsSpec).at F).post enc Try.prog Try.f4 false true false false) := by
  refine returnsInHanded_of_cond (C := Try.checked) (s := Rows.OpenSpec.upto Rows.crcJoinsSpec) (k := Rows.uptoSmall) rfl own started (by kernel_rfl) Try.func4
    (OpenSpec.witness (enc := enc) (C := Try.checked) (s := Rows.OpenSpec.upto Rows.crcJoinsSpec) (k := Rows.uptoSmall) rfl false ⟨#[], #[.slice none 0 0, .slice none 0 0], []⟩ 8 (by kernel_rfl) (by kernel_rfl) (by kernel_rfl)
      (x := ([.nil, .nil], [], [])) (by kernel_rfl) rfl (by kernel_rfl)) ?_
  intro W base args ds gs before hval0 hW hcnd hk _
  have hval : ∀ (j : Nat) t v, Try.f4.params[j]? = some t → args[j]? = some v → Value.okWide Try.prog W .any base t v := hval0
  have hW' := hW
  obtain ⟨p, q, hA0, hV, rfl, hfz, hnd⟩ := hW
  have hA : DataW.TrodAll enc Try.prog W 0 (fun _ => true) true Try.f4.params.toList args.toList ds p := hA0
  rw [Try.params4] at hA hval
  obtain ⟨v0, vs0, d0, ds0, p0, q0, hargs, rfl, rfl, h0, r0⟩ := trodAll_cons hA
  obtain ⟨v1, vs1, d1, ds1, p1, q1, rfl, rfl, rfl, h1, r1⟩ := trodAll_cons r0
  obtain ⟨rfl, rfl, rfl⟩ := trodAll_nil r1
  obtain rfl : args = #[v0, v1] := by cases args; simp_all
  obtain ⟨rfl, rfl⟩ := trodVars_none hV
  obtain ⟨a0, len0, cap0, rfl⟩ := okWide_slice Try.underlying22 (hval 0 22 v0 rfl rfl)
  have k0 := h0
  have lt0 : ∀ x ∈ p0, x.block < W.heap.size := by obtain ⟨m, hm⟩ := k0; exact DataW.trod_lt m _ _ _ hm
  obtain ⟨z0, w0, s0⟩ : ∃ zs, IsRow .u8 W a0 len0 cap0 zs ∧ len0 ≤ Rows.uptoBulk d0 := by
    obtain ⟨fuel, hf⟩ := h0
    rcases open_ints Try.underlying22 Try.underlying5 (by kernel_rfl) hf with ⟨hcs, _⟩ | ⟨x, l, c, zs, hcs, _, hl, hm, hz, hx, hcell, hwz⟩
    · simp [Value.cells] at hcs
      obtain ⟨rfl, rfl, rfl⟩ := hcs
      exact ⟨[], .inl ⟨rfl, rfl, rfl, rfl⟩, Nat.zero_le _⟩
    · simp [Value.cells] at hcs
      obtain ⟨rfl, rfl, rfl⟩ := hcs
      have hz' : zs.length = cap0 := by simpa using hz
      have hd : d0 = .slice (lits .u8 (zs.take len0)) (lits .u8 (zs.drop len0)) := congrArg Prod.fst hx
      have hs := bulk_slice (H := H) (lits .u8 (zs.take len0)) (lits .u8 (zs.drop len0))
      rw [← hd] at hs
      simp only [lits, List.length_map, List.length_take] at hs
      exact ⟨zs, .inr ⟨_, rfl, hl, hm, hz', hcell, hwz⟩, by omega⟩
  obtain ⟨a1, len1, cap1, rfl⟩ := okWide_slice Try.underlying22 (hval 1 22 v1 rfl rfl)
  have k1 := h1
  have lt1 : ∀ x ∈ p1, x.block < W.heap.size := by obtain ⟨m, hm⟩ := k1; exact DataW.trod_lt m _ _ _ hm
  obtain ⟨z1, w1, s1⟩ : ∃ zs, IsRow .u8 W a1 len1 cap1 zs ∧ len1 ≤ Rows.uptoBulk d1 := by
    obtain ⟨fuel, hf⟩ := h1
    rcases open_ints Try.underlying22 Try.underlying5 (by kernel_rfl) hf with ⟨hcs, _⟩ | ⟨x, l, c, zs, hcs, _, hl, hm, hz, hx, hcell, hwz⟩
    · simp [Value.cells] at hcs
      obtain ⟨rfl, rfl, rfl⟩ := hcs
      exact ⟨[], .inl ⟨rfl, rfl, rfl, rfl⟩, Nat.zero_le _⟩
    · simp [Value.cells] at hcs
      obtain ⟨rfl, rfl, rfl⟩ := hcs
      have hz' : zs.length = cap1 := by simpa using hz
      have hd : d1 = .slice (lits .u8 (zs.take len1)) (lits .u8 (zs.drop len1)) := congrArg Prod.fst hx
      have hs := bulk_slice (H := H) (lits .u8 (zs.take len1)) (lits .u8 (zs.drop len1))
      rw [← hd] at hs
      simp only [lits, List.length_map, List.length_take] at hs
      exact ⟨zs, .inr ⟨_, rfl, hl, hm, hz', hcell, hwz⟩, by omega⟩
  clear hA0 hval0
  have hb := bulk_bound hk
  simp only [List.append_nil, Rows.uptoBulkAll] at hb
  have hsum : len0 + len1 ≤ 140737488355328 := by omega
  refine (walk a0 len0 cap0 z0 a1 len1 cap1 z1 W hsum w0 w1).mono fun e W' ⟨he, bel⟩ => ?_
  subst he
  exact ⟨_, rfl, _, _, _, [], _, [], hW', trodAll_mk1 (shut_bool Try.underlying4 _), (trodAll_cons_mk (Below.trod laidOut (by kernel_rfl) (of_decide_eq_true (by kernel_rfl)) k0 bel lt0) (trodAll_cons_mk (Below.trod laidOut (by kernel_rfl) (of_decide_eq_true (by kernel_rfl)) k1 bel lt1) trodAll_mk0)), rfl, bel.frame _, fun h => by cases h⟩

theorem over : Rows.crcJoinsUptoRow.holds Try.pinned (Rows.OpenSpec.upto Rows.crcJoinsSpec) :=
  OpenClaim.holds_of_cond 4 Try.f4 rfl rfl rfl rfl rfl rfl rfl ⟨rfl, rfl, rfl, rfl, rfl⟩ rfl rfl rfl rfl rfl (by kernel_rfl) Try.func4 (by kernel_rfl)
    (of_decide_eq_true (by kernel_rfl)) (by unfold Func.isWrapper; first | (rw [if_pos (by decide +kernel)]; kernel_rfl) | (rw [if_neg (by decide +kernel)]; exact ⟨rfl, rfl⟩))
    (fun os started H enc _ F => lifted os started H enc F)

/-- The statement. -/
theorem proved : Rows.CrcJoinsUptoSaid := over
#print axioms proved
end Go.Proofs.Yteegienlkffejab.crcJoins
