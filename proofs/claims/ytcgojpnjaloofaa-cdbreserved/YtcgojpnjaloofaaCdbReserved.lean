/-
  A bit that is not looked at, turned to 1 in a command that is one, makes it none, with that byte and bit as the fault; what stands behind the command changes nothing: CdbReserved returns true for all bytes, places and bits; no condition.
-/
import Derived.Test.YtcgojpnjaloofaaRows
import Derived.Test.YtcgojpnjaloofaaCLaw
import Derived.Test.YtcgojpnjaloofaaCApp
import Derived.Test.YtcgojpnjaloofaaCRsA
import Derived.Test.YtcgojpnjaloofaaCRsB
import Derived.Test.YtcgojpnjaloofaaCRsC
import Derived.SizedLaws
import Derived.WalkKit
import Derived.ProofKit
import Derived.OpenShut
import Derived.ShutString
import Derived.ChangeOld
import Derived.Below
import Derived.Lib.SmallJoins
namespace Go.Proofs.Ytcgojpnjaloofaa.cdbReserved
open Go.ChangeShapes Go.WideShapes Go.ChangeAt Go.RowKit Go.Joins
open Go.ChangeMaps (open_string shut_string)
set_option linter.unusedVariables false
set_option linter.unusedSimpArgs false

theorem own : ownKnob Try.prog.godebug = none := by kernel_rfl
theorem bytes5 : Try.prog.bytesOf 5 = 1 := by kernel_rfl
theorem laidOut : laidOutB Try.prog = true := by kernel_rfl

/-- A slice of bytes that came in. -/
def IsRow (k : IntKind) (w : World) (a : Option Addr) (len cap : Nat) (zs : List Int) : Prop :=
  (a = none ∧ len = 0 ∧ cap = 0 ∧ zs = []) ∨
  ∃ x, a = some x ∧ len ≤ cap ∧ cap ≤ 140737488351232 ∧ zs.length = cap ∧ (∀ i, i < zs.length → w.cell? (x.add i) = some (.int k (zs.getD i 0))) ∧ ∀ n ∈ zs, (Lit.int k n).wf = true

/-! ### The walk: the Go text returns true. -/
set_option maxRecDepth 100000 in
set_option maxHeartbeats 2000000 in
theorem walk_no (a0 : Option Addr) (len0 cap0 : Nat) (P : List Int) (s : Sn) (a1 a2 : Int) (v3 : Value) (w : World) (hf : faultL P = some s)
    (HP : Kpt (∀ W, Below w.heap.size w W → Calls Try.prog 10 #[.slice a0 len0 cap0] W fun e w' => e = .returned (parseRes P) ∧ Below W.heap.size W w')) :
    Calls Try.prog 5 #[.slice a0 len0 cap0, .int .u8 a1, .int .u8 a2, v3] w fun e w' => e = .returned (.bool true) ∧ Below w.heap.size w w' := by
  have HA := fun w => Kpt.mk (awake_any w)
  have e : parseRes P = .tuple #[.agg zeroC, .agg s.vals, .bool false] := by unfold parseRes; rw [hf]; rfl
  rw [e] at HP
  clear e hf
  obtain ⟨key, code, info, hi, field, bit, hf, ic⟩ := s
  simp only [Sn.vals, zeroC] at HP
  go_enter Try.func5, Try.ntmps5
  go_wp2_with (first
    | (go_at_call 9; refine (HA _).out.mono ?_; rintro e w1 ⟨rfl, hb1⟩; replace hb1 := Kpt.mk hb1)
    | (go_at_call 10; refine (HP.out w1 hb1.out).mono ?_; rintro e w2 ⟨rfl, hb2⟩; have HB2 : Kpt (Below w.heap.size w w2) := ⟨hb1.out.trans (hb2.mono hb1.out.size)⟩; clear hb2))
  go_ret
  exact ⟨rfl, (HB2.out.alloc HB2.out.size _).alloc (by have := HB2.out.size; simp; omega) _⟩

theorem bit_spelt (M : Int) (d : Nat) (hM : 0 ≤ M ∧ M ≤ 255) (hd : d < 8) : (bits .and .u8 (M / 2 ^ d) 1 == 1) = M.toNat.testBit d := by
  have e : M / 2 ^ d = ((M.toNat / 2 ^ d : Nat) : Int) := by
    rw [show M = ((M.toNat : Nat) : Int) by omega]; simp
  have h1 : M.toNat / 2 ^ d < 256 := Nat.lt_of_le_of_lt (Nat.div_le_self _ _) (by omega)
  rw [e, show (1 : Int) = ((1 : Nat) : Int) from rfl, u8_and_nat _ 1 h1 (by decide)]
  rw [Nat.testBit_eq_decide_div_mod_eq, Nat.and_one_is_mod]
  generalize M.toNat / 2 ^ d % 2 = k
  exact Bool.eq_iff_iff.2 (by simp; omega)

theorem walk (a0 : Option Addr) (len0 cap0 : Nat) (z0 : List Int) (a1 a2 : Int) (a3 : Option Addr) (len3 cap3 : Nat) (z3 : List Int) (w : World) (w0 : IsRow .u8 w a0 len0 cap0 z0) (w1 : (Lit.int .u8 a1).wf = true) (w2 : (Lit.int .u8 a2).wf = true) (w3 : IsRow .u8 w a3 len3 cap3 z3) :
    Calls Try.prog 5 #[.slice a0 len0 cap0, .int .u8 a1, .int .u8 a2, .slice a3 len3 cap3] w fun e w' => e = .returned (.bool true) ∧ Below w.heap.size w w' := by
  have hcap0 : cap0 ≤ 140737488351232 := by
    rcases w0 with ⟨_, _, h, _⟩ | ⟨x, _, _, h, _⟩ <;> omega
  have hcap3 : cap3 ≤ 140737488351232 := by
    rcases w3 with ⟨_, _, h, _⟩ | ⟨x, _, _, h, _⟩ <;> omega
  have up : ∀ {a : Option Addr} {l c : Nat} {zs : List Int}, IsRow .u8 w a l c zs → (a = none ∧ l = 0 ∧ c = 0 ∧ zs = []) ∨ ∃ x, a = some x ∧ l ≤ c ∧ c ≤ maxLen ∧ zs.length = c ∧ (∀ i, i < zs.length → w.cell? (x.add i) = some (.int .u8 (zs.getD i 0))) ∧ ∀ n ∈ zs, (Lit.int .u8 n).wf = true := fun h => by
    rcases h with h | ⟨x, h1, h2, h3, h4⟩
    · exact .inl h
    · exact .inr ⟨x, h1, h2, by unfold maxLen; omega, h4⟩
  obtain ⟨hr, hb, hlen, hmax, hlc⟩ := rd_of (up w0)
  obtain ⟨hr3, hb3, hlen3, hmax3, hlc3⟩ := rd_of (up w3)
  have ha1 := wf_u8 w1
  have ha2 := wf_u8 w2
  have HP : Kpt (∀ W, Below w.heap.size w W → Calls Try.prog 10 #[.slice a0 len0 cap0] W fun e w' => e = .returned (parseRes (z0.take len0)) ∧ Below W.heap.size W w') := ⟨fun W hW => parse_any _ _ W (hr.below hW) hb (by omega)⟩
  cases hf : faultL (z0.take len0) with
  | some s => exact walk_no a0 len0 cap0 _ s a1 a2 _ w hf HP
  | none =>
    obtain ⟨P, hP⟩ : ∃ P, P = z0.take len0 := ⟨_, rfl⟩
    obtain ⟨X, hX⟩ : ∃ X, X = z3.take len3 := ⟨_, rfl⟩
    rw [← hP] at hr hb hlen HP hf
    rw [← hX] at hr3 hb3 hlen3
    obtain ⟨h0, hm, hl, ho, hs, hu⟩ := none_facts hf
    obtain ⟨h2, h16, hmb⟩ := (mask_cases _).resolve_left hm
    obtain ⟨b, off, rfl⟩ : ∃ b off, a0 = some ⟨b, off, none⟩ := by
      obtain ⟨a, c, hv, _, _, h⟩ := id hr
      simp only [Value.slice.injEq] at hv
      rcases h with h | ⟨b, off, h, _⟩
      · omega
      · exact ⟨b, off, by rw [hv.1, h]⟩
    obtain ⟨_, hc⟩ := rd_cells hr
    have hlt : b < w.heap.size := hr.lt (by omega) rfl
    have c0 := hc 0 (by omega)
    rw [Nat.add_zero] at c0
    have c1 := hc 1 (by omega)
    have hmp : (0 : Int) < ((maskL (P.getD 0 0)).length : Int) := by omega
    have hn0 := Int.emod_nonneg a1 (show ((maskL (P.getD 0 0)).length : Int) ≠ 0 by omega)
    have hn1 := Int.emod_lt_of_pos a1 hmp
    obtain ⟨i, hi⟩ : ∃ i : Nat, a1 % ((maskL (P.getD 0 0)).length : Int) = (i : Int) := ⟨(a1 % ((maskL (P.getD 0 0)).length : Int)).toNat, by omega⟩
    obtain ⟨d, hd⟩ : ∃ d : Nat, a2 % 8 = (d : Int) := ⟨(a2 % 8).toNat, by omega⟩
    have him : i < (maskL (P.getD 0 0)).length := by omega
    have hd8 : d < 8 := by omega
    have e1 : parseRes P = .tuple #[.agg (cmdL (P.getD 0 0) P).vals, .agg noS.vals, .bool true] := by unfold parseRes; rw [hf]
    rw [e1] at HP
    have hle : (maskL (P.getD 0 0)).length ≤ P.length := hl
    have htl : (P.take (maskL (P.getD 0 0)).length).length = (maskL (P.getD 0 0)).length := by rw [List.length_take]; omega
    have hfr : ∀ j, j < (maskL (P.getD 0 0)).length → (P.take (maskL (P.getD 0 0)).length ++ X).getD j 0 = P.getD j 0 := fun j hj => by
      rw [List.getD_eq_getElem?_getD, List.getElem?_append_left (by omega), ← List.getD_eq_getElem?_getD, getD_take hj]
    have hQb : B.Bytes (P.take (maskL (P.getD 0 0)).length ++ X) := fun j => by
      by_cases hj : j < (maskL (P.getD 0 0)).length
      · rw [hfr j hj]; exact hb j
      · rw [List.getD_eq_getElem?_getD, List.getElem?_append_right (by omega), ← List.getD_eq_getElem?_getD]; exact hb3 _
    have hQl : (P.take (maskL (P.getD 0 0)).length ++ X).length = (maskL (P.getD 0 0)).length + X.length := by rw [List.length_append, htl]
    have HP2 : Kpt (∀ W v, RdAt W v (P.take (maskL (P.getD 0 0)).length ++ X) → Calls Try.prog 10 #[v] W fun e w' => e = .returned (.tuple #[.agg (cmdL (P.getD 0 0) P).vals, .agg noS.vals, .bool true]) ∧ Below W.heap.size W w') := ⟨fun W v hv => by
      rw [← parse_front hf hfr (by omega)]
      exact parse_any v _ W hv hQb (by unfold maxLen; omega)⟩
    have HU : Kpt (∀ s W, Calls Try.prog 12 #[.int .u8 (P.getD 0 0), .int .u8 s] W fun e w' => e = .returned (.tuple #[.slice (some ⟨W.heap.size, 0, none⟩) (maskL (P.getD 0 0)).length (maskL (P.getD 0 0)).length, .bool (servB (P.getD 0 0) s)]) ∧ w' = W.alloc (.cells (cels (maskL (P.getD 0 0))).toArray 5)) := ⟨fun s W => usage_any _ s W hm⟩
    by_cases hi0 : i = 0
    · exact res_A b off len0 cap0 _ i d _ P X _ _ _ a1 a2 _ _ w hlt hlc h2 h16 (by omega) hcap0 ha1 ha2 hi hd him hd8 c0 c1 (hb 1) (by omega) (by omega) rfl rfl hmb ⟨hr⟩ ⟨hr3⟩ HP HP2 HU hi0
    · have hsp := bit_spelt ((maskL (P.getD 0 0)).getD i 0) d (hmb i) hd8
      cases hbt : ((maskL (P.getD 0 0)).getD i 0).toNat.testBit d with
      | true => exact res_B b off len0 cap0 _ i d _ P X _ _ _ a1 a2 _ _ w hlt hlc h2 h16 (by omega) hcap0 ha1 ha2 hi hd him hd8 c0 c1 (hb 1) (by omega) (by omega) rfl rfl hmb ⟨hr⟩ ⟨hr3⟩ HP HP2 HU (by omega) (by rw [hsp]; exact hbt)
      | false =>
        obtain ⟨q1, q2, q3⟩ := front hf hfr (by omega)
        refine res_C b off len0 cap0 _ i d _ P X _ _ _ a1 a2 _ _ w hlt hlc h2 h16 (by omega) hcap0 ha1 ha2 hi hd him hd8 c0 c1 (hb 1) (by omega) (by omega) rfl rfl hmb ⟨hr⟩ ⟨hr3⟩ HP HP2 HU (by omega) (by rw [hsp]; exact hbt) hQb ⟨fun W v hv => ?_⟩
        have ht := turned hQb q1 i d (by omega) (by rw [q3]; exact him) hd8 (bits .or .u8 ((P.take (maskL (P.getD 0 0)).length ++ X).getD i 0) (2 ^ d % 256)) (or_nat _ d (hQb i) hd8) (by rw [q3]; exact hbt)
        rw [← ht]
        refine parse_any v _ W hv ?_ (by rw [List.length_set]; unfold maxLen; omega)
        intro j
        by_cases hj : j = i
        · subst hj
          rw [List.getD_eq_getElem?_getD, List.getElem?_set_self (by omega)]
          have ho := or_nat ((P.take (maskL (P.getD 0 0)).length ++ X).getD j 0) d (hQb j) hd8
          have hlt2 : ((P.take (maskL (P.getD 0 0)).length ++ X).getD j 0).toNat ||| 2 ^ d < 2 ^ 8 := Nat.or_lt_two_pow (by have := hQb j; omega) (Nat.pow_lt_pow_right (by decide) hd8)
          show 0 ≤ bits .or .u8 ((P.take (maskL (P.getD 0 0)).length ++ X).getD j 0) (2 ^ d % 256) ∧ bits .or .u8 ((P.take (maskL (P.getD 0 0)).length ++ X).getD j 0) (2 ^ d % 256) ≤ 255
          rw [ho]
          omega
        · rw [List.getD_eq_getElem?_getD, List.getElem?_set_ne (Ne.symm hj), ← List.getD_eq_getElem?_getD]
          exact hQb j

/-! ### The row. -/
set_option maxRecDepth 100000 in
theorem lifted (os : Os) (started : os.Started) (H : Type) (enc : TypeId × Value → H) :
    ReturnsInHanded {} Try.checked os 5 .any (Rows.cdbReservedSpec.pre6 enc Try.prog Try.f5 Rows.cdbReservedRow.domain false) (Rows.cdbReservedSpec.post enc Try.prog Try.f5 false true false false) := by
  refine returnsInHanded_of_change_sized (C := Try.checked) own started (by kernel_rfl) Try.func5
    (ChangeSpec.witness6 (enc := enc) (C := Try.checked) false ⟨#[], #[.slice none 0 0, .int .u8 0, .int .u8 0, .slice none 0 0], []⟩ 8 (by kernel_rfl) (by kernel_rfl) (by kernel_rfl) (by kernel_rfl)) ?_
  intro W base args ds gs before hval0 hW hcnd hsz0 _
  have hval : ∀ (j : Nat) t v, Try.f5.params[j]? = some t → args[j]? = some v → Value.okWide Try.prog W .any base t v := hval0
  have hsz : (DataW.weightsEach Try.prog (Try.f5.params.toList ++ Rows.cdbReservedSpec.plain.varTypes Try.prog) (ds ++ gs)).all (· ≤ reachBytes) = true := hsz0
  have hW' := hW
  obtain ⟨p, q, hA0, hV, rfl, hfz, hnd⟩ := hW
  have hA : DataW.TrodAll enc Try.prog W 0 (fun _ => true) true Try.f5.params.toList args.toList ds p := hA0
  rw [Try.params5] at hA hval hsz
  obtain ⟨v0, vs0, d0, ds0, p0, q0, hargs, rfl, rfl, h0, r0⟩ := trodAll_cons hA
  obtain ⟨v1, vs1, d1, ds1, p1, q1, rfl, rfl, rfl, h1, r1⟩ := trodAll_cons r0
  obtain ⟨v2, vs2, d2, ds2, p2, q2, rfl, rfl, rfl, h2, r2⟩ := trodAll_cons r1
  obtain ⟨v3, vs3, d3, ds3, p3, q3, rfl, rfl, rfl, h3, r3⟩ := trodAll_cons r2
  obtain ⟨rfl, rfl, rfl⟩ := trodAll_nil r3
  obtain rfl : args = #[v0, v1, v2, v3] := by cases args; simp_all
  obtain ⟨rfl, rfl⟩ := trodVars_none hV
  have k0 := h0
  have lt0 : ∀ x ∈ p0, x.block < W.heap.size := by obtain ⟨m, hm⟩ := k0; exact DataW.trod_lt m _ _ _ hm
  obtain ⟨a0, len0, cap0, rfl⟩ := okWide_slice Try.underlying22 (hval 0 22 v0 rfl rfl)
  obtain ⟨z0, w0⟩ : ∃ zs, IsRow .u8 W a0 len0 cap0 zs := by
    obtain ⟨fuel, hf⟩ := h0
    rcases open_ints Try.underlying22 Try.underlying5 (by kernel_rfl) hf with ⟨hcs, _⟩ | ⟨x, l, c, zs, hcs, _, hl, hm, hz, hx, hcell, hwz⟩
    · simp [Value.cells] at hcs
      obtain ⟨rfl, rfl, rfl⟩ := hcs
      exact ⟨[], .inl ⟨rfl, rfl, rfl, rfl⟩⟩
    · simp [Value.cells] at hcs
      obtain ⟨rfl, rfl, rfl⟩ := hcs
      have hz' : zs.length = cap0 := by simpa using hz
      have hd : d0 = _ := congrArg Prod.fst hx
      have hs := sized_slice hsz (j := 0) (t := 22) (e := 5) rfl (by rw [hd]; rfl) Try.underlying22
      rw [bytes5] at hs
      simp only [lits, List.length_map, List.length_take, List.length_drop, reachBytes] at hs
      exact ⟨zs, .inr ⟨_, rfl, hl, by omega, hz', hcell, hwz⟩⟩
  obtain ⟨a1, rfl, rfl, rfl, w1⟩ := open_int Try.underlying5 (hval 1 5 v1 rfl rfl) h1
  obtain ⟨a2, rfl, rfl, rfl, w2⟩ := open_int Try.underlying5 (hval 2 5 v2 rfl rfl) h2
  have k3 := h3
  have lt3 : ∀ x ∈ p3, x.block < W.heap.size := by obtain ⟨m, hm⟩ := k3; exact DataW.trod_lt m _ _ _ hm
  obtain ⟨a3, len3, cap3, rfl⟩ := okWide_slice Try.underlying22 (hval 3 22 v3 rfl rfl)
  obtain ⟨z3, w3⟩ : ∃ zs, IsRow .u8 W a3 len3 cap3 zs := by
    obtain ⟨fuel, hf⟩ := h3
    rcases open_ints Try.underlying22 Try.underlying5 (by kernel_rfl) hf with ⟨hcs, _⟩ | ⟨x, l, c, zs, hcs, _, hl, hm, hz, hx, hcell, hwz⟩
    · simp [Value.cells] at hcs
      obtain ⟨rfl, rfl, rfl⟩ := hcs
      exact ⟨[], .inl ⟨rfl, rfl, rfl, rfl⟩⟩
    · simp [Value.cells] at hcs
      obtain ⟨rfl, rfl, rfl⟩ := hcs
      have hz' : zs.length = cap3 := by simpa using hz
      have hd : d3 = _ := congrArg Prod.fst hx
      have hs := sized_slice hsz (j := 3) (t := 22) (e := 5) rfl (by rw [hd]; rfl) Try.underlying22
      rw [bytes5] at hs
      simp only [lits, List.length_map, List.length_take, List.length_drop, reachBytes] at hs
      exact ⟨zs, .inr ⟨_, rfl, hl, by omega, hz', hcell, hwz⟩⟩
  clear hA0 hval0
  refine (walk a0 len0 cap0 z0 a1 a2 a3 len3 cap3 z3 W w0 w1 w2 w3).mono fun e W' ⟨he, bel⟩ => ?_
  subst he
  exact ⟨_, rfl, _, _, _, [], _, [], hW', trodAll_mk1 (shut_bool Try.underlying4 _), (trodAll_cons_mk (Below.trod laidOut (by kernel_rfl) (of_decide_eq_true (by kernel_rfl)) k0 bel lt0) (trodAll_cons_mk (shut_int Try.underlying5 w1) (trodAll_cons_mk (shut_int Try.underlying5 w2) (trodAll_cons_mk (Below.trod laidOut (by kernel_rfl) (of_decide_eq_true (by kernel_rfl)) k3 bel lt3) trodAll_mk0)))), rfl, bel.frame _, fun h => by cases h⟩

theorem over : Rows.cdbReservedRow.holds Try.pinned (OpenSpec.ofChange Rows.cdbReservedSpec) :=
  OpenClaim.holds_of_wide 5 Try.f5 rfl rfl rfl rfl rfl rfl rfl ⟨rfl, rfl, rfl, rfl, rfl⟩ rfl rfl rfl rfl rfl (by kernel_rfl) Try.func5 (by kernel_rfl)
    (of_decide_eq_true (by kernel_rfl)) (by unfold Func.isWrapper; first | (rw [if_pos (by decide +kernel)]; kernel_rfl) | (rw [if_neg (by decide +kernel)]; exact ⟨rfl, rfl⟩))
    (fun os started H enc _ => lifted os started H enc)

/-- The statement. -/
theorem proved : Rows.CdbReservedSaid := over
#print axioms proved
end Go.Proofs.Ytcgojpnjaloofaa.cdbReserved
