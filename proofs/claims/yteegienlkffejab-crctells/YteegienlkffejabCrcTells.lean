/-
  Proved: for every list of bytes p, every uint16 at and every byte by the statement CrcTells returns true: bytes that differ in one byte alone have unlike sums. No condition.
-/
import Derived.Test.YteegienlkffejabRows
import Derived.Test.YteegienlkffejabAwake
import Derived.Test.YteegienlkffejabOwn
import Derived.SizedLaws
import Derived.Deep.RegionWith
import Derived.WalkKit
import Derived.ProofKit
import Derived.OpenShut
import Derived.ShutString
import Derived.ChangeOld
import Derived.Below
namespace Go.Proofs.Yteegienlkffejab.crcTells
open Go.ChangeShapes Go.WideShapes Go.ChangeAt Go.RowKit
open Go.ChangeMaps (open_string shut_string)
set_option linter.unusedVariables false

theorem own : ownKnob Try.prog.godebug = none := by kernel_rfl
theorem bytes5 : Try.prog.bytesOf 5 = 1 := by kernel_rfl
theorem laidOut : laidOutB Try.prog = true := by kernel_rfl

/-- A list of integers that came in: nil, or a row of cells that hold them. -/
def IsRow (k : IntKind) (w : World) (a : Option Addr) (len cap : Nat) (zs : List Int) : Prop :=
  (a = none ∧ len = 0 ∧ cap = 0 ∧ zs = []) ∨
  ∃ x, a = some x ∧ len ≤ cap ∧ cap ≤ 140737488351232 ∧ zs.length = cap ∧ (∀ i, i < zs.length → w.cell? (x.add i) = some (.int k (zs.getD i 0))) ∧ ∀ n ∈ zs, (Lit.int k n).wf = true

/-! ### The walk: the Go text returns true. -/
theorem walk (a0 : Option Addr) (len0 cap0 : Nat) (z0 : List Int) (a1 : Int) (a2 : Int) (w : World) (w0 : IsRow .u8 w a0 len0 cap0 z0) (w1 : (Lit.int .u16 a1).wf = true) (w2 : (Lit.int .u8 a2).wf = true) :
    Calls Try.prog 5 #[.slice a0 len0 cap0, .int .u16 a1, .int .u8 a2] w fun e w' => e = .returned (.bool true) ∧ Below w.heap.size w w' := by
  have hreach : len0 ≤ 140737488351232 := by
    rcases w0 with ⟨_, h, _⟩ | ⟨x, _, h1, h2, _⟩
    · omega
    · omega
  have hlm : len0 ≤ maxLen := by unfold maxLen; omega
  obtain ⟨hp0, hz0⟩ := rowAt_of' w0
  have hzl : (z0.take len0).length = len0 := by
    rcases w0 with ⟨_, h, _⟩ | ⟨x, _, h1, h2, h3, _⟩
    · rw [h]; simp
    · rw [List.length_take]; omega
  have hp := hp0.take
  have hb := hz0.take len0
  obtain ⟨Z, hZ⟩ : ∃ Z, Z = z0.take len0 := ⟨_, rfl⟩
  rw [← hZ] at hp hb hzl
  have b1 := bounds_u16 w1
  have b2 := bounds_u8 w2
  obtain ⟨y, rfl⟩ := Int.eq_ofNat_of_zero_le b2.1
  clear hZ hp0 hz0 w0 w1 w2
  by_cases hl0 : len0 = 0
  · have e0 : ((len0 : Int) == 0) = true := by simp [hl0]
    have HL : Hid (len0 = 0) := hl0
    clear hl0
    go_enter Try.func5, Try.ntmps5
    go_wp2_with (go_at_call 7; refine (awake_any _).mono ?_; rintro e w' ⟨rfl, hbel⟩)
    go_ret
    exact ⟨rfl, hbel⟩
  · have e0 : ((len0 : Int) == 0) = false := by simp [hl0]
    by_cases hy0 : y = 0
    · have e1 : ((y : Int) == 0) = true := by simp [hy0]
      clear hy0 hl0
      go_enter Try.func5, Try.ntmps5
      go_wp2_with (go_at_call 7; refine (awake_any _).mono ?_; rintro e w' ⟨rfl, hbel⟩)
      go_ret
      exact ⟨rfl, hbel⟩
    · have e1 : ((y : Int) == 0) = false := by simp [hy0]
      obtain ⟨i, hi⟩ : ∃ i : Nat, a1 % (len0 : Int) = (i : Int) := ⟨(a1 % (len0 : Int)).toNat, by have := Int.emod_nonneg a1 (show (len0 : Int) ≠ 0 by omega); omega⟩
      have hil : i < len0 := by have := Int.emod_lt_of_pos a1 (show (0 : Int) < len0 by omega); omega
      rcases hp with hp | ⟨b, off, rfl, hc⟩
      · omega
      have hlt : b < w.heap.size := World.block_lt_of_cell? w ⟨b, off + 0, none⟩ (hc 0 (by omega))
      have hx := hb i
      obtain ⟨X, hX⟩ : ∃ X : Nat, Z.getD i 0 = (X : Int) := ⟨(Z.getD i 0).toNat, by omega⟩
      have hX2 : X < 256 := by omega
      have hy2 : y < 256 := by omega
      have hxy : X ^^^ y < 256 := by have : X ^^^ y < 2 ^ 8 := Nat.xor_lt_two_pow (by omega) (by omega); omega
      have hne : (Z.getD i 0).toNat ≠ X ^^^ y := by
        rw [hX]; intro h
        have h2 := xor_move X X y (by simpa using h.symm)
        rw [Nat.xor_self] at h2; exact hy0 h2
      have t32 := tells32 Z hb.mem i (by omega) (X ^^^ y) hxy hne 4294967295 (by omega)
      have t16 := tells16 Z hb.mem i (by omega) (X ^^^ y) hxy hne 0 (by omega)
      obtain ⟨L, hL⟩ : ∃ L, L = Z.set i ((X ^^^ y : Nat) : Int) := ⟨_, rfl⟩
      have hLl : L.length = len0 := by rw [hL]; simp [hzl]
      have hLb : Bytes L := by
        intro j
        rw [hL, List.getD_eq_getElem?_getD, List.getElem?_set]
        by_cases hij : i = j
        · rw [if_pos hij, if_pos (by omega)]; simp only [Option.getD_some]; omega
        · rw [if_neg hij, ← List.getD_eq_getElem?_getD]; exact hb j
      rw [← hL] at t32 t16
      have r1 := reg32_lt Z hb.mem 4294967295 (by omega)
      have r2 := reg32_lt L hLb.mem 4294967295 (by omega)
      obtain ⟨P, hP⟩ : ∃ P, P = 4294967295 - reg32 4294967295 Z := ⟨_, rfl⟩
      obtain ⟨Q, hQ⟩ : ∃ Q, Q = 4294967295 - reg32 4294967295 L := ⟨_, rfl⟩
      obtain ⟨S, hS⟩ : ∃ S, S = reg16 0 Z := ⟨_, rfl⟩
      obtain ⟨T, hT⟩ : ∃ T, T = reg16 0 L := ⟨_, rfl⟩
      have n1 : ((P : Int) != (Q : Int)) = true := by simp; omega
      have n2 : ((S : Int) != (T : Int)) = true := by simp; omega
      have kP := fun (W : World) (h : RowAt W (some ⟨b, off, none⟩) len0 Z) => c32_any _ len0 cap0 Z W hzl hlm hb h
      have kQ := fun (W : World) (g c : Nat) (h : RowAt W (some ⟨g, 0, none⟩) len0 L) => c32_any _ len0 c L W hLl hlm hLb h
      have kS := fun (W : World) (h : RowAt W (some ⟨b, off, none⟩) len0 Z) => c16_any _ len0 cap0 Z W hzl hlm hb h
      have kT := fun (W : World) (g c : Nat) (h : RowAt W (some ⟨g, 0, none⟩) len0 L) => c16_any _ len0 c L W hLl hlm hLb h
      rw [← hP] at kP
      rw [← hQ] at kQ
      rw [← hS] at kS
      rw [← hT] at kT
      obtain ⟨i0, hi0, hz0, hz1, hz2⟩ := info_parts Try.info5
      have h1c : ∀ u ∈ Z.map (Value.int .u8), u.oneCell' = true := ints_oneCell _ _
      have hcs : (Z.map (Value.int .u8)).length = len0 * 1 := by simp [hzl]
      have hlb : (0 + len0) * 1 ≤ 140737488355328 := by omega
      have hlm0 : 0 + len0 ≤ maxLen := by omega
      have cc := fun (W : World) (hb : Below w.heap.size w W) (j : Nat) (hj : j < len0) => (hb.cell (p := ⟨b, off + j, none⟩) hlt).trans (hc j hj)
      have hlpos : 0 < len0 := by omega
      have HLset : Hid (L = Z.set i ((X ^^^ y : Nat) : Int)) := hL
      have HX : Hid (Z.getD i 0 = (X : Int)) := hX
      have hxx := u8_xor_nat X y hX2 hy2
      clear hX hL hP hQ hS hT r1 r2 t32 t16 hne hx hb hLb hc hlt hy0 hl0
      go_enter Try.func5, Try.ntmps5
      go_wp2_with (first | (go_at_call 7; refine (awake_any _).mono ?_; rintro e w1 ⟨rfl, hb1⟩; have cc1 := cc _ hb1; have hsrc := src_cells hzl cc1) | (at_builtin; refine wpList_append_own _ rfl (.tmp 23) (.tmp 24) 22 rfl w1.heap.size 5 i0 (.int .u8 0) 1 1 Try.underlying22 hi0 hz0 hz1 hz2 rfl (by decide) (.slice none 0 0) 0 [] rfl (World.ownsRow_nil _ _ _ _) ⟨b, off, none⟩ len0 cap0 (Z.map (Value.int .u8)) rfl hcs hsrc h1c hlm0 hlb (Nat.le_refl _) ?_; intro v1 w2 hown1 hg1 _; simp only [Nat.zero_add, List.nil_append] at hown1; have hb2 := (Below.refl _ _).grown hg1 (Nat.le_refl _) (fun k h => by cases h); obtain ⟨g, cap1, hv1, hbg⟩ := own_shape hown1 hlpos; rw [hv1]; rw [hv1] at hown1; have hci := own_at hown1 i hil _ HX.out; have hfr := hown1.frozenAt i; have hbW := (hb1.trans (hb2.mono hb1.size)).setCell (p := ⟨g, i, none⟩) (Nat.le_trans hb1.size hbg) (.int .u8 ((X ^^^ y : Nat) : Int)); have hpW := rowAt_cells (cc _ hbW); have hqW := rowAt_set hown1 i (X ^^^ y) HLset.out; clear hg1 hv1 hsrc cc1 hown1) | (go_at_call_of 8 off; refine (kP _ hpW).mono ?_; rintro e w' ⟨rfl, rfl⟩) | (go_at_call_of 8 g; refine (kQ _ _ _ hqW).mono ?_; rintro e w' ⟨rfl, rfl⟩) | (go_at_call_of 10 off; refine (kS _ hpW).mono ?_; rintro e w' ⟨rfl, rfl⟩) | (go_at_call_of 10 g; refine (kT _ _ _ hqW).mono ?_; rintro e w' ⟨rfl, rfl⟩))
      go_ret
      exact ⟨rfl, hbW⟩

/-! ### The row. -/
set_option maxRecDepth 100000 in
theorem lifted (os : Os) (started : os.Started) (H : Type) (enc : TypeId × Value → H) :
    ReturnsInHanded {} Try.checked os 5 .any (Rows.crcTellsSpec.pre6 enc Try.prog Try.f5 Rows.crcTellsRow.domain false) (Rows.crcTellsSpec.post enc Try.prog Try.f5 false true false false) := by
  refine returnsInHanded_of_change_sized (C := Try.checked) own started (by kernel_rfl) Try.func5
    (ChangeSpec.witness6 (enc := enc) (C := Try.checked) false ⟨#[], #[.slice none 0 0, .int .u16 0, .int .u8 0], []⟩ 8 (by kernel_rfl) (by kernel_rfl) (by kernel_rfl) (by kernel_rfl)) ?_
  intro W base args ds gs before hval0 hW hcnd hsz0 _
  have hval : ∀ (j : Nat) t v, Try.f5.params[j]? = some t → args[j]? = some v → Value.okWide Try.prog W .any base t v := hval0
  have hsz : (DataW.weightsEach Try.prog (Try.f5.params.toList ++ Rows.crcTellsSpec.plain.varTypes Try.prog) (ds ++ gs)).all (· ≤ reachBytes) = true := hsz0
  have hW' := hW
  obtain ⟨p, q, hA0, hV, rfl, hfz, hnd⟩ := hW
  have hA : DataW.TrodAll enc Try.prog W 0 (fun _ => true) true Try.f5.params.toList args.toList ds p := hA0
  rw [Try.params5] at hA hval hsz
  obtain ⟨v0, vs0, d0, ds0, p0, q0, hargs, rfl, rfl, h0, r0⟩ := trodAll_cons hA
  obtain ⟨v1, vs1, d1, ds1, p1, q1, rfl, rfl, rfl, h1, r1⟩ := trodAll_cons r0
  obtain ⟨v2, vs2, d2, ds2, p2, q2, rfl, rfl, rfl, h2, r2⟩ := trodAll_cons r1
  obtain ⟨rfl, rfl, rfl⟩ := trodAll_nil r2
  obtain rfl : args = #[v0, v1, v2] := by cases args; simp_all
  obtain ⟨rfl, rfl⟩ := trodVars_none hV
  obtain ⟨a0, len0, cap0, rfl⟩ := okWide_slice Try.underlying22 (hval 0 22 v0 rfl rfl)
  have k0 := h0
  have lt0 : ∀ x ∈ p0, x.block < W.heap.size := by obtain ⟨m, hm⟩ := k0; exact DataW.trod_lt m _ _ _ hm
  obtain ⟨z0, w0⟩ : ∃ zs, IsRow .u8 W a0 len0 cap0 zs := by
    obtain ⟨fuel, hf⟩ := h0
    rcases open_ints Try.underlying22 Try.underlying5 (by kernel_rfl) hf with ⟨hcs, _⟩ | ⟨x, l, c, zs, hcs, _, hl, hm, hz, hx, hcell, hwz⟩
    · simp [Value.cells] at hcs
      obtain ⟨rfl, rfl, rfl⟩ := hcs
      exact ⟨[], .inl ⟨rfl, rfl, rfl, rfl⟩⟩
    · simp [Value.cells] at hcs
      obtain ⟨rfl, rfl, rfl⟩ := hcs
      have hz' : zs.length = cap0 := by simpa using hz
      have hd : d0 = _ := congrArg Prod.fst hx
      have hs := sized_slice hsz (j := 0) (t := 22) (e := 5) rfl (by rw [hd]; rfl) Try.underlying22
      rw [bytes5] at hs
      simp only [lits, List.length_map, List.length_take, List.length_drop, reachBytes] at hs
      exact ⟨zs, .inr ⟨_, rfl, hl, by omega, hz', hcell, hwz⟩⟩
  obtain ⟨a1, rfl, rfl, rfl, w1⟩ := open_int Try.underlying24 (hval 1 24 v1 rfl rfl) h1
  obtain ⟨a2, rfl, rfl, rfl, w2⟩ := open_int Try.underlying5 (hval 2 5 v2 rfl rfl) h2
  clear hA0 hval0
  refine (walk a0 len0 cap0 z0 a1 a2 W w0 w1 w2).mono fun e W' ⟨he, bel⟩ => ?_
  subst he
  exact ⟨_, rfl, _, _, _, [], _, [], hW', trodAll_mk1 (shut_bool Try.underlying4 _), (trodAll_cons_mk (Below.trod laidOut (by kernel_rfl) (of_decide_eq_true (by kernel_rfl)) k0 bel lt0) (trodAll_cons_mk (shut_int Try.underlying24 w1) (trodAll_cons_mk (shut_int Try.underlying5 w2) trodAll_mk0))), rfl, bel.frame _, fun h => by cases h⟩

theorem over : Rows.crcTellsRow.holds Try.pinned (OpenSpec.ofChange Rows.crcTellsSpec) :=
  OpenClaim.holds_of_wide 5 Try.f5 rfl rfl rfl rfl rfl rfl rfl ⟨rfl, rfl, rfl, rfl, rfl⟩ rfl rfl rfl rfl rfl (by kernel_rfl) Try.func5 (by kernel_rfl)
    (of_decide_eq_true (by kernel_rfl)) (by unfold Func.isWrapper; first | (rw [if_pos (by decide +kernel)]; kernel_rfl) | (rw [if_neg (by decide +kernel)]; exact ⟨rfl, rfl⟩))
    (fun os started H enc _ => lifted os started H enc)

/-- The statement. -/
theorem proved : Rows.CrcTellsSaid := over
#print axioms proved
end Go.Proofs.Yteegienlkffejab.crcTells
