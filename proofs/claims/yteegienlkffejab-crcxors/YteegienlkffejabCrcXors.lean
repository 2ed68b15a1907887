/-
  Proved: for every two lists of bytes p and q the statement CrcXors returns true: the guard of bytes xored with others is the guards' xor. No condition.
-/
import Derived.Test.YteegienlkffejabRows
import Derived.Test.YteegienlkffejabAwake
import Derived.Test.YteegienlkffejabXor
import Derived.SizedLaws
import Derived.WalkSmall
import Derived.WalkKit
import Derived.ProofKit
import Derived.OpenShut
import Derived.ShutString
import Derived.ChangeOld
import Derived.Below
namespace Go.Proofs.Yteegienlkffejab.crcXors
open Go.ChangeShapes Go.WideShapes Go.ChangeAt Go.RowKit
open Go.ChangeMaps (open_string shut_string)
set_option linter.unusedVariables false

theorem own : ownKnob Try.prog.godebug = none := by kernel_rfl
theorem bytes5 : Try.prog.bytesOf 5 = 1 := by kernel_rfl
theorem laidOut : laidOutB Try.prog = true := by kernel_rfl

/-- A list of integers that came in: nil, or a row of cells that hold them. -/
def IsRow (k : IntKind) (w : World) (a : Option Addr) (len cap : Nat) (zs : List Int) : Prop :=
  (a = none ∧ len = 0 ∧ cap = 0 ∧ zs = []) ∨
  ∃ x, a = some x ∧ len ≤ cap ∧ cap ≤ 140737488351232 ∧ zs.length = cap ∧ (∀ i, i < zs.length → w.cell? (x.add i) = some (.int k (zs.getD i 0))) ∧ ∀ n ∈ zs, (Lit.int k n).wf = true

/-! ### The walk: the Go text returns true. -/
theorem walk (a0 : Option Addr) (len0 cap0 : Nat) (z0 : List Int) (a1 : Option Addr) (len1 cap1 : Nat) (z1 : List Int) (w : World) (w0 : IsRow .u8 w a0 len0 cap0 z0) (w1 : IsRow .u8 w a1 len1 cap1 z1) :
    Calls Try.prog 6 #[.slice a0 len0 cap0, .slice a1 len1 cap1] w fun e w' => e = .returned (.bool true) ∧ Below w.heap.size w w' := by
  have hreach : len0 ≤ 140737488351232 := by
    rcases w0 with ⟨_, h, _⟩ | ⟨x, _, h1, h2, _⟩
    · omega
    · omega
  have hreach1 : len1 ≤ 140737488351232 := by
    rcases w1 with ⟨_, h, _⟩ | ⟨x, _, h1, h2, _⟩
    · omega
    · omega
  obtain ⟨hp0, hz0⟩ := rowAt_of' w0
  obtain ⟨hq0, hy0⟩ := rowAt_of' w1
  have hzl : (z0.take len0).length = len0 := by
    rcases w0 with ⟨_, h, _⟩ | ⟨x, _, h1, h2, h3, _⟩
    · rw [h]; simp
    · rw [List.length_take]; omega
  have hyl : (z1.take len1).length = len1 := by
    rcases w1 with ⟨_, h, _⟩ | ⟨x, _, h1, h2, h3, _⟩
    · rw [h]; simp
    · rw [List.length_take]; omega
  have hc0 : len0 ≤ cap0 := by
    rcases w0 with ⟨_, h, h', _⟩ | ⟨x, _, h1, h2, _⟩
    · omega
    · exact h1
  have hc1 : len1 ≤ cap1 := by
    rcases w1 with ⟨_, h, h', _⟩ | ⟨x, _, h1, h2, _⟩
    · omega
    · exact h1
  have hp := hp0.take
  have hb := hz0.take len0
  have hq := hq0.take
  have hc := hy0.take len1
  obtain ⟨Z, hZ⟩ : ∃ Z, Z = z0.take len0 := ⟨_, rfl⟩
  obtain ⟨Y, hY⟩ : ∃ Y, Y = z1.take len1 := ⟨_, rfl⟩
  rw [← hZ] at hp hb hzl
  rw [← hY] at hq hc hyl
  clear hZ hY hp0 hz0 hq0 hy0 w0 w1
  by_cases hm : len1 < len0
  · skip
    go_enter Try.func6, Try.ntmps6
    go_wp2_with (go_at_call 7; refine (awake_any _).mono ?_; rintro e w1 ⟨rfl, hb1⟩)
    go_loopw [6, 7] (fun v t wr => ∃ k : Nat, k ≤ len1 ∧ t = .int .i64 k ∧ wr.ownsRow w1.heap.size 5 1 v k ((xors Z Y k).map (Value.int .u8)) ∧ Below w1.heap.size w1 wr) (fun _ t _ => len1 - (intOf t).toNat)
    case atStart => exact ⟨0, by omega, rfl, World.ownsRow_nil _ _ _ _, Below.refl _ _⟩
    case round =>
      obtain ⟨k, hk, rfl, hown, hbr⟩ := hrel
      have hbw := hb1.trans (hbr.mono hb1.size)
      have hpr := hp.below hbw
      have hqr := hq.below hbw
      by_cases hlt : k < len1
      · rcases hpr with hpr | ⟨b, off, rfl, hcp⟩
        · omega
        rcases hqr with hqr | ⟨b', off', rfl, hcq⟩
        · omega
        have hx := hb k
        have hy := hc k
        obtain ⟨X, hX⟩ : ∃ X : Nat, Z.getD k 0 = (X : Int) := ⟨(Z.getD k 0).toNat, by omega⟩
        obtain ⟨V, hV⟩ : ∃ V : Nat, Y.getD k 0 = (V : Int) := ⟨(Y.getD k 0).toNat, by omega⟩
        have c1 := hcp k (by omega)
        have c2 := hcq k (by omega)
        rw [hX] at c1 hx
        rw [hV] at c2 hy
        have hxx := u8_xor_nat X V (by omega) (by omega)
        have HX : Hid (xors Z Y (k + 1) = xors Z Y k ++ [((X ^^^ V : Nat) : Int)]) := by unfold Hid; rw [xors, hX, hV]; rfl
        have hroom : k + 1 ≤ 140737488355328 := by omega
        have hsz := hbr.size
        have HO : Hid (wr.ownsRow w1.heap.size 5 1 u6 k ((xors Z Y k).map (Value.int .u8))) := hown
        have i1 : (k : Int) < (len0 : Int) := by omega
        have i2 : (k : Int) < (len1 : Int) := by omega
        clear hX hV hown hcp hcq hp hq
        go_wp2
        go_region_law (refine step_append_one rfl (.tmp 20) (.tmp 30) rfl w1.heap.size u6 k (xors Z Y k) (by simp [Act.eval]) ((HO.out.alloc _).drew) ⟨wr.heap.size, 0, none⟩ 1 ((X ^^^ V : Nat) : Int) (by simp [Act.eval]) (by simp [Addr.add]) hroom (by simp; omega) ?_; intro v1 w2 ho2 hb2)
        all_goals
          go_wp2
          go_roundw
          case rel => exact ⟨k + 1, by omega, by go_num, by rw [HX.out]; exact ho2, ((hbr.alloc hsz _).drew).trans hb2⟩
          case measure => simp [intOf]; omega
      · obtain rfl : len1 = k := by omega
        obtain ⟨ax, cx, hvx, hrx⟩ := rowAt_owned hown
        rw [hvx]
        have hlm0 : len0 ≤ maxLen := by unfold maxLen; omega
        have hlm1 : len1 ≤ maxLen := by unfold maxLen; omega
        obtain ⟨V1, s1, k1⟩ := cut16 _ a0 len0 cap0 len1 Z hzl hb (by omega) hc0 hlm0 hpr
        obtain ⟨V2, s2, k2⟩ := cut16 _ a1 len1 cap1 len1 Y hyl hc (by omega) hc1 hlm1 hqr
        have k3 := whole16 _ ax len1 cx (xors Z Y len1) (xors_len Z Y _) (xors_bytes Z Y hb hc _) (by omega) hrx
        rw [xors_reg Z Y hb.mem hc.mem len1 (by omega) (by omega)] at k3
        have g1 := reg16_lt (Z.take len1) (hb.take _).mem 0 (by omega)
        have g2 := reg16_lt (Y.take len1) (hc.take _).mem 0 (by omega)
        obtain ⟨S, hS⟩ : ∃ S, S = reg16 0 (Z.take len1) := ⟨_, rfl⟩
        obtain ⟨T, hT⟩ : ∃ T, T = reg16 0 (Y.take len1) := ⟨_, rfl⟩
        rw [← hS] at k1 k3 g1
        rw [← hT] at k2 k3 g2
        have hxor := u16_xor_nat S T g1 g2
        clear hS hT hrx hown hp hq hpr hqr hvx
        go_wp2
        go_quiet (first | (go_at_call_of 10 V1; exact Calls.quiet_of_same (k1 _)) | (go_at_call_of 10 V2; exact Calls.quiet_of_same (k2 _)) | (go_at_call_of 10 cx; exact Calls.quiet_of_same (k3 _)))
        go_wp2
        go_ret
        exact ⟨rfl, below_drewN hbw _⟩
  · skip
    go_enter Try.func6, Try.ntmps6
    go_wp2_with (go_at_call 7; refine (awake_any _).mono ?_; rintro e w1 ⟨rfl, hb1⟩)
    go_loopw [6, 7] (fun v t wr => ∃ k : Nat, k ≤ len0 ∧ t = .int .i64 k ∧ wr.ownsRow w1.heap.size 5 1 v k ((xors Z Y k).map (Value.int .u8)) ∧ Below w1.heap.size w1 wr) (fun _ t _ => len0 - (intOf t).toNat)
    case atStart => exact ⟨0, by omega, rfl, World.ownsRow_nil _ _ _ _, Below.refl _ _⟩
    case round =>
      obtain ⟨k, hk, rfl, hown, hbr⟩ := hrel
      have hbw := hb1.trans (hbr.mono hb1.size)
      have hpr := hp.below hbw
      have hqr := hq.below hbw
      by_cases hlt : k < len0
      · rcases hpr with hpr | ⟨b, off, rfl, hcp⟩
        · omega
        rcases hqr with hqr | ⟨b', off', rfl, hcq⟩
        · omega
        have hx := hb k
        have hy := hc k
        obtain ⟨X, hX⟩ : ∃ X : Nat, Z.getD k 0 = (X : Int) := ⟨(Z.getD k 0).toNat, by omega⟩
        obtain ⟨V, hV⟩ : ∃ V : Nat, Y.getD k 0 = (V : Int) := ⟨(Y.getD k 0).toNat, by omega⟩
        have c1 := hcp k (by omega)
        have c2 := hcq k (by omega)
        rw [hX] at c1 hx
        rw [hV] at c2 hy
        have hxx := u8_xor_nat X V (by omega) (by omega)
        have HX : Hid (xors Z Y (k + 1) = xors Z Y k ++ [((X ^^^ V : Nat) : Int)]) := by unfold Hid; rw [xors, hX, hV]; rfl
        have hroom : k + 1 ≤ 140737488355328 := by omega
        have hsz := hbr.size
        have HO : Hid (wr.ownsRow w1.heap.size 5 1 u6 k ((xors Z Y k).map (Value.int .u8))) := hown
        have i1 : (k : Int) < (len0 : Int) := by omega
        have i2 : (k : Int) < (len1 : Int) := by omega
        clear hX hV hown hcp hcq hp hq
        go_wp2
        go_region_law (refine step_append_one rfl (.tmp 20) (.tmp 30) rfl w1.heap.size u6 k (xors Z Y k) (by simp [Act.eval]) ((HO.out.alloc _).drew) ⟨wr.heap.size, 0, none⟩ 1 ((X ^^^ V : Nat) : Int) (by simp [Act.eval]) (by simp [Addr.add]) hroom (by simp; omega) ?_; intro v1 w2 ho2 hb2)
        all_goals
          go_wp2
          go_roundw
          case rel => exact ⟨k + 1, by omega, by go_num, by rw [HX.out]; exact ho2, ((hbr.alloc hsz _).drew).trans hb2⟩
          case measure => simp [intOf]; omega
      · obtain rfl : len0 = k := by omega
        obtain ⟨ax, cx, hvx, hrx⟩ := rowAt_owned hown
        rw [hvx]
        have hlm0 : len0 ≤ maxLen := by unfold maxLen; omega
        have hlm1 : len1 ≤ maxLen := by unfold maxLen; omega
        obtain ⟨V1, s1, k1⟩ := cut16 _ a0 len0 cap0 len0 Z hzl hb (by omega) hc0 hlm0 hpr
        obtain ⟨V2, s2, k2⟩ := cut16 _ a1 len1 cap1 len0 Y hyl hc (by omega) hc1 hlm1 hqr
        have k3 := whole16 _ ax len0 cx (xors Z Y len0) (xors_len Z Y _) (xors_bytes Z Y hb hc _) (by omega) hrx
        rw [xors_reg Z Y hb.mem hc.mem len0 (by omega) (by omega)] at k3
        have g1 := reg16_lt (Z.take len0) (hb.take _).mem 0 (by omega)
        have g2 := reg16_lt (Y.take len0) (hc.take _).mem 0 (by omega)
        obtain ⟨S, hS⟩ : ∃ S, S = reg16 0 (Z.take len0) := ⟨_, rfl⟩
        obtain ⟨T, hT⟩ : ∃ T, T = reg16 0 (Y.take len0) := ⟨_, rfl⟩
        rw [← hS] at k1 k3 g1
        rw [← hT] at k2 k3 g2
        have hxor := u16_xor_nat S T g1 g2
        clear hS hT hrx hown hp hq hpr hqr hvx
        go_wp2
        go_quiet (first | (go_at_call_of 10 V1; exact Calls.quiet_of_same (k1 _)) | (go_at_call_of 10 V2; exact Calls.quiet_of_same (k2 _)) | (go_at_call_of 10 cx; exact Calls.quiet_of_same (k3 _)))
        go_wp2
        go_ret
        exact ⟨rfl, below_drewN hbw _⟩

/-! ### The row. -/
set_option maxRecDepth 100000 in
theorem lifted (os : Os) (started : os.Started) (H : Type) (enc : TypeId × Value → H) :
    ReturnsInHanded {} Try.checked os 6 .any (Rows.crcXorsSpec.pre6 enc Try.prog Try.f6 Rows.crcXorsRow.domain false) (Rows.crcXorsSpec.post enc Try.prog Try.f6 false true false false) := by
  refine returnsInHanded_of_change_sized (C := Try.checked) own started (by kernel_rfl) Try.func6
    (ChangeSpec.witness6 (enc := enc) (C := Try.checked) false ⟨#[], #[.slice none 0 0, .slice none 0 0], []⟩ 8 (by kernel_rfl) (by kernel_rfl) (by kernel_rfl) (by kernel_rfl)) ?_
  intro W base args ds gs before hval0 hW hcnd hsz0 _
  have hval : ∀ (j : Nat) t v, Try.f6.params[j]? = some t → args[j]? = some v → Value.okWide Try.prog W .any base t v := hval0
  have hsz : (DataW.weightsEach Try.prog (Try.f6.params.toList ++ Rows.crcXorsSpec.plain.varTypes Try.prog) (ds ++ gs)).all (· ≤ reachBytes) = true := hsz0
  have hW' := hW
  obtain ⟨p, q, hA0, hV, rfl, hfz, hnd⟩ := hW
  have hA : DataW.TrodAll enc Try.prog W 0 (fun _ => true) true Try.f6.params.toList args.toList ds p := hA0
  rw [Try.params6] at hA hval hsz
  obtain ⟨v0, vs0, d0, ds0, p0, q0, hargs, rfl, rfl, h0, r0⟩ := trodAll_cons hA
  obtain ⟨v1, vs1, d1, ds1, p1, q1, rfl, rfl, rfl, h1, r1⟩ := trodAll_cons r0
  obtain ⟨rfl, rfl, rfl⟩ := trodAll_nil r1
  obtain rfl : args = #[v0, v1] := by cases args; simp_all
  obtain ⟨rfl, rfl⟩ := trodVars_none hV
  obtain ⟨a0, len0, cap0, rfl⟩ := okWide_slice Try.underlying22 (hval 0 22 v0 rfl rfl)
  have k0 := h0
  have lt0 : ∀ x ∈ p0, x.block < W.heap.size := by obtain ⟨m, hm⟩ := k0; exact DataW.trod_lt m _ _ _ hm
  obtain ⟨z0, w0⟩ : ∃ zs, IsRow .u8 W a0 len0 cap0 zs := by
    obtain ⟨fuel, hf⟩ := h0
    rcases open_ints Try.underlying22 Try.underlying5 (by kernel_rfl) hf with ⟨hcs, _⟩ | ⟨x, l, c, zs, hcs, _, hl, hm, hz, hx, hcell, hwz⟩
    · simp [Value.cells] at hcs
      obtain ⟨rfl, rfl, rfl⟩ := hcs
      exact ⟨[], .inl ⟨rfl, rfl, rfl, rfl⟩⟩
    · simp [Value.cells] at hcs
      obtain ⟨rfl, rfl, rfl⟩ := hcs
      have hz' : zs.length = cap0 := by simpa using hz
      have hd : d0 = _ := congrArg Prod.fst hx
      have hs := sized_slice hsz (j := 0) (t := 22) (e := 5) rfl (by rw [hd]; rfl) Try.underlying22
      rw [bytes5] at hs
      simp only [lits, List.length_map, List.length_take, List.length_drop, reachBytes] at hs
      exact ⟨zs, .inr ⟨_, rfl, hl, by omega, hz', hcell, hwz⟩⟩
  obtain ⟨a1, len1, cap1, rfl⟩ := okWide_slice Try.underlying22 (hval 1 22 v1 rfl rfl)
  have k1 := h1
  have lt1 : ∀ x ∈ p1, x.block < W.heap.size := by obtain ⟨m, hm⟩ := k1; exact DataW.trod_lt m _ _ _ hm
  obtain ⟨z1, w1⟩ : ∃ zs, IsRow .u8 W a1 len1 cap1 zs := by
    obtain ⟨fuel, hf⟩ := h1
    rcases open_ints Try.underlying22 Try.underlying5 (by kernel_rfl) hf with ⟨hcs, _⟩ | ⟨x, l, c, zs, hcs, _, hl, hm, hz, hx, hcell, hwz⟩
    · simp [Value.cells] at hcs
      obtain ⟨rfl, rfl, rfl⟩ := hcs
      exact ⟨[], .inl ⟨rfl, rfl, rfl, rfl⟩⟩
    · simp [Value.cells] at hcs
      obtain ⟨rfl, rfl, rfl⟩ := hcs
      have hz' : zs.length = cap1 := by simpa using hz
      have hd : d1 = _ := congrArg Prod.fst hx
      have hs := sized_slice hsz (j := 1) (t := 22) (e := 5) rfl (by rw [hd]; rfl) Try.underlying22
      rw [bytes5] at hs
      simp only [lits, List.length_map, List.length_take, List.length_drop, reachBytes] at hs
      exact ⟨zs, .inr ⟨_, rfl, hl, by omega, hz', hcell, hwz⟩⟩
  clear hA0 hval0
  refine (walk a0 len0 cap0 z0 a1 len1 cap1 z1 W w0 w1).mono fun e W' ⟨he, bel⟩ => ?_
  subst he
  exact ⟨_, rfl, _, _, _, [], _, [], hW', trodAll_mk1 (shut_bool Try.underlying4 _), (trodAll_cons_mk (Below.trod laidOut (by kernel_rfl) (of_decide_eq_true (by kernel_rfl)) k0 bel lt0) (trodAll_cons_mk (Below.trod laidOut (by kernel_rfl) (of_decide_eq_true (by kernel_rfl)) k1 bel lt1) trodAll_mk0)), rfl, bel.frame _, fun h => by cases h⟩

theorem over : Rows.crcXorsRow.holds Try.pinned (OpenSpec.ofChange Rows.crcXorsSpec) :=
  OpenClaim.holds_of_wide 6 Try.f6 rfl rfl rfl rfl rfl rfl rfl ⟨rfl, rfl, rfl, rfl, rfl⟩ rfl rfl rfl rfl rfl (by kernel_rfl) Try.func6 (by kernel_rfl)
    (of_decide_eq_true (by kernel_rfl)) (by unfold Func.isWrapper; first | (rw [if_pos (by decide +kernel)]; kernel_rfl) | (rw [if_neg (by decide +kernel)]; exact ⟨rfl, rfl⟩))
    (fun os started H enc _ => lifted os started H enc)

/-- The statement. -/
theorem proved : Rows.CrcXorsSaid := over
#print axioms proved
end Go.Proofs.Yteegienlkffejab.crcXors
