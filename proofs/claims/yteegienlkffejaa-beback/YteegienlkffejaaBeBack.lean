/-
  Proved: for every list of bytes p, all bytes at and n and every uint64 v the statement BeBack returns true: what Put laid in is read again by Get, and all other bytes are as they were. No condition.
-/
import Derived.Test.YteegienlkffejaaRows
import Derived.Test.YteegienlkffejaaGet
import Derived.Test.YteegienlkffejaaCut
import Derived.Test.YteegienlkffejaaBackNum
import Derived.SizedLaws
import Derived.WalkKit
import Derived.ProofKit
import Derived.OpenShut
import Derived.ShutString
import Derived.ChangeOld
import Derived.Below
namespace Go.Proofs.Yteegienlkffejaa.beBack
open Go.ChangeShapes Go.WideShapes Go.ChangeAt Go.RowKit
open Go.ChangeMaps (open_string shut_string)
set_option linter.unusedVariables false

theorem own : ownKnob Try.prog.godebug = none := by kernel_rfl
theorem bytes5 : Try.prog.bytesOf 5 = 1 := by kernel_rfl
theorem laidOut : laidOutB Try.prog = true := by kernel_rfl

/-- A list of integers that came in: nil, or a row of cells that hold them. -/
def IsRow (k : IntKind) (w : World) (a : Option Addr) (len cap : Nat) (zs : List Int) : Prop :=
  (a = none ∧ len = 0 ∧ cap = 0 ∧ zs = []) ∨
  ∃ x, a = some x ∧ len ≤ cap ∧ cap ≤ 140737488351232 ∧ zs.length = cap ∧ (∀ i, i < zs.length → w.cell? (x.add i) = some (.int k (zs.getD i 0))) ∧ ∀ n ∈ zs, (Lit.int k n).wf = true

/-! ### The walk: the Go text returns true. -/
theorem walk (a0 : Option Addr) (len0 cap0 : Nat) (z0 : List Int) (a1 : Int) (a2 : Int) (a3 : Int) (w : World) (w0 : IsRow .u8 w a0 len0 cap0 z0) (w1 : (Lit.int .u8 a1).wf = true) (w2 : (Lit.int .u8 a2).wf = true) (w3 : (Lit.int .u64 a3).wf = true) :
    Calls Try.prog 5 #[.slice a0 len0 cap0, .int .u8 a1, .int .u8 a2, .int .u64 a3] w fun e w' => e = .returned (.bool true) ∧ Below w.heap.size w w' := by
  have hreach : len0 ≤ 140737488351232 := by
    rcases w0 with ⟨_, h, _⟩ | ⟨x, _, h1, h2, _⟩
    · omega
    · omega
  have hlm : len0 ≤ maxLen := by unfold maxLen; omega
  have hcap : len0 ≤ cap0 := by
    rcases w0 with ⟨_, h, h', _⟩ | ⟨x, _, h1, h2, _⟩
    · omega
    · exact h1
  obtain ⟨hp0, hz0⟩ := rowAt_of' w0
  have hzl : (z0.take len0).length = len0 := by
    rcases w0 with ⟨_, h, _⟩ | ⟨x, _, h1, h2, h3, _⟩
    · rw [h]; simp
    · rw [List.length_take]; omega
  have hp := hp0.take
  have hzb := hz0.take len0
  obtain ⟨Z, hZ⟩ : ∃ Z, Z = z0.take len0 := ⟨_, rfl⟩
  rw [← hZ] at hp hzb hzl
  have hv := bounds_u64 w3
  have hv0 : 0 ≤ a3 := hv.1
  have hv2 : a3 < 18446744073709551616 := by omega
  have ba1 := bounds_u8 w1
  have ba2 := bounds_u8 w2
  clear hZ hp0 hz0 w0 w1 w2 w3
  obtain ⟨k, hk⟩ : ∃ k : Nat, 1 + a2 % 8 = (k : Int) := ⟨(1 + a2 % 8).toNat, by omega⟩
  have e1 : 1 ≤ k := by omega
  have e2 : k ≤ 8 := by omega
  by_cases hlk : len0 < k
  · go_enter Try.func5, Try.ntmps5
    go_wp2_with (go_at_call 9; refine (awake_any _).mono ?_; rintro e w' ⟨rfl, hbel, hg⟩)
    go_ret
    exact ⟨rfl, hbel⟩
  · obtain ⟨m, rfl⟩ : ∃ m : Nat, len0 = m + k := ⟨len0 - k, by omega⟩
    obtain ⟨i, hi⟩ : ∃ i : Nat, a1 % ((m : Int) + 1) = (i : Int) := ⟨(a1 % ((m : Int) + 1)).toNat, by have := Int.emod_nonneg a1 (show ((m : Int) + 1) ≠ 0 by omega); omega⟩
    have him : (i : Int) < (m : Int) + 1 := by rw [← hi]; exact Int.emod_lt_of_pos _ (by omega)
    have hmk : ((m + k : Nat) : Int) - k = m := by omega
    have hnl : decide ((m : Int) + k < k) = false := decide_eq_false (by omega)
    rcases hp with hp | ⟨b, off, rfl, hc⟩
    · omega
    clear hlk hv
    by_cases hk8 : k < 8
    · have hnz : ¬ IntKind.u64.wrap (2 ^ (8 * k)) = 0 := by rw [pow_wrap k hk8]; exact Int.ne_of_gt (Int.pow_pos (by decide))
      obtain ⟨x, hx⟩ : ∃ x, a3 % IntKind.u64.wrap (2 ^ (8 * k)) = x := ⟨_, rfl⟩
      have hx0 : 0 ≤ x := by rw [← hx]; exact Int.emod_nonneg _ hnz
      have hx1 : x < 2 ^ (8 * k) := by rw [← hx, pow_wrap k hk8]; exact Int.emod_lt_of_pos _ (Int.pow_pos (by decide))
      have hlt : b < w.heap.size := World.block_lt_of_cell? w ⟨b, off + 0, none⟩ (hc 0 (by omega))
      have hal : (asc Z i k x k).length = m + k := by rw [asc_len, hzl]
      have cc := fun (W : World) (hb : Below w.heap.size w W) (j : Nat) (hj : j < m + k) => (hb.cell (p := ⟨b, off + j, none⟩) hlt).trans (hc j hj)
      have e3 : i + k ≤ m + k := by omega
      have hfit := fits x k hx0 hx1
      have hab := bytes_asc Z hzb i k x (by omega) k (Nat.le_refl _)
      have HB : Hid (num (asc Z i k x k) i k = x) := num_back Z i k x (by omega) hx0 hx1
      clear hlt hc
      go_enter Try.func5, Try.ntmps5
      go_wp2_with (first | (go_at_call 9; refine (awake_any _).mono ?_; rintro e w1 ⟨rfl, hb1, hg⟩; have cc1 := cc _ hb1; clear hg) | (go_at_call 12; refine (put_ok b off (m + k) cap0 i k x Z w1 hzl hreach e1 e2 e3 hx0 hfit cc1).mono ?_; rintro e w2 ⟨g1, rfl, ho1, hb2⟩; have hb12 := hb1.trans (hb2.mono hb1.size); have cc2 := cc _ hb12; have cq := own_cells ho1; clear cc1 cc ho1) | (go_at_call 10; refine (get_ok g1 0 (m + k) (m + k) i k (asc Z i k x k) w2 hlm e1 e2 e3 hab cq).mono ?_; rw [HB.out]; rintro e w' ⟨rfl, rfl⟩))
      obtain ⟨V1, s1, c1⟩ := cut_left _ g1 0 (m + k) (m + k) i _ hal (by omega) (Nat.le_refl _) cq
      obtain ⟨V2, s2, c2⟩ := cut_left _ b off (m + k) cap0 i Z hzl (by omega) hcap cc2
      obtain ⟨V3, s3, c3⟩ := cut_right _ g1 0 (m + k) (m + k) (i + k) ((i : Int) + k) (by omega) _ hal (by omega) (Nat.le_refl _) cq
      obtain ⟨V4, s4, c4⟩ := cut_right _ b off (m + k) cap0 (i + k) ((i : Int) + k) (by omega) Z hzl (by omega) hcap cc2
      rw [asc_take Z i k x (by omega)] at c1
      rw [asc_drop Z i k x (by omega)] at c3
      obtain ⟨S1, hS1⟩ : ∃ S, S = strOfNums (Z.take i) := ⟨_, rfl⟩
      obtain ⟨S2, hS2⟩ : ∃ S, S = strOfNums (Z.drop (i + k)) := ⟨_, rfl⟩
      rw [← hS1] at c1 c2
      rw [← hS2] at c3 c4
      clear hS1 hS2 cq cc2 hab HB hal hzl hfit hx1
      go_quiet (fail)
      go_wp2
      go_ret
      exact ⟨rfl, ⟨hb12.os, hb12.tape, hb12.output, hb12.size, hb12.block⟩⟩
    · have hx0 : 0 ≤ a3 := hv0
      have hx1 : a3 < 2 ^ (8 * k) := by rw [show k = 8 by omega]; omega
      have hlt : b < w.heap.size := World.block_lt_of_cell? w ⟨b, off + 0, none⟩ (hc 0 (by omega))
      have hal : (asc Z i k a3 k).length = m + k := by rw [asc_len, hzl]
      have cc := fun (W : World) (hb : Below w.heap.size w W) (j : Nat) (hj : j < m + k) => (hb.cell (p := ⟨b, off + j, none⟩) hlt).trans (hc j hj)
      have e3 : i + k ≤ m + k := by omega
      have hfit := fits a3 k hx0 hx1
      have hab := bytes_asc Z hzb i k a3 (by omega) k (Nat.le_refl _)
      have HB : Hid (num (asc Z i k a3 k) i k = a3) := num_back Z i k a3 (by omega) hx0 hx1
      clear hlt hc
      go_enter Try.func5, Try.ntmps5
      go_wp2_with (first | (go_at_call 9; refine (awake_any _).mono ?_; rintro e w1 ⟨rfl, hb1, hg⟩; have cc1 := cc _ hb1; clear hg) | (go_at_call 12; refine (put_ok b off (m + k) cap0 i k a3 Z w1 hzl hreach e1 e2 e3 hx0 hfit cc1).mono ?_; rintro e w2 ⟨g1, rfl, ho1, hb2⟩; have hb12 := hb1.trans (hb2.mono hb1.size); have cc2 := cc _ hb12; have cq := own_cells ho1; clear cc1 cc ho1) | (go_at_call 10; refine (get_ok g1 0 (m + k) (m + k) i k (asc Z i k a3 k) w2 hlm e1 e2 e3 hab cq).mono ?_; rw [HB.out]; rintro e w' ⟨rfl, rfl⟩))
      obtain ⟨V1, s1, c1⟩ := cut_left _ g1 0 (m + k) (m + k) i _ hal (by omega) (Nat.le_refl _) cq
      obtain ⟨V2, s2, c2⟩ := cut_left _ b off (m + k) cap0 i Z hzl (by omega) hcap cc2
      obtain ⟨V3, s3, c3⟩ := cut_right _ g1 0 (m + k) (m + k) (i + k) ((i : Int) + k) (by omega) _ hal (by omega) (Nat.le_refl _) cq
      obtain ⟨V4, s4, c4⟩ := cut_right _ b off (m + k) cap0 (i + k) ((i : Int) + k) (by omega) Z hzl (by omega) hcap cc2
      rw [asc_take Z i k a3 (by omega)] at c1
      rw [asc_drop Z i k a3 (by omega)] at c3
      obtain ⟨S1, hS1⟩ : ∃ S, S = strOfNums (Z.take i) := ⟨_, rfl⟩
      obtain ⟨S2, hS2⟩ : ∃ S, S = strOfNums (Z.drop (i + k)) := ⟨_, rfl⟩
      rw [← hS1] at c1 c2
      rw [← hS2] at c3 c4
      clear hS1 hS2 cq cc2 hab HB hal hzl hfit hx1
      go_quiet (fail)
      go_wp2
      go_ret
      exact ⟨rfl, ⟨hb12.os, hb12.tape, hb12.output, hb12.size, hb12.block⟩⟩

/-! ### The row. -/
set_option maxRecDepth 100000 in
theorem lifted (os : Os) (started : os.Started) (H : Type) (enc : TypeId × Value → H) :
    ReturnsInHanded {} Try.checked os 5 .any (Rows.beBackSpec.pre6 enc Try.prog Try.f5 Rows.beBackRow.domain false) (Rows.beBackSpec.post enc Try.prog Try.f5 false true false false) := by
  refine returnsInHanded_of_change_sized (C := Try.checked) own started (by kernel_rfl) Try.func5
    (ChangeSpec.witness6 (enc := enc) (C := Try.checked) false ⟨#[], #[.slice none 0 0, .int .u8 0, .int .u8 0, .int .u64 0], []⟩ 8 (by kernel_rfl) (by kernel_rfl) (by kernel_rfl) (by kernel_rfl)) ?_
  intro W base args ds gs before hval0 hW hcnd hsz0 _
  have hval : ∀ (j : Nat) t v, Try.f5.params[j]? = some t → args[j]? = some v → Value.okWide Try.prog W .any base t v := hval0
  have hsz : (DataW.weightsEach Try.prog (Try.f5.params.toList ++ Rows.beBackSpec.plain.varTypes Try.prog) (ds ++ gs)).all (· ≤ reachBytes) = true := hsz0
  have hW' := hW
  obtain ⟨p, q, hA0, hV, rfl, hfz, hnd⟩ := hW
  have hA : DataW.TrodAll enc Try.prog W 0 (fun _ => true) true Try.f5.params.toList args.toList ds p := hA0
  rw [Try.params5] at hA hval hsz
  obtain ⟨v0, vs0, d0, ds0, p0, q0, hargs, rfl, rfl, h0, r0⟩ := trodAll_cons hA
  obtain ⟨v1, vs1, d1, ds1, p1, q1, rfl, rfl, rfl, h1, r1⟩ := trodAll_cons r0
  obtain ⟨v2, vs2, d2, ds2, p2, q2, rfl, rfl, rfl, h2, r2⟩ := trodAll_cons r1
  obtain ⟨v3, vs3, d3, ds3, p3, q3, rfl, rfl, rfl, h3, r3⟩ := trodAll_cons r2
  obtain ⟨rfl, rfl, rfl⟩ := trodAll_nil r3
  obtain rfl : args = #[v0, v1, v2, v3] := by cases args; simp_all
  obtain ⟨rfl, rfl⟩ := trodVars_none hV
  obtain ⟨a0, len0, cap0, rfl⟩ := okWide_slice Try.underlying22 (hval 0 22 v0 rfl rfl)
  have k0 := h0
  have lt0 : ∀ x ∈ p0, x.block < W.heap.size := by obtain ⟨m, hm⟩ := k0; exact DataW.trod_lt m _ _ _ hm
  obtain ⟨z0, w0⟩ : ∃ zs, IsRow .u8 W a0 len0 cap0 zs := by
    obtain ⟨fuel, hf⟩ := h0
    rcases open_ints Try.underlying22 Try.underlying5 (by kernel_rfl) hf with ⟨hcs, _⟩ | ⟨x, l, c, zs, hcs, _, hl, hm, hz, hx, hcell, hwz⟩
    · simp [Value.cells] at hcs
      obtain ⟨rfl, rfl, rfl⟩ := hcs
      exact ⟨[], .inl ⟨rfl, rfl, rfl, rfl⟩⟩
    · simp [Value.cells] at hcs
      obtain ⟨rfl, rfl, rfl⟩ := hcs
      have hz' : zs.length = cap0 := by simpa using hz
      have hd : d0 = _ := congrArg Prod.fst hx
      have hs := sized_slice hsz (j := 0) (t := 22) (e := 5) rfl (by rw [hd]; rfl) Try.underlying22
      rw [bytes5] at hs
      simp only [lits, List.length_map, List.length_take, List.length_drop, reachBytes] at hs
      exact ⟨zs, .inr ⟨_, rfl, hl, by omega, hz', hcell, hwz⟩⟩
  obtain ⟨a1, rfl, rfl, rfl, w1⟩ := open_int Try.underlying5 (hval 1 5 v1 rfl rfl) h1
  obtain ⟨a2, rfl, rfl, rfl, w2⟩ := open_int Try.underlying5 (hval 2 5 v2 rfl rfl) h2
  obtain ⟨a3, rfl, rfl, rfl, w3⟩ := open_int Try.underlying24 (hval 3 24 v3 rfl rfl) h3
  clear hA0 hval0
  refine (walk a0 len0 cap0 z0 a1 a2 a3 W w0 w1 w2 w3).mono fun e W' ⟨he, bel⟩ => ?_
  subst he
  exact ⟨_, rfl, _, _, _, [], _, [], hW', trodAll_mk1 (shut_bool Try.underlying4 _), (trodAll_cons_mk (Below.trod laidOut (by kernel_rfl) (of_decide_eq_true (by kernel_rfl)) k0 bel lt0) (trodAll_cons_mk (shut_int Try.underlying5 w1) (trodAll_cons_mk (shut_int Try.underlying5 w2) (trodAll_cons_mk (shut_int Try.underlying24 w3) trodAll_mk0)))), rfl, bel.frame _, fun h => by cases h⟩

theorem over : Rows.beBackRow.holds Try.pinned (OpenSpec.ofChange Rows.beBackSpec) :=
  OpenClaim.holds_of_wide 5 Try.f5 rfl rfl rfl rfl rfl rfl rfl ⟨rfl, rfl, rfl, rfl, rfl⟩ rfl rfl rfl rfl rfl (by kernel_rfl) Try.func5 (by kernel_rfl)
    (of_decide_eq_true (by kernel_rfl)) (by unfold Func.isWrapper; first | (rw [if_pos (by decide +kernel)]; kernel_rfl) | (rw [if_neg (by decide +kernel)]; exact ⟨rfl, rfl⟩))
    (fun os started H enc _ => lifted os started H enc)

/-- The statement. -/
theorem proved : Rows.BeBackSaid := over
#print axioms proved
end Go.Proofs.Yteegienlkffejaa.beBack
