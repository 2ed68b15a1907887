/-
  Proved: for every list of bytes p, all ints at and n and every uint64 v the statement BePuts returns true: Put answers a copy of p with v laid in, or the error, as the document's answer does, and p stays as it was. No condition.
-/
import Derived.Test.YteegienlkffejaaRows
import Derived.Test.YteegienlkffejaaGet
import Derived.Test.YteegienlkffejaaRPut
import Derived.Test.YteegienlkffejaaSame
import Derived.SizedLaws
import Derived.WalkKit
import Derived.ProofKit
import Derived.OpenShut
import Derived.ShutString
import Derived.ChangeOld
import Derived.Below
namespace Go.Proofs.Yteegienlkffejaa.bePuts
open Go.ChangeShapes Go.WideShapes Go.ChangeAt Go.RowKit
open Go.ChangeMaps (open_string shut_string)
set_option linter.unusedVariables false

theorem own : ownKnob Try.prog.godebug = none := by kernel_rfl
theorem bytes5 : Try.prog.bytesOf 5 = 1 := by kernel_rfl
theorem laidOut : laidOutB Try.prog = true := by kernel_rfl

/-- A list of integers that came in: nil, or a row of cells that hold them. -/
def IsRow (k : IntKind) (w : World) (a : Option Addr) (len cap : Nat) (zs : List Int) : Prop :=
  (a = none ∧ len = 0 ∧ cap = 0 ∧ zs = []) ∨
  ∃ x, a = some x ∧ len ≤ cap ∧ cap ≤ 140737488351232 ∧ zs.length = cap ∧ (∀ i, i < zs.length → w.cell? (x.add i) = some (.int k (zs.getD i 0))) ∧ ∀ n ∈ zs, (Lit.int k n).wf = true

/-! ### The walk: the Go text returns true. -/
theorem walk (a0 : Option Addr) (len0 cap0 : Nat) (z0 : List Int) (a1 : Int) (a2 : Int) (a3 : Int) (w : World) (w0 : IsRow .u8 w a0 len0 cap0 z0) (w1 : (Lit.int .i64 a1).wf = true) (w2 : (Lit.int .i64 a2).wf = true) (w3 : (Lit.int .u64 a3).wf = true) :
    Calls Try.prog 4 #[.slice a0 len0 cap0, .int .i64 a1, .int .i64 a2, .int .u64 a3] w fun e w' => e = .returned (.bool true) ∧ Below w.heap.size w w' := by
  have hreach : len0 ≤ 140737488351232 := by
    rcases w0 with ⟨_, h, _⟩ | ⟨x, _, h1, h2, _⟩
    · omega
    · omega
  have hlm : len0 ≤ maxLen := by unfold maxLen; omega
  obtain ⟨hp0, hz0⟩ := rowAt_of' w0
  have hzl : (z0.take len0).length = len0 := by
    rcases w0 with ⟨_, h, _⟩ | ⟨x, _, h1, h2, h3, _⟩
    · rw [h]; simp
    · rw [List.length_take]; omega
  have hp := hp0.take
  have hzb := hz0.take len0
  obtain ⟨Z, hZ⟩ : ∃ Z, Z = z0.take len0 := ⟨_, rfl⟩
  rw [← hZ] at hp hzb hzl
  have hv := bounds_u64 w3
  have hv0 : 0 ≤ a3 := hv.1
  have hv2 : a3 < 18446744073709551616 := by omega
  clear hZ hp0 hz0 w0 w1 w2 w3 hv
  have cv := fun (W : World) (hb : Below w.heap.size w W) => conv_any W a0 len0 cap0 Z hzl (hp.below hb)
  by_cases hn : widB a2 = true
  · have hn' : 1 ≤ a2 ∧ a2 ≤ 8 := by simpa [widB] using hn
    obtain ⟨n, rfl⟩ := Int.eq_ofNat_of_zero_le (show 0 ≤ a2 by omega)
    by_cases hf : (a3 / 2 ^ (8 * n) != 0) = true
    · skip
      go_enter Try.func4, Try.ntmps4
      go_wp2_with (first | (go_at_call 9; refine (awake_any _).mono ?_; rintro e w' ⟨rfl, hbel, hg⟩; have cv1 := cv _ hbel; clear cv) | (go_at_call 12; refine (put_form _ _ _ _ _ _ _ hn hf).mono ?_; rintro e w' ⟨rfl, rfl⟩) | (go_at_call 13; refine (rput_form _ _ _ _ _ _ _ hlm hn hv0 hv2 hf).mono ?_; rintro e w' ⟨rfl, rfl⟩) | (go_at_call 14; refine (same_nil _).mono ?_; rintro e w' ⟨rfl, rfl⟩))
      go_ret
      exact ⟨rfl, hbel⟩
    · have hf' : (a3 / 2 ^ (8 * n) != 0) = false := Bool.eq_false_iff.2 hf
      clear hf
      by_cases hi : insB len0 a1 n = true
      · have hi' : 0 ≤ a1 ∧ a1 ≤ (len0 : Int) - n := by simpa [insB] using hi
        obtain ⟨i, rfl⟩ := Int.eq_ofNat_of_zero_le (show 0 ≤ a1 by omega)
        rcases hp with hp | ⟨b, off, rfl, hc⟩
        · omega
        have e1 : 1 ≤ n := by omega
        have e2 : n ≤ 8 := by omega
        have e3 : i + n ≤ len0 := by omega
        have hlt : b < w.heap.size := World.block_lt_of_cell? w ⟨b, off + 0, none⟩ (hc 0 (by omega))
        have hal : (asc Z i n a3 n).length = len0 := by rw [asc_len, hzl]
        have cc := fun (W : World) (hb : Below w.heap.size w W) (j : Nat) (hj : j < len0) => (hb.cell (p := ⟨b, off + j, none⟩) hlt).trans (hc j hj)
        clear hi hi' hn hn' hlt hc
        go_enter Try.func4, Try.ntmps4
        go_wp2_with (first | (go_at_call 9; refine (awake_any _).mono ?_; rintro e w1 ⟨rfl, hb1, hg⟩; have cv1 := cv _ hb1; have cc1 := cc _ hb1; clear hg) | (go_at_call 12; refine (put_ok b off len0 cap0 i n a3 Z w1 hzl hreach e1 e2 e3 hv0 hf' cc1).mono ?_; rintro e w2 ⟨g1, rfl, ho1, hb2⟩; have hb12 := hb1.trans (hb2.mono hb1.size); have cc2 := cc _ hb12; clear cc1 cv1) | (go_at_call 13; refine (rput_ok b off len0 cap0 i n a3 Z w2 hzl hreach e1 e2 e3 hv0 hv2 hf' cc2).mono ?_; rintro e w3 ⟨g2, c2, rfl, ho2, hb3⟩; have hb123 := hb12.trans (hb3.mono hb12.size); have hr1 := (rowAt_own ho1).below hb3; have hr2 := rowAt_own ho2; have cv3 := cv _ hb123; clear cc2 ho1 ho2 cc cv) | (go_at_call 14; refine (same_eq _ _ _ _ _ _ _ _ _ hal hal hr1 hr2 rfl).mono ?_; rintro e w' ⟨rfl, rfl⟩))
        go_ret
        exact ⟨rfl, hb123⟩
      · have hi' : insB len0 a1 n = false := Bool.eq_false_iff.2 hi
        clear hi
        go_enter Try.func4, Try.ntmps4
        go_wp2_with (first | (go_at_call 9; refine (awake_any _).mono ?_; rintro e w' ⟨rfl, hbel, hg⟩; have cv1 := cv _ hbel; clear cv) | (go_at_call 12; refine (put_range _ _ _ _ _ _ _ hlm hn hf' hi').mono ?_; rintro e w' ⟨rfl, rfl⟩) | (go_at_call 13; refine (rput_range _ _ _ _ _ _ _ hlm hn hv0 hv2 hf' hi').mono ?_; rintro e w' ⟨rfl, rfl⟩) | (go_at_call 14; refine (same_nil _).mono ?_; rintro e w' ⟨rfl, rfl⟩))
        go_ret
        exact ⟨rfl, hbel⟩
  · have hn' : widB a2 = false := Bool.eq_false_iff.2 hn
    clear hn
    go_enter Try.func4, Try.ntmps4
    go_wp2_with (first | (go_at_call 9; refine (awake_any _).mono ?_; rintro e w' ⟨rfl, hbel, hg⟩; have cv1 := cv _ hbel; clear cv) | (go_at_call 12; refine (put_arg _ _ _ _ _ _ _ hn').mono ?_; rintro e w' ⟨rfl, rfl⟩) | (go_at_call 13; refine (rput_arg _ _ _ _ _ _ _ hn').mono ?_; rintro e w' ⟨rfl, rfl⟩) | (go_at_call 14; refine (same_nil _).mono ?_; rintro e w' ⟨rfl, rfl⟩))
    go_ret
    exact ⟨rfl, hbel⟩

/-! ### The row. -/
set_option maxRecDepth 100000 in
theorem lifted (os : Os) (started : os.Started) (H : Type) (enc : TypeId × Value → H) :
    ReturnsInHanded {} Try.checked os 4 .any (Rows.bePutsSpec.pre6 enc Try.prog Try.f4 Rows.bePutsRow.domain false) (Rows.bePutsSpec.post enc Try.prog Try.f4 false true false false) := by
  refine returnsInHanded_of_change_sized (C := Try.checked) own started (by kernel_rfl) Try.func4
    (ChangeSpec.witness6 (enc := enc) (C := Try.checked) false ⟨#[], #[.slice none 0 0, .int .i64 0, .int .i64 0, .int .u64 0], []⟩ 8 (by kernel_rfl) (by kernel_rfl) (by kernel_rfl) (by kernel_rfl)) ?_
  intro W base args ds gs before hval0 hW hcnd hsz0 _
  have hval : ∀ (j : Nat) t v, Try.f4.params[j]? = some t → args[j]? = some v → Value.okWide Try.prog W .any base t v := hval0
  have hsz : (DataW.weightsEach Try.prog (Try.f4.params.toList ++ Rows.bePutsSpec.plain.varTypes Try.prog) (ds ++ gs)).all (· ≤ reachBytes) = true := hsz0
  have hW' := hW
  obtain ⟨p, q, hA0, hV, rfl, hfz, hnd⟩ := hW
  have hA : DataW.TrodAll enc Try.prog W 0 (fun _ => true) true Try.f4.params.toList args.toList ds p := hA0
  rw [Try.params4] at hA hval hsz
  obtain ⟨v0, vs0, d0, ds0, p0, q0, hargs, rfl, rfl, h0, r0⟩ := trodAll_cons hA
  obtain ⟨v1, vs1, d1, ds1, p1, q1, rfl, rfl, rfl, h1, r1⟩ := trodAll_cons r0
  obtain ⟨v2, vs2, d2, ds2, p2, q2, rfl, rfl, rfl, h2, r2⟩ := trodAll_cons r1
  obtain ⟨v3, vs3, d3, ds3, p3, q3, rfl, rfl, rfl, h3, r3⟩ := trodAll_cons r2
  obtain ⟨rfl, rfl, rfl⟩ := trodAll_nil r3
  obtain rfl : args = #[v0, v1, v2, v3] := by cases args; simp_all
  obtain ⟨rfl, rfl⟩ := trodVars_none hV
  obtain ⟨a0, len0, cap0, rfl⟩ := okWide_slice Try.underlying22 (hval 0 22 v0 rfl rfl)
  have k0 := h0
  have lt0 : ∀ x ∈ p0, x.block < W.heap.size := by obtain ⟨m, hm⟩ := k0; exact DataW.trod_lt m _ _ _ hm
  obtain ⟨z0, w0⟩ : ∃ zs, IsRow .u8 W a0 len0 cap0 zs := by
    obtain ⟨fuel, hf⟩ := h0
    rcases open_ints Try.underlying22 Try.underlying5 (by kernel_rfl) hf with ⟨hcs, _⟩ | ⟨x, l, c, zs, hcs, _, hl, hm, hz, hx, hcell, hwz⟩
    · simp [Value.cells] at hcs
      obtain ⟨rfl, rfl, rfl⟩ := hcs
      exact ⟨[], .inl ⟨rfl, rfl, rfl, rfl⟩⟩
    · simp [Value.cells] at hcs
      obtain ⟨rfl, rfl, rfl⟩ := hcs
      have hz' : zs.length = cap0 := by simpa using hz
      have hd : d0 = _ := congrArg Prod.fst hx
      have hs := sized_slice hsz (j := 0) (t := 22) (e := 5) rfl (by rw [hd]; rfl) Try.underlying22
      rw [bytes5] at hs
      simp only [lits, List.length_map, List.length_take, List.length_drop, reachBytes] at hs
      exact ⟨zs, .inr ⟨_, rfl, hl, by omega, hz', hcell, hwz⟩⟩
  obtain ⟨a1, rfl, rfl, rfl, w1⟩ := open_int Try.underlying3 (hval 1 3 v1 rfl rfl) h1
  obtain ⟨a2, rfl, rfl, rfl, w2⟩ := open_int Try.underlying3 (hval 2 3 v2 rfl rfl) h2
  obtain ⟨a3, rfl, rfl, rfl, w3⟩ := open_int Try.underlying24 (hval 3 24 v3 rfl rfl) h3
  clear hA0 hval0
  refine (walk a0 len0 cap0 z0 a1 a2 a3 W w0 w1 w2 w3).mono fun e W' ⟨he, bel⟩ => ?_
  subst he
  exact ⟨_, rfl, _, _, _, [], _, [], hW', trodAll_mk1 (shut_bool Try.underlying4 _), (trodAll_cons_mk (Below.trod laidOut (by kernel_rfl) (of_decide_eq_true (by kernel_rfl)) k0 bel lt0) (trodAll_cons_mk (shut_int Try.underlying3 w1) (trodAll_cons_mk (shut_int Try.underlying3 w2) (trodAll_cons_mk (shut_int Try.underlying24 w3) trodAll_mk0)))), rfl, bel.frame _, fun h => by cases h⟩

theorem over : Rows.bePutsRow.holds Try.pinned (OpenSpec.ofChange Rows.bePutsSpec) :=
  OpenClaim.holds_of_wide 4 Try.f4 rfl rfl rfl rfl rfl rfl rfl ⟨rfl, rfl, rfl, rfl, rfl⟩ rfl rfl rfl rfl rfl (by kernel_rfl) Try.func4 (by kernel_rfl)
    (of_decide_eq_true (by kernel_rfl)) (by unfold Func.isWrapper; first | (rw [if_pos (by decide +kernel)]; kernel_rfl) | (rw [if_neg (by decide +kernel)]; exact ⟨rfl, rfl⟩))
    (fun os started H enc _ => lifted os started H enc)

/-- The statement. -/
theorem proved : Rows.BePutsSaid := over
#print axioms proved
end Go.Proofs.Yteegienlkffejaa.bePuts
