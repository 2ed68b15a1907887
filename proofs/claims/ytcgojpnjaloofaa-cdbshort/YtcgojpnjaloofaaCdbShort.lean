/-
  Every beginning of a command, but all of it, is none: for every list of bytes and every cut CdbShort returns true; no condition.
-/
import Derived.Test.YtcgojpnjaloofaaRows
import Derived.Test.YtcgojpnjaloofaaCLaw
import Derived.WalkKit
import Derived.ProofKit
import Derived.OpenShut
import Derived.ShutString
import Derived.ChangeOld
import Derived.Below
import Derived.Lib.SmallJoins
namespace Go.Proofs.Ytcgojpnjaloofaa.cdbShort
open Go.ChangeShapes Go.WideShapes Go.ChangeAt Go.RowKit Go.Joins
open Go.ChangeMaps (open_string shut_string)
set_option linter.unusedVariables false
set_option linter.unusedSimpArgs false

theorem own : ownKnob Try.prog.godebug = none := by kernel_rfl
theorem laidOut : laidOutB Try.prog = true := by kernel_rfl

/-- A slice of bytes that came in. -/
def IsRow (k : IntKind) (w : World) (a : Option Addr) (len cap : Nat) (zs : List Int) : Prop :=
  (a = none ∧ len = 0 ∧ cap = 0 ∧ zs = []) ∨
  ∃ x, a = some x ∧ len ≤ cap ∧ cap ≤ maxLen ∧ zs.length = cap ∧ (∀ i, i < zs.length → w.cell? (x.add i) = some (.int k (zs.getD i 0))) ∧ ∀ n ∈ zs, (Lit.int k n).wf = true

/-! ### The walk: the Go text returns true. -/
set_option maxRecDepth 100000 in
set_option maxHeartbeats 2000000 in
theorem walk_no (a0 : Option Addr) (len0 cap0 : Nat) (P : List Int) (s : Sn) (a1 : Int) (w : World) (hf : faultL P = some s)
    (HP : Kpt (∀ W, Below w.heap.size w W → Calls Try.prog 10 #[.slice a0 len0 cap0] W fun e w' => e = .returned (parseRes P) ∧ Below W.heap.size W w')) :
    Calls Try.prog 6 #[.slice a0 len0 cap0, .int .u8 a1] w fun e w' => e = .returned (.bool true) ∧ Below w.heap.size w w' := by
  have HA := fun w => Kpt.mk (awake_any w)
  have e : parseRes P = .tuple #[.agg zeroC, .agg s.vals, .bool false] := by unfold parseRes; rw [hf]; rfl
  rw [e] at HP
  clear e hf
  obtain ⟨key, code, info, hi, field, bit, hf, ic⟩ := s
  simp only [Sn.vals, zeroC] at HP
  go_enter Try.func6, Try.ntmps6
  go_wp2_with (first
    | (go_at_call 9; refine (HA _).out.mono ?_; rintro e w1 ⟨rfl, hb1⟩; replace hb1 := Kpt.mk hb1)
    | (go_at_call 10; refine (HP.out w1 hb1.out).mono ?_; rintro e w2 ⟨rfl, hb2⟩; have HB2 : Kpt (Below w.heap.size w w2) := ⟨hb1.out.trans (hb2.mono hb1.out.size)⟩; clear hb2))
  go_ret
  exact ⟨rfl, (HB2.out.alloc HB2.out.size _).alloc (by have := HB2.out.size; simp; omega) _⟩

set_option maxRecDepth 100000 in
set_option maxHeartbeats 2000000 in
theorem walk_yes (b off len cap m n : Nat) (P : List Int) (op y1 a1 : Int) (R : Cm) (cs : Array Value) (w : World) (hlt : b < w.heap.size) (hlc : len ≤ cap) (h2 : 2 ≤ m) (hm16 : m ≤ 16) (hml : m ≤ len) (hmax : len ≤ maxLen) (ha : 0 ≤ a1 ∧ a1 ≤ 255) (hn : (n : Int) = a1 % m)
    (c0 : w.cell? ⟨b, off, none⟩ = some (.int .u8 op)) (c1 : w.cell? ⟨b, off + 1, none⟩ = some (.int .u8 y1)) (hy : 0 ≤ y1 ∧ y1 ≤ 255)
    (HP : Kpt (∀ W, Below w.heap.size w W → Calls Try.prog 10 #[.slice (some ⟨b, off, none⟩) len cap] W fun e w' => e = .returned (.tuple #[.agg R.vals, .agg noS.vals, .bool true]) ∧ Below W.heap.size W w'))
    (HP2 : Kpt (∀ W, Below w.heap.size w W → Calls Try.prog 10 #[.slice (some ⟨b, off, none⟩) n cap] W fun e w' => e = .returned (.tuple #[.agg noC.vals, .agg (faultS n (-1)).vals, .bool false]) ∧ Below W.heap.size W w'))
    (HU : Kpt (∀ s W, Calls Try.prog 12 #[.int .u8 op, .int .u8 s] W fun e w' => e = .returned (.tuple #[.slice (some ⟨W.heap.size, 0, none⟩) m m, .bool (servB op s)]) ∧ w' = W.alloc (.cells cs 5))) :
    Calls Try.prog 6 #[.slice (some ⟨b, off, none⟩) len cap, .int .u8 a1] w fun e w' => e = .returned (.bool true) ∧ Below w.heap.size w w' := by
  have HA := fun w => Kpt.mk (awake_any w)
  have HF1 : ∀ w, Kpt (Calls Try.prog 14 #[.int .i64 (a1 % (m : Int)), .int .i64 (-1)] w fun e w' => e = .returned (.agg (faultS n (-1)).vals) ∧ Below w.heap.size w w') := fun w => ⟨by have := fault_any (a1 % (m : Int)) (-1) w; rw [← hn] at this ⊢; exact this⟩
  obtain ⟨kind, long, lba, blocks, alloc, fua, prot, unmap, evpd, page, control, save, service, type, bytes⟩ := R
  simp only [Cm.vals, Sn.vals, noC, noS, faultS] at HP HP2 HF1
  unfold maxLen at hmax
  have hnm : n < m := by have := Int.emod_lt_of_pos a1 (show (0 : Int) < m by omega); omega
  have e1 : (2 : Int) ≤ m := by omega
  have e2 : (m : Int) ≤ len := by omega
  have e3 : (len : Int) ≤ cap := by omega
  have e4 : ¬ (m : Int) = 0 := by omega
  have e5 : (n : Int) ≤ cap := by omega
  have e6 : (1 : Int) < len := by omega
  have hn' : a1 % (m : Int) = (n : Int) := hn.symm
  have c0K := Kpt.mk c0
  have c1K := Kpt.mk c1
  clear hn c0 c1
  go_enter Try.func6, Try.ntmps6
  go_wp2_with (first
    | (go_at_call 9; refine (HA _).out.mono ?_; rintro e w1 ⟨rfl, hb1⟩; replace hb1 := Kpt.mk hb1)
    | (go_at_call 10; (refine (HP.out w1 hb1.out).mono ?_; rintro e w2 ⟨rfl, hb2⟩; have HB2 : Kpt (Below w.heap.size w w2) := ⟨hb1.out.trans (hb2.mono hb1.out.size)⟩; have k0 : w2.cell? ⟨b, off, none⟩ = some (.int .u8 op) := (HB2.out.cell (p := ⟨b, off, none⟩) hlt).trans c0K.out; have k1 : w2.cell? ⟨b, off + 1, none⟩ = some (.int .u8 y1) := (HB2.out.cell (p := ⟨b, off + 1, none⟩) hlt).trans c1K.out; have hlt2 : b < w2.heap.size := Nat.lt_of_lt_of_le hlt HB2.out.size; clear hb2))
    | (go_at_call 12; (refine (HU.out _ _).mono ?_; rintro e w3 ⟨rfl, rfl⟩; have HB3 : Kpt (Below w.heap.size w ((w2.alloc (.cells #[.int .u8 kind, .bool long, .int .u64 lba, .int .u64 blocks, .int .i64 alloc, .bool fua, .int .u8 prot, .bool unmap, .bool evpd, .int .u8 page, .int .u8 control, .bool save, .int .u8 service, .int .u8 type, .bool bytes] 27)).alloc (.cells #[.int .u8 0, .int .u16 0, .int .u64 0, .bool false, .int .i64 0, .int .i64 0, .bool false, .bool false] 30))) := ⟨(HB2.out.alloc HB2.out.size _).alloc (by have := HB2.out.size; simp; omega) _⟩; clear HP)))
  refine (HP2.out _ (HB3.out.alloc (by have := HB3.out.size; omega) _)).mono ?_
  rintro e w4 ⟨rfl, hb4⟩
  have HB4 : Kpt (Below w.heap.size w w4) := ⟨(HB3.out.alloc (by have := HB3.out.size; omega) _).trans (hb4.mono (by have := HB3.out.size; simp at this ⊢; omega))⟩
  clear hb4 HP2 HB3 HB2 k0 k1 hlt2 HU HA hb1
  go_wp2_with fail
  obtain ⟨F, hF⟩ : ∃ F, F = faultS n (-1) := ⟨_, rfl⟩
  have hB0 : Bx ((w4.alloc (.cells #[.int .u8 0, .bool false, .int .u64 0, .int .u64 0, .int .i64 0, .bool false, .int .u8 0, .bool false, .bool false, .int .u8 0, .int .u8 0, .bool false, .int .u8 0, .int .u8 0, .bool false] 27)).alloc (.cells #[.int .u8 5, .int .u16 9216, .int .u64 0, .bool false, .int .i64 n, .int .i64 (-1), .bool true, .bool true] 30)) (w4.heap.size + 1) F.vals := by rw [hF]; exact bx_new2 w4 _ (faultS n (-1)).vals 30
  replace hF := Kpt.mk hF
  refine wp_region_any (by kernel_rfl) ?_
  refine wpAny_of_C (C := fun W => Bx W (w4.heap.size + 1) F.vals) _ _ _ _ ?_
  refine wpAnyC_take 0 (.bool false) rfl (by kernel_rfl) (by kernel_rfl) (by kernel_rfl) (fun _ _ _ h => h) (by rfl) (fun W hW => by rfl) ?_
  refine wpAnyC_take 1 (.bool true) rfl (by kernel_rfl) (by kernel_rfl) (by kernel_rfl) (fun _ _ _ h => h) (by rfl) (fun W hW => by rfl) ?_
  refine wpAnyC_take 2 (.bool true) rfl (by kernel_rfl) (by kernel_rfl) (by kernel_rfl) (fun _ _ _ h => h) (by rfl) (fun W hW => by rfl) ?_
  refine wpAnyC_take 3 (.agg F.vals) rfl (by kernel_rfl) (by kernel_rfl) (by kernel_rfl) (fun _ _ _ h => h) (by rfl) (fun W hW => exec_load_bx 30 (.tmp 13) rfl (w4.heap.size + 1) F.vals rfl hW _ Try.underlying30 rfl infoS) ?_
  refine wpAnyC_take 4 (.int .i64 n) rfl (by kernel_rfl) (by kernel_rfl) (by kernel_rfl) (fun _ _ _ h => h) (by rfl) (fun W hW => by rfl) ?_
  refine wpAnyC_one 5 hB0.drew rfl (by kernel_rfl) (by rfl) (fun K hK => ?_)
  have HF2 : ∀ w, Kpt (Calls Try.prog 14 #[.int .i64 n, .int .i64 (-1)] w fun e w' => e = .returned (.agg F.vals) ∧ Below w.heap.size w w') := fun w => ⟨by rw [hF.out]; exact fault_any n (-1) w⟩
  go_simp
  refine (HF2 _).out.mono ?_
  rintro e w5 ⟨rfl, hb5⟩
  have hB5 : Bx w5 (w4.heap.size + 1) F.vals := hB0.drew.below hb5 hB0.drew.lt
  have HB5 : Below w.heap.size w w5 := ((HB4.out.alloc HB4.out.size _).alloc (by have := HB4.out.size; simp; omega) _).drew.trans (hb5.mono (by have := HB4.out.size; simp; omega))
  refine hK _ _ ?_
  clear hK K
  refine wpAnyC_take 6 (.bool true) rfl (by kernel_rfl) (by kernel_rfl) (by kernel_rfl) (fun _ _ _ h => h) (by rfl) (fun W hW => exec_eqS (.tmp 56) (.tmp 58) F rfl rfl rfl) ?_
  refine wpAnyC_take 7 (.bool true) rfl (by kernel_rfl) (by kernel_rfl) (by kernel_rfl) (fun _ _ _ h => h) (by rfl) (fun W hW => by rfl) ?_
  refine wpAnyC_take 8 (.bool true) rfl (by kernel_rfl) (by kernel_rfl) (by kernel_rfl) (fun _ _ _ h => h) (by rfl) (fun W hW => by rfl) ?_
  refine wpAnyC_done hB5 (by kernel_rfl) ?_
  replace HB5 := Kpt.mk HB5
  clear hB5 hb5 hB0
  go_wp2
  go_ret
  exact ⟨rfl, HB5.out⟩

theorem walk (a0 : Option Addr) (len0 cap0 : Nat) (z0 : List Int) (a1 : Int) (w : World) (w0 : IsRow .u8 w a0 len0 cap0 z0) (w1 : (Lit.int .u8 a1).wf = true) :
    Calls Try.prog 6 #[.slice a0 len0 cap0, .int .u8 a1] w fun e w' => e = .returned (.bool true) ∧ Below w.heap.size w w' := by
  obtain ⟨hr, hb, hlen, hmax, hlc⟩ := rd_of w0
  have ha := wf_u8 w1
  have HP : Kpt (∀ W, Below w.heap.size w W → Calls Try.prog 10 #[.slice a0 len0 cap0] W fun e w' => e = .returned (parseRes (z0.take len0)) ∧ Below W.heap.size W w') := ⟨fun W hW => parse_any _ _ W (hr.below hW) hb (by omega)⟩
  cases hf : faultL (z0.take len0) with
  | some s => exact walk_no a0 len0 cap0 _ s a1 w hf HP
  | none =>
    obtain ⟨h0, hm, hl, ho, hs, hu⟩ := none_facts hf
    obtain ⟨h2, h16, _⟩ := (mask_cases _).resolve_left hm
    rw [hlen] at h0 hl
    obtain ⟨b, off, rfl⟩ : ∃ b off, a0 = some ⟨b, off, none⟩ := by
      obtain ⟨a, c, hv, _, _, h⟩ := id hr
      simp only [Value.slice.injEq] at hv
      rcases h with h | ⟨b, off, h, _⟩
      · omega
      · exact ⟨b, off, by rw [hv.1, h]⟩
    obtain ⟨_, hc⟩ := rd_cells hr
    have hlt : b < w.heap.size := hr.lt (by omega) rfl
    have c0 := hc 0 (by omega)
    rw [Nat.add_zero] at c0
    have c1 := hc 1 (by omega)
    have hmp : (0 : Int) < ((maskL ((z0.take len0).getD 0 0)).length : Int) := by omega
    have hn0 := Int.emod_nonneg a1 (show ((maskL ((z0.take len0).getD 0 0)).length : Int) ≠ 0 by omega)
    have hn1 := Int.emod_lt_of_pos a1 hmp
    obtain ⟨n, hn⟩ : ∃ n : Nat, (n : Int) = a1 % ((maskL ((z0.take len0).getD 0 0)).length : Int) := ⟨(a1 % ((maskL ((z0.take len0).getD 0 0)).length : Int)).toNat, by omega⟩
    have hnm : n < (maskL ((z0.take len0).getD 0 0)).length := by omega
    have e1 : parseRes (z0.take len0) = .tuple #[.agg (cmdL ((z0.take len0).getD 0 0) (z0.take len0)).vals, .agg noS.vals, .bool true] := by unfold parseRes; rw [hf]
    have e2 : parseRes ((z0.take len0).take n) = .tuple #[.agg noC.vals, .agg (faultS n (-1)).vals, .bool false] := by unfold parseRes; rw [fault_short hf hnm]
    rw [e1] at HP
    refine walk_yes b off len0 cap0 _ n (z0.take len0) _ _ a1 _ _ w hlt hlc h2 h16 hl hmax ha hn c0 c1 (hb 1) HP ⟨fun W hW => ?_⟩ ⟨fun s W => usage_any _ s W hm⟩
    rw [← e2]
    refine parse_any _ _ W ((rd_take hr (by omega) hlc).below hW) ?_ ?_
    · intro j
      rw [List.getD_eq_getElem?_getD, List.getElem?_take]
      have := hb j
      rw [List.getD_eq_getElem?_getD] at this
      split
      · exact this
      · simp
    · rw [List.length_take]; omega

/-! ### The row. -/
set_option maxRecDepth 100000 in
theorem lifted (os : Os) (started : os.Started) (H : Type) (enc : TypeId × Value → H) :
    ReturnsInHanded {} Try.checked os 6 .any (Rows.cdbShortSpec.pre6 enc Try.prog Try.f6 Rows.cdbShortRow.domain false) (Rows.cdbShortSpec.post enc Try.prog Try.f6 false true false false) := by
  refine returnsInHanded_of_change (C := Try.checked) own started (by kernel_rfl) Try.func6
    (ChangeSpec.witness6 (enc := enc) (C := Try.checked) false ⟨#[], #[.slice none 0 0, .int .u8 0], []⟩ 8 (by kernel_rfl) (by kernel_rfl) (by kernel_rfl) (by kernel_rfl)) ?_
  intro W base args ds gs before hval0 hW hcnd _
  have hval : ∀ (j : Nat) t v, Try.f6.params[j]? = some t → args[j]? = some v → Value.okWide Try.prog W .any base t v := hval0
  have hW' := hW
  obtain ⟨p, q, hA0, hV, rfl, hfz, hnd⟩ := hW
  have hA : DataW.TrodAll enc Try.prog W 0 (fun _ => true) true Try.f6.params.toList args.toList ds p := hA0
  rw [Try.params6] at hA hval
  obtain ⟨v0, vs0, d0, ds0, p0, q0, hargs, rfl, rfl, h0, r0⟩ := trodAll_cons hA
  obtain ⟨v1, vs1, d1, ds1, p1, q1, rfl, rfl, rfl, h1, r1⟩ := trodAll_cons r0
  obtain ⟨rfl, rfl, rfl⟩ := trodAll_nil r1
  obtain rfl : args = #[v0, v1] := by cases args; simp_all
  obtain ⟨rfl, rfl⟩ := trodVars_none hV
  have k0 := h0
  have lt0 : ∀ x ∈ p0, x.block < W.heap.size := by obtain ⟨m, hm⟩ := k0; exact DataW.trod_lt m _ _ _ hm
  obtain ⟨a0, len0, cap0, rfl⟩ := okWide_slice Try.underlying22 (hval 0 22 v0 rfl rfl)
  obtain ⟨z0, w0⟩ : ∃ zs, IsRow .u8 W a0 len0 cap0 zs := by
    obtain ⟨fuel, hf⟩ := h0
    rcases open_ints Try.underlying22 Try.underlying5 (by kernel_rfl) hf with ⟨hcs, _⟩ | ⟨x, l, c, zs, hcs, _, hl, hm, hz, _, hcell, hwz⟩
    · simp [Value.cells] at hcs
      obtain ⟨rfl, rfl, rfl⟩ := hcs
      exact ⟨[], .inl ⟨rfl, rfl, rfl, rfl⟩⟩
    · simp [Value.cells] at hcs
      obtain ⟨rfl, rfl, rfl⟩ := hcs
      exact ⟨zs, .inr ⟨_, rfl, hl, hm, by simpa using hz, hcell, hwz⟩⟩
  obtain ⟨a1, rfl, rfl, rfl, w1⟩ := open_int Try.underlying5 (hval 1 5 v1 rfl rfl) h1
  clear hA0 hval0
  refine (walk a0 len0 cap0 z0 a1 W w0 w1).mono fun e W' ⟨he, bel⟩ => ?_
  subst he
  exact ⟨_, rfl, _, _, _, [], _, [], hW', trodAll_mk1 (shut_bool Try.underlying4 _), (trodAll_cons_mk (Below.trod laidOut (by kernel_rfl) (of_decide_eq_true (by kernel_rfl)) k0 bel lt0) (trodAll_cons_mk (shut_int Try.underlying5 w1) trodAll_mk0)), rfl, bel.frame _, fun h => by cases h⟩

theorem over : Rows.cdbShortRow.holds Try.pinned (OpenSpec.ofChange Rows.cdbShortSpec) :=
  OpenClaim.holds_of_wide 6 Try.f6 rfl rfl rfl rfl rfl rfl rfl ⟨rfl, rfl, rfl, rfl, rfl⟩ rfl rfl rfl rfl rfl (by kernel_rfl) Try.func6 (by kernel_rfl)
    (of_decide_eq_true (by kernel_rfl)) (by unfold Func.isWrapper; first | (rw [if_pos (by decide +kernel)]; kernel_rfl) | (rw [if_neg (by decide +kernel)]; exact ⟨rfl, rfl⟩))
    (fun os started H enc _ => lifted os started H enc)

/-- The statement. -/
theorem proved : Rows.CdbShortSaid := over
#print axioms proved
end Go.Proofs.Ytcgojpnjaloofaa.cdbShort
