/-
  pdu: Same of two that are alike, awake.
-/
import Derived.Test.YtigfoldobkigeaaUEnc
import Derived.DeepKeys
import Derived.Lib.SlBytesConst
namespace Go.Proofs.Ytigfoldobkigeaa
open Go.RowKit
set_option linter.unusedVariables false
set_option linter.unusedSimpArgs false

theorem items_same (w : World) (d : Nat) (xs : Array Value) : ∀ is : List Nat, (∀ i ∈ is, ∃ z, xs[i]? = some (.int .u32 z)) → (Op.eqItems (d + 1) 22 1 xs xs is).run Try.prog w = .ok true w
  | [], _ => by simp [Op.eqItems]
  | i :: is, h => by
    obtain ⟨z, hz⟩ := h i (by simp)
    have hp := run_part_plain (P := Try.prog) w (e := 22) (off := i * 1) (xs := xs) (v := .int .u32 z) (by kernel_rfl) (by rw [Nat.mul_one]; exact hz)
    have he := run_equalIn_int (P := Try.prog) w d 22 .u32 .u32 z z Try.underlying22
    have ih := items_same w d xs is (fun j hj => h j (by simp [hj]))
    simp only [Op.eqItems, Sem.run_bind, hp, he, Result.andThen_ok, beq_self_eq_true, Bool.not_true, Bool.false_eq_true, if_false, ih]

theorem words_equal (xs : Array Value) (w : World) (h : ∀ i, i < 7 → ∃ z, xs[i]? = some (.int .u32 z)) : (Op.equalIn 10000 23 (.agg xs) (.agg xs)).run Try.prog w = .ok true w := by
  obtain ⟨i, hi⟩ := info_of_underlying Try.underlying22
  rw [run_equalIn_array w 9999 _ _ Try.underlying23 hi, show Try.prog.cellsOf 22 = 1 from by kernel_rfl]
  refine items_same w 9998 _ _ (fun j hj => ?_)
  exact h j (by simpa using hj)

def awP : Pd := ⟨1, 0, 0, 0, 0, 0, List.replicate 7 0, [97]⟩
theorem awP_ok : awP.ok := ⟨by decide, by decide, by decide, by decide, by decide, by decide, rfl, fun x hx => by
  obtain ⟨-, rfl⟩ := List.mem_replicate.1 hx; decide, Bytes.cons (by decide) Bytes.nil⟩
theorem aw_len : (encL awP false false).length = 52 := by kernel_rfl
theorem aw_48 : (encL awP false false).getD 48 0 = 97 := by kernel_rfl

theorem aw_rd (w : World) : RdAt (w.alloc (.cells #[.int .u8 97] 5 (1, 2))) (.slice (some ⟨w.heap.size, 0, none⟩) 1 1) [97] :=
  ⟨_, 1, rfl, (fun h => by cases h), Nat.le_refl _, .inr ⟨w.heap.size, 0, rfl, fun j u hu => by
    rcases j with _ | j
    · simp only [cels, List.map_cons, List.map_nil, List.getElem?_cons_zero, Option.some.injEq] at hu
      subst hu
      simp only [World.cell?, World.alloc, Array.getElem?_push, if_true]
      rfl
    · simp [cels] at hu⟩⟩

set_option maxRecDepth 100000 in
set_option maxHeartbeats 1000000 in
theorem awake_any (w : World) : Calls Try.prog 9 #[] w fun e w' => e = .returned (.bool true) ∧ Below w.heap.size w w' := by
  have hE : Kpt (∀ W g, RdAt W (.slice (some ⟨g, 0, none⟩) 1 1) [97] → Calls Try.prog 10 #[.agg (awP.vals (.slice (some ⟨g, 0, none⟩) 1 1)), .bool false, .bool false] W fun e w' => ∃ g cap, e = .returned (.tuple #[.slice (some ⟨g, 0, none⟩) 52 cap, .int .i64 0]) ∧ w'.cell? ⟨g, 48, none⟩ = some (.int .u8 97) ∧ Below W.heap.size W w') := ⟨fun W g ho => by
    refine (enc_anyF awP (some ⟨g, 0, none⟩) 1 1 false W awP_ok ho (by decide)).mono ?_
    rintro e w' ⟨v, rfl, hv, hb⟩
    rw [aw_len] at hv
    obtain ⟨g2, cap, rfl, h1, h2⟩ := own_shape hv (by decide)
    have := own_facts hv 48 (by decide)
    rw [aw_48] at this
    exact ⟨g2, cap, rfl, this, hb⟩⟩
  have kc := fun (w : World) (C : Array Value) (n c : Nat) => Lib.run_convert_bytes_const (P := Try.prog) w 24 5 C n c Try.underlying24 Try.underlying5
  go_enter Try.func9, Try.ntmps9
  go_wp2_with (first
    | (go_at_call 10; go_must (refine (hE.out _ _ ho1.out).mono ?_; rintro e w2 ⟨g2, cap, rfl, hc2, hbe2⟩; have hb2 : Kpt (Below w.heap.size w w2) := ⟨hb1.out.trans (hbe2.mono hb1.out.size)⟩; clear hbe2))
    | (refine (?_ : wpList _ _ _ (Oper.mk (some 6) _ _ _ _ _ :: _) _ _); go_must (obtain ⟨w1, hw1⟩ : ∃ W, W = w.alloc (.cells #[.int .u8 97] 5 (1, 2)) := ⟨_, rfl⟩; refine (?_ : wpList _ _ _ _ _ (w.alloc (.cells #[.int .u8 97] 5 (1, 2)))); have hb1 : Kpt (Below w.heap.size w w1) := ⟨by rw [hw1]; exact (Below.refl _ _).alloc (Nat.le_refl _) _⟩; have ho1 : Kpt (RdAt w1 (.slice (some ⟨w.heap.size, 0, none⟩) 1 1) [97]) := ⟨by rw [hw1]; exact aw_rd w⟩; rw [← hw1]; clear hw1; refine wpList_of_exec (w1 := w1) (v := .agg (awP.vals (.slice (some ⟨w.heap.size, 0, none⟩) 1 1))) rfl (by kernel_rfl) ?_)))
  go_ret
  exact ⟨rfl, hb2.out⟩

set_option maxRecDepth 100000 in
set_option maxHeartbeats 2000000 in
theorem same_any (p : Pd) (a1 a2 : Option Addr) (n c1 c2 : Nat) (w : World) (hp : p.ws.length = 7) (h1 : RdAt w (.slice a1 n c1) p.d) (h2 : RdAt w (.slice a2 n c2) p.d) :
    Calls Try.prog 13 #[.agg (p.vals (.slice a1 n c1)), .agg (p.vals (.slice a2 n c2))] w fun e w' => e = .returned (.bool true) ∧ Below w.heap.size w w' := by
  obtain ⟨x0, x1, x2, x3, x4, x5, x6, hw⟩ := seven hp
  obtain ⟨op, fl, rs, st, lun, tag, ws, d⟩ := p
  simp only at hw
  subst hw
  obtain ⟨V1, hV1⟩ : ∃ V, V = Pd.vals ⟨op, fl, rs, st, lun, tag, [x0, x1, x2, x3, x4, x5, x6], d⟩ (.slice a1 n c1) := ⟨_, rfl⟩
  obtain ⟨V2, hV2⟩ : ∃ V, V = Pd.vals ⟨op, fl, rs, st, lun, tag, [x0, x1, x2, x3, x4, x5, x6], d⟩ (.slice a2 n c2) := ⟨_, rfl⟩
  rw [← hV1, ← hV2]
  have hc : Kpt (∀ W B V a c, V = Pd.vals ⟨op, fl, rs, st, lun, tag, [x0, x1, x2, x3, x4, x5, x6], d⟩ (.slice a n c) → Bx W B V → W.cell? ⟨B, 0, none⟩ = some (.int .u8 op) ∧ W.cell? ⟨B, 1, none⟩ = some (.int .u8 fl) ∧ W.cell? ⟨B, 2, none⟩ = some (.int .u8 rs) ∧ W.cell? ⟨B, 3, none⟩ = some (.int .u8 st) ∧ W.cell? ⟨B, 4, none⟩ = some (.int .u8 lun) ∧ W.cell? ⟨B, 5, none⟩ = some (.int .u32 tag) ∧ W.cell? ⟨B, 6, none⟩ = some (.int .u32 x0) ∧ W.cell? ⟨B, 7, none⟩ = some (.int .u32 x1) ∧ W.cell? ⟨B, 8, none⟩ = some (.int .u32 x2) ∧ W.cell? ⟨B, 9, none⟩ = some (.int .u32 x3) ∧ W.cell? ⟨B, 10, none⟩ = some (.int .u32 x4) ∧ W.cell? ⟨B, 11, none⟩ = some (.int .u32 x5) ∧ W.cell? ⟨B, 12, none⟩ = some (.int .u32 x6) ∧ W.cell? ⟨B, 13, none⟩ = some (.slice a n c)) := ⟨fun W B V a c hV h => by
    subst hV
    simp only [Pd.vals, Pd.cs, List.map_cons, List.map_nil, List.cons_append, List.nil_append] at h
    exact ⟨h.cells 0 (by simp), h.cells 1 (by simp), h.cells 2 (by simp), h.cells 3 (by simp), h.cells 4 (by simp), h.cells 5 (by simp), h.cells 6 (by simp), h.cells 7 (by simp), h.cells 8 (by simp), h.cells 9 (by simp), h.cells 10 (by simp), h.cells 11 (by simp), h.cells 12 (by simp), h.cells 13 (by simp)⟩⟩
  have hk1 : Kpt (∀ W, Below w.heap.size w W → (convert 24 9 (.slice a1 n c1)).run Try.prog W = .ok (.string (strOfNums d)) W) := ⟨fun W h => conv_rd (h1.bel h)⟩
  have hk2 : Kpt (∀ W, Below w.heap.size w W → (convert 24 9 (.slice a2 n c2)).run Try.prog W = .ok (.string (strOfNums d)) W) := ⟨fun W h => conv_rd (h2.bel h)⟩
  obtain ⟨s, hs⟩ : ∃ s, s = strOfNums d := ⟨_, rfl⟩
  rw [← hs] at hk1 hk2
  have hwe : ∀ W, (Op.equalIn 10000 23 (.agg #[.int .u32 x0, .int .u32 x1, .int .u32 x2, .int .u32 x3, .int .u32 x4, .int .u32 x5, .int .u32 x6]) (.agg #[.int .u32 x0, .int .u32 x1, .int .u32 x2, .int .u32 x3, .int .u32 x4, .int .u32 x5, .int .u32 x6])).run Try.prog W = .ok true W := fun W => words_equal _ W (fun i hi => by
    rcases i with _ | _ | _ | _ | _ | _ | _ | i
    all_goals first | omega | exact ⟨_, rfl⟩)
  replace hV1 := Kpt.mk hV1
  replace hV2 := Kpt.mk hV2
  clear hs h1 h2
  go_enter Try.func13, Try.ntmps13
  go_wp2_with (first
    | (have hm := m1; refine wpList_box rfl 26 (.tmp 1) rfl V2 rfl ?_; intro B2 w2 hB2 hX2 hb2 hz2; have hb02 : Kpt (Below w.heap.size w w2) := ⟨hb1.out.trans (hb2.mono hb1.out.size)⟩; have hX12 := hX1.out.below hb2 hX1.out.lt; clear hz2; have hcc2 := hc.out _ _ _ _ _ hV2.out hX2; have hcc1 := hc.out _ _ _ _ _ hV1.out hX12; clear hX2 hX12 hb2 hB2; have q1 := hk1.out _ hb02.out; have q2 := hk2.out _ hb02.out)
    | (refine wpList_box rfl 26 (.tmp 0) rfl V1 rfl ?_; intro B1 w1 hB1 hX1 hb1 hz1; replace hX1 := Kpt.mk hX1; replace hB1 := Kpt.mk hB1; replace hb1 := Kpt.mk hb1; clear hz1; have m1 : Kpt True := ⟨trivial⟩))
  go_ret
  exact ⟨rfl, hb02.out⟩
end Go.Proofs.Ytigfoldobkigeaa
