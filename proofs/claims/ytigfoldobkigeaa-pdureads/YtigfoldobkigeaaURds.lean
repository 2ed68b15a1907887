/-
  pdu: PduReads.
-/
import Derived.Test.YtigfoldobkigeaaURDA
import Derived.Test.YtigfoldobkigeaaULen
namespace Go.Proofs.Ytigfoldobkigeaa
open Go.RowKit
set_option linter.unusedVariables false
set_option linter.unusedSimpArgs false

def outP (zs : List Int) (h d : Bool) : Pd := if decE zs h d = 0 then decP zs h else noP
def outN (zs : List Int) (h d : Bool) : Nat := if decE zs h d = 0 then decN zs h d else 0
theorem outP_len (zs : List Int) (h d : Bool) : (outP zs h d).ws.length = 7 := by
  unfold outP
  split
  · exact headK_len _ _ _
  · rfl
theorem DecOut.out {zs : List Int} {h d : Bool} {w w' : World} {e : Ending} (H : DecOut zs h d w e w') : ∃ va vc, e = .returned (.tuple #[.agg ((outP zs h d).vals (.slice va (outP zs h d).d.length vc)), .int .i64 (outN zs h d : Int), .int .i64 (decE zs h d)]) ∧ Row w' (.slice va (outP zs h d).d.length vc) (outP zs h d).d ∧ (∀ g, (Value.slice va (outP zs h d).d.length vc).ownBlock = some g → w.heap.size ≤ g) ∧ Below w.heap.size w w' := by
  obtain ⟨hb, h'⟩ := H
  rcases h' with ⟨h1, rfl⟩ | ⟨h1, v, rfl, hr, hv⟩
  · have e1 : outP zs h d = noP := if_neg h1
    have e2 : outN zs h d = 0 := if_neg h1
    rw [e1, e2]
    exact ⟨none, 0, rfl, row_nil w', (fun g hg => by cases hg), hb⟩
  · have e1 : outP zs h d = decP zs h := if_pos h1
    have e2 : outN zs h d = decN zs h d := if_pos h1
    rw [e1, e2, h1]
    obtain ⟨va, vc, rfl⟩ := rd_len hr.rd
    exact ⟨va, vc, rfl, hr, hv, hb⟩

set_option maxRecDepth 100000 in
set_option maxHeartbeats 2000000 in
theorem reads_walk (a : Option Addr) (n c : Nat) (zs : List Int) (h d : Bool) (w : World) (hr : RdAt w (.slice a n c) zs) (hn : n ≤ 140737488355328) (hc : c ≤ maxLen) (hb : Bytes zs) :
    Calls Try.prog 4 #[.slice a n c, .bool h, .bool d] w fun e w' => e = .returned (.bool true) ∧ Below w.heap.size w w' := by
  obtain ⟨p, hp⟩ : ∃ p, p = outP zs h d := ⟨_, rfl⟩
  obtain ⟨k, hk⟩ : ∃ k, k = (outP zs h d).d.length := ⟨_, rfl⟩
  obtain ⟨N, hN⟩ : ∃ k, k = outN zs h d := ⟨_, rfl⟩
  obtain ⟨E0, hE0⟩ : ∃ k, k = decE zs h d := ⟨_, rfl⟩
  have hlen : p.ws.length = 7 := by rw [hp]; exact outP_len zs h d
  have hD : Kpt (∀ W, Below w.heap.size w W → Calls Try.prog 12 #[.slice a n c, .bool h, .bool d] W fun e w' => ∃ va vc, e = .returned (.tuple #[.agg (p.vals (.slice va k vc)), .int .i64 (N : Int), .int .i64 E0]) ∧ Row w' (.slice va k vc) p.d ∧ (∀ g, (Value.slice va k vc).ownBlock = some g → W.heap.size ≤ g) ∧ Below W.heap.size W w') := ⟨fun W hW => by
    rw [hk, hN, hE0, hp]
    exact (decode_any a n c zs h d W (hr.bel hW) hn hc hb).mono fun e w' H => H.out⟩
  have hR : Kpt (∀ W, Below w.heap.size w W → Calls Try.prog 14 #[.slice a n c, .bool h, .bool d] W fun e w' => ∃ va vc, e = .returned (.tuple #[.agg (p.vals (.slice va k vc)), .int .i64 (N : Int), .int .i64 E0]) ∧ Row w' (.slice va k vc) p.d ∧ (∀ g, (Value.slice va k vc).ownBlock = some g → W.heap.size ≤ g) ∧ Below W.heap.size W w') := ⟨fun W hW => by
    rw [hk, hN, hE0, hp]
    exact (rdecode_any a n c zs h d W (hr.bel hW) hn hc hb).mono fun e w' H => H.out⟩
  have hS : Kpt (∀ W va vc vb vd, RdAt W (.slice va k vc) p.d → RdAt W (.slice vb k vd) p.d → Calls Try.prog 13 #[.agg (p.vals (.slice va k vc)), .agg (p.vals (.slice vb k vd))] W fun e w' => e = .returned (.bool true) ∧ Below W.heap.size W w') := ⟨fun W va vc vb vd h1 h2 => same_any p va vb k vc vd W hlen h1 h2⟩
  obtain ⟨x0, x1, x2, x3, x4, x5, x6, hp7⟩ := pd_seven p hlen
  have hp' := Kpt.mk hp
  clear hp
  obtain ⟨op, fl, rs, st, lun, tag, ws, dd⟩ := p
  simp only [Pd.mk.injEq, true_and, and_true] at hp7
  subst hp7
  clear hp' hk hN hE0 hr hb
  go_enter Try.func4, Try.ntmps4
  go_wp2_with (first
    | (go_at_call 13; go_must (refine (hS.out _ va vc vb vd hr4.out.rd hr7.out.rd).mono ?_; rintro e w9 ⟨rfl, hbe9⟩; replace hbw : Kpt (Below w.heap.size w w9) := ⟨hbw.out.trans (hbe9.mono hbw.out.size)⟩; clear hbe9))
    | (refine (?_ : wpList _ _ _ (Oper.mk none (Op.store _ (.tmp 10) _) _ _ _ _ :: _) _ _); have hm := m3; go_must (refine wpList_store_bx rfl 26 (.tmp 10) (.tmp 28) rfl B2 (noP.vals (.slice none 0 0)) (Pd.vals ⟨op, fl, rs, st, lun, tag, [x0, x1, x2, x3, x4, x5, x6], dd⟩ (.slice vb k vd)) rfl rfl hX8.out rfl sizeP (Pd.one _ _ _ _) rfl ?_; intro w8 hX9 hg8; replace hbw : Kpt (Below w.heap.size w w8) := ⟨hbw.out.grown hg8 hbw.out.size (fun k h => by cases h; exact hB2.out.1)⟩; replace hX1 : Kpt (Bx w8 B1 (Pd.vals ⟨op, fl, rs, st, lun, tag, [x0, x1, x2, x3, x4, x5, x6], dd⟩ (.slice va k vc))) := ⟨hX1.out.grown hg8 (fun e => hB2.out.2.1 (Option.some.inj e))⟩; replace hr4 : Kpt (Row w8 (.slice va k vc) dd) := ⟨hr4.out.of_block fun g' hg' => hg8.block g' (Row.lt hr4.out hg') (fun e => hB2.out.2.2.1 g' hg' (Option.some.inj e).symm)⟩; replace hr7 : Kpt (Row w8 (.slice vb k vd) dd) := ⟨hr7.out.of_block fun g' hg' => hg8.block g' (Row.lt hr7.out hg') (fun e => hB2.out.2.2.2 g' hg' (Option.some.inj e).symm)⟩; have hq6 := pd_cells hX9; have hq7 := pd_cells hX1.out; clear hg8 hX9))
    | (have hm := m2; refine wpList_var rfl 26 rfl (noP.vals (.slice none 0 0)) zeroPi ?_; intro B2 w7 hB2 hX8 hbe7; have hB2' : Kpt (w.heap.size ≤ B2 ∧ B2 ≠ B1 ∧ (∀ g, (Value.slice va k vc).ownBlock = some g → B2 ≠ g) ∧ ∀ g, (Value.slice vb k vd).ownBlock = some g → B2 ≠ g) := ⟨Nat.le_trans hbw.out.size hB2, (Nat.ne_of_lt (Nat.lt_of_lt_of_le hX1.out.lt hB2)).symm, fun g hg => (Nat.ne_of_lt (Nat.lt_of_lt_of_le (Row.lt hr4.out hg) hB2)).symm, fun g hg => (Nat.ne_of_lt (Nat.lt_of_lt_of_le (Row.lt hr7.out hg) hB2)).symm⟩; replace hB2 := hB2'; clear hB2'; replace hr4 : Kpt (Row w7 (.slice va k vc) dd) := ⟨hr4.out.of_block fun g' hg' => hbe7.block g' (Row.lt hr4.out hg')⟩; replace hr7 : Kpt (Row w7 (.slice vb k vd) dd) := ⟨hr7.out.of_block fun g' hg' => hbe7.block g' (Row.lt hr7.out hg')⟩; replace hbw : Kpt (Below w.heap.size w w7) := ⟨hbw.out.trans (hbe7.mono hbw.out.size)⟩; replace hX1 : Kpt (Bx w7 B1 (Pd.vals ⟨op, fl, rs, st, lun, tag, [x0, x1, x2, x3, x4, x5, x6], dd⟩ (.slice va k vc))) := ⟨hX1.out.below hbe7 hX1.out.lt⟩; replace hX8 := Kpt.mk hX8; clear hbe7; have m3 : Kpt True := ⟨trivial⟩)
    | (go_at_call 14; go_must (refine (hR.out _ hbw.out).mono ?_; rintro e w6 ⟨vb, vd, rfl, hr7, hv7, hbe6⟩; replace hr4 : Kpt (Row w6 (.slice va k vc) dd) := ⟨hr4.out.of_block fun g' hg' => hbe6.block g' (Row.lt hr4.out hg')⟩; replace hX1 : Kpt (Bx w6 B1 (Pd.vals ⟨op, fl, rs, st, lun, tag, [x0, x1, x2, x3, x4, x5, x6], dd⟩ (.slice va k vc))) := ⟨hX1.out.below hbe6 hX1.out.lt⟩; replace hbw : Kpt (Below w.heap.size w w6) := ⟨hbw.out.trans (hbe6.mono hbw.out.size)⟩; replace hr7 := Kpt.mk hr7; clear hbe6 hv7; have m2 : Kpt True := ⟨trivial⟩))
    | (refine (?_ : wpList _ _ _ (Oper.mk none (Op.store _ (.tmp 7) _) _ _ _ _ :: _) _ _); go_must (refine wpList_store_bx rfl 26 (.tmp 7) (.tmp 20) rfl B1 (noP.vals (.slice none 0 0)) (Pd.vals ⟨op, fl, rs, st, lun, tag, [x0, x1, x2, x3, x4, x5, x6], dd⟩ (.slice va k vc)) rfl rfl hX4.out rfl sizeP (Pd.one _ _ _ _) rfl ?_; intro w5 hX1 hg5; replace hbw : Kpt (Below w.heap.size w w5) := ⟨hbw.out.grown hg5 hbw.out.size (fun k h => by cases h; exact hB1.out.1)⟩; replace hr4 : Kpt (Row w5 (.slice va k vc) dd) := ⟨hr4.out.of_block fun g' hg' => hg5.block g' (Row.lt hr4.out hg') (fun e => hB1.out.2 g' hg' (Option.some.inj e).symm)⟩; replace hX1 := Kpt.mk hX1; clear hg5))
    | (have hm := m1; refine wpList_var rfl 26 rfl (noP.vals (.slice none 0 0)) zeroPi ?_; intro B1 w4 hB1 hX4 hbe4; have hB1' : Kpt (w.heap.size ≤ B1 ∧ ∀ g, (Value.slice va k vc).ownBlock = some g → B1 ≠ g) := ⟨Nat.le_trans hbw.out.size hB1, fun g hg => (Nat.ne_of_lt (Nat.lt_of_lt_of_le (Row.lt hr4.out hg) hB1)).symm⟩; replace hB1 := hB1'; clear hB1'; replace hr4 : Kpt (Row w4 (.slice va k vc) dd) := ⟨hr4.out.of_block fun g' hg' => hbe4.block g' (Row.lt hr4.out hg')⟩; replace hbw : Kpt (Below w.heap.size w w4) := ⟨hbw.out.trans (hbe4.mono hbw.out.size)⟩; replace hX4 := Kpt.mk hX4; clear hbe4)
    | (go_at_call 12; go_must (refine (hD.out _ hbw.out).mono ?_; rintro e w3 ⟨va, vc, rfl, hr4, hv4, hbe3⟩; replace hbw : Kpt (Below w.heap.size w w3) := ⟨hbw.out.trans (hbe3.mono hbw.out.size)⟩; replace hr4 := Kpt.mk hr4; clear hbe3 hv4; have m1 : Kpt True := ⟨trivial⟩))
    | (go_at_call 9; go_must (refine (awake_any _).mono ?_; rintro e w1 ⟨rfl, hbe1⟩; have hbw : Kpt (Below w.heap.size w w1) := ⟨hbe1⟩; clear hbe1)))
  go_ret
  exact ⟨rfl, hbw.out⟩

/-- A slice of bytes that came in. -/
theorem rd_isrow {w : World} {a : Option Addr} {n c : Nat} {zs : List Int} (h : (a = none ∧ n = 0 ∧ c = 0 ∧ zs = []) ∨ ∃ x, a = some x ∧ n ≤ c ∧ c ≤ 140737488351232 ∧ zs.length = c ∧ (∀ i, i < zs.length → w.cell? (x.add i) = some (.int .u8 (zs.getD i 0))) ∧ ∀ n ∈ zs, (Lit.int .u8 n).wf = true) :
    RdAt w (.slice a n c) (zs.take n) ∧ Bytes (zs.take n) ∧ n ≤ 140737488351232 ∧ c ≤ maxLen := by
  rcases h with ⟨rfl, rfl, rfl, rfl⟩ | ⟨x, rfl, h1, h2, h3, h4, h5⟩
  · exact ⟨rd_nil w, Bytes.nil, by omega, by unfold maxLen; omega⟩
  · have hlen : (zs.take n).length = n := by rw [List.length_take]; omega
    have hb : Bytes (zs.take n) := by
      intro j
      rw [List.getD_eq_getElem?_getD]
      cases hj : (zs.take n)[j]? with
      | none => simp
      | some y =>
        have := h5 y (List.mem_of_mem_take (List.mem_of_getElem? hj))
        simp [Lit.wf, IntKind.min, IntKind.max, IntKind.bits, IntKind.signed] at this
        simp only [Option.getD_some]
        omega
    refine ⟨⟨some x, c, by rw [hlen], (fun h => by cases h), by omega, ?_⟩, hb, by omega, by unfold maxLen; omega⟩
    by_cases h0 : n = 0
    · exact .inl (by omega)
    · have hc0 := h4 0 (by omega)
      obtain ⟨b, off, spot⟩ := x
      have hspot : spot = none := by simpa [Addr.add] using World.cell?_spot hc0
      subst hspot
      refine .inr ⟨b, off, rfl, fun j u hu => ?_⟩
      have hj : j < n := by have := (List.getElem?_eq_some_iff.1 hu).1; simp at this; omega
      have := h4 j (by omega)
      rw [Go.WideShapes.add_plain] at this
      rw [this]
      rw [cels, List.getElem?_map, List.getElem?_take_of_lt hj] at hu
      rw [List.getD_eq_getElem?_getD]
      cases hq : zs[j]? with
      | none => rw [hq] at hu; cases hu
      | some y => rw [hq] at hu; simpa using hu
end Go.Proofs.Ytigfoldobkigeaa
