/-
  pdu: PduLengths.
-/
import Derived.Test.YtigfoldobkigeaaUEncP
import Derived.Test.YtigfoldobkigeaaUNil
namespace Go.Proofs.Ytigfoldobkigeaa
open Go.RowKit
set_option linter.unusedVariables false
set_option linter.unusedSimpArgs false

theorem own_shape2 {w : World} {base n : Nat} {v : Value} {xs : List Value} (h : w.ownsRow base 5 1 v n xs) (h0 : 0 < n) : ∃ g cap, v = .slice (some ⟨g, 0, none⟩) n cap ∧ base ≤ g ∧ n ≤ cap ∧ cap ≤ maxLen := by
  rcases id h.2 with ⟨_, h'⟩ | ⟨g, cap, cur, h', hb, _, hnc, hcm, _⟩
  · omega
  · exact ⟨g, cap, h', hb, hnc, hcm⟩
theorem enc_any (p : Pd) (a : Option Addr) (n c : Nat) (h d : Bool) (w : World) (hp : p.ok) (hd : RdAt w (.slice a n c) p.d) (hn8 : n ≤ 8192) :
    Calls Try.prog 10 #[.agg (p.vals (.slice a n c)), .bool h, .bool d] w fun e w' => ∃ g cap, e = .returned (.tuple #[.slice (some ⟨g, 0, none⟩) (encL p h d).length cap, .int .i64 0]) ∧ w'.ownsRow w.heap.size 5 1 (.slice (some ⟨g, 0, none⟩) (encL p h d).length cap) (encL p h d).length (cels (encL p h d)) ∧ w.heap.size ≤ g ∧ cap ≤ maxLen ∧ Below w.heap.size w w' := by
  have h0 : 0 < (encL p h d).length := by rw [encL_len p hp]; omega
  cases d with
  | false =>
    refine (enc_anyF p a n c h w hp hd hn8).mono ?_
    rintro e w' ⟨v, rfl, ho, hb⟩
    obtain ⟨g, cap, rfl, h1, h2, h3⟩ := own_shape2 ho h0
    exact ⟨g, cap, rfl, ho, h1, h3, hb⟩
  | true =>
    refine (enc_anyT p a n c h w hp hd hn8).mono ?_
    rintro e w' ⟨v, rfl, ho, hb⟩
    obtain ⟨g, cap, rfl, h1, h2, h3⟩ := own_shape2 ho h0
    exact ⟨g, cap, rfl, ho, h1, h3, hb⟩
theorem pd_seven (p : Pd) (h : p.ws.length = 7) : ∃ x0 x1 x2 x3 x4 x5 x6, p = ⟨p.op, p.fl, p.rs, p.st, p.lun, p.tag, [x0, x1, x2, x3, x4, x5, x6], p.d⟩ := by
  obtain ⟨x0, x1, x2, x3, x4, x5, x6, hw⟩ := seven h
  obtain ⟨op, fl, rs, st, lun, tag, ws, d⟩ := p
  simp only at hw
  subst hw
  exact ⟨x0, x1, x2, x3, x4, x5, x6, rfl⟩
theorem bx_13 {W : World} {B : Nat} {p : Pd} {v : Value} (hp : p.ws.length = 7) (h : Bx W B (p.vals v)) : W.cell? ⟨B, 13, none⟩ = some v := by
  obtain ⟨x0, x1, x2, x3, x4, x5, x6, e⟩ := pd_seven p hp
  rw [e] at h
  exact (pd_cells h).2.2.2.2.2.2.2.2.2.2.2.2.2

set_option maxRecDepth 100000 in
set_option maxHeartbeats 1000000 in
theorem len_long (p : Pd) (a : Option Addr) (n c : Nat) (h d : Bool) (w : World) (hp : p.ok) (hn8 : 8192 < n) (hm : n ≤ maxLen) :
    Calls Try.prog 8 #[.agg (p.vals (.slice a n c)), .bool h, .bool d] w fun e w' => e = .returned (.bool true) ∧ Below w.heap.size w w' := by
  obtain ⟨V, hV⟩ : ∃ V, V = p.vals (.slice a n c) := ⟨_, rfl⟩
  have hVs : Kpt (V.size = 14) := ⟨by rw [hV]; exact Pd.size hp.len _⟩
  have hE := Kpt.mk (fun W => enc_long p a n c h d W hp.len hn8 hm)
  have hc13 : Kpt (∀ W B, Bx W B V → W.cell? ⟨B, 13, none⟩ = some (.slice a n c)) := ⟨fun W B hX => by rw [hV] at hX; exact bx_13 hp.len hX⟩
  have h1 : (8192 : Int) < n := by omega
  unfold maxLen at hm
  rw [← hV] at hE
  rw [← hV]
  clear hV hp
  go_enter Try.func8, Try.ntmps8
  go_wp2_with (first
    | (go_at_call 10; go_must (refine (hE.out _).mono ?_; rintro e w2 ⟨rfl, hbe2⟩; have hb2 : Kpt (Below w.heap.size w w2) := ⟨hb1.out.trans (hbe2.mono hb1.out.size)⟩; have hcc := hc13.out _ _ (hX1.out.below hbe2 hX1.out.lt); clear hbe2))
    | (refine wpList_load_bx rfl 26 (.tmp 3) rfl B V rfl hX1.out _ Try.underlying26 rfl (by rw [hVs.out]; exact sizeP) ?_)
    | (go_at_call 9; go_must (refine (awake_any _).mono ?_; rintro e w1 ⟨rfl, hbe1⟩; have hb1 : Kpt (Below w.heap.size w w1) := ⟨hb0.out.trans (hbe1.mono hb0.out.size)⟩; have hX1 : Kpt (Bx w1 B V) := ⟨hX0.out.below hbe1 hX0.out.lt⟩; clear hbe1))
    | (refine wpList_box rfl 26 (.tmp 0) rfl V rfl ?_; intro B w0 hB hX0 hb0 hz0; replace hX0 := Kpt.mk hX0; replace hb0 := Kpt.mk hb0; clear hz0 hB))
  go_ret
  exact ⟨rfl, hb2.out⟩

set_option maxRecDepth 100000 in
set_option maxHeartbeats 1000000 in
theorem len_ffn (p : Pd) (a : Option Addr) (n c : Nat) (w : World) (hp : p.ok) (hd : RdAt w (.slice a n c) p.d) (hn8 : n ≤ 8192) (h0 : True) :
    Calls Try.prog 8 #[.agg (p.vals (.slice a n c)), .bool false, .bool false] w fun e w' => e = .returned (.bool true) ∧ Below w.heap.size w w' := by
  have hnl : p.d.length = n := (rd_row hd).1
  obtain ⟨V, hV⟩ : ∃ V, V = p.vals (.slice a n c) := ⟨_, rfl⟩
  have hVs : Kpt (V.size = 14) := ⟨by rw [hV]; exact Pd.size hp.len _⟩
  have hE := Kpt.mk (fun W (hW : Below w.heap.size w W) => enc_any p a n c false false W hp (hd.bel hW) hn8)
  have hc13 : Kpt (∀ W B, Bx W B V → W.cell? ⟨B, 13, none⟩ = some (.slice a n c)) := ⟨fun W B hX => by rw [hV] at hX; exact bx_13 hp.len hX⟩
  obtain ⟨M, hM⟩ : ∃ M, M = (bodyL p.d).length := ⟨_, rfl⟩
  have hM2 : M = n + padN n := by rw [hM, bodyL_len, hnl]
  have hel := encL_len p hp false false
  rw [← hM] at hel
  obtain ⟨X, hX⟩ : ∃ X, X = encL p false false := ⟨_, rfl⟩
  obtain ⟨E, hEq⟩ : ∃ E, E = (encL p false false).length := ⟨_, rfl⟩
  have hq1 := sz_le false
  have hq2 := sz_le (s2B false M)
  have hpn : padN n ≤ 3 ∧ (n + padN n) % 4 = 0 := by unfold padN; omega
  have hE8 : E ≤ 9000 := by omega
  have hDc : Kpt (∀ W g cap i, W.ownsRow w.heap.size 5 1 (.slice (some ⟨g, 0, none⟩) E cap) E (cels X) → cap ≤ maxLen → i < E → Calls Try.prog 12 #[.slice (some ⟨g, 0, none⟩) i cap, .bool false, .bool false] W fun e w' => e = .returned (.tuple #[.agg (noP.vals (.slice none 0 0)), .int .i64 0, .int .i64 8]) ∧ Below W.heap.size W w') := ⟨fun W g cap i ho hc hi => by
    have hi' : i < (encL p false false).length := by rw [← hEq]; exact hi
    have hc8 := dec_cutE p hp (by rw [hnl]; exact hn8) false false i hi'
    rw [hX] at ho
    refine (decode_any (some ⟨g, 0, none⟩) i cap ((encL p false false).take i) false false W (rd_take (own_rd ho) i (Nat.le_of_lt hi')) (by omega) hc (Bytes.take (encL_bytes p hp false false) i)).mono ?_
    rintro e w' ⟨hb, h⟩
    rcases h with ⟨h1, rfl⟩ | ⟨h1, h2⟩
    · rw [hc8]; exact ⟨rfl, hb⟩
    · rw [hc8] at h1; cases h1⟩
  rw [← hX] at hE
  have hXl : X.length = E := by rw [hX, ← hEq]
  rw [hXl] at hE
  rw [← hEq] at hel
  rw [← hV] at hE
  rw [← hV]
  have h1 : ¬ (8192 : Int) < n := by omega
  have e1 : ((n : Int) + 3).tdiv 4 * 4 = (M : Int) := by
    rw [Int.tdiv_eq_ediv_of_nonneg (by omega)]
    omega
  have e2 : ((n : Int) + 3) / 4 * 4 = (M : Int) := by omega
  have hM8 : M ≤ 8195 := by omega
  have hs2 : s2B false M = false := by rfl
  rw [hs2] at hel
  have e3 : (48 : Int) + (M : Int) = (E : Int) := by simp [sz] at hel; omega
  clear hV hp hM hM2 hX hEq hXl hel hpn hs2 h0 hd hnl hq1 hq2
  go_enter Try.func8, Try.ntmps8
  go_wp2_with (first
    | (go_at_call 10; go_must (refine (hE.out _ hb1.out).mono ?_; rintro e w2 ⟨g, cap, rfl, ho2, hg2, hcap2, hbe2⟩; have hb2 : Kpt (Below w.heap.size w w2) := ⟨hb1.out.trans (hbe2.mono hb1.out.size)⟩; have hcc := hc13.out _ _ (hX1.out.below hbe2 hX1.out.lt); replace ho2 : Kpt (w2.ownsRow w.heap.size 5 1 (.slice (some ⟨g, 0, none⟩) E cap) E (cels X)) := ⟨own_base ho2 hb1.out.size⟩; replace hg2 : Kpt (w.heap.size ≤ g) := ⟨Nat.le_trans hb1.out.size hg2⟩; replace hcap2 := Kpt.mk hcap2; clear hbe2))
    | (refine wpList_load_bx rfl 26 (.tmp 3) rfl B V rfl hX1.out _ Try.underlying26 rfl (by rw [hVs.out]; exact sizeP) ?_)
    | (go_at_call 9; go_must (refine (awake_any _).mono ?_; rintro e w1 ⟨rfl, hbe1⟩; have hb1 : Kpt (Below w.heap.size w w1) := ⟨hb0.out.trans (hbe1.mono hb0.out.size)⟩; have hX1 : Kpt (Bx w1 B V) := ⟨hX0.out.below hbe1 hX0.out.lt⟩; clear hbe1))
    | (refine wpList_box rfl 26 (.tmp 0) rfl V rfl ?_; intro B w0 hB hX0 hb0 hz0; replace hX0 := Kpt.mk hX0; replace hb0 := Kpt.mk hb0; clear hz0 hB))
  go_loopw [11] (fun t wr => ∃ k : Nat, k ≤ E + 7 ∧ t = .int .i64 k ∧ Kpt (wr.ownsRow w.heap.size 5 1 (.slice (some ⟨g, 0, none⟩) E cap) E (cels X)) ∧ Kpt (Below w.heap.size w wr)) (fun t _ => E + 7 - (intOf t).toNat)
  case atStart => exact ⟨0, by omega, rfl, ho2, hb2⟩
  case round =>
    obtain ⟨k, hk, rfl, hok, hbk⟩ := hrel
    clear hcc
    by_cases hlt : k < E
    · have hcE : Kpt (E ≤ cap) := ⟨by
        rcases hok.out.2 with ⟨h', _⟩ | ⟨g', cap', cur, h', hb, _, hnc, hcm, _⟩
        · cases h'
        · simp only [Value.slice.injEq] at h'; omega⟩
      have hkc : ¬ cap < k := by have := hcE.out; omega
      have hltI : (k : Int) < E := by omega
      go_wp2_with (first
        | (refine (?_ : wpList _ _ _ (Oper.mk none (Op.store _ _ _) _ _ _ _ :: _) _ _); go_must (refine wpList_store_bx rfl 26 (.tmp 12) (.tmp 74) rfl B2 (noP.vals (.slice none 0 0)) (noP.vals (.slice none 0 0)) rfl rfl hX4.out rfl sizeP (Pd.one noP none 0 0) rfl ?_; intro w5 hX5 hg5; have hb5 : Kpt (Below w.heap.size w w5) := ⟨hb4.out.grown hg5 hb4.out.size (fun k h => by cases h; exact hB2.out.1)⟩; have ho5 : Kpt (w5.ownsRow w.heap.size 5 1 (.slice (some ⟨g, 0, none⟩) E cap) E (cels X)) := ⟨own_of_block ho4.out fun g' hg' => hg5.block g' (World.ownsRow.lt ho4.out g' hg').2 (fun e => by cases hg'; exact hB2.out.2 (Option.some.inj e).symm)⟩; clear hX5 hg5))
        | (refine wpList_var rfl 26 rfl (noP.vals (.slice none 0 0)) zeroPi ?_; intro B2 w4 hB2 hX4 hbe4; have hb4 : Kpt (Below w.heap.size w w4) := ⟨hb3.out.trans (hbe4.mono hb3.out.size)⟩; have ho4 : Kpt (w4.ownsRow w.heap.size 5 1 (.slice (some ⟨g, 0, none⟩) E cap) E (cels X)) := ⟨own_of_block ho3.out fun g' hg' => hbe4.block g' (World.ownsRow.lt ho3.out g' hg').2⟩; replace hX4 := Kpt.mk hX4; replace hB2 : Kpt (w.heap.size ≤ B2 ∧ B2 ≠ g) := ⟨Nat.le_trans hb3.out.size hB2, (Nat.ne_of_lt (Nat.lt_of_lt_of_le (World.ownsRow.lt ho3.out g rfl).2 hB2)).symm⟩; clear hbe4)
        | (go_at_call 12; go_must (refine (hDc.out _ g cap k hok.out hcap2.out hlt).mono ?_; rintro e w3 ⟨rfl, hbe3⟩; have hb3 : Kpt (Below w.heap.size w w3) := ⟨hbk.out.trans (hbe3.mono hbk.out.size)⟩; have ho3 : Kpt (w3.ownsRow w.heap.size 5 1 (.slice (some ⟨g, 0, none⟩) E cap) E (cels X)) := ⟨own_of_block hok.out fun g' hg' => hbe3.block g' (World.ownsRow.lt hok.out g' hg').2⟩; clear hbe3)))
      go_roundw
      case rel => exact ⟨k + 7, by omega, by go_num, ho5, hb5⟩
      case measure => simp [intOf]; omega
    · have hltI : ¬ (k : Int) < E := by omega
      go_wp2
      go_ret
      exact ⟨rfl, hbk.out⟩

set_option maxRecDepth 100000 in
set_option maxHeartbeats 1000000 in
theorem len_ftp (p : Pd) (a : Option Addr) (n c : Nat) (w : World) (hp : p.ok) (hd : RdAt w (.slice a n c) p.d) (hn8 : n ≤ 8192) (h0 : 0 < (bodyL p.d).length) :
    Calls Try.prog 8 #[.agg (p.vals (.slice a n c)), .bool false, .bool true] w fun e w' => e = .returned (.bool true) ∧ Below w.heap.size w w' := by
  have hnl : p.d.length = n := (rd_row hd).1
  obtain ⟨V, hV⟩ : ∃ V, V = p.vals (.slice a n c) := ⟨_, rfl⟩
  have hVs : Kpt (V.size = 14) := ⟨by rw [hV]; exact Pd.size hp.len _⟩
  have hE := Kpt.mk (fun W (hW : Below w.heap.size w W) => enc_any p a n c false true W hp (hd.bel hW) hn8)
  have hc13 : Kpt (∀ W B, Bx W B V → W.cell? ⟨B, 13, none⟩ = some (.slice a n c)) := ⟨fun W B hX => by rw [hV] at hX; exact bx_13 hp.len hX⟩
  obtain ⟨M, hM⟩ : ∃ M, M = (bodyL p.d).length := ⟨_, rfl⟩
  have hM2 : M = n + padN n := by rw [hM, bodyL_len, hnl]
  have hel := encL_len p hp false true
  rw [← hM] at hel h0
  obtain ⟨X, hX⟩ : ∃ X, X = encL p false true := ⟨_, rfl⟩
  obtain ⟨E, hEq⟩ : ∃ E, E = (encL p false true).length := ⟨_, rfl⟩
  have hq1 := sz_le false
  have hq2 := sz_le (s2B true M)
  have hpn : padN n ≤ 3 ∧ (n + padN n) % 4 = 0 := by unfold padN; omega
  have hE8 : E ≤ 9000 := by omega
  have hDc : Kpt (∀ W g cap i, W.ownsRow w.heap.size 5 1 (.slice (some ⟨g, 0, none⟩) E cap) E (cels X) → cap ≤ maxLen → i < E → Calls Try.prog 12 #[.slice (some ⟨g, 0, none⟩) i cap, .bool false, .bool true] W fun e w' => e = .returned (.tuple #[.agg (noP.vals (.slice none 0 0)), .int .i64 0, .int .i64 8]) ∧ Below W.heap.size W w') := ⟨fun W g cap i ho hc hi => by
    have hi' : i < (encL p false true).length := by rw [← hEq]; exact hi
    have hc8 := dec_cutE p hp (by rw [hnl]; exact hn8) false true i hi'
    rw [hX] at ho
    refine (decode_any (some ⟨g, 0, none⟩) i cap ((encL p false true).take i) false true W (rd_take (own_rd ho) i (Nat.le_of_lt hi')) (by omega) hc (Bytes.take (encL_bytes p hp false true) i)).mono ?_
    rintro e w' ⟨hb, h⟩
    rcases h with ⟨h1, rfl⟩ | ⟨h1, h2⟩
    · rw [hc8]; exact ⟨rfl, hb⟩
    · rw [hc8] at h1; cases h1⟩
  rw [← hX] at hE
  have hXl : X.length = E := by rw [hX, ← hEq]
  rw [hXl] at hE
  rw [← hEq] at hel
  rw [← hV] at hE
  rw [← hV]
  have h1 : ¬ (8192 : Int) < n := by omega
  have e1 : ((n : Int) + 3).tdiv 4 * 4 = (M : Int) := by
    rw [Int.tdiv_eq_ediv_of_nonneg (by omega)]
    omega
  have e2 : ((n : Int) + 3) / 4 * 4 = (M : Int) := by omega
  have hM8 : M ≤ 8195 := by omega
  have hs2 : s2B true M = true := by simp [s2B]; omega
  rw [hs2] at hel
  have e3 : (48 : Int) + (M : Int) + 4 = (E : Int) := by simp [sz] at hel; omega
  have h00 : (0 : Int) < (M : Int) := by omega
  clear hV hp hM hM2 hX hEq hXl hel hpn hs2 h0 hd hnl hq1 hq2
  go_enter Try.func8, Try.ntmps8
  go_wp2_with (first
    | (go_at_call 10; go_must (refine (hE.out _ hb1.out).mono ?_; rintro e w2 ⟨g, cap, rfl, ho2, hg2, hcap2, hbe2⟩; have hb2 : Kpt (Below w.heap.size w w2) := ⟨hb1.out.trans (hbe2.mono hb1.out.size)⟩; have hcc := hc13.out _ _ (hX1.out.below hbe2 hX1.out.lt); replace ho2 : Kpt (w2.ownsRow w.heap.size 5 1 (.slice (some ⟨g, 0, none⟩) E cap) E (cels X)) := ⟨own_base ho2 hb1.out.size⟩; replace hg2 : Kpt (w.heap.size ≤ g) := ⟨Nat.le_trans hb1.out.size hg2⟩; replace hcap2 := Kpt.mk hcap2; clear hbe2))
    | (refine wpList_load_bx rfl 26 (.tmp 3) rfl B V rfl hX1.out _ Try.underlying26 rfl (by rw [hVs.out]; exact sizeP) ?_)
    | (go_at_call 9; go_must (refine (awake_any _).mono ?_; rintro e w1 ⟨rfl, hbe1⟩; have hb1 : Kpt (Below w.heap.size w w1) := ⟨hb0.out.trans (hbe1.mono hb0.out.size)⟩; have hX1 : Kpt (Bx w1 B V) := ⟨hX0.out.below hbe1 hX0.out.lt⟩; clear hbe1))
    | (refine wpList_box rfl 26 (.tmp 0) rfl V rfl ?_; intro B w0 hB hX0 hb0 hz0; replace hX0 := Kpt.mk hX0; replace hb0 := Kpt.mk hb0; clear hz0 hB))
  have hdt1 : decide ((0 : Int) < (M : Int)) = true := by simp; omega
  have hdt2 : decide (0 < M) = true := by simp; omega
  simp only [hdt1, hdt2]
  clear hdt1 hdt2
  go_loopw [11] (fun t wr => ∃ k : Nat, k ≤ E + 7 ∧ t = .int .i64 k ∧ Kpt (wr.ownsRow w.heap.size 5 1 (.slice (some ⟨g, 0, none⟩) E cap) E (cels X)) ∧ Kpt (Below w.heap.size w wr)) (fun t _ => E + 7 - (intOf t).toNat)
  case atStart => exact ⟨0, by omega, rfl, ho2, hb2⟩
  case round =>
    obtain ⟨k, hk, rfl, hok, hbk⟩ := hrel
    clear hcc h00
    by_cases hlt : k < E
    · have hcE : Kpt (E ≤ cap) := ⟨by
        rcases hok.out.2 with ⟨h', _⟩ | ⟨g', cap', cur, h', hb, _, hnc, hcm, _⟩
        · cases h'
        · simp only [Value.slice.injEq] at h'; omega⟩
      have hkc : ¬ cap < k := by have := hcE.out; omega
      have hltI : (k : Int) < E := by omega
      go_wp2_with (first
        | (refine (?_ : wpList _ _ _ (Oper.mk none (Op.store _ _ _) _ _ _ _ :: _) _ _); go_must (refine wpList_store_bx rfl 26 (.tmp 12) (.tmp 74) rfl B2 (noP.vals (.slice none 0 0)) (noP.vals (.slice none 0 0)) rfl rfl hX4.out rfl sizeP (Pd.one noP none 0 0) rfl ?_; intro w5 hX5 hg5; have hb5 : Kpt (Below w.heap.size w w5) := ⟨hb4.out.grown hg5 hb4.out.size (fun k h => by cases h; exact hB2.out.1)⟩; have ho5 : Kpt (w5.ownsRow w.heap.size 5 1 (.slice (some ⟨g, 0, none⟩) E cap) E (cels X)) := ⟨own_of_block ho4.out fun g' hg' => hg5.block g' (World.ownsRow.lt ho4.out g' hg').2 (fun e => by cases hg'; exact hB2.out.2 (Option.some.inj e).symm)⟩; clear hX5 hg5))
        | (refine wpList_var rfl 26 rfl (noP.vals (.slice none 0 0)) zeroPi ?_; intro B2 w4 hB2 hX4 hbe4; have hb4 : Kpt (Below w.heap.size w w4) := ⟨hb3.out.trans (hbe4.mono hb3.out.size)⟩; have ho4 : Kpt (w4.ownsRow w.heap.size 5 1 (.slice (some ⟨g, 0, none⟩) E cap) E (cels X)) := ⟨own_of_block ho3.out fun g' hg' => hbe4.block g' (World.ownsRow.lt ho3.out g' hg').2⟩; replace hX4 := Kpt.mk hX4; replace hB2 : Kpt (w.heap.size ≤ B2 ∧ B2 ≠ g) := ⟨Nat.le_trans hb3.out.size hB2, (Nat.ne_of_lt (Nat.lt_of_lt_of_le (World.ownsRow.lt ho3.out g rfl).2 hB2)).symm⟩; clear hbe4)
        | (go_at_call 12; go_must (refine (hDc.out _ g cap k hok.out hcap2.out hlt).mono ?_; rintro e w3 ⟨rfl, hbe3⟩; have hb3 : Kpt (Below w.heap.size w w3) := ⟨hbk.out.trans (hbe3.mono hbk.out.size)⟩; have ho3 : Kpt (w3.ownsRow w.heap.size 5 1 (.slice (some ⟨g, 0, none⟩) E cap) E (cels X)) := ⟨own_of_block hok.out fun g' hg' => hbe3.block g' (World.ownsRow.lt hok.out g' hg').2⟩; clear hbe3)))
      go_roundw
      case rel => exact ⟨k + 7, by omega, by go_num, ho5, hb5⟩
      case measure => simp [intOf]; omega
    · have hltI : ¬ (k : Int) < E := by omega
      go_wp2
      go_ret
      exact ⟨rfl, hbk.out⟩

set_option maxRecDepth 100000 in
set_option maxHeartbeats 1000000 in
theorem len_ftz (p : Pd) (a : Option Addr) (n c : Nat) (w : World) (hp : p.ok) (hd : RdAt w (.slice a n c) p.d) (hn8 : n ≤ 8192) (h0 : ¬ 0 < (bodyL p.d).length) :
    Calls Try.prog 8 #[.agg (p.vals (.slice a n c)), .bool false, .bool true] w fun e w' => e = .returned (.bool true) ∧ Below w.heap.size w w' := by
  have hnl : p.d.length = n := (rd_row hd).1
  obtain ⟨V, hV⟩ : ∃ V, V = p.vals (.slice a n c) := ⟨_, rfl⟩
  have hVs : Kpt (V.size = 14) := ⟨by rw [hV]; exact Pd.size hp.len _⟩
  have hE := Kpt.mk (fun W (hW : Below w.heap.size w W) => enc_any p a n c false true W hp (hd.bel hW) hn8)
  have hc13 : Kpt (∀ W B, Bx W B V → W.cell? ⟨B, 13, none⟩ = some (.slice a n c)) := ⟨fun W B hX => by rw [hV] at hX; exact bx_13 hp.len hX⟩
  obtain ⟨M, hM⟩ : ∃ M, M = (bodyL p.d).length := ⟨_, rfl⟩
  have hM2 : M = n + padN n := by rw [hM, bodyL_len, hnl]
  have hel := encL_len p hp false true
  rw [← hM] at hel h0
  obtain ⟨X, hX⟩ : ∃ X, X = encL p false true := ⟨_, rfl⟩
  obtain ⟨E, hEq⟩ : ∃ E, E = (encL p false true).length := ⟨_, rfl⟩
  have hq1 := sz_le false
  have hq2 := sz_le (s2B true M)
  have hpn : padN n ≤ 3 ∧ (n + padN n) % 4 = 0 := by unfold padN; omega
  have hE8 : E ≤ 9000 := by omega
  have hDc : Kpt (∀ W g cap i, W.ownsRow w.heap.size 5 1 (.slice (some ⟨g, 0, none⟩) E cap) E (cels X) → cap ≤ maxLen → i < E → Calls Try.prog 12 #[.slice (some ⟨g, 0, none⟩) i cap, .bool false, .bool true] W fun e w' => e = .returned (.tuple #[.agg (noP.vals (.slice none 0 0)), .int .i64 0, .int .i64 8]) ∧ Below W.heap.size W w') := ⟨fun W g cap i ho hc hi => by
    have hi' : i < (encL p false true).length := by rw [← hEq]; exact hi
    have hc8 := dec_cutE p hp (by rw [hnl]; exact hn8) false true i hi'
    rw [hX] at ho
    refine (decode_any (some ⟨g, 0, none⟩) i cap ((encL p false true).take i) false true W (rd_take (own_rd ho) i (Nat.le_of_lt hi')) (by omega) hc (Bytes.take (encL_bytes p hp false true) i)).mono ?_
    rintro e w' ⟨hb, h⟩
    rcases h with ⟨h1, rfl⟩ | ⟨h1, h2⟩
    · rw [hc8]; exact ⟨rfl, hb⟩
    · rw [hc8] at h1; cases h1⟩
  rw [← hX] at hE
  have hXl : X.length = E := by rw [hX, ← hEq]
  rw [hXl] at hE
  rw [← hEq] at hel
  rw [← hV] at hE
  rw [← hV]
  have h1 : ¬ (8192 : Int) < n := by omega
  have e1 : ((n : Int) + 3).tdiv 4 * 4 = (M : Int) := by
    rw [Int.tdiv_eq_ediv_of_nonneg (by omega)]
    omega
  have e2 : ((n : Int) + 3) / 4 * 4 = (M : Int) := by omega
  have hM8 : M ≤ 8195 := by omega
  have hs2 : s2B true M = false := by simp [s2B]; omega
  rw [hs2] at hel
  have e3 : (48 : Int) + (M : Int) = (E : Int) := by simp [sz] at hel; omega
  have h00 : ¬ (0 : Int) < (M : Int) := by omega
  clear hV hp hM hM2 hX hEq hXl hel hpn hs2 h0 hd hnl hq1 hq2
  go_enter Try.func8, Try.ntmps8
  go_wp2_with (first
    | (go_at_call 10; go_must (refine (hE.out _ hb1.out).mono ?_; rintro e w2 ⟨g, cap, rfl, ho2, hg2, hcap2, hbe2⟩; have hb2 : Kpt (Below w.heap.size w w2) := ⟨hb1.out.trans (hbe2.mono hb1.out.size)⟩; have hcc := hc13.out _ _ (hX1.out.below hbe2 hX1.out.lt); replace ho2 : Kpt (w2.ownsRow w.heap.size 5 1 (.slice (some ⟨g, 0, none⟩) E cap) E (cels X)) := ⟨own_base ho2 hb1.out.size⟩; replace hg2 : Kpt (w.heap.size ≤ g) := ⟨Nat.le_trans hb1.out.size hg2⟩; replace hcap2 := Kpt.mk hcap2; clear hbe2))
    | (refine wpList_load_bx rfl 26 (.tmp 3) rfl B V rfl hX1.out _ Try.underlying26 rfl (by rw [hVs.out]; exact sizeP) ?_)
    | (go_at_call 9; go_must (refine (awake_any _).mono ?_; rintro e w1 ⟨rfl, hbe1⟩; have hb1 : Kpt (Below w.heap.size w w1) := ⟨hb0.out.trans (hbe1.mono hb0.out.size)⟩; have hX1 : Kpt (Bx w1 B V) := ⟨hX0.out.below hbe1 hX0.out.lt⟩; clear hbe1))
    | (refine wpList_box rfl 26 (.tmp 0) rfl V rfl ?_; intro B w0 hB hX0 hb0 hz0; replace hX0 := Kpt.mk hX0; replace hb0 := Kpt.mk hb0; clear hz0 hB))
  have hdt1 : decide ((0 : Int) < (M : Int)) = false := by simp; omega
  have hdt2 : decide (0 < M) = false := by simp; omega
  simp only [hdt1, hdt2]
  clear hdt1 hdt2
  go_loopw [11] (fun t wr => ∃ k : Nat, k ≤ E + 7 ∧ t = .int .i64 k ∧ Kpt (wr.ownsRow w.heap.size 5 1 (.slice (some ⟨g, 0, none⟩) E cap) E (cels X)) ∧ Kpt (Below w.heap.size w wr)) (fun t _ => E + 7 - (intOf t).toNat)
  case atStart => exact ⟨0, by omega, rfl, ho2, hb2⟩
  case round =>
    obtain ⟨k, hk, rfl, hok, hbk⟩ := hrel
    clear hcc h00
    by_cases hlt : k < E
    · have hcE : Kpt (E ≤ cap) := ⟨by
        rcases hok.out.2 with ⟨h', _⟩ | ⟨g', cap', cur, h', hb, _, hnc, hcm, _⟩
        · cases h'
        · simp only [Value.slice.injEq] at h'; omega⟩
      have hkc : ¬ cap < k := by have := hcE.out; omega
      have hltI : (k : Int) < E := by omega
      go_wp2_with (first
        | (refine (?_ : wpList _ _ _ (Oper.mk none (Op.store _ _ _) _ _ _ _ :: _) _ _); go_must (refine wpList_store_bx rfl 26 (.tmp 12) (.tmp 74) rfl B2 (noP.vals (.slice none 0 0)) (noP.vals (.slice none 0 0)) rfl rfl hX4.out rfl sizeP (Pd.one noP none 0 0) rfl ?_; intro w5 hX5 hg5; have hb5 : Kpt (Below w.heap.size w w5) := ⟨hb4.out.grown hg5 hb4.out.size (fun k h => by cases h; exact hB2.out.1)⟩; have ho5 : Kpt (w5.ownsRow w.heap.size 5 1 (.slice (some ⟨g, 0, none⟩) E cap) E (cels X)) := ⟨own_of_block ho4.out fun g' hg' => hg5.block g' (World.ownsRow.lt ho4.out g' hg').2 (fun e => by cases hg'; exact hB2.out.2 (Option.some.inj e).symm)⟩; clear hX5 hg5))
        | (refine wpList_var rfl 26 rfl (noP.vals (.slice none 0 0)) zeroPi ?_; intro B2 w4 hB2 hX4 hbe4; have hb4 : Kpt (Below w.heap.size w w4) := ⟨hb3.out.trans (hbe4.mono hb3.out.size)⟩; have ho4 : Kpt (w4.ownsRow w.heap.size 5 1 (.slice (some ⟨g, 0, none⟩) E cap) E (cels X)) := ⟨own_of_block ho3.out fun g' hg' => hbe4.block g' (World.ownsRow.lt ho3.out g' hg').2⟩; replace hX4 := Kpt.mk hX4; replace hB2 : Kpt (w.heap.size ≤ B2 ∧ B2 ≠ g) := ⟨Nat.le_trans hb3.out.size hB2, (Nat.ne_of_lt (Nat.lt_of_lt_of_le (World.ownsRow.lt ho3.out g rfl).2 hB2)).symm⟩; clear hbe4)
        | (go_at_call 12; go_must (refine (hDc.out _ g cap k hok.out hcap2.out hlt).mono ?_; rintro e w3 ⟨rfl, hbe3⟩; have hb3 : Kpt (Below w.heap.size w w3) := ⟨hbk.out.trans (hbe3.mono hbk.out.size)⟩; have ho3 : Kpt (w3.ownsRow w.heap.size 5 1 (.slice (some ⟨g, 0, none⟩) E cap) E (cels X)) := ⟨own_of_block hok.out fun g' hg' => hbe3.block g' (World.ownsRow.lt hok.out g' hg').2⟩; clear hbe3)))
      go_roundw
      case rel => exact ⟨k + 7, by omega, by go_num, ho5, hb5⟩
      case measure => simp [intOf]; omega
    · have hltI : ¬ (k : Int) < E := by omega
      go_wp2
      go_ret
      exact ⟨rfl, hbk.out⟩

set_option maxRecDepth 100000 in
set_option maxHeartbeats 1000000 in
theorem len_tfn (p : Pd) (a : Option Addr) (n c : Nat) (w : World) (hp : p.ok) (hd : RdAt w (.slice a n c) p.d) (hn8 : n ≤ 8192) (h0 : True) :
    Calls Try.prog 8 #[.agg (p.vals (.slice a n c)), .bool true, .bool false] w fun e w' => e = .returned (.bool true) ∧ Below w.heap.size w w' := by
  have hnl : p.d.length = n := (rd_row hd).1
  obtain ⟨V, hV⟩ : ∃ V, V = p.vals (.slice a n c) := ⟨_, rfl⟩
  have hVs : Kpt (V.size = 14) := ⟨by rw [hV]; exact Pd.size hp.len _⟩
  have hE := Kpt.mk (fun W (hW : Below w.heap.size w W) => enc_any p a n c true false W hp (hd.bel hW) hn8)
  have hc13 : Kpt (∀ W B, Bx W B V → W.cell? ⟨B, 13, none⟩ = some (.slice a n c)) := ⟨fun W B hX => by rw [hV] at hX; exact bx_13 hp.len hX⟩
  obtain ⟨M, hM⟩ : ∃ M, M = (bodyL p.d).length := ⟨_, rfl⟩
  have hM2 : M = n + padN n := by rw [hM, bodyL_len, hnl]
  have hel := encL_len p hp true false
  rw [← hM] at hel
  obtain ⟨X, hX⟩ : ∃ X, X = encL p true false := ⟨_, rfl⟩
  obtain ⟨E, hEq⟩ : ∃ E, E = (encL p true false).length := ⟨_, rfl⟩
  have hq1 := sz_le true
  have hq2 := sz_le (s2B false M)
  have hpn : padN n ≤ 3 ∧ (n + padN n) % 4 = 0 := by unfold padN; omega
  have hE8 : E ≤ 9000 := by omega
  have hDc : Kpt (∀ W g cap i, W.ownsRow w.heap.size 5 1 (.slice (some ⟨g, 0, none⟩) E cap) E (cels X) → cap ≤ maxLen → i < E → Calls Try.prog 12 #[.slice (some ⟨g, 0, none⟩) i cap, .bool true, .bool false] W fun e w' => e = .returned (.tuple #[.agg (noP.vals (.slice none 0 0)), .int .i64 0, .int .i64 8]) ∧ Below W.heap.size W w') := ⟨fun W g cap i ho hc hi => by
    have hi' : i < (encL p true false).length := by rw [← hEq]; exact hi
    have hc8 := dec_cutE p hp (by rw [hnl]; exact hn8) true false i hi'
    rw [hX] at ho
    refine (decode_any (some ⟨g, 0, none⟩) i cap ((encL p true false).take i) true false W (rd_take (own_rd ho) i (Nat.le_of_lt hi')) (by omega) hc (Bytes.take (encL_bytes p hp true false) i)).mono ?_
    rintro e w' ⟨hb, h⟩
    rcases h with ⟨h1, rfl⟩ | ⟨h1, h2⟩
    · rw [hc8]; exact ⟨rfl, hb⟩
    · rw [hc8] at h1; cases h1⟩
  rw [← hX] at hE
  have hXl : X.length = E := by rw [hX, ← hEq]
  rw [hXl] at hE
  rw [← hEq] at hel
  rw [← hV] at hE
  rw [← hV]
  have h1 : ¬ (8192 : Int) < n := by omega
  have e1 : ((n : Int) + 3).tdiv 4 * 4 = (M : Int) := by
    rw [Int.tdiv_eq_ediv_of_nonneg (by omega)]
    omega
  have e2 : ((n : Int) + 3) / 4 * 4 = (M : Int) := by omega
  have hM8 : M ≤ 8195 := by omega
  have hs2 : s2B false M = false := by rfl
  rw [hs2] at hel
  have e3 : ((48 : Int) + (M : Int) + 4) = (E : Int) := by simp [sz] at hel; omega
  clear hV hp hM hM2 hX hEq hXl hel hpn hs2 h0 hd hnl hq1 hq2
  go_enter Try.func8, Try.ntmps8
  go_wp2_with (first
    | (go_at_call 10; go_must (refine (hE.out _ hb1.out).mono ?_; rintro e w2 ⟨g, cap, rfl, ho2, hg2, hcap2, hbe2⟩; have hb2 : Kpt (Below w.heap.size w w2) := ⟨hb1.out.trans (hbe2.mono hb1.out.size)⟩; have hcc := hc13.out _ _ (hX1.out.below hbe2 hX1.out.lt); replace ho2 : Kpt (w2.ownsRow w.heap.size 5 1 (.slice (some ⟨g, 0, none⟩) E cap) E (cels X)) := ⟨own_base ho2 hb1.out.size⟩; replace hg2 : Kpt (w.heap.size ≤ g) := ⟨Nat.le_trans hb1.out.size hg2⟩; replace hcap2 := Kpt.mk hcap2; clear hbe2))
    | (refine wpList_load_bx rfl 26 (.tmp 3) rfl B V rfl hX1.out _ Try.underlying26 rfl (by rw [hVs.out]; exact sizeP) ?_)
    | (go_at_call 9; go_must (refine (awake_any _).mono ?_; rintro e w1 ⟨rfl, hbe1⟩; have hb1 : Kpt (Below w.heap.size w w1) := ⟨hb0.out.trans (hbe1.mono hb0.out.size)⟩; have hX1 : Kpt (Bx w1 B V) := ⟨hX0.out.below hbe1 hX0.out.lt⟩; clear hbe1))
    | (refine wpList_box rfl 26 (.tmp 0) rfl V rfl ?_; intro B w0 hB hX0 hb0 hz0; replace hX0 := Kpt.mk hX0; replace hb0 := Kpt.mk hb0; clear hz0 hB))
  go_loopw [11] (fun t wr => ∃ k : Nat, k ≤ E + 7 ∧ t = .int .i64 k ∧ Kpt (wr.ownsRow w.heap.size 5 1 (.slice (some ⟨g, 0, none⟩) E cap) E (cels X)) ∧ Kpt (Below w.heap.size w wr)) (fun t _ => E + 7 - (intOf t).toNat)
  case atStart => exact ⟨0, by omega, rfl, ho2, hb2⟩
  case round =>
    obtain ⟨k, hk, rfl, hok, hbk⟩ := hrel
    clear hcc
    by_cases hlt : k < E
    · have hcE : Kpt (E ≤ cap) := ⟨by
        rcases hok.out.2 with ⟨h', _⟩ | ⟨g', cap', cur, h', hb, _, hnc, hcm, _⟩
        · cases h'
        · simp only [Value.slice.injEq] at h'; omega⟩
      have hkc : ¬ cap < k := by have := hcE.out; omega
      have hltI : (k : Int) < E := by omega
      go_wp2_with (first
        | (refine (?_ : wpList _ _ _ (Oper.mk none (Op.store _ _ _) _ _ _ _ :: _) _ _); go_must (refine wpList_store_bx rfl 26 (.tmp 12) (.tmp 74) rfl B2 (noP.vals (.slice none 0 0)) (noP.vals (.slice none 0 0)) rfl rfl hX4.out rfl sizeP (Pd.one noP none 0 0) rfl ?_; intro w5 hX5 hg5; have hb5 : Kpt (Below w.heap.size w w5) := ⟨hb4.out.grown hg5 hb4.out.size (fun k h => by cases h; exact hB2.out.1)⟩; have ho5 : Kpt (w5.ownsRow w.heap.size 5 1 (.slice (some ⟨g, 0, none⟩) E cap) E (cels X)) := ⟨own_of_block ho4.out fun g' hg' => hg5.block g' (World.ownsRow.lt ho4.out g' hg').2 (fun e => by cases hg'; exact hB2.out.2 (Option.some.inj e).symm)⟩; clear hX5 hg5))
        | (refine wpList_var rfl 26 rfl (noP.vals (.slice none 0 0)) zeroPi ?_; intro B2 w4 hB2 hX4 hbe4; have hb4 : Kpt (Below w.heap.size w w4) := ⟨hb3.out.trans (hbe4.mono hb3.out.size)⟩; have ho4 : Kpt (w4.ownsRow w.heap.size 5 1 (.slice (some ⟨g, 0, none⟩) E cap) E (cels X)) := ⟨own_of_block ho3.out fun g' hg' => hbe4.block g' (World.ownsRow.lt ho3.out g' hg').2⟩; replace hX4 := Kpt.mk hX4; replace hB2 : Kpt (w.heap.size ≤ B2 ∧ B2 ≠ g) := ⟨Nat.le_trans hb3.out.size hB2, (Nat.ne_of_lt (Nat.lt_of_lt_of_le (World.ownsRow.lt ho3.out g rfl).2 hB2)).symm⟩; clear hbe4)
        | (go_at_call 12; go_must (refine (hDc.out _ g cap k hok.out hcap2.out hlt).mono ?_; rintro e w3 ⟨rfl, hbe3⟩; have hb3 : Kpt (Below w.heap.size w w3) := ⟨hbk.out.trans (hbe3.mono hbk.out.size)⟩; have ho3 : Kpt (w3.ownsRow w.heap.size 5 1 (.slice (some ⟨g, 0, none⟩) E cap) E (cels X)) := ⟨own_of_block hok.out fun g' hg' => hbe3.block g' (World.ownsRow.lt hok.out g' hg').2⟩; clear hbe3)))
      go_roundw
      case rel => exact ⟨k + 7, by omega, by go_num, ho5, hb5⟩
      case measure => simp [intOf]; omega
    · have hltI : ¬ (k : Int) < E := by omega
      go_wp2
      go_ret
      exact ⟨rfl, hbk.out⟩

set_option maxRecDepth 100000 in
set_option maxHeartbeats 1000000 in
theorem len_ttp (p : Pd) (a : Option Addr) (n c : Nat) (w : World) (hp : p.ok) (hd : RdAt w (.slice a n c) p.d) (hn8 : n ≤ 8192) (h0 : 0 < (bodyL p.d).length) :
    Calls Try.prog 8 #[.agg (p.vals (.slice a n c)), .bool true, .bool true] w fun e w' => e = .returned (.bool true) ∧ Below w.heap.size w w' := by
  have hnl : p.d.length = n := (rd_row hd).1
  obtain ⟨V, hV⟩ : ∃ V, V = p.vals (.slice a n c) := ⟨_, rfl⟩
  have hVs : Kpt (V.size = 14) := ⟨by rw [hV]; exact Pd.size hp.len _⟩
  have hE := Kpt.mk (fun W (hW : Below w.heap.size w W) => enc_any p a n c true true W hp (hd.bel hW) hn8)
  have hc13 : Kpt (∀ W B, Bx W B V → W.cell? ⟨B, 13, none⟩ = some (.slice a n c)) := ⟨fun W B hX => by rw [hV] at hX; exact bx_13 hp.len hX⟩
  obtain ⟨M, hM⟩ : ∃ M, M = (bodyL p.d).length := ⟨_, rfl⟩
  have hM2 : M = n + padN n := by rw [hM, bodyL_len, hnl]
  have hel := encL_len p hp true true
  rw [← hM] at hel h0
  obtain ⟨X, hX⟩ : ∃ X, X = encL p true true := ⟨_, rfl⟩
  obtain ⟨E, hEq⟩ : ∃ E, E = (encL p true true).length := ⟨_, rfl⟩
  have hq1 := sz_le true
  have hq2 := sz_le (s2B true M)
  have hpn : padN n ≤ 3 ∧ (n + padN n) % 4 = 0 := by unfold padN; omega
  have hE8 : E ≤ 9000 := by omega
  have hDc : Kpt (∀ W g cap i, W.ownsRow w.heap.size 5 1 (.slice (some ⟨g, 0, none⟩) E cap) E (cels X) → cap ≤ maxLen → i < E → Calls Try.prog 12 #[.slice (some ⟨g, 0, none⟩) i cap, .bool true, .bool true] W fun e w' => e = .returned (.tuple #[.agg (noP.vals (.slice none 0 0)), .int .i64 0, .int .i64 8]) ∧ Below W.heap.size W w') := ⟨fun W g cap i ho hc hi => by
    have hi' : i < (encL p true true).length := by rw [← hEq]; exact hi
    have hc8 := dec_cutE p hp (by rw [hnl]; exact hn8) true true i hi'
    rw [hX] at ho
    refine (decode_any (some ⟨g, 0, none⟩) i cap ((encL p true true).take i) true true W (rd_take (own_rd ho) i (Nat.le_of_lt hi')) (by omega) hc (Bytes.take (encL_bytes p hp true true) i)).mono ?_
    rintro e w' ⟨hb, h⟩
    rcases h with ⟨h1, rfl⟩ | ⟨h1, h2⟩
    · rw [hc8]; exact ⟨rfl, hb⟩
    · rw [hc8] at h1; cases h1⟩
  rw [← hX] at hE
  have hXl : X.length = E := by rw [hX, ← hEq]
  rw [hXl] at hE
  rw [← hEq] at hel
  rw [← hV] at hE
  rw [← hV]
  have h1 : ¬ (8192 : Int) < n := by omega
  have e1 : ((n : Int) + 3).tdiv 4 * 4 = (M : Int) := by
    rw [Int.tdiv_eq_ediv_of_nonneg (by omega)]
    omega
  have e2 : ((n : Int) + 3) / 4 * 4 = (M : Int) := by omega
  have hM8 : M ≤ 8195 := by omega
  have hs2 : s2B true M = true := by simp [s2B]; omega
  rw [hs2] at hel
  have e3 : ((48 : Int) + (M : Int) + 4) + 4 = (E : Int) := by simp [sz] at hel; omega
  have h00 : (0 : Int) < (M : Int) := by omega
  clear hV hp hM hM2 hX hEq hXl hel hpn hs2 h0 hd hnl hq1 hq2
  go_enter Try.func8, Try.ntmps8
  go_wp2_with (first
    | (go_at_call 10; go_must (refine (hE.out _ hb1.out).mono ?_; rintro e w2 ⟨g, cap, rfl, ho2, hg2, hcap2, hbe2⟩; have hb2 : Kpt (Below w.heap.size w w2) := ⟨hb1.out.trans (hbe2.mono hb1.out.size)⟩; have hcc := hc13.out _ _ (hX1.out.below hbe2 hX1.out.lt); replace ho2 : Kpt (w2.ownsRow w.heap.size 5 1 (.slice (some ⟨g, 0, none⟩) E cap) E (cels X)) := ⟨own_base ho2 hb1.out.size⟩; replace hg2 : Kpt (w.heap.size ≤ g) := ⟨Nat.le_trans hb1.out.size hg2⟩; replace hcap2 := Kpt.mk hcap2; clear hbe2))
    | (refine wpList_load_bx rfl 26 (.tmp 3) rfl B V rfl hX1.out _ Try.underlying26 rfl (by rw [hVs.out]; exact sizeP) ?_)
    | (go_at_call 9; go_must (refine (awake_any _).mono ?_; rintro e w1 ⟨rfl, hbe1⟩; have hb1 : Kpt (Below w.heap.size w w1) := ⟨hb0.out.trans (hbe1.mono hb0.out.size)⟩; have hX1 : Kpt (Bx w1 B V) := ⟨hX0.out.below hbe1 hX0.out.lt⟩; clear hbe1))
    | (refine wpList_box rfl 26 (.tmp 0) rfl V rfl ?_; intro B w0 hB hX0 hb0 hz0; replace hX0 := Kpt.mk hX0; replace hb0 := Kpt.mk hb0; clear hz0 hB))
  have hdt1 : decide ((0 : Int) < (M : Int)) = true := by simp; omega
  have hdt2 : decide (0 < M) = true := by simp; omega
  simp only [hdt1, hdt2]
  clear hdt1 hdt2
  go_loopw [11] (fun t wr => ∃ k : Nat, k ≤ E + 7 ∧ t = .int .i64 k ∧ Kpt (wr.ownsRow w.heap.size 5 1 (.slice (some ⟨g, 0, none⟩) E cap) E (cels X)) ∧ Kpt (Below w.heap.size w wr)) (fun t _ => E + 7 - (intOf t).toNat)
  case atStart => exact ⟨0, by omega, rfl, ho2, hb2⟩
  case round =>
    obtain ⟨k, hk, rfl, hok, hbk⟩ := hrel
    clear hcc h00
    by_cases hlt : k < E
    · have hcE : Kpt (E ≤ cap) := ⟨by
        rcases hok.out.2 with ⟨h', _⟩ | ⟨g', cap', cur, h', hb, _, hnc, hcm, _⟩
        · cases h'
        · simp only [Value.slice.injEq] at h'; omega⟩
      have hkc : ¬ cap < k := by have := hcE.out; omega
      have hltI : (k : Int) < E := by omega
      go_wp2_with (first
        | (refine (?_ : wpList _ _ _ (Oper.mk none (Op.store _ _ _) _ _ _ _ :: _) _ _); go_must (refine wpList_store_bx rfl 26 (.tmp 12) (.tmp 74) rfl B2 (noP.vals (.slice none 0 0)) (noP.vals (.slice none 0 0)) rfl rfl hX4.out rfl sizeP (Pd.one noP none 0 0) rfl ?_; intro w5 hX5 hg5; have hb5 : Kpt (Below w.heap.size w w5) := ⟨hb4.out.grown hg5 hb4.out.size (fun k h => by cases h; exact hB2.out.1)⟩; have ho5 : Kpt (w5.ownsRow w.heap.size 5 1 (.slice (some ⟨g, 0, none⟩) E cap) E (cels X)) := ⟨own_of_block ho4.out fun g' hg' => hg5.block g' (World.ownsRow.lt ho4.out g' hg').2 (fun e => by cases hg'; exact hB2.out.2 (Option.some.inj e).symm)⟩; clear hX5 hg5))
        | (refine wpList_var rfl 26 rfl (noP.vals (.slice none 0 0)) zeroPi ?_; intro B2 w4 hB2 hX4 hbe4; have hb4 : Kpt (Below w.heap.size w w4) := ⟨hb3.out.trans (hbe4.mono hb3.out.size)⟩; have ho4 : Kpt (w4.ownsRow w.heap.size 5 1 (.slice (some ⟨g, 0, none⟩) E cap) E (cels X)) := ⟨own_of_block ho3.out fun g' hg' => hbe4.block g' (World.ownsRow.lt ho3.out g' hg').2⟩; replace hX4 := Kpt.mk hX4; replace hB2 : Kpt (w.heap.size ≤ B2 ∧ B2 ≠ g) := ⟨Nat.le_trans hb3.out.size hB2, (Nat.ne_of_lt (Nat.lt_of_lt_of_le (World.ownsRow.lt ho3.out g rfl).2 hB2)).symm⟩; clear hbe4)
        | (go_at_call 12; go_must (refine (hDc.out _ g cap k hok.out hcap2.out hlt).mono ?_; rintro e w3 ⟨rfl, hbe3⟩; have hb3 : Kpt (Below w.heap.size w w3) := ⟨hbk.out.trans (hbe3.mono hbk.out.size)⟩; have ho3 : Kpt (w3.ownsRow w.heap.size 5 1 (.slice (some ⟨g, 0, none⟩) E cap) E (cels X)) := ⟨own_of_block hok.out fun g' hg' => hbe3.block g' (World.ownsRow.lt hok.out g' hg').2⟩; clear hbe3)))
      go_roundw
      case rel => exact ⟨k + 7, by omega, by go_num, ho5, hb5⟩
      case measure => simp [intOf]; omega
    · have hltI : ¬ (k : Int) < E := by omega
      go_wp2
      go_ret
      exact ⟨rfl, hbk.out⟩

set_option maxRecDepth 100000 in
set_option maxHeartbeats 1000000 in
theorem len_ttz (p : Pd) (a : Option Addr) (n c : Nat) (w : World) (hp : p.ok) (hd : RdAt w (.slice a n c) p.d) (hn8 : n ≤ 8192) (h0 : ¬ 0 < (bodyL p.d).length) :
    Calls Try.prog 8 #[.agg (p.vals (.slice a n c)), .bool true, .bool true] w fun e w' => e = .returned (.bool true) ∧ Below w.heap.size w w' := by
  have hnl : p.d.length = n := (rd_row hd).1
  obtain ⟨V, hV⟩ : ∃ V, V = p.vals (.slice a n c) := ⟨_, rfl⟩
  have hVs : Kpt (V.size = 14) := ⟨by rw [hV]; exact Pd.size hp.len _⟩
  have hE := Kpt.mk (fun W (hW : Below w.heap.size w W) => enc_any p a n c true true W hp (hd.bel hW) hn8)
  have hc13 : Kpt (∀ W B, Bx W B V → W.cell? ⟨B, 13, none⟩ = some (.slice a n c)) := ⟨fun W B hX => by rw [hV] at hX; exact bx_13 hp.len hX⟩
  obtain ⟨M, hM⟩ : ∃ M, M = (bodyL p.d).length := ⟨_, rfl⟩
  have hM2 : M = n + padN n := by rw [hM, bodyL_len, hnl]
  have hel := encL_len p hp true true
  rw [← hM] at hel h0
  obtain ⟨X, hX⟩ : ∃ X, X = encL p true true := ⟨_, rfl⟩
  obtain ⟨E, hEq⟩ : ∃ E, E = (encL p true true).length := ⟨_, rfl⟩
  have hq1 := sz_le true
  have hq2 := sz_le (s2B true M)
  have hpn : padN n ≤ 3 ∧ (n + padN n) % 4 = 0 := by unfold padN; omega
  have hE8 : E ≤ 9000 := by omega
  have hDc : Kpt (∀ W g cap i, W.ownsRow w.heap.size 5 1 (.slice (some ⟨g, 0, none⟩) E cap) E (cels X) → cap ≤ maxLen → i < E → Calls Try.prog 12 #[.slice (some ⟨g, 0, none⟩) i cap, .bool true, .bool true] W fun e w' => e = .returned (.tuple #[.agg (noP.vals (.slice none 0 0)), .int .i64 0, .int .i64 8]) ∧ Below W.heap.size W w') := ⟨fun W g cap i ho hc hi => by
    have hi' : i < (encL p true true).length := by rw [← hEq]; exact hi
    have hc8 := dec_cutE p hp (by rw [hnl]; exact hn8) true true i hi'
    rw [hX] at ho
    refine (decode_any (some ⟨g, 0, none⟩) i cap ((encL p true true).take i) true true W (rd_take (own_rd ho) i (Nat.le_of_lt hi')) (by omega) hc (Bytes.take (encL_bytes p hp true true) i)).mono ?_
    rintro e w' ⟨hb, h⟩
    rcases h with ⟨h1, rfl⟩ | ⟨h1, h2⟩
    · rw [hc8]; exact ⟨rfl, hb⟩
    · rw [hc8] at h1; cases h1⟩
  rw [← hX] at hE
  have hXl : X.length = E := by rw [hX, ← hEq]
  rw [hXl] at hE
  rw [← hEq] at hel
  rw [← hV] at hE
  rw [← hV]
  have h1 : ¬ (8192 : Int) < n := by omega
  have e1 : ((n : Int) + 3).tdiv 4 * 4 = (M : Int) := by
    rw [Int.tdiv_eq_ediv_of_nonneg (by omega)]
    omega
  have e2 : ((n : Int) + 3) / 4 * 4 = (M : Int) := by omega
  have hM8 : M ≤ 8195 := by omega
  have hs2 : s2B true M = false := by simp [s2B]; omega
  rw [hs2] at hel
  have e3 : ((48 : Int) + (M : Int) + 4) = (E : Int) := by simp [sz] at hel; omega
  have h00 : ¬ (0 : Int) < (M : Int) := by omega
  clear hV hp hM hM2 hX hEq hXl hel hpn hs2 h0 hd hnl hq1 hq2
  go_enter Try.func8, Try.ntmps8
  go_wp2_with (first
    | (go_at_call 10; go_must (refine (hE.out _ hb1.out).mono ?_; rintro e w2 ⟨g, cap, rfl, ho2, hg2, hcap2, hbe2⟩; have hb2 : Kpt (Below w.heap.size w w2) := ⟨hb1.out.trans (hbe2.mono hb1.out.size)⟩; have hcc := hc13.out _ _ (hX1.out.below hbe2 hX1.out.lt); replace ho2 : Kpt (w2.ownsRow w.heap.size 5 1 (.slice (some ⟨g, 0, none⟩) E cap) E (cels X)) := ⟨own_base ho2 hb1.out.size⟩; replace hg2 : Kpt (w.heap.size ≤ g) := ⟨Nat.le_trans hb1.out.size hg2⟩; replace hcap2 := Kpt.mk hcap2; clear hbe2))
    | (refine wpList_load_bx rfl 26 (.tmp 3) rfl B V rfl hX1.out _ Try.underlying26 rfl (by rw [hVs.out]; exact sizeP) ?_)
    | (go_at_call 9; go_must (refine (awake_any _).mono ?_; rintro e w1 ⟨rfl, hbe1⟩; have hb1 : Kpt (Below w.heap.size w w1) := ⟨hb0.out.trans (hbe1.mono hb0.out.size)⟩; have hX1 : Kpt (Bx w1 B V) := ⟨hX0.out.below hbe1 hX0.out.lt⟩; clear hbe1))
    | (refine wpList_box rfl 26 (.tmp 0) rfl V rfl ?_; intro B w0 hB hX0 hb0 hz0; replace hX0 := Kpt.mk hX0; replace hb0 := Kpt.mk hb0; clear hz0 hB))
  have hdt1 : decide ((0 : Int) < (M : Int)) = false := by simp; omega
  have hdt2 : decide (0 < M) = false := by simp; omega
  simp only [hdt1, hdt2]
  clear hdt1 hdt2
  go_loopw [11] (fun t wr => ∃ k : Nat, k ≤ E + 7 ∧ t = .int .i64 k ∧ Kpt (wr.ownsRow w.heap.size 5 1 (.slice (some ⟨g, 0, none⟩) E cap) E (cels X)) ∧ Kpt (Below w.heap.size w wr)) (fun t _ => E + 7 - (intOf t).toNat)
  case atStart => exact ⟨0, by omega, rfl, ho2, hb2⟩
  case round =>
    obtain ⟨k, hk, rfl, hok, hbk⟩ := hrel
    clear hcc h00
    by_cases hlt : k < E
    · have hcE : Kpt (E ≤ cap) := ⟨by
        rcases hok.out.2 with ⟨h', _⟩ | ⟨g', cap', cur, h', hb, _, hnc, hcm, _⟩
        · cases h'
        · simp only [Value.slice.injEq] at h'; omega⟩
      have hkc : ¬ cap < k := by have := hcE.out; omega
      have hltI : (k : Int) < E := by omega
      go_wp2_with (first
        | (refine (?_ : wpList _ _ _ (Oper.mk none (Op.store _ _ _) _ _ _ _ :: _) _ _); go_must (refine wpList_store_bx rfl 26 (.tmp 12) (.tmp 74) rfl B2 (noP.vals (.slice none 0 0)) (noP.vals (.slice none 0 0)) rfl rfl hX4.out rfl sizeP (Pd.one noP none 0 0) rfl ?_; intro w5 hX5 hg5; have hb5 : Kpt (Below w.heap.size w w5) := ⟨hb4.out.grown hg5 hb4.out.size (fun k h => by cases h; exact hB2.out.1)⟩; have ho5 : Kpt (w5.ownsRow w.heap.size 5 1 (.slice (some ⟨g, 0, none⟩) E cap) E (cels X)) := ⟨own_of_block ho4.out fun g' hg' => hg5.block g' (World.ownsRow.lt ho4.out g' hg').2 (fun e => by cases hg'; exact hB2.out.2 (Option.some.inj e).symm)⟩; clear hX5 hg5))
        | (refine wpList_var rfl 26 rfl (noP.vals (.slice none 0 0)) zeroPi ?_; intro B2 w4 hB2 hX4 hbe4; have hb4 : Kpt (Below w.heap.size w w4) := ⟨hb3.out.trans (hbe4.mono hb3.out.size)⟩; have ho4 : Kpt (w4.ownsRow w.heap.size 5 1 (.slice (some ⟨g, 0, none⟩) E cap) E (cels X)) := ⟨own_of_block ho3.out fun g' hg' => hbe4.block g' (World.ownsRow.lt ho3.out g' hg').2⟩; replace hX4 := Kpt.mk hX4; replace hB2 : Kpt (w.heap.size ≤ B2 ∧ B2 ≠ g) := ⟨Nat.le_trans hb3.out.size hB2, (Nat.ne_of_lt (Nat.lt_of_lt_of_le (World.ownsRow.lt ho3.out g rfl).2 hB2)).symm⟩; clear hbe4)
        | (go_at_call 12; go_must (refine (hDc.out _ g cap k hok.out hcap2.out hlt).mono ?_; rintro e w3 ⟨rfl, hbe3⟩; have hb3 : Kpt (Below w.heap.size w w3) := ⟨hbk.out.trans (hbe3.mono hbk.out.size)⟩; have ho3 : Kpt (w3.ownsRow w.heap.size 5 1 (.slice (some ⟨g, 0, none⟩) E cap) E (cels X)) := ⟨own_of_block hok.out fun g' hg' => hbe3.block g' (World.ownsRow.lt hok.out g' hg').2⟩; clear hbe3)))
      go_roundw
      case rel => exact ⟨k + 7, by omega, by go_num, ho5, hb5⟩
      case measure => simp [intOf]; omega
    · have hltI : ¬ (k : Int) < E := by omega
      go_wp2
      go_ret
      exact ⟨rfl, hbk.out⟩
end Go.Proofs.Ytigfoldobkigeaa
