/-
  pdu: PduBytes.
-/
import Derived.Test.YtigfoldobkigeaaUREaff
import Derived.Test.YtigfoldobkigeaaUREatf
import Derived.Test.YtigfoldobkigeaaUREaft
import Derived.Test.YtigfoldobkigeaaUREatt
namespace Go.Proofs.Ytigfoldobkigeaa
open Go.RowKit
set_option linter.unusedVariables false
set_option linter.unusedSimpArgs false

theorem renc_any (p : Pd) (a : Option Addr) (n c : Nat) (h d : Bool) (w : World) (hp : p.ok) (hd : RdAt w (.slice a n c) p.d) (hn8 : n ≤ 8192) :
    Calls Try.prog 11 #[.agg (p.vals (.slice a n c)), .bool h, .bool d] w fun e w' => ∃ g N cap, e = .returned (.tuple #[.slice (some ⟨g, 0, none⟩) N cap, .int .i64 0]) ∧ w'.ownsRow w.heap.size 5 1 (.slice (some ⟨g, 0, none⟩) N cap) N (cels (encL p h d)) ∧ Below w.heap.size w w' := by
  cases h with
  | false =>
    cases d with
    | false => exact renc_ff p a n c w hp hd hn8
    | true => exact renc_ft p a n c w hp hd hn8
  | true =>
    cases d with
    | false => exact renc_tf p a n c w hp hd hn8
    | true => exact renc_tt p a n c w hp hd hn8

set_option maxRecDepth 100000 in
set_option maxHeartbeats 1000000 in
theorem renc_long (p : Pd) (a : Option Addr) (n c : Nat) (h d : Bool) (w : World) (hp : p.ws.length = 7) (hn8 : 8192 < n) (hm : n ≤ maxLen) :
    Calls Try.prog 11 #[.agg (p.vals (.slice a n c)), .bool h, .bool d] w fun e w' => e = .returned (.tuple #[.slice none 0 0, .int .i64 2]) ∧ Below w.heap.size w w' := by
  obtain ⟨V, hV⟩ : ∃ V, V = p.vals (.slice a n c) := ⟨_, rfl⟩
  have hc13 : Kpt (∀ W B, Bx W B V → W.cell? ⟨B, 13, none⟩ = some (.slice a n c)) := ⟨fun W B hX => by rw [hV] at hX; exact bx_13 hp hX⟩
  have h1 : (8192 : Int) < n := by omega
  unfold maxLen at hm
  rw [← hV]
  clear hV hp
  go_enter Try.func11, Try.ntmps11
  go_wp2_with (refine wpList_box rfl 26 (.tmp 0) rfl V rfl ?_; intro B w0 hB hX0 hb0 hz0; have hcc := hc13.out _ _ hX0; replace hb0 := Kpt.mk hb0; clear hz0 hX0)
  go_ret2
  exact ⟨rfl, hb0.out⟩

set_option maxRecDepth 100000 in
set_option maxHeartbeats 1000000 in
theorem byt_long (p : Pd) (a : Option Addr) (n c : Nat) (h d : Bool) (w : World) (hp : p.ok) (hn8 : 8192 < n) (hm : n ≤ maxLen) :
    Calls Try.prog 3 #[.agg (p.vals (.slice a n c)), .bool h, .bool d] w fun e w' => e = .returned (.bool true) ∧ Below w.heap.size w w' := by
  obtain ⟨V, hV⟩ : ∃ V, V = p.vals (.slice a n c) := ⟨_, rfl⟩
  have hVs : Kpt (V.size = 14) := ⟨by rw [hV]; exact Pd.size hp.len _⟩
  have hE := Kpt.mk (fun W => enc_long p a n c h d W hp.len hn8 hm)
  have hR := Kpt.mk (fun W => renc_long p a n c h d W hp.len hn8 hm)
  have hcv : ∀ W, (convert 24 9 (.slice none 0 0)).run Try.prog W = .ok (.string (strOfNums [])) W := fun W => conv_rd (rd_nil W)
  rw [← hV] at hE hR
  rw [← hV]
  clear hV hp
  go_enter Try.func3, Try.ntmps3
  go_wp2_with (first
    | (go_at_call 11; go_must (refine (hR.out _).mono ?_; rintro e w3 ⟨rfl, hbe3⟩; replace hb : Kpt (Below w.heap.size w w3) := ⟨hb.out.trans (hbe3.mono hb.out.size)⟩; clear hbe3))
    | (go_at_call 10; go_must (refine (hE.out _).mono ?_; rintro e w2 ⟨rfl, hbe2⟩; replace hb : Kpt (Below w.heap.size w w2) := ⟨hb.out.trans (hbe2.mono hb.out.size)⟩; replace hX : Kpt (Bx w2 B V) := ⟨hX.out.below hbe2 hX.out.lt⟩; clear hbe2))
    | (refine wpList_load_bx rfl 26 (.tmp 3) rfl B V rfl hX.out _ Try.underlying26 rfl (by rw [hVs.out]; exact sizeP) ?_)
    | (go_at_call 9; go_must (refine (awake_any _).mono ?_; rintro e w1 ⟨rfl, hbe1⟩; replace hb : Kpt (Below w.heap.size w w1) := ⟨hb.out.trans (hbe1.mono hb.out.size)⟩; replace hX : Kpt (Bx w1 B V) := ⟨hX.out.below hbe1 hX.out.lt⟩; clear hbe1))
    | (refine wpList_box rfl 26 (.tmp 0) rfl V rfl ?_; intro B w0 hB hX hb hz; replace hX := Kpt.mk hX; replace hb := Kpt.mk hb; clear hz hB))
  go_ret
  exact ⟨rfl, hb.out⟩

set_option maxRecDepth 100000 in
set_option maxHeartbeats 2000000 in
theorem byt_any (p : Pd) (a : Option Addr) (n c : Nat) (h d : Bool) (w : World) (hp : p.ok) (hd : RdAt w (.slice a n c) p.d) (hn8 : n ≤ 8192) :
    Calls Try.prog 3 #[.agg (p.vals (.slice a n c)), .bool h, .bool d] w fun e w' => e = .returned (.bool true) ∧ Below w.heap.size w w' := by
  have hnl : p.d.length = n := (rd_row hd).1
  have hE := Kpt.mk (fun W (hW : Below w.heap.size w W) => enc_any p a n c h d W hp (hd.bel hW) hn8)
  have hR := Kpt.mk (fun W (hW : Below w.heap.size w W) => renc_any p a n c h d W hp (hd.bel hW) hn8)
  have hel := encL_len p hp h d
  have hM : (bodyL p.d).length ≤ 8195 := by rw [bodyL_len, hnl]; unfold padN; omega
  have hq1 := sz_le h
  have hq2 := sz_le (s2B d (bodyL p.d).length)
  obtain ⟨X, hX0⟩ : ∃ X, X = encL p h d := ⟨_, rfl⟩
  obtain ⟨E, hEq⟩ : ∃ E, E = (encL p h d).length := ⟨_, rfl⟩
  have hE9 : E ≤ 9000 := by omega
  have hXl : X.length = E := by rw [hX0, ← hEq]
  obtain ⟨de, dn, dp⟩ := dec_enc p hp (by rw [hnl]; exact hn8) h d []
  rw [List.append_nil] at de dn dp
  have hD : Kpt (∀ W g cap, W.ownsRow w.heap.size 5 1 (.slice (some ⟨g, 0, none⟩) E cap) E (cels X) → cap ≤ maxLen → Calls Try.prog 12 #[.slice (some ⟨g, 0, none⟩) E cap, .bool h, .bool d] W fun e w' => ∃ va vc, e = .returned (.tuple #[.agg (p.vals (.slice va n vc)), .int .i64 E, .int .i64 0]) ∧ Row w' (.slice va n vc) p.d ∧ (∀ g, (Value.slice va n vc).ownBlock = some g → W.heap.size ≤ g) ∧ Below W.heap.size W w') := ⟨fun W g cap ho hc => by
    rw [hX0] at ho
    refine (decode_any (some ⟨g, 0, none⟩) E cap (encL p h d) h d W (own_rd ho) (by omega) hc (encL_bytes p hp h d)).mono ?_
    rintro e w' ⟨hb, h'⟩
    rcases h' with ⟨h1, rfl⟩ | ⟨h1, v, rfl, hr, hv⟩
    · exact absurd de h1
    · rw [dp] at hr
      obtain ⟨va, vc, rfl⟩ := rd_len hr.rd
      rw [hnl] at hr hv
      rw [dp, dn, ← hEq, hnl]
      exact ⟨va, vc, rfl, hr, hv, hb⟩⟩
  have hS : Kpt (∀ W va vc, RdAt W (.slice va n vc) p.d → Below w.heap.size w W → Calls Try.prog 13 #[.agg (p.vals (.slice va n vc)), .agg (p.vals (.slice a n c))] W fun e w' => e = .returned (.bool true) ∧ Below W.heap.size W w') := ⟨fun W va vc h1 h2 => same_any p va a n vc c W hp.len h1 (hd.bel h2)⟩
  rw [← hX0] at hE hR
  rw [hXl] at hE
  obtain ⟨x0, x1, x2, x3, x4, x5, x6, hp7⟩ := pd_seven p hp.len
  obtain ⟨op, fl, rs, st, lun, tag, ws, dd⟩ := p
  simp only [Pd.mk.injEq, true_and, and_true] at hp7
  subst hp7
  simp only at hnl
  obtain ⟨V, hV⟩ : ∃ V, V = Pd.vals ⟨op, fl, rs, st, lun, tag, [x0, x1, x2, x3, x4, x5, x6], dd⟩ (.slice a n c) := ⟨_, rfl⟩
  have hVs : Kpt (V.size = 14) := ⟨by rw [hV]; exact Pd.size hp.len _⟩
  rw [← hV] at hE hR
  rw [← hV]
  replace hV := Kpt.mk hV
  replace hXl := Kpt.mk hXl
  clear hp hd hel hq1 hq2 hM hEq hX0 de dn dp hnl
  go_enter Try.func3, Try.ntmps3
  go_wp2_with (first
    | (go_at_call 13; go_must (refine (hS.out _ va vc hr4.out.rd hb.out).mono ?_; rintro e w7 ⟨rfl, hbe7⟩; replace hb : Kpt (Below w.heap.size w w7) := ⟨hb.out.trans (hbe7.mono hb.out.size)⟩; clear hbe7))
    | (refine (?_ : wpList _ _ _ (Oper.mk none (Op.store _ _ _) _ _ _ _ :: _) _ _); go_must (refine wpList_store_bx rfl 26 (.tmp 11) (.tmp 57) rfl B2 (noP.vals (.slice none 0 0)) (Pd.vals ⟨op, fl, rs, st, lun, tag, [x0, x1, x2, x3, x4, x5, x6], dd⟩ (.slice va n vc)) rfl rfl hX5.out rfl sizeP (Pd.one _ _ _ _) rfl ?_; intro w6 hX6 hg6; replace hb : Kpt (Below w.heap.size w w6) := ⟨hb.out.grown hg6 hb.out.size (fun k h => by cases h; exact hB2.out.1)⟩; replace hX : Kpt (Bx w6 B V) := ⟨hX.out.grown hg6 (fun e => hB2.out.2.1 (Option.some.inj e))⟩; replace hr4 : Kpt (Row w6 (.slice va n vc) dd) := ⟨hr4.out.of_block fun g' hg' => hg6.block g' (Row.lt hr4.out hg') (fun e => hB2.out.2.2 g' hg' (Option.some.inj e).symm)⟩; have hq6 := pd_cells hX6; have hq7 := pd_cells (hV.out ▸ hX.out); clear hg6 hX6))
    | (have hm := m1; refine wpList_var rfl 26 rfl (noP.vals (.slice none 0 0)) zeroPi ?_; intro B2 w5 hB2 hX5 hbe5; have hB2' : Kpt (w.heap.size ≤ B2 ∧ B2 ≠ B ∧ ∀ g, (Value.slice va n vc).ownBlock = some g → B2 ≠ g) := ⟨Nat.le_trans hb.out.size hB2, (Nat.ne_of_lt (Nat.lt_of_lt_of_le hX.out.lt hB2)).symm, fun g hg => (Nat.ne_of_lt (Nat.lt_of_lt_of_le (Row.lt hr4.out hg) hB2)).symm⟩; replace hB2 := hB2'; clear hB2'; replace hr4 : Kpt (Row w5 (.slice va n vc) dd) := ⟨hr4.out.of_block fun g' hg' => hbe5.block g' (Row.lt hr4.out hg')⟩; replace hb : Kpt (Below w.heap.size w w5) := ⟨hb.out.trans (hbe5.mono hb.out.size)⟩; replace hX : Kpt (Bx w5 B V) := ⟨hX.out.below hbe5 hX.out.lt⟩; replace hX5 := Kpt.mk hX5; clear hbe5)
    | (go_at_call 12; go_must (refine (hD.out _ g cap ho2.out hcap2.out).mono ?_; rintro e w4 ⟨va, vc, rfl, hr4, hv4, hbe4⟩; replace hb : Kpt (Below w.heap.size w w4) := ⟨hb.out.trans (hbe4.mono hb.out.size)⟩; replace hX : Kpt (Bx w4 B V) := ⟨hX.out.below hbe4 hX.out.lt⟩; replace hr4 := Kpt.mk hr4; replace hv4 := Kpt.mk hv4; clear hbe4 hcv1 hcv2; have m1 : Kpt True := ⟨trivial⟩))
    | (go_at_call 11; go_must (refine (hR.out _ hb.out).mono ?_; rintro e w3 ⟨g3, N3, cap3, rfl, ho3, hbe3⟩; replace ho2 : Kpt (w3.ownsRow w.heap.size 5 1 (.slice (some ⟨g, 0, none⟩) E cap) E (cels X)) := ⟨own_of_block ho2.out fun g' hg' => hbe3.block g' (World.ownsRow.lt ho2.out g' hg').2⟩; replace hb : Kpt (Below w.heap.size w w3) := ⟨hb.out.trans (hbe3.mono hb.out.size)⟩; replace hX : Kpt (Bx w3 B V) := ⟨hX.out.below hbe3 hX.out.lt⟩; have hcv1 := conv_rd (own_rd ho2.out); have hcv2 := conv_rd (own_rd ho3); clear hbe3 ho3))
    | (go_at_call 10; go_must (refine (hE.out _ hb.out).mono ?_; rintro e w2 ⟨g, cap, rfl, ho2, hg2, hcap2, hbe2⟩; replace ho2 : Kpt (w2.ownsRow w.heap.size 5 1 (.slice (some ⟨g, 0, none⟩) E cap) E (cels X)) := ⟨own_base ho2 hb.out.size⟩; replace hb : Kpt (Below w.heap.size w w2) := ⟨hb.out.trans (hbe2.mono hb.out.size)⟩; replace hX : Kpt (Bx w2 B V) := ⟨hX.out.below hbe2 hX.out.lt⟩; replace hcap2 := Kpt.mk hcap2; clear hbe2 hg2))
    | (refine wpList_load_bx rfl 26 (.tmp 3) rfl B V rfl hX.out _ Try.underlying26 rfl (by rw [hVs.out]; exact sizeP) ?_)
    | (go_at_call 9; go_must (refine (awake_any _).mono ?_; rintro e w1 ⟨rfl, hbe1⟩; replace hb : Kpt (Below w.heap.size w w1) := ⟨hb.out.trans (hbe1.mono hb.out.size)⟩; replace hX : Kpt (Bx w1 B V) := ⟨hX.out.below hbe1 hX.out.lt⟩; clear hbe1))
    | (refine wpList_box rfl 26 (.tmp 0) rfl V rfl ?_; intro B w0 hB hX hb hz; replace hX := Kpt.mk hX; replace hb := Kpt.mk hb; clear hz hB))
  go_ret
  exact ⟨rfl, hb.out⟩
end Go.Proofs.Ytigfoldobkigeaa
