/-
  pdu: PduSpoils.
-/
import Derived.Test.YtigfoldobkigeaaUSplP
import Derived.Test.YtigfoldobkigeaaULen
namespace Go.Proofs.Ytigfoldobkigeaa
open Go.RowKit
set_option linter.unusedVariables false
set_option linter.unusedSimpArgs false

set_option maxRecDepth 100000 in
set_option maxHeartbeats 1000000 in
theorem spl_zero (V : Array Value) (at' : Int) (w : World) :
    Calls Try.prog 5 #[.agg V, .int .u16 at', .int .u8 0] w fun e w' => e = .returned (.bool true) ∧ Below w.heap.size w w' := by
  go_enter Try.func5, Try.ntmps5
  go_wp2_with (first
    | (go_at_call 9; have hm := hb1; go_must (refine (awake_any _).mono ?_; rintro e w2 ⟨rfl, hbe2⟩; have hb2 : Kpt (Below w.heap.size w w2) := ⟨hb1.out.trans (hbe2.mono hb1.out.size)⟩; clear hbe2))
    | (go_at_call 9; go_must (refine (awake_any _).mono ?_; rintro e w1 ⟨rfl, hbe1⟩; have hb1 : Kpt (Below w.heap.size w w1) := ⟨hb0.out.trans (hbe1.mono hb0.out.size)⟩; have hX1 : Kpt (Bx w1 B V) := ⟨hX0.out.below hbe1 hX0.out.lt⟩; clear hbe1))
    | (refine wpList_box rfl 26 (.tmp 0) rfl V rfl ?_; intro B w0 hB hX0 hb0 hz0; replace hX0 := Kpt.mk hX0; replace hb0 := Kpt.mk hb0; clear hz0 hB))
  go_ret
  exact ⟨rfl, hb2.out⟩

set_option maxRecDepth 100000 in
set_option maxHeartbeats 1000000 in
theorem spl_long (p : Pd) (a : Option Addr) (n c : Nat) (at' y : Int) (w : World) (hp : p.ok) (hn8 : 8192 < n) (hm : n ≤ maxLen) (hy : y ≠ 0) :
    Calls Try.prog 5 #[.agg (p.vals (.slice a n c)), .int .u16 at', .int .u8 y] w fun e w' => e = .returned (.bool true) ∧ Below w.heap.size w w' := by
  obtain ⟨V, hV⟩ : ∃ V, V = p.vals (.slice a n c) := ⟨_, rfl⟩
  have hVs : Kpt (V.size = 14) := ⟨by rw [hV]; exact Pd.size hp.len _⟩
  have hE := Kpt.mk (fun W => enc_long p a n c true true W hp.len hn8 hm)
  have hy' : (y == 0) = false := by simpa using hy
  rw [← hV] at hE
  rw [← hV]
  clear hV hp hy
  go_enter Try.func5, Try.ntmps5
  go_wp2_with (first
    | (go_at_call 10; go_must (refine (hE.out _).mono ?_; rintro e w2 ⟨rfl, hbe2⟩; have hb2 : Kpt (Below w.heap.size w w2) := ⟨hb1.out.trans (hbe2.mono hb1.out.size)⟩; clear hbe2))
    | (refine wpList_load_bx rfl 26 (.tmp 3) rfl B V rfl hX1.out _ Try.underlying26 rfl (by rw [hVs.out]; exact sizeP) ?_)
    | (go_at_call 9; go_must (refine (awake_any _).mono ?_; rintro e w1 ⟨rfl, hbe1⟩; have hb1 : Kpt (Below w.heap.size w w1) := ⟨hb0.out.trans (hbe1.mono hb0.out.size)⟩; have hX1 : Kpt (Bx w1 B V) := ⟨hX0.out.below hbe1 hX0.out.lt⟩; clear hbe1))
    | (refine wpList_box rfl 26 (.tmp 0) rfl V rfl ?_; intro B w0 hB hX0 hb0 hz0; replace hX0 := Kpt.mk hX0; replace hb0 := Kpt.mk hb0; clear hz0 hB))
  go_ret
  exact ⟨rfl, hb2.out⟩

set_option maxRecDepth 100000 in
set_option maxHeartbeats 2000000 in
theorem spl_any (p : Pd) (a : Option Addr) (n c : Nat) (at' : Nat) (y : Nat) (w : World) (hp : p.ok) (hd : RdAt w (.slice a n c) p.d) (hn8 : n ≤ 8192) (hat : at' < 65536) (hy0 : y ≠ 0) (hy : y < 256) :
    Calls Try.prog 5 #[.agg (p.vals (.slice a n c)), .int .u16 at', .int .u8 y] w fun e w' => e = .returned (.bool true) ∧ Below w.heap.size w w' := by
  have hnl : p.d.length = n := (rd_row hd).1
  obtain ⟨V, hV⟩ : ∃ V, V = p.vals (.slice a n c) := ⟨_, rfl⟩
  have hVs : Kpt (V.size = 14) := ⟨by rw [hV]; exact Pd.size hp.len _⟩
  have hE := Kpt.mk (fun W (hW : Below w.heap.size w W) => enc_any p a n c true true W hp (hd.bel hW) hn8)
  have hel := encL_len p hp true true
  have hM : (bodyL p.d).length ≤ 8195 := by rw [bodyL_len, hnl]; unfold padN; omega
  have hq2 := sz_le (s2B true (bodyL p.d).length)
  have hEb : (encL p true true).length ≤ 9000 := by rw [hel]; simp only [sz, if_true]; unfold sz at hq2; omega
  have hE0 : 0 < (encL p true true).length := by rw [hel]; omega
  obtain ⟨E, hEq⟩ : ∃ E, E = (encL p true true).length := ⟨_, rfl⟩
  obtain ⟨i, hi⟩ : ∃ i, i = at' % E := ⟨_, rfl⟩
  have hiE : i < E := by rw [hi]; exact Nat.mod_lt _ (by omega)
  have hXb := encL_bytes p hp true true
  have hx := hXb i
  obtain ⟨x, hxe⟩ : ∃ x : Nat, (encL p true true).getD i 0 = (x : Int) := ⟨((encL p true true).getD i 0).toNat, by omega⟩
  have hx2 : x < 256 := by omega
  have hxy : x ^^^ y < 256 := by have : x ^^^ y < 2 ^ 8 := Nat.xor_lt_two_pow (by omega) (by omega); omega
  have hne : (encL p true true).getD i 0 ≠ ((x ^^^ y : Nat) : Int) := by
    rw [hxe]; intro h
    have h2 := xor_move x x y (by have : x = x ^^^ y := by exact_mod_cast h
                                  exact this.symm)
    rw [Nat.xor_self] at h2; exact hy0 h2
  have hxx := u8_xor_nat x y hx2 hy
  obtain ⟨z, hz⟩ : ∃ z, z = x ^^^ y := ⟨_, rfl⟩
  rw [← hz] at hxy hne hxx
  obtain ⟨X, hX⟩ : ∃ X, X = encL p true true := ⟨_, rfl⟩
  have hsp := dec_spoil p hp (by rw [hnl]; exact hn8) i z (by omega) (by rw [← hEq]; exact hiE) hne
  have hD1 : Kpt (∀ W g cap, W.ownsRow w.heap.size 5 1 (.slice (some ⟨g, 0, none⟩) E cap) E (cels (X.set i z)) → cap ≤ maxLen → Calls Try.prog 12 #[.slice (some ⟨g, 0, none⟩) E cap, .bool true, .bool true] W fun e w' => e = .returned (.tuple #[.agg (noP.vals (.slice none 0 0)), .int .i64 0, .int .i64 5]) ∧ Below W.heap.size W w') := ⟨fun W g cap ho hc => by
    rw [hX] at ho
    refine (decode_any (some ⟨g, 0, none⟩) E cap ((encL p true true).set i z) true true W (own_rd ho) (by omega) hc (set_bytes hXb i z (by omega))).mono ?_
    rintro e w' ⟨hb, h⟩
    rcases h with ⟨h1, rfl⟩ | ⟨h1, h2⟩
    · rw [hsp]; exact ⟨rfl, hb⟩
    · rw [hsp] at h1; cases h1⟩
  have hD2 : Kpt (∀ W g cap, W.ownsRow w.heap.size 5 1 (.slice (some ⟨g, 0, none⟩) E cap) E (cels X) → cap ≤ maxLen → Calls Try.prog 12 #[.slice (some ⟨g, 0, none⟩) i cap, .bool true, .bool true] W fun e w' => e = .returned (.tuple #[.agg (noP.vals (.slice none 0 0)), .int .i64 0, .int .i64 8]) ∧ Below W.heap.size W w') := ⟨fun W g cap ho hc => by
    have hi' : i < (encL p true true).length := by rw [← hEq]; exact hiE
    have hc8 := dec_cutE p hp (by rw [hnl]; exact hn8) true true i hi'
    rw [hX] at ho
    refine (decode_any (some ⟨g, 0, none⟩) i cap ((encL p true true).take i) true true W (rd_take (own_rd ho) i (Nat.le_of_lt hi')) (by omega) hc (Bytes.take hXb i)).mono ?_
    rintro e w' ⟨hb, h⟩
    rcases h with ⟨h1, rfl⟩ | ⟨h1, h2⟩
    · rw [hc8]; exact ⟨rfl, hb⟩
    · rw [hc8] at h1; cases h1⟩
  have hXl : X.length = E := by rw [hX, ← hEq]
  rw [← hX] at hE
  rw [hXl] at hE
  rw [← hX] at hxe
  rw [← hV] at hE
  rw [← hV]
  have hit : ((at' : Int).tmod (E : Int)) = (i : Int) := by rw [Int.tmod_eq_emod_of_nonneg (by omega), hi]; simp
  have hie : ((at' : Int) % (E : Int)) = (i : Int) := by rw [hi]; simp
  have hy' : ((y : Int) == 0) = false := by simp; omega
  have hEne : ¬ (E : Int) = 0 := by omega
  have hEne' : ((E : Int) == 0) = false := by simp; omega
  have hiEI : (i : Int) < E := by omega
  have wat : IntKind.i64.wrap (at' : Int) = at' := by simp only [IntKind.wrap, IntKind.bits, IntKind.signed]; simp; omega
  have hE9 : E ≤ 9000 := by omega
  rw [← hEq] at hE0
  replace hxe := Kpt.mk hxe
  replace hXl := Kpt.mk hXl
  clear hV hp hd hnl hel hq2 hM hEb hEq hi hXb hx hne hz hX hsp hy0 hxy hx2
  go_enter Try.func5, Try.ntmps5
  go_wp2_with (first
    | (go_at_call 10; go_must (refine (hE.out _ hb1.out).mono ?_; rintro e w2 ⟨g, cap, rfl, ho2, hg2, hcap2, hbe2⟩; have hb2 : Kpt (Below w.heap.size w w2) := ⟨hb1.out.trans (hbe2.mono hb1.out.size)⟩; replace ho2 : Kpt (w2.ownsRow w.heap.size 5 1 (.slice (some ⟨g, 0, none⟩) E cap) E (cels X)) := ⟨own_base ho2 hb1.out.size⟩; replace hg2 : Kpt (w.heap.size ≤ g) := ⟨Nat.le_trans hb1.out.size hg2⟩; replace hcap2 := Kpt.mk hcap2; clear hbe2))
    | (at_builtin; go_must (refine wpList_append_rd rfl _ _ rfl w2.heap.size (.slice none 0 0) [] rfl (World.ownsRow_nil _ _ 5 1) (.slice (some ⟨g, 0, none⟩) E cap) X rfl (own_rd ho2.out) (by rw [hXl.out]; simp; omega) (Nat.le_refl _) ?_; intro v3 w3 ho3 hg3; rw [List.nil_append, hXl.out] at ho3; obtain ⟨g3, cap3, rfl, hgg3, hnc3, hcm3⟩ := own_shape2 ho3 hE0; have hb3 : Kpt (Below w.heap.size w w3) := ⟨hb2.out.grown hg3 hb2.out.size (fun k h => by cases h)⟩; have hoX3 : Kpt (w3.ownsRow w.heap.size 5 1 (.slice (some ⟨g, 0, none⟩) E cap) E (cels X)) := ⟨own_of_block ho2.out fun g' hg' => hg3.block g' (World.ownsRow.lt ho2.out g' hg').2 (by simp [Value.ownBlock])⟩; have hgne : Kpt (g ≠ g3 ∧ w.heap.size ≤ g3) := ⟨Nat.ne_of_lt (Nat.lt_of_lt_of_le (World.ownsRow.lt ho2.out g rfl).2 hgg3), Nat.le_trans hb2.out.size hgg3⟩; have hci := own_facts ho3 i hiE; rw [hxe.out] at hci; have hfi := World.ownsRow.frozenAt ho3 i; replace ho3 := Kpt.mk ho3; replace hcm3 := Kpt.mk hcm3; clear hg3 hgg3 hnc3))
    | (refine wpList_load_bx rfl 26 (.tmp 3) rfl B V rfl hX1.out _ Try.underlying26 rfl (by rw [hVs.out]; exact sizeP) ?_)
    | (go_at_call 9; go_must (refine (awake_any _).mono ?_; rintro e w1 ⟨rfl, hbe1⟩; have hb1 : Kpt (Below w.heap.size w w1) := ⟨hb0.out.trans (hbe1.mono hb0.out.size)⟩; have hX1 : Kpt (Bx w1 B V) := ⟨hX0.out.below hbe1 hX0.out.lt⟩; clear hbe1))
    | (refine wpList_box rfl 26 (.tmp 0) rfl V rfl ?_; intro B w0 hB hX0 hb0 hz0; replace hX0 := Kpt.mk hX0; replace hb0 := Kpt.mk hb0; clear hz0 hB))
  obtain ⟨w4, hw4⟩ : ∃ W, W = w3.setCell ⟨g3, i, none⟩ (.int .u8 z) := ⟨_, rfl⟩
  have hg4 : w3.grownBy w4 (some g3) := by rw [hw4]; exact grown_setCellK w3 ⟨g3, i, none⟩ _
  have hb4 : Kpt (Below w.heap.size w w4) := ⟨hb3.out.grown hg4 hb3.out.size (fun k h => by cases h; exact hgne.out.2)⟩
  have ho4 : Kpt (w4.ownsRow w.heap.size 5 1 (.slice (some ⟨g3, 0, none⟩) E cap3) E (cels (X.set i z))) := ⟨by rw [hw4]; exact own_set (own_base ho3.out hb2.out.size) i z⟩
  have hoX4 : Kpt (w4.ownsRow w.heap.size 5 1 (.slice (some ⟨g, 0, none⟩) E cap) E (cels X)) := ⟨own_of_block hoX3.out fun g' hg' => hg4.block g' (World.ownsRow.lt hoX3.out g' hg').2 (fun e => by cases hg'; exact hgne.out.1 (Option.some.inj e))⟩
  rw [← hw4]
  clear hw4 hg4 ho3 hoX3 hci hfi hb3 hb2 ho2
  have hci4 : Kpt (i ≤ cap) := ⟨by
    rcases hoX4.out.2 with ⟨h', _⟩ | ⟨g', cap', cur, h', hb, _, hnc, hcm, _⟩
    · cases h'
    · simp only [Value.slice.injEq] at h'; omega⟩
  have hkc : ¬ cap < i := by have := hci4.out; omega
  refine (hD1.out _ g3 cap3 ho4.out hcm3.out).mono ?_
  rintro e w5 ⟨rfl, hbe5⟩
  have hb5 : Kpt (Below w.heap.size w w5) := ⟨hb4.out.trans (hbe5.mono hb4.out.size)⟩
  have hoX5 : Kpt (w5.ownsRow w.heap.size 5 1 (.slice (some ⟨g, 0, none⟩) E cap) E (cels X)) := ⟨own_of_block hoX4.out fun g' hg' => hbe5.block g' (World.ownsRow.lt hoX4.out g' hg').2⟩
  clear hbe5 hoX4 ho4
  go_wp2_with (first
    | (refine (?_ : wpList _ _ _ (Oper.mk none (Op.store _ _ _) _ _ _ _ :: _) _ _); have hm := m3; go_must (refine wpList_store_bx rfl 26 (.tmp 14) (.tmp 61) rfl B2 (noP.vals (.slice none 0 0)) (noP.vals (.slice none 0 0)) rfl rfl hX9.out rfl sizeP (Pd.one noP none 0 0) rfl ?_; intro w10 hX10 hg10; have hb10 : Kpt (Below w.heap.size w w10) := ⟨hb9.out.grown hg10 hb9.out.size (fun k h => by cases h; exact hB2.out)⟩; clear hX10 hg10))
    | (have hm := m2; refine wpList_var rfl 26 rfl (noP.vals (.slice none 0 0)) zeroPi ?_; intro B2 w9 hB2 hX9 hbe9; have hb9 : Kpt (Below w.heap.size w w9) := ⟨hb8.out.trans (hbe9.mono hb8.out.size)⟩; replace hX9 := Kpt.mk hX9; replace hB2 : Kpt (w.heap.size ≤ B2) := ⟨Nat.le_trans hb8.out.size hB2⟩; clear hbe9; have m3 : Kpt True := ⟨trivial⟩)
    | (go_at_call 12; have hm := m1; go_must (refine (hD2.out _ g cap hoX7.out hcap2.out).mono ?_; rintro e w8 ⟨rfl, hbe8⟩; have hb8 : Kpt (Below w.heap.size w w8) := ⟨hb7.out.trans (hbe8.mono hb7.out.size)⟩; clear hbe8; have m2 : Kpt True := ⟨trivial⟩))
    | (refine (?_ : wpList _ _ _ (Oper.mk none (Op.store _ _ _) _ _ _ _ :: _) _ _); go_must (refine wpList_store_bx rfl 26 (.tmp 11) (.tmp 53) rfl B1 (noP.vals (.slice none 0 0)) (noP.vals (.slice none 0 0)) rfl rfl hX6.out rfl sizeP (Pd.one noP none 0 0) rfl ?_; intro w7 hX7 hg7; have hb7 : Kpt (Below w.heap.size w w7) := ⟨hb6.out.grown hg7 hb6.out.size (fun k h => by cases h; exact hB1.out.1)⟩; have hoX7 : Kpt (w7.ownsRow w.heap.size 5 1 (.slice (some ⟨g, 0, none⟩) E cap) E (cels X)) := ⟨own_of_block hoX6.out fun g' hg' => hg7.block g' (World.ownsRow.lt hoX6.out g' hg').2 (fun e => by cases hg'; exact hB1.out.2 (Option.some.inj e).symm)⟩; clear hX7 hg7; have m1 : Kpt True := ⟨trivial⟩))
    | (refine wpList_var rfl 26 rfl (noP.vals (.slice none 0 0)) zeroPi ?_; intro B1 w6 hB1 hX6 hbe6; have hb6 : Kpt (Below w.heap.size w w6) := ⟨hb5.out.trans (hbe6.mono hb5.out.size)⟩; have hoX6 : Kpt (w6.ownsRow w.heap.size 5 1 (.slice (some ⟨g, 0, none⟩) E cap) E (cels X)) := ⟨own_of_block hoX5.out fun g' hg' => hbe6.block g' (World.ownsRow.lt hoX5.out g' hg').2⟩; replace hX6 := Kpt.mk hX6; replace hB1 : Kpt (w.heap.size ≤ B1 ∧ B1 ≠ g) := ⟨Nat.le_trans hb5.out.size hB1, (Nat.ne_of_lt (Nat.lt_of_lt_of_le (World.ownsRow.lt hoX5.out g rfl).2 hB1)).symm⟩; clear hbe6))
  go_ret
  exact ⟨rfl, hb10.out⟩
end Go.Proofs.Ytigfoldobkigeaa
