/-
  The document's Decode of any bytes; bytes that came in; SenseReads' walk.
-/
import Derived.Test.YtglfkpdbgddpdaaSRDa
import Derived.Test.YtglfkpdbgddpdaaSRDb
import Derived.Test.YtglfkpdbgddpdaaSRDc
import Derived.Test.YtglfkpdbgddpdaaSRDd
import Derived.Test.YtglfkpdbgddpdaaSRDe
import Derived.Test.YtglfkpdbgddpdaaSRDf
import Derived.Test.YtglfkpdbgddpdaaSName
import Derived.WideShapes
namespace Go.Proofs.Ytglfkpdbgddpdaa
open Go.RowKit
set_option linter.unusedVariables false
set_option linter.unusedSimpArgs false

/-- Bytes that came in. -/
theorem rd_of {w : World} {a : Option Addr} {len cap : Nat} {zs : List Int}
    (h : (a = none ∧ len = 0 ∧ cap = 0 ∧ zs = []) ∨
      ∃ x, a = some x ∧ len ≤ cap ∧ cap ≤ maxLen ∧ zs.length = cap ∧ (∀ i, i < zs.length → w.cell? (x.add i) = some (.int .u8 (zs.getD i 0))) ∧ ∀ n ∈ zs, (Lit.int .u8 n).wf = true) :
    RdAt w (.slice a len cap) (zs.take len) ∧ B.Bytes (zs.take len) ∧ (zs.take len).length = len ∧ len ≤ maxLen ∧ len ≤ cap := by
  obtain ⟨h1, h2, h3⟩ := B.rowAt_of h
  have hlz : len ≤ zs.length ∧ len ≤ cap := by
    rcases h with ⟨_, h, _, hz⟩ | ⟨x, rfl, hlc, hm, hz, hcell, hwz⟩
    · omega
    · omega
  have hlen : (zs.take len).length = len := by rw [List.length_take]; omega
  have hb : B.Bytes (zs.take len) := by
    intro j
    have := h2 j
    rw [List.getD_eq_getElem?_getD] at this ⊢
    rw [List.getElem?_take]
    by_cases hj : j < len
    · rw [if_pos hj]; exact this
    · rw [if_neg hj]; simp
  refine ⟨⟨a, cap, by rw [hlen], ?_, by omega, ?_⟩, hb, hlen, h3, hlz.2⟩
  · intro ha
    rcases h with ⟨_, h, hc, hz⟩ | ⟨x, rfl, _⟩
    · rw [hlen]; exact ⟨h, hc⟩
    · cases ha
  · rcases h1 with h1 | ⟨b, off, rfl, hc⟩
    · left; omega
    · right
      refine ⟨b, off, rfl, fun j u hu => ?_⟩
      have hj : j < len := by have := (List.getElem?_eq_some_iff.1 hu).1; simp only [cels_length] at this; omega
      rw [hc j hj]
      rw [← hu, cels, List.getElem?_map, List.getElem?_take, if_pos hj, List.getD_eq_getElem?_getD, List.getElem?_eq_getElem (by omega)]
      rfl

theorem okw_lt {W : World} {base : Nat} {a : Option Addr} {len cap : Nat} (h : Value.okWide Try.prog W .any base 27 (.slice a len cap)) : ∀ g, (Value.slice a len cap).ownBlock = some g → g < W.heap.size := by
  intro g hg
  cases a with
  | none => simp [Value.ownBlock] at hg
  | some x =>
    simp [Value.ownBlock] at hg
    subst hg
    simp only [Value.okWide, Try.underlying27, Cell.okWide, Cell.ok] at h
    obtain ⟨_, _, _, _, row, cells, hs, _⟩ := h
    unfold World.shape? at hs
    cases hx : W.heap[x.block]? with
    | none => rw [hx] at hs; simp at hs
    | some o => exact (Array.getElem?_eq_some_iff.1 hx).1

set_option maxHeartbeats 1000000 in
theorem rdec_short (a : Option Addr) (c : Nat) (zs : List Int) (w : World) (hb : B.Bytes zs) (h8 : zs.length < 8) :
    Calls Try.prog 16 #[.slice a zs.length c] w fun e w' => e = .returned (decRes zs) ∧ Below w.heap.size w w' := by
  have hdn := Kpt.mk (dec_short hb h8)
  obtain ⟨n, hn⟩ : ∃ n, n = zs.length := ⟨_, rfl⟩
  rw [← hn] at h8 ⊢
  have i8 : ¬ (8 : Int) ≤ n := by omega
  have i18 : ¬ (n : Int) = 18 := by omega
  have j18 : ((n : Int) == 18) = false := by simp [i18]
  clear hn hb h8
  go_enter Try.func16, Try.ntmps16
  go_wp2_with fail
  all_goals (
    refine bodyPost_ret (v := .tuple #[.agg #[.int .u8 0, .int .u16 0, .int .u64 0, .bool false, .int .i64 0, .int .i64 0, .bool false, .bool false], .int .i64 3]) (by simp [results, Try.results16, go_sem]) rfl ⟨by unfold decRes; rw [hdn.out]; rfl, ?_⟩
    exact ((Below.refl _ _).alloc (Nat.le_refl _) _).alloc (by simp) _)

theorem rdecode_any (v : Value) (zs : List Int) (w : World) (hr : RdAt w v zs) (hb : B.Bytes zs) (hl : zs.length ≤ maxLen) (hvl : ∀ g, v.ownBlock = some g → g < w.heap.size) :
    Calls Try.prog 16 #[v] w fun e w' => e = .returned (decRes zs) ∧ Below w.heap.size w w' := by
  obtain ⟨a, c, rfl, hn, hlc, h⟩ := id hr
  by_cases h8 : zs.length < 8
  · exact rdec_short a c zs w hb h8
  rcases h with h | ⟨b, off, rfl, _⟩
  · omega
  have hblt := hvl b rfl
  by_cases h18 : zs.length = 18
  · by_cases hx0 : 128 ≤ zs.getD 0 0
    · by_cases hxa : zs.getD 15 0 < 128
      · exact rdec_F10 b off c zs w hr hb hl hblt h18 hx0 hxa
      · by_cases hx8 : bits .and .u8 (zs.getD 15 0) 8 = 0
        · exact rdec_F11 b off c zs w hr hb hl hblt h18 hx0 (by omega) hx8
        · exact rdec_F12 b off c zs w hr hb hl hblt h18 hx0 (by omega) hx8
    · by_cases hxa : zs.getD 15 0 < 128
      · exact rdec_F00 b off c zs w hr hb hl hblt h18 (by omega) hxa
      · by_cases hx8 : bits .and .u8 (zs.getD 15 0) 8 = 0
        · exact rdec_F01 b off c zs w hr hb hl hblt h18 (by omega) (by omega) hx8
        · exact rdec_F02 b off c zs w hr hb hl hblt h18 (by omega) (by omega) hx8
  · by_cases h16 : zs.length = 16
    · by_cases hxa : zs.getD 12 0 < 128
      · exact rdec_D160 b off c zs w hr hb hl hblt h16 hxa
      · by_cases hx8 : bits .and .u8 (zs.getD 12 0) 8 = 0
        · exact rdec_D161 b off c zs w hr hb hl hblt h16 (by omega) hx8
        · exact rdec_D162 b off c zs w hr hb hl hblt h16 (by omega) hx8
    · by_cases h28 : zs.length = 28
      · by_cases hxa : zs.getD 24 0 < 128
        · exact rdec_D280 b off c zs w hr hb hl hblt h28 hxa
        · by_cases hx8 : bits .and .u8 (zs.getD 24 0) 8 = 0
          · exact rdec_D281 b off c zs w hr hb hl hblt h28 (by omega) hx8
          · exact rdec_D282 b off c zs w hr hb hl hblt h28 (by omega) hx8
      · by_cases h20 : zs.length = 20
        · exact rdec_D20 b off c zs w hr hb hl hblt h20
        · exact rdec_Dx b off c zs w hr hb hl hblt (by omega) h18 h16 h20 h28

theorem dec_shape (zs : List Int) : ∃ (key code info : Int) (hi : Bool) (field bit : Int) (hf ic : Bool) (x : Int), decRes zs = .tuple #[.agg #[.int .u8 key, .int .u16 code, .int .u64 info, .bool hi, .int .i64 field, .int .i64 bit, .bool hf, .bool ic], .int .i64 x] := by
  unfold decRes
  cases decS zs with
  | none => exact ⟨_, _, _, _, _, _, _, _, _, rfl⟩
  | some s => exact ⟨_, _, _, _, _, _, _, _, _, rfl⟩

set_option maxRecDepth 100000 in
set_option maxHeartbeats 4000000 in
theorem reads_walk (v : Value) (zs : List Int) (w : World) (hr : RdAt w v zs) (hb : B.Bytes zs) (hl : zs.length ≤ maxLen) (hvl : ∀ g, v.ownBlock = some g → g < w.heap.size) :
    Calls Try.prog 4 #[v] w fun e w' => e = .returned (.bool true) ∧ Below w.heap.size w w' := by
  have HA := Kpt.mk (awake_any w)
  obtain ⟨key, code, info, hi, field, bit, hf, ic, x, hd⟩ := dec_shape zs
  have H1 : Kpt (∀ W, Below w.heap.size w W → Calls Try.prog 15 #[v] W fun e w' => e = .returned (.tuple #[.agg #[.int .u8 key, .int .u16 code, .int .u64 info, .bool hi, .int .i64 field, .int .i64 bit, .bool hf, .bool ic], .int .i64 x]) ∧ Below W.heap.size W w') :=
    ⟨fun W hW => by rw [← hd]; exact decode_any v zs W (hr.of_block (fun g hg => hW.block _ (hvl g hg))) hb hl (fun g hg => Nat.lt_of_lt_of_le (hvl g hg) hW.size)⟩
  have H2 : Kpt (∀ W, Below w.heap.size w W → Calls Try.prog 16 #[v] W fun e w' => e = .returned (.tuple #[.agg #[.int .u8 key, .int .u16 code, .int .u64 info, .bool hi, .int .i64 field, .int .i64 bit, .bool hf, .bool ic], .int .i64 x]) ∧ Below W.heap.size W w') :=
    ⟨fun W hW => by rw [← hd]; exact rdecode_any v zs W (hr.of_block (fun g hg => hW.block _ (hvl g hg))) hb hl (fun g hg => Nat.lt_of_lt_of_le (hvl g hg) hW.size)⟩
  clear hr hb hl hvl hd
  obtain ⟨S, hS⟩ : ∃ S : Sn, S = ⟨key, code, info, hi, field, bit, hf, ic⟩ := ⟨_, rfl⟩
  have hv : Kpt (S.vals = #[.int .u8 key, .int .u16 code, .int .u64 info, .bool hi, .int .i64 field, .int .i64 bit, .bool hf, .bool ic]) := ⟨by rw [hS]; rfl⟩
  clear hS
  go_enter Try.func4, Try.ntmps4
  go_wp2_with fail
  refine HA.out.mono ?_
  rintro e w1 ⟨rfl, hb1⟩
  replace hb1 := Kpt.mk hb1
  go_wp2_with fail
  refine (H1.out w1 hb1.out).mono ?_
  rintro e w2 ⟨rfl, hb2⟩
  have hB2 : Kpt (Below w.heap.size w w2) := ⟨hb1.out.trans (hb2.mono hb1.out.size)⟩
  clear hb2 hb1
  go_wp2_with fail
  have hW3 : Kpt (Below w.heap.size w (w2.alloc (.cells #[.int .u8 key, .int .u16 code, .int .u64 info, .bool hi, .int .i64 field, .int .i64 bit, .bool hf, .bool ic] 25))) := ⟨hB2.out.alloc hB2.out.size _⟩
  refine (H2.out _ hW3.out).mono ?_
  rintro e w3 ⟨rfl, hb3⟩
  have hS3 : Kpt (Blk w3 w2.heap.size S) := ⟨(by have := blk_alloc w2 S; rw [hv.out] at this; exact this : Blk (w2.alloc (.cells #[.int .u8 key, .int .u16 code, .int .u64 info, .bool hi, .int .i64 field, .int .i64 bit, .bool hf, .bool ic] 25)) w2.heap.size S).below hb3 (by simp)⟩
  have hB3 : Kpt (Below w.heap.size w w3) := ⟨hW3.out.trans (hb3.mono hW3.out.size)⟩
  have q0 := hS3.out.box 0
  rw [hv.out] at q0
  simp at q0
  have q1 := hS3.out.box 1
  rw [hv.out] at q1
  simp at q1
  have q2 := hS3.out.box 2
  rw [hv.out] at q2
  simp at q2
  have q3 := hS3.out.box 3
  rw [hv.out] at q3
  simp at q3
  have q4 := hS3.out.box 4
  rw [hv.out] at q4
  simp at q4
  have q5 := hS3.out.box 5
  rw [hv.out] at q5
  simp at q5
  have q6 := hS3.out.box 6
  rw [hv.out] at q6
  simp at q6
  have q7 := hS3.out.box 7
  rw [hv.out] at q7
  simp at q7
  have hl3 := hS3.out.lt
  clear hb3 hW3
  go_wp2
  go_ret
  exact ⟨rfl, hB3.out.alloc hB3.out.size _⟩
end Go.Proofs.Ytglfkpdbgddpdaa
