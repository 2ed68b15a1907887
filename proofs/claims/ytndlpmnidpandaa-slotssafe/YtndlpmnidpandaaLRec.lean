/-
  Slots: Record.
-/
import Derived.Test.YtndlpmnidpandaaLBox
import Derived.Deep.DeepMust
namespace Go.Proofs.Ytndlpmnidpandaa
open Go.RowKit
set_option linter.unusedVariables false
set_option linter.unusedSimpArgs false

/-- The sum of bytes. -/
def sumL (zs : List Int) : Nat := 4294967295 - reg32 4294967295 zs
/-- A slot's bytes ahead of its sum. -/
def recA (gen : Int) (zs : List Int) : List Int :=
  B.asc (B.asc (over (over (List.replicate (20 + zs.length) 0) 0 [83, 76, 79, 84]) 16 zs) 4 8 gen 8) 12 4 zs.length 4
/-- A slot's bytes. -/
def recL (gen : Int) (zs : List Int) : List Int := B.asc (recA gen zs) (16 + zs.length) 4 (sumL ((recA gen zs).take (16 + zs.length))) 4

theorem ov_len (zs : List Int) : (over (over (List.replicate (20 + zs.length) (0 : Int)) 0 [83, 76, 79, 84]) 16 zs).length = 20 + zs.length := by
  rw [over_length _ _ _ (by rw [over_length _ _ _ (by simp; omega), List.length_replicate]; omega), over_length _ _ _ (by simp; omega)]
  simp
theorem recA_len (gen : Int) (zs : List Int) : (recA gen zs).length = 20 + zs.length := by
  unfold recA
  rw [B.asc_len, B.asc_len, ov_len]
theorem recL_len (gen : Int) (zs : List Int) : (recL gen zs).length = 20 + zs.length := by
  unfold recL
  rw [B.asc_len, recA_len]
theorem sumL_lt (zs : List Int) : sumL zs < 4294967296 := by unfold sumL; omega

theorem bytes_iff {zs : List Int} : Bytes zs ↔ B.Bytes zs := Iff.rfl
theorem Bytes.over {zs ds : List Int} (h1 : Bytes zs) (h2 : Bytes ds) (off : Nat) (h : off + ds.length ≤ zs.length) : Bytes (over zs off ds) := by
  have m1 := h1.mem
  have m2 := h2.mem
  intro j
  unfold Go.Proofs.Ytndlpmnidpandaa.over
  rw [List.getD_eq_getElem?_getD]
  cases hj : (zs.take off ++ (ds ++ zs.drop (off + ds.length)))[j]? with
  | none => simp
  | some z =>
    have hm := List.mem_of_getElem? hj
    simp only [List.mem_append] at hm
    rcases hm with hm | hm | hm
    · exact m1 z (List.mem_of_mem_take hm)
    · exact m2 z hm
    · exact m1 z (List.mem_of_mem_drop hm)
theorem recA_bytes (gen : Int) (zs : List Int) (hb : Bytes zs) : Bytes (recA gen zs) := by
  unfold recA
  have h0 : Bytes (List.replicate (20 + zs.length) (0 : Int)) := by
    intro j
    rw [List.getD_eq_getElem?_getD, List.getElem?_replicate]
    split <;> simp
  have h1 : Bytes [83, 76, 79, 84] := by
    intro j
    rcases j with _ | _ | _ | _ | j <;> simp
  have h2 := (h0.over h1 0 (by simp; omega)).over hb 16 (by rw [over_length _ _ _ (by simp; omega), List.length_replicate]; omega)
  exact B.bytes_asc _ (B.bytes_asc _ h2 4 8 gen (by rw [ov_len]; omega) 8 (by omega)) 12 4 _ (by rw [B.asc_len, ov_len]; omega) 4 (by omega)

theorem record_long (gen : Int) (a : Option Addr) (n c : Nat) (w : World) (hn : 4096 < n) (hm : n ≤ maxLen) :
    Calls Try.prog 8 #[.int .u64 gen, .slice a n c] w fun e w' => e = .returned (.tuple #[.slice none 0 0, .int .i64 2]) ∧ w' = w := by
  have h1 : (4096 : Int) < n := by omega
  go_enter Try.func8, Try.ntmps8
  go_wp2
  go_ret2
  exact ⟨rfl, rfl⟩

set_option maxRecDepth 100000 in
set_option maxHeartbeats 2000000 in
theorem record_any (gen : Int) (a : Option Addr) (n c : Nat) (zs : List Int) (w : World) (hg0 : 0 ≤ gen) (hg1 : gen < 18446744073709551616) (hrd : RdAt w (.slice a n c) zs) (hl : zs.length = n) (hn : n ≤ 4096) (hb : Bytes zs) :
    Calls Try.prog 8 #[.int .u64 gen, .slice a n c] w fun e w' => ∃ g, e = .returned (.tuple #[.slice (some ⟨g, 0, none⟩) (20 + n) (20 + n), .int .i64 0]) ∧
      w'.ownsRow w.heap.size 5 1 (.slice (some ⟨g, 0, none⟩) (20 + n) (20 + n)) (20 + n) (cels (recL gen zs)) ∧ Below w.heap.size w w' := by
  obtain ⟨i0, hi0, hz0, hz1, hz2⟩ := info_parts Try.info5
  obtain ⟨E, hE⟩ : ∃ E, E = 16 + n := ⟨_, rfl⟩
  obtain ⟨L, hL⟩ : ∃ L, L = 20 + n := ⟨_, rfl⟩
  have e1 : (16 : Int) + n = (E : Int) := by omega
  have e2 : (E : Int) + 4 = (L : Int) := by omega
  have e3 : (L : Int) - 16 = ((L - 16 : Nat) : Int) := by omega
  have hLm : L ≤ maxLen := by unfold maxLen; omega
  have hLb : L ≤ 5000 := by omega
  have hL20 : 20 ≤ L := by omega
  have hEL : E + 4 = L := by omega
  have hE0 : E ≤ L := by omega
  have nl : ¬ (4096 : Int) < n := by omega
  have c16 : ¬ L = 16 := by omega
  have w1e : IntKind.u64.wrap (n : Int) = n := B.wrap64_id _ (by omega) (by omega)
  have hrl : recL gen zs = B.asc (recA gen zs) E 4 (sumL ((recA gen zs).take E)) 4 := by unfold recL; rw [hl, ← hE]
  have hra : recA gen zs = B.asc (B.asc (over (over (List.replicate L 0) 0 [83, 76, 79, 84]) 16 zs) 4 8 gen 8) 12 4 n 4 := by unfold recA; rw [hl, ← hL]
  have hzl : (over (over (List.replicate L (0 : Int)) 0 [83, 76, 79, 84]) 16 zs).length = L := by rw [hL, ← hl]; exact ov_len zs
  have hal : (recA gen zs).length = L := by rw [recA_len, hl, ← hL]
  have hab := recA_bytes gen zs hb
  rw [← hL]
  have hrd' : Kpt (∀ W, Below w.heap.size w W → RdAt W (.slice a n c) zs) := ⟨fun W hW => hrd.bel hW⟩
  have hE' := Kpt.mk hE
  have hL' := Kpt.mk hL
  replace hl := Kpt.mk hl
  replace hrl := Kpt.mk hrl
  replace hra := Kpt.mk hra
  replace hzl := Kpt.mk hzl
  replace hal := Kpt.mk hal
  replace hab := Kpt.mk hab
  clear hE hL hrd hb
  go_enter Try.func8, Try.ntmps8
  go_wp2_with (first | (refine (?_ : wpList _ _ _ (Oper.mk (some 22) _ _ _ _ _ :: _) _ _); go_must (refine wpList_copy_at rfl (.tmp 20) (.tmp 21) rfl w.heap.size w.heap.size 16 L (L - 16) (L - 16) _ zs (.slice a n c) rfl rfl hown2.out (hrd'.out _ hb2.out) (by rw [hl.out]; omega) (by rw [hl.out]; omega) ?_; intro w3 hown3 hgr3; have hb3 : Kpt (Below w.heap.size w w3) := ⟨hb2.out.grown hgr3 hb2.out.size (fun k h => by cases h; simp)⟩; replace hown3 := Kpt.mk hown3; clear hgr3 hown2 hb2)) | (refine (?_ : wpList _ _ _ (Oper.mk (some 18) _ _ _ _ _ :: _) _ _); go_must (refine wpList_copy_mark rfl (.tmp 17) _ rfl w.heap.size w.heap.size L _ rfl rfl hown1.out (by omega) ?_; intro w2 hown2 hgr2; have hb2 : Kpt (Below w.heap.size w w2) := ⟨hb1.out.grown hgr2 hb1.out.size (fun k h => by cases h; simp)⟩; replace hown2 := Kpt.mk hown2; clear hgr2 hown1 hb1)) | (at_make; refine wpList_make_full _ rfl _ _ 23 rfl w.heap.size 5 i0 (.int .u8 0) 1 Try.underlying23 hi0 hz0 hz1 .i64 .i64 _ _ L rfl rfl rfl rfl (by rw [hz2]; omega) hLm (Nat.le_refl _) ?_; intro w1 hown1 hgr1; have hb1 : Kpt (Below w.heap.size w w1) := ⟨(Below.refl _ _).grown hgr1 (Nat.le_refl _) (fun k h => by cases h)⟩; rw [made_u8] at hown1; replace hown1 := Kpt.mk hown1; clear hgr1))
  obtain ⟨Z2, hZ2⟩ : ∃ Z, Z = over (over (List.replicate L (0 : Int)) 0 [83, 76, 79, 84]) 16 zs := ⟨_, rfl⟩
  rw [← hZ2] at hzl hra hown3
  refine (put_row w.heap.size w.heap.size 4 8 L Z2 gen w3 hzl.out hLb hown3.out (by decide) (by decide) (by omega) hg0 (by simpa using hg1)).mono ?_
  rintro e w4 ⟨g4, rfl, ho4, hb4⟩
  have hbe4 : Kpt (Below w.heap.size w w4) := ⟨hb3.out.trans (hb4.mono hb3.out.size)⟩
  replace ho4 := Kpt.mk ho4
  clear hb4 hown3 hb3 hZ2
  go_wp2_with fail
  refine (put_row w3.heap.size g4 12 4 L (B.asc Z2 4 8 gen 8) n w4 (by rw [B.asc_len]; exact hzl.out) hLb ho4.out (by decide) (by decide) (by omega) (by omega) (by simp; omega)).mono ?_
  rintro e w5 ⟨g5, rfl, ho5, hb5⟩
  have hbe5 : Kpt (Below w.heap.size w w5) := ⟨hbe4.out.trans (hb5.mono hbe4.out.size)⟩
  rw [← hra.out] at ho5
  replace ho5 := Kpt.mk ho5
  clear hb5 ho4 hbe4 hra hzl
  go_wp2_with fail
  have hrow : RowAt w5 (some ⟨g5, 0, none⟩) E ((recA gen zs).take E) := .inr ⟨g5, 0, rfl, fun j hj => by
    rw [Nat.zero_add, own_facts ho5.out j (by omega)]
    simp [List.getD_eq_getElem?_getD, hj]⟩
  have hc := c32_any (some ⟨g5, 0, none⟩) E L ((recA gen zs).take E) w5 (by rw [List.length_take, hal.out]; omega) (by unfold maxLen; omega) (Bytes.take hab.out E) hrow
  have hS := sumL_lt ((recA gen zs).take E)
  unfold sumL at hS hrl
  obtain ⟨S, hSe⟩ : ∃ S, S = 4294967295 - reg32 4294967295 ((recA gen zs).take E) := ⟨_, rfl⟩
  rw [← hSe] at hc hS hrl
  have wS : IntKind.u64.wrap (S : Int) = S := B.wrap64_id _ (by omega) (by omega)
  refine hc.mono ?_
  rintro e w6 ⟨rfl, rfl⟩
  clear hc hrow hSe
  go_wp2_with fail
  refine (put_row w4.heap.size g5 E 4 L (recA gen zs) S w6 hal.out hLb ho5.out (by decide) (by decide) (by omega) (by omega) (by simp; omega)).mono ?_
  rintro e w7 ⟨g7, rfl, ho7, hb7⟩
  have hbe7 : Kpt (Below w.heap.size w w7) := ⟨hbe5.out.trans (hb7.mono hbe5.out.size)⟩
  rw [← hrl.out] at ho7
  have hof : Kpt (w7.ownsRow w.heap.size 5 1 (.slice (some ⟨g7, 0, none⟩) L L) L (cels (recL gen zs))) := ⟨own_base ho7 hbe5.out.size⟩
  clear hb7 ho7 ho5 hbe5 hrl wS
  go_wp2
  go_ret2
  exact ⟨g7, rfl, hof.out, hbe7.out⟩
end Go.Proofs.Ytndlpmnidpandaa
