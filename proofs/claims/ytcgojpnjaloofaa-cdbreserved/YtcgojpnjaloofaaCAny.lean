/-
  The contract of Parse, of any bytes.
-/
import Derived.Test.YtcgojpnjaloofaaCParsf
import Derived.Test.YtcgojpnjaloofaaCTkA
import Derived.Test.YtcgojpnjaloofaaCTkB
import Derived.Test.YtcgojpnjaloofaaCTkC
import Derived.Test.YtcgojpnjaloofaaCTkD
import Derived.Test.YtcgojpnjaloofaaCTkE
import Derived.Test.YtcgojpnjaloofaaCTkF
namespace Go.Proofs.Ytcgojpnjaloofaa
open Go.RowKit
set_option linter.unusedVariables false
set_option linter.unusedSimpArgs false

theorem mask_cases (op : Int) : maskL op = [] ∨ (2 ≤ (maskL op).length ∧ (maskL op).length ≤ 16 ∧ B.Bytes (maskL op)) := by
  have key : ∀ l : List Int, 2 ≤ l.length ∧ l.length ≤ 16 ∧ (∀ n ∈ l, 0 ≤ n ∧ n ≤ 255) → l = [] ∨ (2 ≤ l.length ∧ l.length ≤ 16 ∧ B.Bytes l) := fun l ⟨h1, h2, h3⟩ => .inr ⟨h1, h2, fun j => by
    rw [List.getD_eq_getElem?_getD]
    cases e : l[j]? with
    | none => simp
    | some v => exact h3 v (List.mem_of_getElem? e)⟩
  rcases op_cases op with rfl | rfl | rfl | rfl | rfl | rfl | rfl | rfl | rfl | rfl | rfl | rfl | rfl | rfl | rfl | rfl | rfl | rfl | rfl | rfl | rfl | rfl | rfl | rfl | rfl | rfl | rfl | ⟨h0, h3, h8, h10, h18, h21, h26, h37, h40, h42, h46, h47, h53, h65, h66, h85, h90, h94, h95, h131, h136, h137, h138, h145, h147, h158, h160⟩
  · exact key _ (by decide)
  · exact key _ (by decide)
  · exact key _ (by decide)
  · exact key _ (by decide)
  · exact key _ (by decide)
  · exact key _ (by decide)
  · exact key _ (by decide)
  · exact key _ (by decide)
  · exact key _ (by decide)
  · exact key _ (by decide)
  · exact key _ (by decide)
  · exact key _ (by decide)
  · exact key _ (by decide)
  · exact key _ (by decide)
  · exact key _ (by decide)
  · exact key _ (by decide)
  · exact key _ (by decide)
  · exact key _ (by decide)
  · exact key _ (by decide)
  · exact key _ (by decide)
  · exact key _ (by decide)
  · exact key _ (by decide)
  · exact key _ (by decide)
  · exact key _ (by decide)
  · exact key _ (by decide)
  · exact key _ (by decide)
  · exact key _ (by decide)
  · exact .inl (mask_none op h0 h3 h8 h10 h18 h21 h26 h37 h40 h42 h46 h47 h53 h65 h66 h85 h90 h94 h95 h131 h136 h137 h138 h145 h147 h158 h160)

theorem odd_zero (x : Nat → Int) : ∀ (f i : Nat), (B.oddFrom x f i).1 < 0 → ∀ j, i ≤ j → j < i + f → x j = 0
  | 0, i, _, j, h1, h2 => by omega
  | f + 1, i, h, j, h1, h2 => by
    unfold B.oddFrom at h
    by_cases h0 : x i = 0
    · rw [if_pos h0] at h
      by_cases hj : j = i
      · rw [hj]; exact h0
      · exact odd_zero x f (i + 1) h j (by omega) (by omega)
    · rw [if_neg h0] at h
      simp only at h
      omega

theorem not_one : ∀ n : Fin 256, bits .andNot .u8 (n.val : Int) 1 = 0 → n.val = 0 ∨ n.val = 1 := by decide +kernel
theorem one_of {z : Int} (h : 0 ≤ z ∧ z ≤ 255) (h1 : bits .andNot .u8 z 1 = 0) : z = 0 ∨ z = 1 := by
  have := not_one ⟨z.toNat, by omega⟩ (by simpa [show ((z.toNat : Nat) : Int) = z from by omega] using h1)
  simp only at this
  omega

theorem z1_of {zs : List Int} (hb : B.Bytes zs) (ho : (oddL zs).1 < 0) (k : Int) (hk : zs.getD 0 0 = k) (h2 : 2 ≤ (maskL k).length) (hm : (maskL k).getD 1 0 = 1) : zs.getD 1 0 = 0 ∨ zs.getD 1 0 = 1 := by
  unfold oddL at ho
  rw [hk] at ho
  have := odd_zero _ _ _ ho 1 (by omega) (by omega)
  unfold B.ext at this
  rw [if_pos (by omega), hm] at this
  exact one_of (hb 1) this

theorem take_all (b off cap : Nat) (zs : List Int) (w : World) (hb : B.Bytes zs) (hc : Cells w b off (maskL (zs.getD 0 0)).length zs) (hm : maskL (zs.getD 0 0) ≠ []) (ho : (oddL zs).1 < 0) :
    Calls Try.prog 20 #[.slice (some ⟨b, off, none⟩) (maskL (zs.getD 0 0)).length cap] w fun e w' => e = .returned (.agg (cmdL (zs.getD 0 0) zs).vals) ∧ Below w.heap.size w w' := by
  rcases op_cases (zs.getD 0 0) with h | h | h | h | h | h | h | h | h | h | h | h | h | h | h | h | h | h | h | h | h | h | h | h | h | h | h | ⟨h0, h3, h8, h10, h18, h21, h26, h37, h40, h42, h46, h47, h53, h65, h66, h85, h90, h94, h95, h131, h136, h137, h138, h145, h147, h158, h160⟩
  · have z := h
    rw [h] at hc ⊢
    exact take_0 b off cap zs w hb hc h
  · have z := z1_of hb ho 3 h (by decide) (by decide)
    rw [h] at hc ⊢
    exact take_3 b off cap zs w hb hc h z
  · have z := h
    rw [h] at hc ⊢
    exact take_8 b off cap zs w hb hc h
  · have z := h
    rw [h] at hc ⊢
    exact take_10 b off cap zs w hb hc h
  · have z := z1_of hb ho 18 h (by decide) (by decide)
    rw [h] at hc ⊢
    exact take_18 b off cap zs w hb hc h z
  · have z := h
    rw [h] at hc ⊢
    exact take_21 b off cap zs w hb hc h
  · have z := h
    rw [h] at hc ⊢
    exact take_26 b off cap zs w hb hc h
  · have z := h
    rw [h] at hc ⊢
    exact take_37 b off cap zs w hb hc h
  · have z := h
    rw [h] at hc ⊢
    exact take_40 b off cap zs w hb hc h
  · have z := h
    rw [h] at hc ⊢
    exact take_42 b off cap zs w hb hc h
  · have z := h
    rw [h] at hc ⊢
    exact take_46 b off cap zs w hb hc h
  · have z := h
    rw [h] at hc ⊢
    exact take_47 b off cap zs w hb hc h
  · have z := h
    rw [h] at hc ⊢
    exact take_53 b off cap zs w hb hc h
  · have z := h
    rw [h] at hc ⊢
    exact take_65 b off cap zs w hb hc h
  · have z := h
    rw [h] at hc ⊢
    exact take_66 b off cap zs w hb hc h
  · have z := h
    rw [h] at hc ⊢
    exact take_85 b off cap zs w hb hc h
  · have z := h
    rw [h] at hc ⊢
    exact take_90 b off cap zs w hb hc h
  · have z := h
    rw [h] at hc ⊢
    exact take_94 b off cap zs w hb hc h
  · have z := h
    rw [h] at hc ⊢
    exact take_95 b off cap zs w hb hc h
  · have z := h
    rw [h] at hc ⊢
    exact take_131 b off cap zs w hb hc h
  · have z := h
    rw [h] at hc ⊢
    exact take_136 b off cap zs w hb hc h
  · have z := h
    rw [h] at hc ⊢
    exact take_137 b off cap zs w hb hc h
  · have z := h
    rw [h] at hc ⊢
    exact take_138 b off cap zs w hb hc h
  · have z := h
    rw [h] at hc ⊢
    exact take_145 b off cap zs w hb hc h
  · have z := h
    rw [h] at hc ⊢
    exact take_147 b off cap zs w hb hc h
  · have z := h
    rw [h] at hc ⊢
    exact take_158 b off cap zs w hb hc h
  · have z := h
    rw [h] at hc ⊢
    exact take_160 b off cap zs w hb hc h
  · exact absurd (mask_none _ h0 h3 h8 h10 h18 h21 h26 h37 h40 h42 h46 h47 h53 h65 h66 h85 h90 h94 h95 h131 h136 h137 h138 h145 h147 h158 h160) hm

theorem blocks_nonneg (op : Int) (zs : List Int) (hb : B.Bytes zs) : 0 ≤ (cmdL op zs).blocks := by
  rcases op_cases op with rfl | rfl | rfl | rfl | rfl | rfl | rfl | rfl | rfl | rfl | rfl | rfl | rfl | rfl | rfl | rfl | rfl | rfl | rfl | rfl | rfl | rfl | rfl | rfl | rfl | rfl | rfl | ⟨h0, h3, h8, h10, h18, h21, h26, h37, h40, h42, h46, h47, h53, h65, h66, h85, h90, h94, h95, h131, h136, h137, h138, h145, h147, h158, h160⟩
  · exact Int.le_refl 0
  · exact Int.le_refl 0
  · show (0 : Int) ≤ (if B.num zs 4 1 = 0 then 256 else B.num zs 4 1); split
    · decide
    · exact (num_bd8 zs hb _ _ (by decide)).1
  · show (0 : Int) ≤ (if B.num zs 4 1 = 0 then 256 else B.num zs 4 1); split
    · decide
    · exact (num_bd8 zs hb _ _ (by decide)).1
  · exact Int.le_refl 0
  · exact Int.le_refl 0
  · exact Int.le_refl 0
  · exact Int.le_refl 0
  · exact (num_bd8 zs hb _ _ (by decide)).1
  · exact (num_bd8 zs hb _ _ (by decide)).1
  · exact (num_bd8 zs hb _ _ (by decide)).1
  · exact (num_bd8 zs hb _ _ (by decide)).1
  · exact (num_bd8 zs hb _ _ (by decide)).1
  · exact (num_bd8 zs hb _ _ (by decide)).1
  · exact Int.le_refl 0
  · exact Int.le_refl 0
  · exact Int.le_refl 0
  · exact Int.le_refl 0
  · exact Int.le_refl 0
  · exact Int.le_refl 0
  · exact (num_bd8 zs hb _ _ (by decide)).1
  · exact (num_bd8 zs hb _ _ (by decide)).1
  · exact (num_bd8 zs hb _ _ (by decide)).1
  · exact (num_bd8 zs hb _ _ (by decide)).1
  · exact (num_bd8 zs hb _ _ (by decide)).1
  · exact Int.le_refl 0
  · exact Int.le_refl 0
  · simp only [cmdL, h0, h3, h8, h10, h18, h21, h26, h37, h40, h42, h46, h47, h53, h65, h66, h85, h90, h94, h95, h131, h136, h137, h138, h145, h147, h158, h160, if_false]; exact Int.le_refl 0

theorem rd_cells {w : World} {b off len c : Nat} {zs : List Int} (h : RdAt w (.slice (some ⟨b, off, none⟩) len c) zs) : zs.length = len ∧ ∀ j, j < len → w.cell? ⟨b, off + j, none⟩ = some (.int .u8 (zs.getD j 0)) := by
  obtain ⟨a, c', hv, _, _, h⟩ := h
  simp only [Value.slice.injEq] at hv
  obtain ⟨ha, hl, _⟩ := hv
  refine ⟨hl.symm, fun j hj => ?_⟩
  rcases h with h | ⟨b', off', hb, hc⟩
  · omega
  · rw [← ha] at hb
    simp only [Option.some.injEq, Addr.mk.injEq, and_true] at hb
    obtain ⟨rfl, rfl⟩ := hb
    refine hc j _ ?_
    unfold cels
    rw [List.getElem?_map, List.getElem?_eq_getElem (by omega), List.getD_eq_getElem?_getD, List.getElem?_eq_getElem (by omega)]
    rfl

theorem own_row {w : World} {base g m : Nat} {zs : List Int} (h : w.ownsRow base 5 1 (.slice (some ⟨g, 0, none⟩) m m) zs.length (cels zs)) (hm : m = zs.length) : B.RowAt w (some ⟨g, 0, none⟩) m zs := by
  refine .inr ⟨g, 0, rfl, fun j hj => ?_⟩
  subst hm
  rw [Nat.zero_add, h.cellAt j (by omega), cels, List.getElem?_map, List.getElem?_eq_getElem hj, List.getD_eq_getElem?_getD, List.getElem?_eq_getElem hj]
  rfl

/-- Parse, of any bytes. -/
theorem parse_any (v : Value) (zs : List Int) (w : World) (hr : RdAt w v zs) (hb : B.Bytes zs) (hl : zs.length ≤ maxLen) :
    Calls Try.prog 10 #[v] w fun e w' => e = .returned (parseRes zs) ∧ Below w.heap.size w w' := by
  obtain ⟨a, cap, rfl, ha, hlc, h⟩ := id hr
  by_cases h0 : zs.length = 0
  · have e : parseRes zs = .tuple #[.agg zeroC, .agg (faultS 0 (-1)).vals, .bool false] := by unfold parseRes faultL; rw [if_pos h0]; rfl
    rw [e, h0]
    exact parse_no _ _ w ⟨fun W _ => whole_empty a cap W⟩
  obtain ⟨b, off, rfl⟩ : ∃ b off, a = some ⟨b, off, none⟩ := by
    rcases h with h | ⟨b, off, h, _⟩
    · omega
    · exact ⟨b, off, h⟩
  clear h ha
  have hlt : b < w.heap.size := RdAt.lt hr (by omega) rfl
  have hc : Cells w b off zs.length zs := ⟨hlt, (rd_cells hr).2⟩
  have hcW : ∀ W, Below w.heap.size w W → Cells W b off zs.length zs := fun W hW => hc.below hW hlt
  have c0 : ∀ W, Below w.heap.size w W → W.cell? ⟨b, off, none⟩ = some (.int .u8 (zs.getD 0 0)) := fun W hW => by have := (hcW W hW).2 0 (by omega); rwa [Nat.add_zero] at this
  have hWlt : ∀ W, Below w.heap.size w W → b < W.heap.size := fun W hW => (hcW W hW).1
  by_cases hm : maskL (zs.getD 0 0) = []
  · have e : parseRes zs = .tuple #[.agg zeroC, .agg noOpS.vals, .bool false] := by unfold parseRes faultL; rw [if_neg h0, if_pos hm]; rfl
    rw [e]
    exact parse_no _ _ w ⟨fun W hW => whole_none b off _ cap _ W (by omega) (hWlt W hW) (c0 W hW) hm⟩
  obtain ⟨hm2, hm16, hmb⟩ : 2 ≤ (maskL (zs.getD 0 0)).length ∧ (maskL (zs.getD 0 0)).length ≤ 16 ∧ B.Bytes (maskL (zs.getD 0 0)) := (mask_cases _).resolve_left hm
  by_cases hs : zs.length < (maskL (zs.getD 0 0)).length
  · have e : parseRes zs = .tuple #[.agg zeroC, .agg (faultS zs.length (-1)).vals, .bool false] := by unfold parseRes faultL; rw [if_neg h0, if_neg hm, if_pos hs]; rfl
    rw [e]
    exact parse_no _ _ w ⟨fun W hW => whole_short b off _ cap _ W (by omega) (hWlt W hW) (c0 W hW) hm hs hm16⟩
  have HC : Kpt (∀ W, Below w.heap.size w W → W.cell? ⟨b, off, none⟩ = some (.int .u8 (zs.getD 0 0)) ∧ W.cell? ⟨b, off + 1, none⟩ = some (.int .u8 (zs.getD 1 0))) := ⟨fun W hW => ⟨c0 W hW, (hcW W hW).2 1 (by omega)⟩⟩
  have HW : Kpt (∀ W, Below w.heap.size w W → Calls Try.prog 17 #[.slice (some ⟨b, off, none⟩) zs.length cap] W fun e w' => ∃ g, e = .returned (.tuple #[.slice (some ⟨g, 0, none⟩) (maskL (zs.getD 0 0)).length (maskL (zs.getD 0 0)).length, .agg zeroS, .bool true]) ∧ B.RowAt w' (some ⟨g, 0, none⟩) (maskL (zs.getD 0 0)).length (maskL (zs.getD 0 0)) ∧ Below W.heap.size W w') :=
    ⟨fun W hW => (whole_ok b off _ cap _ W (by omega) (hWlt W hW) (c0 W hW) hm (by omega) hm16).mono fun e w' ⟨h1, h2⟩ => ⟨_, h1, own_row h2.1 rfl, h2.2⟩⟩
  have HO : Kpt (∀ W g, Below w.heap.size w W → B.RowAt W (some ⟨g, 0, none⟩) (maskL (zs.getD 0 0)).length (maskL (zs.getD 0 0)) → Calls Try.prog 18 #[.slice (some ⟨b, off, none⟩) (maskL (zs.getD 0 0)).length cap, .slice (some ⟨g, 0, none⟩) (maskL (zs.getD 0 0)).length (maskL (zs.getD 0 0)).length] W fun e w' => e = .returned (.tuple #[.int .i64 (oddL zs).1, .int .i64 (oddL zs).2]) ∧ w' = W) :=
    ⟨fun W g hW hg => B.odd_any _ _ _ _ _ _ zs _ W (by unfold maxLen at *; omega) (by unfold maxLen at *; omega) hb hmb (.inr ⟨b, off, rfl, fun j hj => (hcW W hW).2 j (by omega)⟩) hg⟩
  by_cases ho : 0 ≤ (oddL zs).1
  · have e : parseRes zs = .tuple #[.agg noC.vals, .agg (faultS (oddL zs).1 (oddL zs).2).vals, .bool false] := by unfold parseRes faultL; rw [if_neg h0, if_neg hm, if_neg hs, if_pos ho]
    rw [e]
    exact parse_odd b off _ cap _ _ _ _ _ _ 0 0 noC w HC hm2 (by omega) hlc hm16 HW HO ho
  have ho' : (oddL zs).1 < 0 := by omega
  cases hsv : servB (zs.getD 0 0) (zs.getD 1 0) with
  | false =>
    have e : parseRes zs = .tuple #[.agg noC.vals, .agg (faultS 1 4).vals, .bool false] := by unfold parseRes faultL; rw [if_neg h0, if_neg hm, if_neg hs, if_neg ho, if_pos hsv]
    rw [e]
    exact parse_serv b off _ cap _ _ _ _ _ _ 0 0 noC w HC hm2 (by omega) hlc hm16 HW HO ho' hsv
  | true =>
    have HT : Kpt (∀ W, Below w.heap.size w W → Calls Try.prog 20 #[.slice (some ⟨b, off, none⟩) (maskL (zs.getD 0 0)).length cap] W fun e w' => e = .returned (.agg (cmdL (zs.getD 0 0) zs).vals) ∧ Below W.heap.size W w') :=
      ⟨fun W hW => take_all b off cap zs W hb ⟨hWlt W hW, fun j hj => (hcW W hW).2 j (by omega)⟩ hm ho'⟩
    have HU : Kpt (∀ W, Below w.heap.size w W → Calls Try.prog 21 #[.agg (cmdL (zs.getD 0 0) zs).vals, .slice (some ⟨b, off, none⟩) (maskL (zs.getD 0 0)).length cap] W fun e w' => e = .returned (.tuple #[.int .i64 (unfL zs).1, .int .i64 (unfL zs).2]) ∧ Below W.heap.size W w') :=
      ⟨fun W hW => unfit_any _ b off _ cap zs W hb hm2 hm16 ⟨hWlt W hW, fun j hj => (hcW W hW).2 j (by omega)⟩ (blocks_nonneg _ zs hb)⟩
    by_cases hu : 0 ≤ (unfL zs).1
    · have e : parseRes zs = .tuple #[.agg noC.vals, .agg (faultS (unfL zs).1 (unfL zs).2).vals, .bool false] := by unfold parseRes faultL; rw [if_neg h0, if_neg hm, if_neg hs, if_neg ho, if_neg (by rw [hsv]; decide), if_pos hu]
      rw [e]
      exact parse_unfit b off _ cap _ _ _ _ _ _ _ _ _ w HC hm2 (by omega) hlc hm16 HW HO HT HU ho' hsv hu
    · have e : parseRes zs = .tuple #[.agg (cmdL (zs.getD 0 0) zs).vals, .agg noS.vals, .bool true] := by unfold parseRes faultL; rw [if_neg h0, if_neg hm, if_neg hs, if_neg ho, if_neg (by rw [hsv]; decide), if_neg hu]
      rw [e]
      exact parse_ok b off _ cap _ _ _ _ _ _ _ _ _ w HC hm2 (by omega) hlc hm16 HW HO HT HU ho' hsv (by omega)
end Go.Proofs.Ytcgojpnjaloofaa
