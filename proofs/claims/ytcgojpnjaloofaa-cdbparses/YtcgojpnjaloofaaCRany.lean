/-
  The contract of the document's Parse, of any bytes.
-/
import Derived.Test.YtcgojpnjaloofaaCRpB
import Derived.Test.YtcgojpnjaloofaaCRpC
import Derived.Test.YtcgojpnjaloofaaCTdA
import Derived.Test.YtcgojpnjaloofaaCTdB
import Derived.Test.YtcgojpnjaloofaaCTdC
import Derived.Test.YtcgojpnjaloofaaCTdD
import Derived.Test.YtcgojpnjaloofaaCTdE
import Derived.Test.YtcgojpnjaloofaaCTdF
import Derived.Test.YtcgojpnjaloofaaCTdG
import Derived.Test.YtcgojpnjaloofaaCTdH
namespace Go.Proofs.Ytcgojpnjaloofaa
open Go.RowKit
set_option linter.unusedVariables false
set_option linter.unusedSimpArgs false

theorem n17 : ∀ n : Fin 256, bits .andNot .u8 (n.val : Int) 17 = 0 → n.val = 0 ∨ n.val = 1 ∨ n.val = 16 ∨ n.val = 17 := by decide +kernel
theorem z17 {z : Int} (h : 0 ≤ z ∧ z ≤ 255) (h1 : bits .andNot .u8 z 17 = 0) : z = 0 ∨ z = 1 ∨ z = 16 ∨ z = 17 := by
  have := n17 ⟨z.toNat, by omega⟩ (by simpa [show ((z.toNat : Nat) : Int) = z from by omega] using h1)
  simp only at this
  omega
theorem n00 : ∀ n : Fin 256, bits .andNot .u8 (n.val : Int) 0 = 0 → n.val = 0 := by decide +kernel
theorem z00 {z : Int} (h : 0 ≤ z ∧ z ≤ 255) (h1 : bits .andNot .u8 z 0 = 0) : z = 0 := by
  have := n00 ⟨z.toNat, by omega⟩ (by simpa [show ((z.toNat : Nat) : Int) = z from by omega] using h1)
  simp only at this
  omega
theorem n31 : ∀ n : Fin 256, bits .andNot .u8 (n.val : Int) 31 = 0 → n.val < 32 := by decide +kernel
theorem z31 {z : Int} (h : 0 ≤ z ∧ z ≤ 255) (h1 : bits .andNot .u8 z 31 = 0) : z < 32 := by
  have := n31 ⟨z.toNat, by omega⟩ (by simpa [show ((z.toNat : Nat) : Int) = z from by omega] using h1)
  simp only at this
  omega

theorem mask_zero {zs : List Int} (ho : (oddL zs).1 < 0) (k : Int) (hk : zs.getD 0 0 = k) (j : Nat) (hj : j < (maskL k).length) : bits .andNot .u8 (zs.getD j 0) ((maskL k).getD j 0) = 0 := by
  unfold oddL at ho
  rw [hk] at ho
  have := odd_zero _ _ _ ho j (by omega) (by omega)
  unfold B.ext at this
  rw [if_pos hj] at this
  exact this

theorem told_all (b off cap : Nat) (zs : List Int) (s : Int) (w : World) (hb : B.Bytes zs) (hc : Cells w b off (maskL (zs.getD 0 0)).length zs) (hm : maskL (zs.getD 0 0) ≠ []) (ho : (oddL zs).1 < 0) (hs : tellB (zs.getD 0 0) = true → s = zs.getD 1 0) :
    Calls Try.prog 24 #[.slice (some ⟨b, off, none⟩) (maskL (zs.getD 0 0)).length cap, .int .u8 s] w fun e w' => e = .returned (.tuple #[.agg (cmdL (zs.getD 0 0) zs).vals, .int .i64 (toldF (unfL zs)).1, .int .i64 (toldF (unfL zs)).2]) ∧ Below w.heap.size w w' := by
  have mz := fun k hk j hj => mask_zero ho k hk j hj
  unfold unfL
  rcases op_cases (zs.getD 0 0) with h | h | h | h | h | h | h | h | h | h | h | h | h | h | h | h | h | h | h | h | h | h | h | h | h | h | h | ⟨h0, h3, h8, h10, h18, h21, h26, h37, h40, h42, h46, h47, h53, h65, h66, h85, h90, h94, h95, h131, h136, h137, h138, h145, h147, h158, h160⟩
  · have z := h
    rw [h] at hc ⊢
    exact told_0 b off cap zs s w hb hc z
  · have z := h
    rw [h] at hc ⊢
    exact told_3 b off cap zs s w hb hc z (z1_of hb ho 3 h (by decide) (by decide))
  · have z := h
    rw [h] at hc ⊢
    exact told_8 b off cap zs s w hb hc z
  · have z := h
    rw [h] at hc ⊢
    exact told_10 b off cap zs s w hb hc z
  · have z := h
    rw [h] at hc ⊢
    exact told_18 b off cap zs s w hb hc z (z1_of hb ho 18 h (by decide) (by decide))
  · have z := h
    rw [h] at hc ⊢
    exact told_21 b off cap zs s w hb hc z (z17 (hb 1) (by have := mz 21 h 1 (by decide); rwa [show (maskL 21).getD 1 0 = 17 from rfl] at this))
  · have z := h
    rw [h] at hc ⊢
    exact told_26 b off cap zs s w hb hc z
  · have z := h
    rw [h] at hc ⊢
    exact told_37 b off cap zs s w hb hc z
  · have z := h
    rw [h] at hc ⊢
    exact told_40 b off cap zs s w hb hc z
  · have z := h
    rw [h] at hc ⊢
    exact told_42 b off cap zs s w hb hc z
  · have z := h
    rw [h] at hc ⊢
    exact told_46 b off cap zs s w hb hc z
  · have z := h
    rw [h] at hc ⊢
    exact told_47 b off cap zs s w hb hc z
  · have z := h
    rw [h] at hc ⊢
    exact told_53 b off cap zs s w hb hc z (z00 (hb 1) (by have := mz 53 h 1 (by decide); rwa [show (maskL 53).getD 1 0 = 0 from rfl] at this))
  · have z := h
    rw [h] at hc ⊢
    exact told_65 b off cap zs s w hb hc z
  · have z := h
    rw [h] at hc ⊢
    exact told_66 b off cap zs s w hb hc z
  · have z := h
    rw [h] at hc ⊢
    exact told_85 b off cap zs s w hb hc z (z17 (hb 1) (by have := mz 85 h 1 (by decide); rwa [show (maskL 85).getD 1 0 = 17 from rfl] at this))
  · have z := h
    rw [h] at hc ⊢
    exact told_90 b off cap zs s w hb hc z
  · have z := h
    rw [h] at hc ⊢
    exact told_94 b off cap zs s w hb hc z (hs (by rw [h]; decide))
  · have z := h
    rw [h] at hc ⊢
    exact told_95 b off cap zs s w hb hc z (hs (by rw [h]; decide))
  · have z := h
    rw [h] at hc ⊢
    exact told_131 b off cap zs s w hb hc z
  · have z := h
    rw [h] at hc ⊢
    exact told_136 b off cap zs s w hb hc z
  · have z := h
    rw [h] at hc ⊢
    exact told_137 b off cap zs s w hb hc z ⟨z00 (hb 10) (by have := mz 137 h 10 (by decide); rwa [show (maskL 137).getD 10 0 = 0 from rfl] at this), z00 (hb 11) (by have := mz 137 h 11 (by decide); rwa [show (maskL 137).getD 11 0 = 0 from rfl] at this), z00 (hb 12) (by have := mz 137 h 12 (by decide); rwa [show (maskL 137).getD 12 0 = 0 from rfl] at this)⟩
  · have z := h
    rw [h] at hc ⊢
    exact told_138 b off cap zs s w hb hc z
  · have z := h
    rw [h] at hc ⊢
    exact told_145 b off cap zs s w hb hc z (z00 (hb 1) (by have := mz 145 h 1 (by decide); rwa [show (maskL 145).getD 1 0 = 0 from rfl] at this))
  · have z := h
    rw [h] at hc ⊢
    exact told_147 b off cap zs s w hb hc z
  · have z := h
    rw [h] at hc ⊢
    exact told_158 b off cap zs s w hb hc z
  · have z := h
    rw [h] at hc ⊢
    exact told_160 b off cap zs s w hb hc z
  · exact absurd (mask_none _ h0 h3 h8 h10 h18 h21 h26 h37 h40 h42 h46 h47 h53 h65 h66 h85 h90 h94 h95 h131 h136 h137 h138 h145 h147 h158 h160) hm

theorem tell_mask (op : Int) (h : tellB op = true) : maskL op ≠ [] ∧ (maskL op).getD 1 0 = 31 := by
  unfold tellB at h
  simp only [decide_eq_true_eq] at h
  rcases h with rfl | rfl | rfl | rfl <;> decide
theorem serv_not (op s : Int) (h : tellB op = false) : servB op s = true := by
  unfold tellB at h
  simp only [decide_eq_false_iff_not, not_or] at h
  unfold servB
  rw [if_neg h.1, if_neg h.2.1, if_neg h.2.2.1, if_neg h.2.2.2]

/-- The document's Parse, of any bytes. -/
theorem rparse_any (v : Value) (zs : List Int) (w : World) (hr : RdAt w v zs) (hb : B.Bytes zs) (hl : zs.length ≤ maxLen) :
    Calls Try.prog 11 #[v] w fun e w' => e = .returned (parseRes zs) ∧ Below w.heap.size w w' := by
  obtain ⟨a, cap, rfl, ha, hlc, h⟩ := id hr
  by_cases h0 : zs.length = 0
  · have e : parseRes zs = .tuple #[.agg zeroC, .agg (faultS 0 (-1)).vals, .bool false] := by unfold parseRes faultL; rw [if_pos h0]; rfl
    rw [e, h0]
    exact rparse_a a cap w
  obtain ⟨b, off, rfl⟩ : ∃ b off, a = some ⟨b, off, none⟩ := by
    rcases h with h | ⟨b, off, h, _⟩
    · omega
    · exact ⟨b, off, h⟩
  clear h ha
  have hlt : b < w.heap.size := RdAt.lt hr (by omega) rfl
  have hc : Cells w b off zs.length zs := ⟨hlt, (rd_cells hr).2⟩
  have hcW : ∀ W, Below w.heap.size w W → Cells W b off zs.length zs := fun W hW => hc.below hW hlt
  have c0 : ∀ W, Below w.heap.size w W → W.cell? ⟨b, off, none⟩ = some (.int .u8 (zs.getD 0 0)) := fun W hW => by have := (hcW W hW).2 0 (by omega); rwa [Nat.add_zero] at this
  by_cases hm : maskL (zs.getD 0 0) = []
  · have ht : tellB (zs.getD 0 0) = false := by
      cases h : tellB (zs.getD 0 0) with
      | false => rfl
      | true => exact absurd hm (tell_mask _ h).1
    have e : parseRes zs = .tuple #[.agg zeroC, .agg noOpS.vals, .bool false] := by unfold parseRes faultL; rw [if_neg h0, if_pos hm]; rfl
    rw [e]
    exact rparse_c b off _ cap _ w (by omega) hlt (c0 w (Below.refl _ _)) ht hm
  obtain ⟨hm2, hm16, hmb⟩ : 2 ≤ (maskL (zs.getD 0 0)).length ∧ (maskL (zs.getD 0 0)).length ≤ 16 ∧ B.Bytes (maskL (zs.getD 0 0)) := (mask_cases _).resolve_left hm
  have HC : Kpt (∀ W, Below w.heap.size w W → W.cell? ⟨b, off, none⟩ = some (.int .u8 (zs.getD 0 0)) ∧ (2 ≤ zs.length → W.cell? ⟨b, off + 1, none⟩ = some (.int .u8 (zs.getD 1 0)))) := ⟨fun W hW => ⟨c0 W hW, fun h => (hcW W hW).2 1 (by omega)⟩⟩
  have HU : Kpt (∀ s W, Calls Try.prog 13 #[.int .u8 (zs.getD 0 0), .int .u8 s] W fun e w' => ∃ g cap', e = .returned (.tuple #[.slice (some ⟨g, 0, none⟩) (maskL (zs.getD 0 0)).length cap', .bool (servB (zs.getD 0 0) s)]) ∧ B.RowAt w' (some ⟨g, 0, none⟩) (maskL (zs.getD 0 0)).length (maskL (zs.getD 0 0)) ∧ Below W.heap.size W w') :=
    ⟨fun s W => (rusage_any _ s W hm).mono fun e w' ⟨g, c, h1, h2, h3⟩ => ⟨g, c, h1, .inr ⟨g, 0, rfl, fun j hj => by rw [Nat.zero_add]; exact own_facts h2 j hj⟩, h3⟩⟩
  have HO : Kpt (∀ W g cap', Below w.heap.size w W → B.RowAt W (some ⟨g, 0, none⟩) (maskL (zs.getD 0 0)).length (maskL (zs.getD 0 0)) → (maskL (zs.getD 0 0)).length ≤ zs.length → Calls Try.prog 23 #[.slice (some ⟨b, off, none⟩) (maskL (zs.getD 0 0)).length cap, .slice (some ⟨g, 0, none⟩) (maskL (zs.getD 0 0)).length cap'] W fun e w' => e = .returned (.tuple #[.int .i64 (oddL zs).1, .int .i64 (oddL zs).2]) ∧ w' = W) :=
    ⟨fun W g cap' hW hg hle => B.rodd_any _ _ _ _ _ _ zs _ W (by unfold maxLen at *; omega) (by unfold maxLen at *; omega) hb hmb (.inr ⟨b, off, rfl, fun j hj => (hcW W hW).2 j (by omega)⟩) hg⟩
  have y1 := hb 1
  by_cases hs : zs.length < (maskL (zs.getD 0 0)).length
  · have e : parseRes zs = .tuple #[.agg zeroC, .agg (faultS zs.length (-1)).vals, .bool false] := by unfold parseRes faultL; rw [if_neg h0, if_neg hm, if_pos hs]; rfl
    rw [e]
    cases ht : tellB (zs.getD 0 0) with
    | true =>
      by_cases h1 : zs.length = 1
      · rw [h1]
        exact rparse_b b off cap _ w hlt (c0 w (Below.refl _ _)) ht
      · exact rparse_dt b off _ cap _ _ _ _ 0 0 0 0 noC w hlt HC (by omega) hm2 hlc hm16 y1 hl HU ht (by omega) hs
    | false => exact rparse_dn b off _ cap _ _ _ _ 0 0 0 0 noC w hlt HC (by omega) hm2 hlc hm16 y1 hl HU ht hs
  have hle : (maskL (zs.getD 0 0)).length ≤ zs.length := by omega
  replace HO : Kpt (∀ W g cap', Below w.heap.size w W → B.RowAt W (some ⟨g, 0, none⟩) (maskL (zs.getD 0 0)).length (maskL (zs.getD 0 0)) → Calls Try.prog 23 #[.slice (some ⟨b, off, none⟩) (maskL (zs.getD 0 0)).length cap, .slice (some ⟨g, 0, none⟩) (maskL (zs.getD 0 0)).length cap'] W fun e w' => e = .returned (.tuple #[.int .i64 (oddL zs).1, .int .i64 (oddL zs).2]) ∧ w' = W) := ⟨fun W g c h1 h2 => HO.out W g c h1 h2 hle⟩
  by_cases ho : 0 ≤ (oddL zs).1
  · have e : parseRes zs = .tuple #[.agg zeroC, .agg (faultS (oddL zs).1 (oddL zs).2).vals, .bool false] := by unfold parseRes faultL; rw [if_neg h0, if_neg hm, if_neg hs, if_pos ho]; rfl
    rw [e]
    cases ht : tellB (zs.getD 0 0) with
    | true => exact rparse_et b off _ cap _ _ _ _ _ _ 0 0 noC w hlt HC (by omega) hm2 hlc hm16 y1 hl HU HO ht hle ho
    | false => exact rparse_en b off _ cap _ _ _ _ _ _ 0 0 noC w hlt HC (by omega) hm2 hlc hm16 y1 hl HU HO ht hle ho
  have ho' : (oddL zs).1 < 0 := by omega
  have HT : ∀ s, (tellB (zs.getD 0 0) = true → s = zs.getD 1 0) → Kpt (∀ W, Below w.heap.size w W → Calls Try.prog 24 #[.slice (some ⟨b, off, none⟩) (maskL (zs.getD 0 0)).length cap, .int .u8 s] W fun e w' => e = .returned (.tuple #[.agg (cmdL (zs.getD 0 0) zs).vals, .int .i64 (toldF (unfL zs)).1, .int .i64 (toldF (unfL zs)).2]) ∧ Below W.heap.size W w') :=
    fun s hst => ⟨fun W hW => told_all b off cap zs s W hb ⟨(hcW W hW).1, fun j hj => (hcW W hW).2 j (by omega)⟩ hm ho' hst⟩
  by_cases hu : 0 ≤ (unfL zs).1
  · have hF : toldF (unfL zs) = unfL zs := if_pos hu
    rw [hF] at HT
    cases ht : tellB (zs.getD 0 0) with
    | true =>
      have h32 : zs.getD 1 0 < 32 := z31 y1 (by have := mask_zero ho' _ rfl 1 (by omega); rw [(tell_mask _ ht).2] at this; exact this)
      have hmod : zs.getD 1 0 % 32 = zs.getD 1 0 := by omega
      cases hsv : servB (zs.getD 0 0) (zs.getD 1 0) with
      | false =>
        have e : parseRes zs = .tuple #[.agg zeroC, .agg (faultS 1 4).vals, .bool false] := by unfold parseRes faultL; rw [if_neg h0, if_neg hm, if_neg hs, if_neg ho, if_pos hsv]; rfl
        rw [e]
        exact rparse_ft b off _ cap _ _ _ _ _ _ 0 0 noC w hlt HC (by omega) hm2 hlc hm16 y1 hl HU HO ht hle ho' (by rw [hmod]; exact hsv)
      | true =>
        have e : parseRes zs = .tuple #[.agg zeroC, .agg (faultS (unfL zs).1 (unfL zs).2).vals, .bool false] := by unfold parseRes faultL; rw [if_neg h0, if_neg hm, if_neg hs, if_neg ho, if_neg (by rw [hsv]; decide), if_pos hu]; rfl
        rw [e]
        exact rparse_gt b off _ cap _ _ _ _ _ _ _ _ _ w hlt HC (by omega) hm2 hlc hm16 y1 hl HU HO (HT _ (fun _ => hmod)) ht hle ho' (by rw [hmod]; exact hsv) hu
    | false =>
      have hsv := serv_not (zs.getD 0 0) (zs.getD 1 0) ht
      have e : parseRes zs = .tuple #[.agg zeroC, .agg (faultS (unfL zs).1 (unfL zs).2).vals, .bool false] := by unfold parseRes faultL; rw [if_neg h0, if_neg hm, if_neg hs, if_neg ho, if_neg (by rw [hsv]; decide), if_pos hu]; rfl
      rw [e]
      exact rparse_gn b off _ cap _ _ _ _ _ _ _ _ _ w hlt HC (by omega) hm2 hlc hm16 y1 hl HU HO (HT 0 (fun h => by rw [ht] at h; cases h)) ht hle ho' (serv_not _ _ ht) hu
  · have hF : toldF (unfL zs) = (-1, 0) := if_neg hu
    rw [hF] at HT
    cases ht : tellB (zs.getD 0 0) with
    | true =>
      have h32 : zs.getD 1 0 < 32 := z31 y1 (by have := mask_zero ho' _ rfl 1 (by omega); rw [(tell_mask _ ht).2] at this; exact this)
      have hmod : zs.getD 1 0 % 32 = zs.getD 1 0 := by omega
      cases hsv : servB (zs.getD 0 0) (zs.getD 1 0) with
      | false =>
        have e : parseRes zs = .tuple #[.agg zeroC, .agg (faultS 1 4).vals, .bool false] := by unfold parseRes faultL; rw [if_neg h0, if_neg hm, if_neg hs, if_neg ho, if_pos hsv]; rfl
        rw [e]
        exact rparse_ft b off _ cap _ _ _ _ _ _ 0 0 noC w hlt HC (by omega) hm2 hlc hm16 y1 hl HU HO ht hle ho' (by rw [hmod]; exact hsv)
      | true =>
        have e : parseRes zs = .tuple #[.agg (cmdL (zs.getD 0 0) zs).vals, .agg noS.vals, .bool true] := by unfold parseRes faultL; rw [if_neg h0, if_neg hm, if_neg hs, if_neg ho, if_neg (by rw [hsv]; decide), if_neg hu]
        rw [e]
        exact rparse_ht b off _ cap _ _ _ _ _ _ _ _ _ w hlt HC (by omega) hm2 hlc hm16 y1 hl HU HO (HT _ (fun _ => hmod)) ht hle ho' (by rw [hmod]; exact hsv) (by decide)
    | false =>
      have hsv := serv_not (zs.getD 0 0) (zs.getD 1 0) ht
      have e : parseRes zs = .tuple #[.agg (cmdL (zs.getD 0 0) zs).vals, .agg noS.vals, .bool true] := by unfold parseRes faultL; rw [if_neg h0, if_neg hm, if_neg hs, if_neg ho, if_neg (by rw [hsv]; decide), if_neg hu]
      rw [e]
      exact rparse_hn b off _ cap _ _ _ _ _ _ _ _ _ w hlt HC (by omega) hm2 hlc hm16 y1 hl HU HO (HT 0 (fun h => by rw [ht] at h; cases h)) ht hle ho' (serv_not _ _ ht) (by decide)
end Go.Proofs.Ytcgojpnjaloofaa
