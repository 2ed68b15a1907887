/-
  The walk of the statement on sums.
-/
import Derived.Test.YtaedkofljmonjaaDoorQAwk
import Derived.Test.YtaedkofljmonjaaDoorQRs
namespace Go.Proofs.YtaedkofljmonjaaDoor
open Go.RowKit
set_option linter.unusedVariables false
set_option linter.unusedSimpArgs false

theorem rd_isrow {w : World} {a : Option Addr} {n c : Nat} {zs : List Int} (h : (a = none ∧ n = 0 ∧ c = 0 ∧ zs = []) ∨ ∃ x, a = some x ∧ n ≤ c ∧ c ≤ 140737488351232 ∧ zs.length = c ∧ (∀ i, i < zs.length → w.cell? (x.add i) = some (.int .u8 (zs.getD i 0))) ∧ ∀ n ∈ zs, (Lit.int .u8 n).wf = true) :
    RdAt w (.slice a n c) (zs.take n) ∧ Bytes (zs.take n) ∧ n ≤ 140737488351232 ∧ (Value.slice a n c = .slice none 0 0 ∨ (∃ x, Value.slice a n c = .slice (some x) 0 0) ∨ ∃ b off n' c', Value.slice a n c = .slice (some ⟨b, off, none⟩) n' c') := by
  rcases h with ⟨rfl, rfl, rfl, rfl⟩ | ⟨x, rfl, h1, h2, h3, h4, h5⟩
  · exact ⟨rd_nil w, Bytes.nil, by omega, .inl rfl⟩
  · have hlen : (zs.take n).length = n := by rw [List.length_take]; omega
    have hb : Bytes (zs.take n) := bytes_of_mem fun y hy => by
      have := h5 y (List.mem_of_mem_take hy)
      simp [Lit.wf, IntKind.min, IntKind.max, IntKind.bits, IntKind.signed] at this
      omega
    have hsp : 0 < c → x.spot = none := fun hc => by
      have hc0 := h4 0 (by omega)
      simpa [Addr.add] using World.cell?_spot hc0
    refine ⟨⟨some x, c, by rw [hlen], (fun h => by cases h), by omega, ?_⟩, hb, by omega, ?_⟩
    · by_cases h0 : n = 0
      · exact .inl (by omega)
      · obtain ⟨b, off, spot⟩ := x
        obtain rfl : spot = none := hsp (by omega)
        refine .inr ⟨b, off, rfl, fun j u hu => ?_⟩
        have hj : j < n := by have := (List.getElem?_eq_some_iff.1 hu).1; simp at this; omega
        have := h4 j (by omega)
        rw [Go.WideShapes.add_plain] at this
        rw [this, ← hu]
        have hjz : j < zs.length := by omega
        simp [cels, List.getElem?_map, List.getElem?_take, hj, List.getElem?_eq_getElem hjz, List.getD_eq_getElem?_getD]
    · by_cases hc : 0 < c
      · obtain ⟨b, off, spot⟩ := x
        obtain rfl : spot = none := hsp hc
        exact .inr (.inr ⟨b, off, n, c, rfl⟩)
      · exact .inr (.inl ⟨x, by rw [show n = 0 by omega, show c = 0 by omega]⟩)

set_option maxRecDepth 100000 in
set_option maxHeartbeats 1000000 in
theorem sums_walk (a : Option Addr) (n c : Nat) (zs : List Int) (w : World) (hr : RdAt w (.slice a n c) zs) (hb : Bytes zs) (hm : n ≤ 140737488351232) (hG : Gl w) (ho : Value.slice a n c = .slice none 0 0 ∨ (∃ x, Value.slice a n c = .slice (some x) 0 0) ∨ ∃ b off n' c', Value.slice a n c = .slice (some ⟨b, off, none⟩) n' c') :
    Calls Tryd.prog 3 #[.slice a n c] w fun e w' => e = .returned (.bool true) ∧ Below w.heap.size w w' := by
  have hlen : n = zs.length := by obtain ⟨a', c', e, _⟩ := hr; simp only [Value.slice.injEq] at e; exact e.2.1
  replace hr := Kpt.mk hr
  replace hb := Kpt.mk hb
  replace hG := Kpt.mk hG
  replace ho := Kpt.mk ho
  replace hlen := Kpt.mk hlen
  go_enter Tryd.func3, Tryd.ntmps3
  go_wp2_with (first
    | (refine (?_ : wpList _ _ _ (Oper.mk none (Op.store 24 (.tmp 3) _) _ _ _ _ :: _) _ _); have hmm := m2; go_must (refine wpList_store_bx rfl 24 (.tmp 3) (.tmp 7) rfl w2.heap.size #[.int .u8 0, .int .u8 0, .int .u8 0, .int .u8 0, .int .u8 0, .int .u8 0, .int .u8 0, .int .u8 0, .int .u8 0, .int .u8 0, .int .u8 0, .int .u8 0, .int .u8 0, .int .u8 0, .int .u8 0, .int .u8 0] (cels (sumL zs)).toArray rfl rfl (bx_new w2 _ 24) (by rw [sum_size]; rfl) (by rw [sum_size]; exact info24) (all_oneCell_toArray (cels_one _)) rfl ?_; intro w3 hX3 hg3; have hb3 : Kpt (Below w.heap.size w w3) := ⟨(hb2.out.alloc hb2.out.size _).grown hg3 (by simp; have := hb2.out.size; omega) (fun j e => by cases e; exact hb2.out.size)⟩; replace hX3 := Kpt.mk hX3; clear hg3 hmm m2))
    | (go_at_call 8; have hmm := m1; go_must (refine (sum_any _ zs _ (hr.out.bel hb1.out) hb.out (by have := hlen.out; omega) (hG.out.bel hb1.out) ho.out).mono ?_; rintro e w2 ⟨rfl, hb12⟩; have hb2 : Kpt (Below w.heap.size w w2) := ⟨hb1.out.trans (hb12.mono hb1.out.size)⟩; clear hb12 hmm m1; have m2 : Kpt True := ⟨trivial⟩))
    | (go_at_call 7; go_must (refine (awake_any _ hG.out).mono ?_; rintro e w1 ⟨rfl, hb1⟩; replace hb1 := Kpt.mk hb1; have m1 : Kpt True := ⟨trivial⟩)))
  obtain ⟨B3, hB3⟩ : ∃ B3, w2.heap.size = B3 := ⟨_, rfl⟩
  rw [hB3] at hX3
  rw [hB3]
  clear hB3
  refine wp_region_any (by kernel_rfl) ?_
  refine wpAny_of_C (C := fun W => Bx W B3 (cels (sumL zs)).toArray) _ _ _ _ ?_
  refine wpAnyC_take 0 (.slice (some ⟨B3, 0, none⟩) 16 16) rfl (by kernel_rfl) (by kernel_rfl) (by kernel_rfl) (fun _ _ _ h => h) (wanted_free rfl _) (fun W hW => by go_simp) ?_
  try simp only [Act.put, List.getElem_toArray, List.getElem_cons_succ, List.getElem_cons_zero, List.setIfInBounds_toArray, List.set_cons_succ, List.set_cons_zero]
  refine wpAnyC_take 1 (.string (strOfNums (sumL zs))) rfl (by kernel_rfl) (by kernel_rfl) (by kernel_rfl) (fun _ _ _ h => h) (wanted_free rfl _) (fun W hW => by have := conv_rd (bx_rd hW (sumL_length zs)); first | (go_simp; done) | (go_simp; simp [this])) ?_
  try simp only [Act.put, List.getElem_toArray, List.getElem_cons_succ, List.getElem_cons_zero, List.setIfInBounds_toArray, List.set_cons_succ, List.set_cons_zero]
  refine wpAnyC_take 2 (.slice a n c) rfl (by kernel_rfl) (by kernel_rfl) (by kernel_rfl) (fun _ _ _ h => h) (wanted_free rfl _) (fun W hW => by go_simp) ?_
  try simp only [Act.put, List.getElem_toArray, List.getElem_cons_succ, List.getElem_cons_zero, List.setIfInBounds_toArray, List.set_cons_succ, List.set_cons_zero]
  refine wpAnyC_one 3 hX3.out.drew rfl (by kernel_rfl) (wanted_free rfl _) (fun KA hKA => ?_)
  go_simp
  refine (rsum_any a n c zs _ ((hr.out.bel hb3.out).of_block (w' := w3.drew) (fun _ _ => rfl)) hb.out hm).mono ?_
  rintro e w4 ⟨g4, cap4, rfl, ho4, hb4⟩
  replace hb4 := below_undrew hb4
  refine hKA _ _ ?_
  clear hKA KA
  try simp only [Act.put, List.getElem_toArray, List.getElem_cons_succ, List.getElem_cons_zero, List.setIfInBounds_toArray, List.set_cons_succ, List.set_cons_zero]
  have hX4 : Bx w4 B3 (cels (sumL zs)).toArray := hX3.out.below hb4 hX3.out.lt
  refine wpAnyC_one 4 hX4 rfl (by kernel_rfl) (wanted_free rfl _) (fun KA hKA => ?_)
  have hcv := conv_rd (own_rd ho4)
  go_simp
  try simp only [hcv]
  refine hKA _ _ ?_
  clear hKA KA
  try simp only [Act.put, List.getElem_toArray, List.getElem_cons_succ, List.getElem_cons_zero, List.setIfInBounds_toArray, List.set_cons_succ, List.set_cons_zero]
  refine wpAnyC_one 5 hX4 rfl (by kernel_rfl) (wanted_free rfl _) (fun KA hKA => ?_)
  go_simp
  refine hKA _ _ ?_
  clear hKA KA
  try simp only [Act.put, List.getElem_toArray, List.getElem_cons_succ, List.getElem_cons_zero, List.setIfInBounds_toArray, List.set_cons_succ, List.set_cons_zero]
  refine wpAnyC_one 6 hX4 rfl (by kernel_rfl) (wanted_free rfl _) (fun KA hKA => ?_)
  go_simp
  refine hKA _ _ ?_
  clear hKA KA
  try simp only [Act.put, List.getElem_toArray, List.getElem_cons_succ, List.getElem_cons_zero, List.setIfInBounds_toArray, List.set_cons_succ, List.set_cons_zero]
  refine wpAnyC_done (hX4) (by kernel_rfl) ?_
  go_wp2
  go_ret
  exact ⟨by simp, hb3.out.trans (hb4.mono hb3.out.size)⟩

end Go.Proofs.YtaedkofljmonjaaDoor
