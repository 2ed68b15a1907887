/-
  What the statements on commands need besides: Usage, structs that are compared, bytes that came in.
-/
import Derived.Test.YtcgojpnjaloofaaCAwake
namespace Go.Proofs.Ytcgojpnjaloofaa
open Go.RowKit
set_option linter.unusedVariables false
set_option linter.unusedSimpArgs false

theorem wf_u8 {n : Int} (h : (Lit.int .u8 n).wf = true) : 0 ≤ n ∧ n ≤ 255 := by
  simp [Lit.wf, IntKind.min, IntKind.max, IntKind.bits, IntKind.signed] at h; omega
theorem wf_u32 {n : Int} (h : (Lit.int .u32 n).wf = true) : 0 ≤ n ∧ n ≤ 4294967295 := by
  simp [Lit.wf, IntKind.min, IntKind.max, IntKind.bits, IntKind.signed] at h; omega

theorem eqS (s : Sn) (W : World) : (binOp .eql 30 (.agg s.vals) (.agg s.vals)).run Try.prog W = .ok (.bool true) W := by
  obtain ⟨key, code, info, hi, field, bit, hf, ic⟩ := s
  simp only [Sn.vals]
  go_simp

theorem eqC (s : Cm) (W : World) : (binOp .eql 27 (.agg s.vals) (.agg s.vals)).run Try.prog W = .ok (.bool true) W := by
  obtain ⟨kind, long, lba, blocks, alloc, fua, prot, unmap, evpd, page, control, save, service, type, bytes⟩ := s
  simp only [Cm.vals]
  go_simp

theorem exec_eqS {W : World} {o : Oper} {a : Act} (x y : Operand) (F : Sn) (ho : o.op = .binOp .eql 30 x y 30) (hx : a.eval x = .agg F.vals) (hy : a.eval y = .agg F.vals) : (execOp a.eval o).run Try.prog W = .ok (.value (.bool true)) W := by
  obtain ⟨key, code, info, hi, field, bit, hf, ic⟩ := F
  simp only [Sn.vals] at hx hy
  unfold execOp
  simp only [ho, hx, hy]
  go_simp

theorem usage_any (op s : Int) (w : World) (h : maskL op ≠ []) :
    Calls Try.prog 12 #[.int .u8 op, .int .u8 s] w fun e w' => e = .returned (.tuple #[.slice (some ⟨w.heap.size, 0, none⟩) (maskL op).length (maskL op).length, .bool (servB op s)]) ∧ w' = w.alloc (.cells (cels (maskL op)).toArray 5) := by
  have L := fun w => Kpt.mk (looked_any op w h)
  have hnil := ne_nil
  clear h
  generalize (maskL op).length = m at *
  generalize (cels (maskL op)).toArray = cs at *
  go_enter Try.func12, Try.ntmps12
  go_wp2_with (first | (go_at_call 25; refine (L _).out.mono ?_; rintro e w1 ⟨rfl, rfl⟩) | (go_at_call 19; refine (serves_any _ _ _).mono ?_; rintro e w1 ⟨rfl, rfl⟩))
  go_ret2
  exact ⟨rfl, rfl⟩

theorem usage_nil (op s : Int) (w : World) (h : maskL op = []) :
    Calls Try.prog 12 #[.int .u8 op, .int .u8 s] w fun e w' => e = .returned (.tuple #[.slice none 0 0, .bool false]) ∧ w' = w := by
  have L := fun w => Kpt.mk (looked_nil op w h)
  have hnil := ne_nil
  clear h
  go_enter Try.func12, Try.ntmps12
  go_wp2_with (first | (go_at_call 25; refine (L _).out.mono ?_; rintro e w1 ⟨rfl, rfl⟩) | (go_at_call 19; refine (serves_any _ _ _).mono ?_; rintro e w1 ⟨rfl, rfl⟩))
  go_ret2
  exact ⟨rfl, rfl⟩

/-- Bytes that came in. -/
theorem rd_of {w : World} {a : Option Addr} {len cap : Nat} {zs : List Int}
    (h : (a = none ∧ len = 0 ∧ cap = 0 ∧ zs = []) ∨
      ∃ x, a = some x ∧ len ≤ cap ∧ cap ≤ maxLen ∧ zs.length = cap ∧ (∀ i, i < zs.length → w.cell? (x.add i) = some (.int .u8 (zs.getD i 0))) ∧ ∀ n ∈ zs, (Lit.int .u8 n).wf = true) :
    RdAt w (.slice a len cap) (zs.take len) ∧ B.Bytes (zs.take len) ∧ (zs.take len).length = len ∧ len ≤ maxLen ∧ len ≤ cap := by
  obtain ⟨h1, h2, h3⟩ := B.rowAt_of h
  have hlz : len ≤ zs.length ∧ len ≤ cap := by
    rcases h with ⟨_, h, _, hz⟩ | ⟨x, rfl, hlc, hm, hz, hcell, hwz⟩
    · omega
    · omega
  have hlen : (zs.take len).length = len := by rw [List.length_take]; omega
  have hb : B.Bytes (zs.take len) := by
    intro j
    have := h2 j
    rw [List.getD_eq_getElem?_getD] at this ⊢
    rw [List.getElem?_take]
    by_cases hj : j < len
    · rw [if_pos hj]; exact this
    · rw [if_neg hj]; simp
  refine ⟨⟨a, cap, by rw [hlen], ?_, by omega, ?_⟩, hb, hlen, h3, hlz.2⟩
  · intro ha
    rcases h with ⟨_, h, hc, hz⟩ | ⟨x, rfl, _⟩
    · rw [hlen]; exact ⟨h, hc⟩
    · cases ha
  · rcases h1 with h1 | ⟨b, off, rfl, hc⟩
    · left; omega
    · right
      refine ⟨b, off, rfl, fun j u hu => ?_⟩
      have hj : j < len := by have := (List.getElem?_eq_some_iff.1 hu).1; simp only [cels_length] at this; omega
      rw [hc j hj]
      rw [← hu, cels, List.getElem?_map, List.getElem?_take, if_pos hj, List.getD_eq_getElem?_getD, List.getElem?_eq_getElem (by omega)]
      rfl

theorem rd_take {w : World} {b off n cap k : Nat} {zs : List Int} (h : RdAt w (.slice (some ⟨b, off, none⟩) n cap) zs) (hk : k ≤ n) (hkc : n ≤ cap) : RdAt w (.slice (some ⟨b, off, none⟩) k cap) (zs.take k) := by
  obtain ⟨hz, hc⟩ := rd_cells h
  have hlen : (zs.take k).length = k := by rw [List.length_take]; omega
  refine ⟨_, cap, by rw [hlen], (fun h => by cases h), by omega, .inr ⟨b, off, rfl, fun j u hu => ?_⟩⟩
  have hj : j < k := by have := (List.getElem?_eq_some_iff.1 hu).1; simp only [cels_length] at this; omega
  rw [hc j (by omega), ← hu, cels, List.getElem?_map, List.getElem?_take, if_pos hj, List.getD_eq_getElem?_getD, List.getElem?_eq_getElem (by omega)]
  rfl

theorem RdAt.below {w w' : World} {v : Value} {zs : List Int} (h : RdAt w v zs) (hb : Below w.heap.size w w') : RdAt w' v zs := by
  by_cases h0 : 0 < zs.length
  · exact h.of_block (fun g hg => hb.block _ (h.lt h0 hg))
  · obtain ⟨a, c, rfl, ha, hlc, h⟩ := h
    exact ⟨a, c, rfl, ha, hlc, .inl (by omega)⟩

/-- What is a command: its operation is there, it is whole. -/
theorem none_facts {zs : List Int} (h : faultL zs = none) : zs.length ≠ 0 ∧ maskL (zs.getD 0 0) ≠ [] ∧ (maskL (zs.getD 0 0)).length ≤ zs.length ∧ (oddL zs).1 < 0 ∧ servB (zs.getD 0 0) (zs.getD 1 0) = true ∧ (unfL zs).1 < 0 := by
  unfold faultL at h
  by_cases h0 : zs.length = 0
  · rw [if_pos h0] at h; cases h
  rw [if_neg h0] at h
  by_cases hm : maskL (zs.getD 0 0) = []
  · rw [if_pos hm] at h; cases h
  rw [if_neg hm] at h
  by_cases hs : zs.length < (maskL (zs.getD 0 0)).length
  · rw [if_pos hs] at h; cases h
  rw [if_neg hs] at h
  by_cases ho : 0 ≤ (oddL zs).1
  · rw [if_pos ho] at h; cases h
  rw [if_neg ho] at h
  by_cases hv : servB (zs.getD 0 0) (zs.getD 1 0) = false
  · rw [if_pos hv] at h; cases h
  rw [if_neg hv] at h
  by_cases hu : 0 ≤ (unfL zs).1
  · rw [if_pos hu] at h; cases h
  exact ⟨h0, hm, by omega, by omega, by simpa using hv, by omega⟩

theorem getD_take {zs : List Int} {k j : Nat} (h : j < k) : (zs.take k).getD j 0 = zs.getD j 0 := by
  rw [List.getD_eq_getElem?_getD, List.getD_eq_getElem?_getD, List.getElem?_take, if_pos h]

/-- A beginning of a command. -/
theorem fault_short {zs : List Int} (h : faultL zs = none) {n : Nat} (hn : n < (maskL (zs.getD 0 0)).length) : faultL (zs.take n) = some (faultS n (-1)) := by
  obtain ⟨h0, hm, hl, _⟩ := none_facts h
  have hlen : (zs.take n).length = n := by rw [List.length_take]; omega
  unfold faultL
  rw [hlen]
  by_cases hn0 : n = 0
  · rw [if_pos hn0, hn0]; rfl
  · rw [if_neg hn0, getD_take (by omega), if_neg hm, if_pos hn]
end Go.Proofs.Ytcgojpnjaloofaa
