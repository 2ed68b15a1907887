/-
  text: TextReads.
-/
import Derived.Test.YtkojkglaljiilaaXRp
namespace Go.Proofs.Ytkojkglaljiilaa
open Go.RowKit
set_option linter.unusedVariables false
set_option linter.unusedSimpArgs false

set_option maxRecDepth 100000 in
set_option maxHeartbeats 1000000 in
theorem treads_long (a : Option Addr) (n c : Nat) (w : World) (hn : 4096 < n) (hm : n ≤ maxLen) :
    Calls Try.prog 3 #[.slice a n c] w fun e w' => e = .returned (.bool true) ∧ Below w.heap.size w w' := by
  have hD := Kpt.mk (fun W => parse_long a n c W hn hm)
  have hR := Kpt.mk (fun W => rparse_long a n c W hn hm)
  have hS := Kpt.mk (fun W => same_any none none 0 0 0 [] W (ps_nil W) (ps_nil W) (Nat.zero_le _))
  clear hn hm
  go_enter Try.func3, Try.ntmps3
  go_wp2_with (first
    | (go_at_call 9; go_must (refine (hS.out _).mono ?_; rintro e w3 ⟨rfl, hs3⟩; replace hbw : Kpt (Below w.heap.size w w3) := ⟨hbw.out.trans (hs3.bel.mono hbw.out.size)⟩; clear hs3))
    | (go_at_call 8; go_must (refine (hR.out _).mono ?_; rintro e w1 ⟨rfl, rfl⟩))
    | (go_at_call 7; go_must (refine (hD.out _).mono ?_; rintro e w1 ⟨rfl, rfl⟩))
    | (go_at_call 6; go_must (refine (awake_any _).mono ?_; rintro e w1 ⟨rfl, hbe1⟩; have hbw : Kpt (Below w.heap.size w w1) := ⟨hbe1⟩; clear hbe1)))
  go_ret
  exact ⟨rfl, hbw.out⟩

set_option maxRecDepth 100000 in
set_option maxHeartbeats 1000000 in
theorem treads_any (a : Option Addr) (n c : Nat) (zs : List Int) (w : World) (hr : RdAt w (.slice a n c) zs) (hn : n ≤ 4096) (hc : c ≤ maxLen) (hb : Bytes zs) :
    Calls Try.prog 3 #[.slice a n c] w fun e w' => e = .returned (.bool true) ∧ Below w.heap.size w w' := by
  have hD := Kpt.mk (fun W (hW : Below w.heap.size w W) => parse_any a n c zs W (hr.bel hW) hn hc hb)
  have hR := Kpt.mk (fun W (hW : Below w.heap.size w W) => rparse_any a n c zs W (hr.bel hW) hn hc hb)
  obtain ⟨E0, hE0⟩ : ∃ e, e = parE zs := ⟨_, rfl⟩
  obtain ⟨L, hL⟩ : ∃ e, e = parO zs := ⟨_, rfl⟩
  obtain ⟨k, hk⟩ : ∃ e, e = L.length := ⟨_, rfl⟩
  rw [← hE0, ← hL, ← hk] at hD hR
  have hkm : k ≤ maxLen := by
    rw [hk, hL]
    unfold parO maxLen
    cases par zs with
    | none => simp
    | some l =>
      simp only
      split
      · simp
      · split
        · simp
        · omega
  have hS := Kpt.mk (fun W va vc vb vd (h1 : PsAt W (.slice va k vc) (L.map prS)) (h2 : PsAt W (.slice vb k vd) (L.map prS)) => same_any va vb k vc vd (L.map prS) W h1 h2 hkm)
  clear hE0 hL hk hr hb hkm
  go_enter Try.func3, Try.ntmps3
  go_wp2_with (first
    | (go_at_call 9; go_must (refine (hS.out _ va vc vb vd (prs_of hr4.out).1 (prs_of hr7.out).1).mono ?_; rintro e w3 ⟨rfl, hs3⟩; replace hbw : Kpt (Below w.heap.size w w3) := ⟨hbw.out.trans (hs3.bel.mono hbw.out.size)⟩; clear hs3))
    | (go_at_call 8; go_must (refine (hR.out _ hbw.out).mono ?_; rintro e w2 ⟨v2, rfl, hr7, hbe2⟩; obtain ⟨_, vb, vd, rfl, _, _⟩ := prs_of hr7; replace hr4 : Kpt (w2.ownsRow _ 40 2 (.slice va k vc) k (cellsP L)) := ⟨own_ofb hr4.out fun g hg => hbe2.block g (World.ownsRow.lt hr4.out g hg).2⟩; replace hr7 := Kpt.mk hr7; replace hbw : Kpt (Below w.heap.size w w2) := ⟨hbw.out.trans (hbe2.mono hbw.out.size)⟩; clear hbe2))
    | (go_at_call 7; go_must (refine (hD.out _ hbw.out).mono ?_; rintro e w2 ⟨v1, rfl, hr4, hbe2⟩; obtain ⟨_, va, vc, rfl, _, _⟩ := prs_of hr4; replace hr4 := Kpt.mk hr4; replace hbw : Kpt (Below w.heap.size w w2) := ⟨hbw.out.trans (hbe2.mono hbw.out.size)⟩; clear hbe2))
    | (go_at_call 6; go_must (refine (awake_any _).mono ?_; rintro e w1 ⟨rfl, hbe1⟩; have hbw : Kpt (Below w.heap.size w w1) := ⟨hbe1⟩; clear hbe1)))
  go_ret
  exact ⟨rfl, hbw.out⟩

/-- A slice of bytes that came in. -/
theorem rd_isrow {w : World} {a : Option Addr} {n c : Nat} {zs : List Int} (h : (a = none ∧ n = 0 ∧ c = 0 ∧ zs = []) ∨ ∃ x, a = some x ∧ n ≤ c ∧ c ≤ maxLen ∧ zs.length = c ∧ (∀ i, i < zs.length → w.cell? (x.add i) = some (.int .u8 (zs.getD i 0))) ∧ ∀ n ∈ zs, (Lit.int .u8 n).wf = true) :
    RdAt w (.slice a n c) (zs.take n) ∧ Bytes (zs.take n) ∧ n ≤ maxLen ∧ c ≤ maxLen := by
  rcases h with ⟨rfl, rfl, rfl, rfl⟩ | ⟨x, rfl, h1, h2, h3, h4, h5⟩
  · exact ⟨rd_nil w, Bytes.nil, by unfold maxLen; omega, by unfold maxLen; omega⟩
  · have hlen : (zs.take n).length = n := by rw [List.length_take]; omega
    have hb : Bytes (zs.take n) := by
      intro j
      rw [List.getD_eq_getElem?_getD]
      cases hj : (zs.take n)[j]? with
      | none => simp
      | some y =>
        have := h5 y (List.mem_of_mem_take (List.mem_of_getElem? hj))
        simp [Lit.wf, IntKind.min, IntKind.max, IntKind.bits, IntKind.signed] at this
        simp only [Option.getD_some]
        omega
    refine ⟨⟨some x, c, by rw [hlen], (fun h => by cases h), by omega, ?_⟩, hb, by omega, h2⟩
    by_cases h0 : n = 0
    · exact .inl (by omega)
    · have hc0 := h4 0 (by omega)
      obtain ⟨b, off, spot⟩ := x
      have hspot : spot = none := by simpa [Addr.add] using World.cell?_spot hc0
      subst hspot
      refine .inr ⟨b, off, rfl, fun j u hu => ?_⟩
      have hj : j < n := by have := (List.getElem?_eq_some_iff.1 hu).1; simp at this; omega
      have := h4 j (by omega)
      rw [Go.WideShapes.add_plain] at this
      rw [this]
      rw [cels, List.getElem?_map, List.getElem?_take_of_lt hj] at hu
      rw [List.getD_eq_getElem?_getD]
      cases hq : zs[j]? with
      | none => rw [hq] at hu; cases hu
      | some y => rw [hq] at hu; simpa using hu
end Go.Proofs.Ytkojkglaljiilaa
