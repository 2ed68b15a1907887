/-
  pdu: Next of a reader, where nothing was wrong.
-/
import Derived.Test.YtigfoldobkigeaaURd4
namespace Go.Proofs.Ytigfoldobkigeaa
open Go.RowKit
set_option linter.unusedVariables false
set_option linter.unusedSimpArgs false

theorem row_own {w : World} {v : Value} {zs : List Int} (h : Row w v zs) {g : Nat} (hg : v.ownBlock = some g) : g < w.heap.size := (World.ownsRow.lt h g hg).2
theorem row_keep {w w' : World} {v : Value} {zs : List Int} (h : Row w v zs) (hb : ∀ g, v.ownBlock = some g → w'.heap[g]? = w.heap[g]?) : Row w' v zs := by
  refine ⟨h.1, ?_⟩
  rcases h.2 with h2 | ⟨g, cap, cur, rfl, h0, hg, r⟩
  · exact .inl h2
  · exact .inr ⟨g, cap, cur, rfl, h0, (hb g rfl).trans hg, r⟩
/-- What Next has when Decode is done. -/
structure NxK (base : Nat) (w W : World) (R : Nat) (h d : Bool) (va : Option Addr) (n vc : Nat) (Wt : List Int) (B0 A : Nat) (pv : Array Value) (nn er : Int) : Prop where
  re : Re base W R h d 0 (.slice va n vc) Wt
  a : Bx W A pv
  b : Bx W B0 (noP.vals (.slice none 0 0))
  bel : Below w.heap.size w W
  ba : B0 < A
  ra : R ≠ A
  num : er = decE Wt h d
  ok : pv.size = 14 ∧ pv.all (·.oneCell') = true
  good : er = 0 → nn = decN Wt h d ∧ ∃ dv, pv = (decP Wt h).vals dv ∧ Row W dv (decP Wt h).d ∧ ∀ g, dv.ownBlock = some g → w.heap.size ≤ g ∧ g ≠ B0
/-- Between the call and the store: A is a PDU's block of its own, not written yet. -/
structure NxJ (base : Nat) (w W : World) (R : Nat) (h d : Bool) (va : Option Addr) (n vc : Nat) (Wt : List Int) (B0 A : Nat) (pv : Array Value) (nn er : Int) : Prop where
  re : Re base W R h d 0 (.slice va n vc) Wt
  a : Bx W A (noP.vals (.slice none 0 0))
  b : Bx W B0 (noP.vals (.slice none 0 0))
  bel : Below w.heap.size w W
  ba : B0 < A
  wa : w.heap.size ≤ A
  ra : R ≠ A
  va' : ∀ g, (Value.slice va n vc).ownBlock = some g → g ≠ A
  num : er = decE Wt h d
  ok : pv.size = 14 ∧ pv.all (·.oneCell') = true
  good : er = 0 → nn = decN Wt h d ∧ ∃ dv, pv = (decP Wt h).vals dv ∧ Row W dv (decP Wt h).d ∧ ∀ g, dv.ownBlock = some g → w.heap.size ≤ g ∧ g ≠ B0 ∧ g ≠ A
theorem NxJ.put {base : Nat} {w W W' : World} {R : Nat} {h d : Bool} {va : Option Addr} {n vc : Nat} {Wt : List Int} {B0 A : Nat} {pv : Array Value} {nn er : Int} (j : NxJ base w W R h d va n vc Wt B0 A pv nn er) (hX : Bx W' A pv) (hg : W.grownBy W' (some A)) : NxK base w W' R h d va n vc Wt B0 A pv nn er :=
  ⟨j.re.other hg (fun e => j.ra e.symm) (fun e => j.va' A e rfl), hX, j.b.grown hg (fun e => by injection e with e; have := j.ba; omega), j.bel.grown hg j.bel.size (fun q e => by injection e with e; rw [← e]; exact j.wa), j.ba, j.ra, j.num, j.ok, fun e => by
    obtain ⟨q1, dv, q2, q3, q4⟩ := j.good e
    exact ⟨q1, dv, q2, row_keep q3 (fun g hgv => hg.block g (row_own q3 hgv) (fun e2 => (q4 g hgv).2.2 (by injection e2 with e2))), fun g hgv => ⟨(q4 g hgv).1, (q4 g hgv).2.1⟩⟩⟩

set_option maxRecDepth 100000 in
set_option maxHeartbeats 8000000 in
theorem next_wait (base R : Nat) (h d : Bool) (va : Option Addr) (n vc : Nat) (Wt : List Int) (w : World) (r : Re base w R h d 0 (.slice va n vc) Wt) (hby0 : Bytes Wt) (hn0 : n ≤ 140737488355328) (h8 : decE Wt h d = 8) :
    Calls Try.prog 19 #[.pointer (some ⟨R, 0, none⟩)] w fun e w' => ∃ pv, e = .returned (.tuple #[.agg pv, .int .i64 8]) ∧ (pv.size = 14 ∧ pv.all (·.oneCell') = true) ∧ Re base w' R h d 0 (.slice va n vc) Wt ∧ Below w.heap.size w w' := by
  have rK := Kpt.mk r
  have hn := Kpt.mk hn0
  have hby := Kpt.mk hby0
  have hvc : Kpt (vc ≤ maxLen) := ⟨r.mid.cap.2.2⟩
  have hWn : Kpt (Wt.length = n) := ⟨r.mid.cap.1⟩
  have h8K := Kpt.mk h8
  clear h8
  clear r hn0 hby0
  go_enter Try.func19, Try.ntmps19
  go_upto_region 5 with (refine (?_ : wpList _ _ _ (Oper.mk (some 2) _ _ _ _ _ :: _) _ _); refine wpList_var rfl 26 rfl (noP.vals (.slice none 0 0)) zeroPi ?_; intro B0 w0 hB0 hX0 hb0; have r1 := Kpt.mk (rK.out.below hb0); obtain ⟨c0, c1, c2, c3⟩ := r1.out.cell; have hB0R : Kpt (B0 ≠ R) := ⟨fun e => by have := rK.out.bx.lt; omega⟩; have hB0v : Kpt (∀ g, (Value.slice va n vc).ownBlock = some g → g < B0) := ⟨fun g hg => Nat.lt_of_lt_of_le (rK.out.mid.own hg).2 hB0⟩; replace hX0 := Kpt.mk hX0; replace hB0 := Kpt.mk hB0; replace hb0 := Kpt.mk hb0)
  have fin : Kpt (∃ hR : Nat, hR = R) := ⟨R, rfl⟩
  go_cut [4, 5, 6] from 20 to 36 (fun t4 t5 t6 wc => ∃ (A : Nat) (pv : Array Value) (nn er : Int), t4 = .pointer (some ⟨A, 0, none⟩) ∧ t5 = .int .i64 nn ∧ t6 = .int .i64 er ∧ Kpt (NxK base w wc R h d va n vc Wt B0 A pv nn er))
  case first =>
    refine wp_region_any (by kernel_rfl) ?_
    refine wpAny_of_C (C := fun W => Bx W R #[.bool h, .bool d, .slice va n vc, .int .i64 0]) _ _ _ _ ?_
    refine wpAnyC_take 0 (.pointer (some ⟨R, 0, none⟩)) rfl (by kernel_rfl) (by kernel_rfl) (by kernel_rfl) (fun _ _ _ h => h) (wanted_free rfl _) (fun W hW => by go_simp) ?_
    try simp only [Act.put, List.getElem_toArray, List.getElem_cons_succ, List.getElem_cons_zero, List.setIfInBounds_toArray, List.set_cons_succ, List.set_cons_zero]
    refine wpAnyC_take 1 (.pointer (some ⟨R, 0, none⟩)) rfl (by kernel_rfl) (by kernel_rfl) (by kernel_rfl) (fun _ _ _ h => h) (wanted_free rfl _) (fun W hW => by go_simp) ?_
    try simp only [Act.put, List.getElem_toArray, List.getElem_cons_succ, List.getElem_cons_zero, List.setIfInBounds_toArray, List.set_cons_succ, List.set_cons_zero]
    refine wpAnyC_take 2 (.pointer (some ⟨R, 2, none⟩)) rfl (by kernel_rfl) (by kernel_rfl) (by kernel_rfl) (fun _ _ _ h => h) (wanted_free rfl _) (fun W hW => by go_simp) ?_
    try simp only [Act.put, List.getElem_toArray, List.getElem_cons_succ, List.getElem_cons_zero, List.setIfInBounds_toArray, List.set_cons_succ, List.set_cons_zero]
    refine wpAnyC_take 3 (.slice va n vc) rfl (by kernel_rfl) (by kernel_rfl) (by kernel_rfl) (fun _ _ _ h => h) (wanted_free rfl _) (fun W hW => by have c := hW.cells 2 (by simp); simp at c; go_simp) ?_
    try simp only [Act.put, List.getElem_toArray, List.getElem_cons_succ, List.getElem_cons_zero, List.setIfInBounds_toArray, List.set_cons_succ, List.set_cons_zero]
    refine wpAnyC_take 4 (.pointer (some ⟨R, 0, none⟩)) rfl (by kernel_rfl) (by kernel_rfl) (by kernel_rfl) (fun _ _ _ h => h) (wanted_free rfl _) (fun W hW => by go_simp) ?_
    try simp only [Act.put, List.getElem_toArray, List.getElem_cons_succ, List.getElem_cons_zero, List.setIfInBounds_toArray, List.set_cons_succ, List.set_cons_zero]
    refine wpAnyC_take 5 (.pointer (some ⟨R, 0, none⟩)) rfl (by kernel_rfl) (by kernel_rfl) (by kernel_rfl) (fun _ _ _ h => h) (wanted_free rfl _) (fun W hW => by go_simp) ?_
    try simp only [Act.put, List.getElem_toArray, List.getElem_cons_succ, List.getElem_cons_zero, List.setIfInBounds_toArray, List.set_cons_succ, List.set_cons_zero]
    refine wpAnyC_take 6 (.pointer (some ⟨R, 0, none⟩)) rfl (by kernel_rfl) (by kernel_rfl) (by kernel_rfl) (fun _ _ _ h => h) (wanted_free rfl _) (fun W hW => by go_simp) ?_
    try simp only [Act.put, List.getElem_toArray, List.getElem_cons_succ, List.getElem_cons_zero, List.setIfInBounds_toArray, List.set_cons_succ, List.set_cons_zero]
    refine wpAnyC_take 7 (.bool h) rfl (by kernel_rfl) (by kernel_rfl) (by kernel_rfl) (fun _ _ _ h => h) (wanted_free rfl _) (fun W hW => by have c := hW.cells 0 (by simp); simp at c; go_simp) ?_
    try simp only [Act.put, List.getElem_toArray, List.getElem_cons_succ, List.getElem_cons_zero, List.setIfInBounds_toArray, List.set_cons_succ, List.set_cons_zero]
    refine wpAnyC_take 8 (.pointer (some ⟨R, 0, none⟩)) rfl (by kernel_rfl) (by kernel_rfl) (by kernel_rfl) (fun _ _ _ h => h) (wanted_free rfl _) (fun W hW => by go_simp) ?_
    try simp only [Act.put, List.getElem_toArray, List.getElem_cons_succ, List.getElem_cons_zero, List.setIfInBounds_toArray, List.set_cons_succ, List.set_cons_zero]
    refine wpAnyC_take 9 (.pointer (some ⟨R, 0, none⟩)) rfl (by kernel_rfl) (by kernel_rfl) (by kernel_rfl) (fun _ _ _ h => h) (wanted_free rfl _) (fun W hW => by go_simp) ?_
    try simp only [Act.put, List.getElem_toArray, List.getElem_cons_succ, List.getElem_cons_zero, List.setIfInBounds_toArray, List.set_cons_succ, List.set_cons_zero]
    refine wpAnyC_take 10 (.pointer (some ⟨R, 1, none⟩)) rfl (by kernel_rfl) (by kernel_rfl) (by kernel_rfl) (fun _ _ _ h => h) (wanted_free rfl _) (fun W hW => by go_simp) ?_
    try simp only [Act.put, List.getElem_toArray, List.getElem_cons_succ, List.getElem_cons_zero, List.setIfInBounds_toArray, List.set_cons_succ, List.set_cons_zero]
    refine wpAnyC_take 11 (.bool d) rfl (by kernel_rfl) (by kernel_rfl) (by kernel_rfl) (fun _ _ _ h => h) (wanted_free rfl _) (fun W hW => by have c := hW.cells 1 (by simp); simp at c; go_simp) ?_
    try simp only [Act.put, List.getElem_toArray, List.getElem_cons_succ, List.getElem_cons_zero, List.setIfInBounds_toArray, List.set_cons_succ, List.set_cons_zero]
    refine wpAnyC_two 12 17 (r1.out.bx.drew) rfl rfl (by kernel_rfl) (wanted_free rfl _) (wanted_free rfl _) (fun KA hKA => ?_) (fun KA hKA => ?_)
    · go_simp
      refine (decode_k va n vc Wt h d _ ((r1.out.below (below_drew w0)).mid.rd) hn.out hvc.out hby.out).mono ?_
      rintro e w2 ⟨pv, nn, er, rfl, K2⟩
      obtain ⟨A, hA⟩ : ∃ A, A = w2.heap.size := ⟨_, rfl⟩
      obtain ⟨w3, hw3⟩ : ∃ W, W = w2.alloc (.cells (noP.vals (.slice none 0 0)) 26) := ⟨_, rfl⟩
      have J : Kpt (NxJ base w w3 R h d va n vc Wt B0 A pv nn er) := ⟨by
        have r2 := (r1.out.below (below_drew w0)).below K2.bel
        have x2 := hX0.out.drew.below K2.bel hX0.out.lt
        have l2 := (hb0.out.trans ((below_drew w0).mono hb0.out.size)).trans (K2.bel.mono hb0.out.size)
        have bA : Below w2.heap.size w2 w3 := by rw [hw3]; exact (Below.refl _ _).alloc (Nat.le_refl _) _
        refine ⟨r2.below bA, by rw [hw3, hA]; exact bx_new _ _ _, x2.below bA x2.lt, l2.trans (bA.mono l2.size), by rw [hA]; exact x2.lt, by rw [hA]; exact l2.size, fun e => by have := r2.bx.lt; omega, fun g hg => by have := (r2.mid.own hg).2; omega, K2.num, K2.ok, fun e => ?_⟩
        obtain ⟨q1, dv, q2, q3, q4⟩ := K2.good e
        have hlt := fun g hg => row_own q3 (g := g) hg
        exact ⟨q1, dv, q2, row_keep q3 (fun g hg => bA.block g (hlt g hg)), fun g hg => ⟨Nat.le_trans hb0.out.size (q4 g hg), by have h1 := q4 g hg; have h2 := hX0.out.drew.lt; omega, by have := hlt g hg; omega⟩⟩⟩
      have C2 : Kpt (Bx w2 R #[.bool h, .bool d, .slice va n vc, .int .i64 0]) := ⟨((r1.out.below (below_drew w0)).below K2.bel).bx⟩
      clear K2
      refine hKA _ _ ?_
      clear hKA KA
      try simp only [Act.put, List.getElem_toArray, List.getElem_cons_succ, List.getElem_cons_zero, List.setIfInBounds_toArray, List.set_cons_succ, List.set_cons_zero]
      refine wpAnyC_take 13 (.tuple #[.agg pv, .int .i64 nn, .int .i64 er]) rfl (by kernel_rfl) (by kernel_rfl) (by kernel_rfl) (fun _ _ _ h => h) (wanted_free rfl _) (fun W hW => by go_simp) ?_
      try simp only [Act.put, List.getElem_toArray, List.getElem_cons_succ, List.getElem_cons_zero, List.setIfInBounds_toArray, List.set_cons_succ, List.set_cons_zero]
      refine wpAnyC_take 14 (.agg pv) rfl (by kernel_rfl) (by kernel_rfl) (by kernel_rfl) (fun _ _ _ h => h) (wanted_free rfl _) (fun W hW => by go_simp) ?_
      try simp only [Act.put, List.getElem_toArray, List.getElem_cons_succ, List.getElem_cons_zero, List.setIfInBounds_toArray, List.set_cons_succ, List.set_cons_zero]
      refine wpAnyC_take 15 (.int .i64 nn) rfl (by kernel_rfl) (by kernel_rfl) (by kernel_rfl) (fun _ _ _ h => h) (wanted_free rfl _) (fun W hW => by go_simp) ?_
      try simp only [Act.put, List.getElem_toArray, List.getElem_cons_succ, List.getElem_cons_zero, List.setIfInBounds_toArray, List.set_cons_succ, List.set_cons_zero]
      refine wpAnyC_take 16 (.int .i64 er) rfl (by kernel_rfl) (by kernel_rfl) (by kernel_rfl) (fun _ _ _ h => h) (wanted_free rfl _) (fun W hW => by go_simp) ?_
      try simp only [Act.put, List.getElem_toArray, List.getElem_cons_succ, List.getElem_cons_zero, List.setIfInBounds_toArray, List.set_cons_succ, List.set_cons_zero]
      refine wpAnyC_one 17 (C2.out) rfl (by kernel_rfl) (wanted_free rfl _) (fun KA hKA => ?_)
      unfold Oper.wp
      rw [info_zero zeroPi _ _ _ rfl]
      refine hKA _ (w2.alloc (.cells (noP.vals (.slice none 0 0)) 26)) ?_
      clear hKA KA
      try simp only [Act.put, List.getElem_toArray, List.getElem_cons_succ, List.getElem_cons_zero, List.setIfInBounds_toArray, List.set_cons_succ, List.set_cons_zero]
      rw [← hA, ← hw3]
      clear hA hw3 C2
      refine wpAnyC_one 18 (J.out.re.bx) rfl (by kernel_rfl) (wanted_free rfl _) (fun KA hKA => ?_)
      refine wp_store_bx 26 (.tmp 4) (.tmp 34) rfl A (noP.vals (.slice none 0 0)) pv rfl rfl J.out.a (by rw [J.out.ok.1]; rfl) (by rw [J.out.ok.1]; exact sizeP) J.out.ok.2 ?_
      intro w5 hX5 hg5
      have K5 := Kpt.mk (J.out.put hX5 hg5)
      clear hX5 hg5
      refine hKA _ _ ?_
      clear hKA KA
      try simp only [Act.put, List.getElem_toArray, List.getElem_cons_succ, List.getElem_cons_zero, List.setIfInBounds_toArray, List.set_cons_succ, List.set_cons_zero]
      refine wpAnyC_one 19 (K5.out.re.bx) rfl (by kernel_rfl) (wanted_free rfl _) (fun KA hKA => ?_)
      go_simp
      refine hKA _ _ ?_
      clear hKA KA
      try simp only [Act.put, List.getElem_toArray, List.getElem_cons_succ, List.getElem_cons_zero, List.setIfInBounds_toArray, List.set_cons_succ, List.set_cons_zero]
      refine wpAnyC_one 20 (K5.out.re.bx) rfl (by kernel_rfl) (wanted_free rfl _) (fun KA hKA => ?_)
      go_simp
      refine hKA _ _ ?_
      clear hKA KA
      try simp only [Act.put, List.getElem_toArray, List.getElem_cons_succ, List.getElem_cons_zero, List.setIfInBounds_toArray, List.set_cons_succ, List.set_cons_zero]
      refine wpAnyC_done (K5.out.re.bx) (by kernel_rfl) ?_
      go_wp2_with fail
      go_meet
      exact ⟨A, pv, nn, er, rfl, rfl, rfl, K5⟩
    · unfold Oper.wp
      rw [info_zero zeroPi _ _ _ rfl]
      refine hKA _ (w0.drew.alloc (.cells (noP.vals (.slice none 0 0)) 26)) ?_
      clear hKA KA
      try simp only [Act.put, List.getElem_toArray, List.getElem_cons_succ, List.getElem_cons_zero, List.setIfInBounds_toArray, List.set_cons_succ, List.set_cons_zero]
      obtain ⟨A, hA⟩ : ∃ A, A = w0.heap.size := ⟨_, rfl⟩
      obtain ⟨w1, hw1⟩ : ∃ W, W = w0.drew.alloc (.cells (noP.vals (.slice none 0 0)) 26) := ⟨_, rfl⟩
      have bA : Below w0.drew.heap.size w0.drew w1 := by rw [hw1]; exact (Below.refl _ _).alloc (Nat.le_refl _) _
      have a1 : Kpt (Bx w1 A (noP.vals (.slice none 0 0))) := ⟨by rw [hw1, hA]; exact bx_new w0.drew _ _⟩
      have q1 := Kpt.mk ((r1.out.below (below_drew w0)).below bA)
      have z1 := Kpt.mk (hX0.out.drew.below bA hX0.out.lt)
      have l1 := Kpt.mk ((hb0.out.trans ((below_drew w0).mono hb0.out.size)).trans (bA.mono hb0.out.size))
      have f1 : Kpt (B0 < A ∧ R < A ∧ w.heap.size ≤ A ∧ ∀ g, (Value.slice va n vc).ownBlock = some g → g < A) := ⟨by rw [hA]; exact ⟨hX0.out.lt, r1.out.bx.lt, hb0.out.size, fun g hg => (r1.out.mid.own hg).2⟩⟩
      try simp only [World.drew_heap]
      rw [← hA, ← hw1]
      clear hA hw1 bA
      refine wpAnyC_one 12 (q1.out.bx) rfl (by kernel_rfl) (wanted_free rfl _) (fun KA hKA => ?_)
      go_simp
      refine (decode_k va n vc Wt h d _ (q1.out.mid.rd) hn.out hvc.out hby.out).mono ?_
      rintro e w3 ⟨pv, nn, er, rfl, K2⟩
      have J : Kpt (NxJ base w w3 R h d va n vc Wt B0 A pv nn er) := ⟨by
        obtain ⟨g1, g2, g3, g4⟩ := f1.out
        refine ⟨q1.out.below K2.bel, a1.out.below K2.bel a1.out.lt, z1.out.below K2.bel z1.out.lt, l1.out.trans (K2.bel.mono l1.out.size), g1, g3, by omega, fun g hg => by have := g4 g hg; omega, K2.num, K2.ok, fun e => ?_⟩
        obtain ⟨y1, dv, y2, y3, y4⟩ := K2.good e
        exact ⟨y1, dv, y2, y3, fun g hg => ⟨Nat.le_trans l1.out.size (y4 g hg), by have h1 := y4 g hg; have h2 := z1.out.lt; omega, by have h1 := y4 g hg; have h2 := a1.out.lt; omega⟩⟩⟩
      clear K2 q1 a1 z1 l1 f1
      refine hKA _ _ ?_
      clear hKA KA
      try simp only [Act.put, List.getElem_toArray, List.getElem_cons_succ, List.getElem_cons_zero, List.setIfInBounds_toArray, List.set_cons_succ, List.set_cons_zero]
      refine wpAnyC_take 13 (.tuple #[.agg pv, .int .i64 nn, .int .i64 er]) rfl (by kernel_rfl) (by kernel_rfl) (by kernel_rfl) (fun _ _ _ h => h) (wanted_free rfl _) (fun W hW => by go_simp) ?_
      try simp only [Act.put, List.getElem_toArray, List.getElem_cons_succ, List.getElem_cons_zero, List.setIfInBounds_toArray, List.set_cons_succ, List.set_cons_zero]
      refine wpAnyC_take 14 (.agg pv) rfl (by kernel_rfl) (by kernel_rfl) (by kernel_rfl) (fun _ _ _ h => h) (wanted_free rfl _) (fun W hW => by go_simp) ?_
      try simp only [Act.put, List.getElem_toArray, List.getElem_cons_succ, List.getElem_cons_zero, List.setIfInBounds_toArray, List.set_cons_succ, List.set_cons_zero]
      refine wpAnyC_take 15 (.int .i64 nn) rfl (by kernel_rfl) (by kernel_rfl) (by kernel_rfl) (fun _ _ _ h => h) (wanted_free rfl _) (fun W hW => by go_simp) ?_
      try simp only [Act.put, List.getElem_toArray, List.getElem_cons_succ, List.getElem_cons_zero, List.setIfInBounds_toArray, List.set_cons_succ, List.set_cons_zero]
      refine wpAnyC_take 16 (.int .i64 er) rfl (by kernel_rfl) (by kernel_rfl) (by kernel_rfl) (fun _ _ _ h => h) (wanted_free rfl _) (fun W hW => by go_simp) ?_
      try simp only [Act.put, List.getElem_toArray, List.getElem_cons_succ, List.getElem_cons_zero, List.setIfInBounds_toArray, List.set_cons_succ, List.set_cons_zero]
      refine wpAnyC_one 18 (J.out.re.bx) rfl (by kernel_rfl) (wanted_free rfl _) (fun KA hKA => ?_)
      refine wp_store_bx 26 (.tmp 4) (.tmp 34) rfl A (noP.vals (.slice none 0 0)) pv rfl rfl J.out.a (by rw [J.out.ok.1]; rfl) (by rw [J.out.ok.1]; exact sizeP) J.out.ok.2 ?_
      intro w5 hX5 hg5
      have K5 := Kpt.mk (J.out.put hX5 hg5)
      clear hX5 hg5
      refine hKA _ _ ?_
      clear hKA KA
      try simp only [Act.put, List.getElem_toArray, List.getElem_cons_succ, List.getElem_cons_zero, List.setIfInBounds_toArray, List.set_cons_succ, List.set_cons_zero]
      refine wpAnyC_one 19 (K5.out.re.bx) rfl (by kernel_rfl) (wanted_free rfl _) (fun KA hKA => ?_)
      go_simp
      refine hKA _ _ ?_
      clear hKA KA
      try simp only [Act.put, List.getElem_toArray, List.getElem_cons_succ, List.getElem_cons_zero, List.setIfInBounds_toArray, List.set_cons_succ, List.set_cons_zero]
      refine wpAnyC_one 20 (K5.out.re.bx) rfl (by kernel_rfl) (wanted_free rfl _) (fun KA hKA => ?_)
      go_simp
      refine hKA _ _ ?_
      clear hKA KA
      try simp only [Act.put, List.getElem_toArray, List.getElem_cons_succ, List.getElem_cons_zero, List.setIfInBounds_toArray, List.set_cons_succ, List.set_cons_zero]
      refine wpAnyC_done (K5.out.re.bx) (by kernel_rfl) ?_
      go_wp2_with fail
      go_meet
      exact ⟨A, pv, nn, er, rfl, rfl, rfl, K5⟩
  case rest =>
    obtain ⟨A, pv, nn, er, rfl, rfl, rfl, K⟩ := hcut
    have he : er = 8 := by rw [K.out.num, h8K.out]
    subst he
    have BB := Kpt.mk K.out.b
    have AA := Kpt.mk K.out.a
    have OK := Kpt.mk K.out.ok
    go_wp2_with (first
      | (refine (?_ : wpList _ _ _ (Oper.mk none (Op.store 26 _ _) _ _ _ _ :: _) _ _); go_must (refine wpList_store_bx rfl 26 (.tmp 2) (.tmp 58) rfl B0 (noP.vals (.slice none 0 0)) pv rfl rfl BB.out (by rw [OK.out.1]; rfl) (by rw [OK.out.1]; exact sizeP) OK.out.2 rfl ?_; intro w8 hX8 hg8; have hX8K := Kpt.mk hX8; have hg8K := Kpt.mk hg8; clear hX8 hg8))
      | (refine (?_ : wpList _ _ _ (Oper.mk _ (Op.load 26 _) _ _ _ _ :: _) _ _); go_must (refine wpList_load_bx rfl 26 (.tmp 4) rfl A pv rfl AA.out _ Try.underlying26 rfl (by rw [OK.out.1]; exact sizeP) ?_)))
    refine bodyPost_ret (v := .tuple #[.agg pv, .int .i64 8]) (by simp [results, Try.results19, asAddr, Act.put, run_res hX8K.out 26 _ Try.underlying26 rfl (by rw [OK.out.1]; exact sizeP)]) rfl ?_
    exact ⟨pv, rfl, OK.out, K.out.re.other hg8K.out hB0R.out (fun e => by have := hB0v.out _ e; omega), K.out.bel.grown hg8K.out K.out.bel.size (fun q e => by injection e with e; rw [← e]; exact hB0.out)⟩

set_option maxRecDepth 100000 in
set_option maxHeartbeats 8000000 in
theorem next_ok (base R : Nat) (h d : Bool) (va : Option Addr) (n vc : Nat) (Wt : List Int) (w : World) (r : Re base w R h d 0 (.slice va n vc) Wt) (hby0 : Bytes Wt) (hn0 : n ≤ 140737488355328) (h8 : decE Wt h d = 0) :
    Calls Try.prog 19 #[.pointer (some ⟨R, 0, none⟩)] w fun e w' => ∃ dv v', e = .returned (.tuple #[.agg ((decP Wt h).vals dv), .int .i64 0]) ∧ Re base w' R h d 0 v' (Wt.drop (decN Wt h d)) ∧ v'.ownBlock = (Value.slice va n vc).ownBlock ∧ Row w' dv (decP Wt h).d ∧ (∀ g, dv.ownBlock = some g → w.heap.size ≤ g) ∧ Below base w w' := by
  have rK := Kpt.mk r
  have hn := Kpt.mk hn0
  have hby := Kpt.mk hby0
  have hvc : Kpt (vc ≤ maxLen) := ⟨r.mid.cap.2.2⟩
  have hWn : Kpt (Wt.length = n) := ⟨r.mid.cap.1⟩
  have h8K := Kpt.mk h8
  have hdl := Kpt.mk (dec_len Wt h d h8)
  obtain ⟨k, hk⟩ : ∃ k, k = decN Wt h d := ⟨_, rfl⟩
  rw [← hk] at hdl ⊢
  replace hk := Kpt.mk hk
  have hlw := Kpt.mk r.lt
  clear h8
  clear r hn0 hby0
  go_enter Try.func19, Try.ntmps19
  go_upto_region 5 with (refine (?_ : wpList _ _ _ (Oper.mk (some 2) _ _ _ _ _ :: _) _ _); refine wpList_var rfl 26 rfl (noP.vals (.slice none 0 0)) zeroPi ?_; intro B0 w0 hB0 hX0 hb0; have r1 := Kpt.mk (rK.out.below hb0); obtain ⟨c0, c1, c2, c3⟩ := r1.out.cell; have hB0R : Kpt (B0 ≠ R) := ⟨fun e => by have := rK.out.bx.lt; omega⟩; have hB0v : Kpt (∀ g, (Value.slice va n vc).ownBlock = some g → g < B0) := ⟨fun g hg => Nat.lt_of_lt_of_le (rK.out.mid.own hg).2 hB0⟩; replace hX0 := Kpt.mk hX0; replace hB0 := Kpt.mk hB0; replace hb0 := Kpt.mk hb0)
  have fin : Kpt (∃ hR : Nat, hR = R) := ⟨R, rfl⟩
  go_cut [4, 5, 6] from 20 to 36 (fun t4 t5 t6 wc => ∃ (A : Nat) (pv : Array Value) (nn er : Int), t4 = .pointer (some ⟨A, 0, none⟩) ∧ t5 = .int .i64 nn ∧ t6 = .int .i64 er ∧ Kpt (NxK base w wc R h d va n vc Wt B0 A pv nn er))
  case first =>
    refine wp_region_any (by kernel_rfl) ?_
    refine wpAny_of_C (C := fun W => Bx W R #[.bool h, .bool d, .slice va n vc, .int .i64 0]) _ _ _ _ ?_
    refine wpAnyC_take 0 (.pointer (some ⟨R, 0, none⟩)) rfl (by kernel_rfl) (by kernel_rfl) (by kernel_rfl) (fun _ _ _ h => h) (wanted_free rfl _) (fun W hW => by go_simp) ?_
    try simp only [Act.put, List.getElem_toArray, List.getElem_cons_succ, List.getElem_cons_zero, List.setIfInBounds_toArray, List.set_cons_succ, List.set_cons_zero]
    refine wpAnyC_take 1 (.pointer (some ⟨R, 0, none⟩)) rfl (by kernel_rfl) (by kernel_rfl) (by kernel_rfl) (fun _ _ _ h => h) (wanted_free rfl _) (fun W hW => by go_simp) ?_
    try simp only [Act.put, List.getElem_toArray, List.getElem_cons_succ, List.getElem_cons_zero, List.setIfInBounds_toArray, List.set_cons_succ, List.set_cons_zero]
    refine wpAnyC_take 2 (.pointer (some ⟨R, 2, none⟩)) rfl (by kernel_rfl) (by kernel_rfl) (by kernel_rfl) (fun _ _ _ h => h) (wanted_free rfl _) (fun W hW => by go_simp) ?_
    try simp only [Act.put, List.getElem_toArray, List.getElem_cons_succ, List.getElem_cons_zero, List.setIfInBounds_toArray, List.set_cons_succ, List.set_cons_zero]
    refine wpAnyC_take 3 (.slice va n vc) rfl (by kernel_rfl) (by kernel_rfl) (by kernel_rfl) (fun _ _ _ h => h) (wanted_free rfl _) (fun W hW => by have c := hW.cells 2 (by simp); simp at c; go_simp) ?_
    try simp only [Act.put, List.getElem_toArray, List.getElem_cons_succ, List.getElem_cons_zero, List.setIfInBounds_toArray, List.set_cons_succ, List.set_cons_zero]
    refine wpAnyC_take 4 (.pointer (some ⟨R, 0, none⟩)) rfl (by kernel_rfl) (by kernel_rfl) (by kernel_rfl) (fun _ _ _ h => h) (wanted_free rfl _) (fun W hW => by go_simp) ?_
    try simp only [Act.put, List.getElem_toArray, List.getElem_cons_succ, List.getElem_cons_zero, List.setIfInBounds_toArray, List.set_cons_succ, List.set_cons_zero]
    refine wpAnyC_take 5 (.pointer (some ⟨R, 0, none⟩)) rfl (by kernel_rfl) (by kernel_rfl) (by kernel_rfl) (fun _ _ _ h => h) (wanted_free rfl _) (fun W hW => by go_simp) ?_
    try simp only [Act.put, List.getElem_toArray, List.getElem_cons_succ, List.getElem_cons_zero, List.setIfInBounds_toArray, List.set_cons_succ, List.set_cons_zero]
    refine wpAnyC_take 6 (.pointer (some ⟨R, 0, none⟩)) rfl (by kernel_rfl) (by kernel_rfl) (by kernel_rfl) (fun _ _ _ h => h) (wanted_free rfl _) (fun W hW => by go_simp) ?_
    try simp only [Act.put, List.getElem_toArray, List.getElem_cons_succ, List.getElem_cons_zero, List.setIfInBounds_toArray, List.set_cons_succ, List.set_cons_zero]
    refine wpAnyC_take 7 (.bool h) rfl (by kernel_rfl) (by kernel_rfl) (by kernel_rfl) (fun _ _ _ h => h) (wanted_free rfl _) (fun W hW => by have c := hW.cells 0 (by simp); simp at c; go_simp) ?_
    try simp only [Act.put, List.getElem_toArray, List.getElem_cons_succ, List.getElem_cons_zero, List.setIfInBounds_toArray, List.set_cons_succ, List.set_cons_zero]
    refine wpAnyC_take 8 (.pointer (some ⟨R, 0, none⟩)) rfl (by kernel_rfl) (by kernel_rfl) (by kernel_rfl) (fun _ _ _ h => h) (wanted_free rfl _) (fun W hW => by go_simp) ?_
    try simp only [Act.put, List.getElem_toArray, List.getElem_cons_succ, List.getElem_cons_zero, List.setIfInBounds_toArray, List.set_cons_succ, List.set_cons_zero]
    refine wpAnyC_take 9 (.pointer (some ⟨R, 0, none⟩)) rfl (by kernel_rfl) (by kernel_rfl) (by kernel_rfl) (fun _ _ _ h => h) (wanted_free rfl _) (fun W hW => by go_simp) ?_
    try simp only [Act.put, List.getElem_toArray, List.getElem_cons_succ, List.getElem_cons_zero, List.setIfInBounds_toArray, List.set_cons_succ, List.set_cons_zero]
    refine wpAnyC_take 10 (.pointer (some ⟨R, 1, none⟩)) rfl (by kernel_rfl) (by kernel_rfl) (by kernel_rfl) (fun _ _ _ h => h) (wanted_free rfl _) (fun W hW => by go_simp) ?_
    try simp only [Act.put, List.getElem_toArray, List.getElem_cons_succ, List.getElem_cons_zero, List.setIfInBounds_toArray, List.set_cons_succ, List.set_cons_zero]
    refine wpAnyC_take 11 (.bool d) rfl (by kernel_rfl) (by kernel_rfl) (by kernel_rfl) (fun _ _ _ h => h) (wanted_free rfl _) (fun W hW => by have c := hW.cells 1 (by simp); simp at c; go_simp) ?_
    try simp only [Act.put, List.getElem_toArray, List.getElem_cons_succ, List.getElem_cons_zero, List.setIfInBounds_toArray, List.set_cons_succ, List.set_cons_zero]
    refine wpAnyC_two 12 17 (r1.out.bx.drew) rfl rfl (by kernel_rfl) (wanted_free rfl _) (wanted_free rfl _) (fun KA hKA => ?_) (fun KA hKA => ?_)
    · go_simp
      refine (decode_k va n vc Wt h d _ ((r1.out.below (below_drew w0)).mid.rd) hn.out hvc.out hby.out).mono ?_
      rintro e w2 ⟨pv, nn, er, rfl, K2⟩
      obtain ⟨A, hA⟩ : ∃ A, A = w2.heap.size := ⟨_, rfl⟩
      obtain ⟨w3, hw3⟩ : ∃ W, W = w2.alloc (.cells (noP.vals (.slice none 0 0)) 26) := ⟨_, rfl⟩
      have J : Kpt (NxJ base w w3 R h d va n vc Wt B0 A pv nn er) := ⟨by
        have r2 := (r1.out.below (below_drew w0)).below K2.bel
        have x2 := hX0.out.drew.below K2.bel hX0.out.lt
        have l2 := (hb0.out.trans ((below_drew w0).mono hb0.out.size)).trans (K2.bel.mono hb0.out.size)
        have bA : Below w2.heap.size w2 w3 := by rw [hw3]; exact (Below.refl _ _).alloc (Nat.le_refl _) _
        refine ⟨r2.below bA, by rw [hw3, hA]; exact bx_new _ _ _, x2.below bA x2.lt, l2.trans (bA.mono l2.size), by rw [hA]; exact x2.lt, by rw [hA]; exact l2.size, fun e => by have := r2.bx.lt; omega, fun g hg => by have := (r2.mid.own hg).2; omega, K2.num, K2.ok, fun e => ?_⟩
        obtain ⟨q1, dv, q2, q3, q4⟩ := K2.good e
        have hlt := fun g hg => row_own q3 (g := g) hg
        exact ⟨q1, dv, q2, row_keep q3 (fun g hg => bA.block g (hlt g hg)), fun g hg => ⟨Nat.le_trans hb0.out.size (q4 g hg), by have h1 := q4 g hg; have h2 := hX0.out.drew.lt; omega, by have := hlt g hg; omega⟩⟩⟩
      have C2 : Kpt (Bx w2 R #[.bool h, .bool d, .slice va n vc, .int .i64 0]) := ⟨((r1.out.below (below_drew w0)).below K2.bel).bx⟩
      clear K2
      refine hKA _ _ ?_
      clear hKA KA
      try simp only [Act.put, List.getElem_toArray, List.getElem_cons_succ, List.getElem_cons_zero, List.setIfInBounds_toArray, List.set_cons_succ, List.set_cons_zero]
      refine wpAnyC_take 13 (.tuple #[.agg pv, .int .i64 nn, .int .i64 er]) rfl (by kernel_rfl) (by kernel_rfl) (by kernel_rfl) (fun _ _ _ h => h) (wanted_free rfl _) (fun W hW => by go_simp) ?_
      try simp only [Act.put, List.getElem_toArray, List.getElem_cons_succ, List.getElem_cons_zero, List.setIfInBounds_toArray, List.set_cons_succ, List.set_cons_zero]
      refine wpAnyC_take 14 (.agg pv) rfl (by kernel_rfl) (by kernel_rfl) (by kernel_rfl) (fun _ _ _ h => h) (wanted_free rfl _) (fun W hW => by go_simp) ?_
      try simp only [Act.put, List.getElem_toArray, List.getElem_cons_succ, List.getElem_cons_zero, List.setIfInBounds_toArray, List.set_cons_succ, List.set_cons_zero]
      refine wpAnyC_take 15 (.int .i64 nn) rfl (by kernel_rfl) (by kernel_rfl) (by kernel_rfl) (fun _ _ _ h => h) (wanted_free rfl _) (fun W hW => by go_simp) ?_
      try simp only [Act.put, List.getElem_toArray, List.getElem_cons_succ, List.getElem_cons_zero, List.setIfInBounds_toArray, List.set_cons_succ, List.set_cons_zero]
      refine wpAnyC_take 16 (.int .i64 er) rfl (by kernel_rfl) (by kernel_rfl) (by kernel_rfl) (fun _ _ _ h => h) (wanted_free rfl _) (fun W hW => by go_simp) ?_
      try simp only [Act.put, List.getElem_toArray, List.getElem_cons_succ, List.getElem_cons_zero, List.setIfInBounds_toArray, List.set_cons_succ, List.set_cons_zero]
      refine wpAnyC_one 17 (C2.out) rfl (by kernel_rfl) (wanted_free rfl _) (fun KA hKA => ?_)
      unfold Oper.wp
      rw [info_zero zeroPi _ _ _ rfl]
      refine hKA _ (w2.alloc (.cells (noP.vals (.slice none 0 0)) 26)) ?_
      clear hKA KA
      try simp only [Act.put, List.getElem_toArray, List.getElem_cons_succ, List.getElem_cons_zero, List.setIfInBounds_toArray, List.set_cons_succ, List.set_cons_zero]
      rw [← hA, ← hw3]
      clear hA hw3 C2
      refine wpAnyC_one 18 (J.out.re.bx) rfl (by kernel_rfl) (wanted_free rfl _) (fun KA hKA => ?_)
      refine wp_store_bx 26 (.tmp 4) (.tmp 34) rfl A (noP.vals (.slice none 0 0)) pv rfl rfl J.out.a (by rw [J.out.ok.1]; rfl) (by rw [J.out.ok.1]; exact sizeP) J.out.ok.2 ?_
      intro w5 hX5 hg5
      have K5 := Kpt.mk (J.out.put hX5 hg5)
      clear hX5 hg5
      refine hKA _ _ ?_
      clear hKA KA
      try simp only [Act.put, List.getElem_toArray, List.getElem_cons_succ, List.getElem_cons_zero, List.setIfInBounds_toArray, List.set_cons_succ, List.set_cons_zero]
      refine wpAnyC_one 19 (K5.out.re.bx) rfl (by kernel_rfl) (wanted_free rfl _) (fun KA hKA => ?_)
      go_simp
      refine hKA _ _ ?_
      clear hKA KA
      try simp only [Act.put, List.getElem_toArray, List.getElem_cons_succ, List.getElem_cons_zero, List.setIfInBounds_toArray, List.set_cons_succ, List.set_cons_zero]
      refine wpAnyC_one 20 (K5.out.re.bx) rfl (by kernel_rfl) (wanted_free rfl _) (fun KA hKA => ?_)
      go_simp
      refine hKA _ _ ?_
      clear hKA KA
      try simp only [Act.put, List.getElem_toArray, List.getElem_cons_succ, List.getElem_cons_zero, List.setIfInBounds_toArray, List.set_cons_succ, List.set_cons_zero]
      refine wpAnyC_done (K5.out.re.bx) (by kernel_rfl) ?_
      go_wp2_with fail
      go_meet
      exact ⟨A, pv, nn, er, rfl, rfl, rfl, K5⟩
    · unfold Oper.wp
      rw [info_zero zeroPi _ _ _ rfl]
      refine hKA _ (w0.drew.alloc (.cells (noP.vals (.slice none 0 0)) 26)) ?_
      clear hKA KA
      try simp only [Act.put, List.getElem_toArray, List.getElem_cons_succ, List.getElem_cons_zero, List.setIfInBounds_toArray, List.set_cons_succ, List.set_cons_zero]
      obtain ⟨A, hA⟩ : ∃ A, A = w0.heap.size := ⟨_, rfl⟩
      obtain ⟨w1, hw1⟩ : ∃ W, W = w0.drew.alloc (.cells (noP.vals (.slice none 0 0)) 26) := ⟨_, rfl⟩
      have bA : Below w0.drew.heap.size w0.drew w1 := by rw [hw1]; exact (Below.refl _ _).alloc (Nat.le_refl _) _
      have a1 : Kpt (Bx w1 A (noP.vals (.slice none 0 0))) := ⟨by rw [hw1, hA]; exact bx_new w0.drew _ _⟩
      have q1 := Kpt.mk ((r1.out.below (below_drew w0)).below bA)
      have z1 := Kpt.mk (hX0.out.drew.below bA hX0.out.lt)
      have l1 := Kpt.mk ((hb0.out.trans ((below_drew w0).mono hb0.out.size)).trans (bA.mono hb0.out.size))
      have f1 : Kpt (B0 < A ∧ R < A ∧ w.heap.size ≤ A ∧ ∀ g, (Value.slice va n vc).ownBlock = some g → g < A) := ⟨by rw [hA]; exact ⟨hX0.out.lt, r1.out.bx.lt, hb0.out.size, fun g hg => (r1.out.mid.own hg).2⟩⟩
      try simp only [World.drew_heap]
      rw [← hA, ← hw1]
      clear hA hw1 bA
      refine wpAnyC_one 12 (q1.out.bx) rfl (by kernel_rfl) (wanted_free rfl _) (fun KA hKA => ?_)
      go_simp
      refine (decode_k va n vc Wt h d _ (q1.out.mid.rd) hn.out hvc.out hby.out).mono ?_
      rintro e w3 ⟨pv, nn, er, rfl, K2⟩
      have J : Kpt (NxJ base w w3 R h d va n vc Wt B0 A pv nn er) := ⟨by
        obtain ⟨g1, g2, g3, g4⟩ := f1.out
        refine ⟨q1.out.below K2.bel, a1.out.below K2.bel a1.out.lt, z1.out.below K2.bel z1.out.lt, l1.out.trans (K2.bel.mono l1.out.size), g1, g3, by omega, fun g hg => by have := g4 g hg; omega, K2.num, K2.ok, fun e => ?_⟩
        obtain ⟨y1, dv, y2, y3, y4⟩ := K2.good e
        exact ⟨y1, dv, y2, y3, fun g hg => ⟨Nat.le_trans l1.out.size (y4 g hg), by have h1 := y4 g hg; have h2 := z1.out.lt; omega, by have h1 := y4 g hg; have h2 := a1.out.lt; omega⟩⟩⟩
      clear K2 q1 a1 z1 l1 f1
      refine hKA _ _ ?_
      clear hKA KA
      try simp only [Act.put, List.getElem_toArray, List.getElem_cons_succ, List.getElem_cons_zero, List.setIfInBounds_toArray, List.set_cons_succ, List.set_cons_zero]
      refine wpAnyC_take 13 (.tuple #[.agg pv, .int .i64 nn, .int .i64 er]) rfl (by kernel_rfl) (by kernel_rfl) (by kernel_rfl) (fun _ _ _ h => h) (wanted_free rfl _) (fun W hW => by go_simp) ?_
      try simp only [Act.put, List.getElem_toArray, List.getElem_cons_succ, List.getElem_cons_zero, List.setIfInBounds_toArray, List.set_cons_succ, List.set_cons_zero]
      refine wpAnyC_take 14 (.agg pv) rfl (by kernel_rfl) (by kernel_rfl) (by kernel_rfl) (fun _ _ _ h => h) (wanted_free rfl _) (fun W hW => by go_simp) ?_
      try simp only [Act.put, List.getElem_toArray, List.getElem_cons_succ, List.getElem_cons_zero, List.setIfInBounds_toArray, List.set_cons_succ, List.set_cons_zero]
      refine wpAnyC_take 15 (.int .i64 nn) rfl (by kernel_rfl) (by kernel_rfl) (by kernel_rfl) (fun _ _ _ h => h) (wanted_free rfl _) (fun W hW => by go_simp) ?_
      try simp only [Act.put, List.getElem_toArray, List.getElem_cons_succ, List.getElem_cons_zero, List.setIfInBounds_toArray, List.set_cons_succ, List.set_cons_zero]
      refine wpAnyC_take 16 (.int .i64 er) rfl (by kernel_rfl) (by kernel_rfl) (by kernel_rfl) (fun _ _ _ h => h) (wanted_free rfl _) (fun W hW => by go_simp) ?_
      try simp only [Act.put, List.getElem_toArray, List.getElem_cons_succ, List.getElem_cons_zero, List.setIfInBounds_toArray, List.set_cons_succ, List.set_cons_zero]
      refine wpAnyC_one 18 (J.out.re.bx) rfl (by kernel_rfl) (wanted_free rfl _) (fun KA hKA => ?_)
      refine wp_store_bx 26 (.tmp 4) (.tmp 34) rfl A (noP.vals (.slice none 0 0)) pv rfl rfl J.out.a (by rw [J.out.ok.1]; rfl) (by rw [J.out.ok.1]; exact sizeP) J.out.ok.2 ?_
      intro w5 hX5 hg5
      have K5 := Kpt.mk (J.out.put hX5 hg5)
      clear hX5 hg5
      refine hKA _ _ ?_
      clear hKA KA
      try simp only [Act.put, List.getElem_toArray, List.getElem_cons_succ, List.getElem_cons_zero, List.setIfInBounds_toArray, List.set_cons_succ, List.set_cons_zero]
      refine wpAnyC_one 19 (K5.out.re.bx) rfl (by kernel_rfl) (wanted_free rfl _) (fun KA hKA => ?_)
      go_simp
      refine hKA _ _ ?_
      clear hKA KA
      try simp only [Act.put, List.getElem_toArray, List.getElem_cons_succ, List.getElem_cons_zero, List.setIfInBounds_toArray, List.set_cons_succ, List.set_cons_zero]
      refine wpAnyC_one 20 (K5.out.re.bx) rfl (by kernel_rfl) (wanted_free rfl _) (fun KA hKA => ?_)
      go_simp
      refine hKA _ _ ?_
      clear hKA KA
      try simp only [Act.put, List.getElem_toArray, List.getElem_cons_succ, List.getElem_cons_zero, List.setIfInBounds_toArray, List.set_cons_succ, List.set_cons_zero]
      refine wpAnyC_done (K5.out.re.bx) (by kernel_rfl) ?_
      go_wp2_with fail
      go_meet
      exact ⟨A, pv, nn, er, rfl, rfl, rfl, K5⟩
  case rest =>
    obtain ⟨A, pv, nn, er, rfl, rfl, rfl, K⟩ := hcut
    have he : er = 0 := by rw [K.out.num, h8K.out]
    subst he
    obtain ⟨hnn, dv, hpv, hdr, hdg⟩ := K.out.good rfl
    rw [← hk.out] at hnn
    subst hnn
    have OK := Kpt.mk K.out.ok
    replace hdr := Kpt.mk hdr
    replace hdg := Kpt.mk hdg
    replace hpv := Kpt.mk hpv
    have hkn : k ≤ n := by rw [← hWn.out]; exact hdl.out.1
    have hk48 : 48 ≤ k := hdl.out.2
    have hnc : n ≤ vc := K.out.re.mid.cap.2.1
    have hcm : (vc : Int) ≤ 9223372036854775807 := by have := hvc.out; unfold maxLen at this; omega
    obtain ⟨g, off, rfl⟩ : ∃ g off, va = some ⟨g, off, none⟩ := by
      obtain ⟨ao, c', hv, h1, h2, h3, h4, h5⟩ := K.out.re.mid.ex
      simp only [Value.slice.injEq] at hv
      obtain ⟨rfl, rfl, rfl⟩ := hv
      obtain ⟨g, off, e, _⟩ := h5 (by omega)
      exact ⟨g, off, e⟩
    obtain ⟨ao2, hof⟩ : ∃ x, (if vc = k then some ⟨g, off, none⟩ else some ⟨g, off + k, none⟩ : Option Addr) = x := ⟨_, rfl⟩
    have hao : Kpt (ao2 = some ⟨g, if vc = k then off else off + k, none⟩) := ⟨by rw [← hof]; split <;> rfl⟩
    have hM : Kpt (Mid base wc (.slice ao2 (n - k) (vc - k)) (Wt.drop k)) := ⟨by rw [hao.out]; exact K.out.re.mid.drop k hkn⟩
    obtain ⟨q1, q2, -, -⟩ := K.out.re.wait (w1 := wc) ⟨rfl, rfl, rfl, Nat.le_refl _, fun _ _ _ => rfl⟩ hM.out (.inl (by rw [hao.out]; rfl)) (fun x e => (K.out.re.mid.own e).1)
    obtain ⟨-, -, z2, -⟩ := K.out.re.cell
    have f2 := K.out.re.bx.free 2
    have gR := Kpt.mk (grown_setCellK wc ⟨R, 2, none⟩ (.slice ao2 (n - k) (vc - k)))
    have BB := Kpt.mk (K.out.b.grown gR.out (fun e => hB0R.out (by injection e with e; exact e.symm)))
    have AA := Kpt.mk (K.out.a.grown gR.out (fun e => K.out.ra (by injection e)))
    replace q1 := Kpt.mk q1
    replace q2 := Kpt.mk q2
    clear hM r1 c0 c1 c2 c3 hX0 hb0
    go_wp2_with (first
      | (refine (?_ : wpList _ _ _ (Oper.mk none (Op.store 26 _ _) _ _ _ _ :: _) _ _); go_must (refine wpList_store_bx rfl 26 (.tmp 2) (.tmp 58) rfl B0 (noP.vals (.slice none 0 0)) pv rfl rfl BB.out (by rw [OK.out.1]; rfl) (by rw [OK.out.1]; exact sizeP) OK.out.2 rfl ?_; intro w8 hX8 hg8; have hX8K := Kpt.mk hX8; have hg8K := Kpt.mk hg8; clear hX8 hg8))
      | (refine (?_ : wpList _ _ _ (Oper.mk _ (Op.load 26 _) _ _ _ _ :: _) _ _); go_must (refine wpList_load_bx rfl 26 (.tmp 4) rfl A pv rfl AA.out _ Try.underlying26 rfl (by rw [OK.out.1]; exact sizeP) ?_)))
    refine bodyPost_ret (v := .tuple #[.agg pv, .int .i64 0]) (by simp [results, Try.results19, asAddr, Act.put, run_res hX8K.out 26 _ Try.underlying26 rfl (by rw [OK.out.1]; exact sizeP)]) rfl ?_
    have hwB := hB0.out
    have hRw : R < w.heap.size := rK.out.bx.lt
    refine ⟨dv, by rw [hpv.out], .slice ao2 (n - k) (vc - k), q1.out.other hg8K.out hB0R.out (fun e => ?_), by rw [hao.out]; rfl, ?_, fun x e => (hdg.out x e).1, ?_⟩
    · rw [hao.out] at e; have := hB0v.out B0 (by simpa [Value.ownBlock] using e); omega
    · exact row_keep (row_keep hdr.out (fun x e => gR.out.block x (row_own hdr.out e) (fun e2 => by injection e2 with e2; have := (hdg.out x e).1; omega))) (fun x e => hg8K.out.block x (Nat.lt_of_lt_of_le (row_own hdr.out e) gR.out.size) (fun e2 => (hdg.out x e).2 (by injection e2)))
    · have L1 : Below base w _ := (K.out.bel.mono hlw.out).trans (q2.out.mono (Nat.le_refl _))
      exact L1.grown hg8K.out (Nat.le_trans hlw.out L1.size) (fun q e => by injection e with e; rw [← e]; have := hlw.out; omega)

set_option maxRecDepth 100000 in
set_option maxHeartbeats 8000000 in
theorem next_fault (base R : Nat) (h d : Bool) (va : Option Addr) (n vc : Nat) (Wt : List Int) (w : World) (r : Re base w R h d 0 (.slice va n vc) Wt) (hby0 : Bytes Wt) (hn0 : n ≤ 140737488355328) (h0 : ¬ decE Wt h d = 0) (h8 : ¬ decE Wt h d = 8) :
    Calls Try.prog 19 #[.pointer (some ⟨R, 0, none⟩)] w fun e w' => ∃ pv, e = .returned (.tuple #[.agg pv, .int .i64 (decE Wt h d)]) ∧ (pv.size = 14 ∧ pv.all (·.oneCell') = true) ∧ Re base w' R h d (decE Wt h d) (.slice none 0 0) [] ∧ Below base w w' := by
  have rK := Kpt.mk r
  have hn := Kpt.mk hn0
  have hby := Kpt.mk hby0
  have hvc : Kpt (vc ≤ maxLen) := ⟨r.mid.cap.2.2⟩
  have hWn : Kpt (Wt.length = n) := ⟨r.mid.cap.1⟩
  obtain ⟨E, hE⟩ : ∃ E, E = decE Wt h d := ⟨_, rfl⟩
  rw [← hE] at h0 h8 ⊢
  have n0 : (E == 0) = false := by simpa using h0
  have n8 : (E == 8) = false := by simpa using h8
  have hEK := Kpt.mk hE
  have hlw := Kpt.mk r.lt
  clear hE
  clear r hn0 hby0
  go_enter Try.func19, Try.ntmps19
  go_upto_region 5 with (refine (?_ : wpList _ _ _ (Oper.mk (some 2) _ _ _ _ _ :: _) _ _); refine wpList_var rfl 26 rfl (noP.vals (.slice none 0 0)) zeroPi ?_; intro B0 w0 hB0 hX0 hb0; have r1 := Kpt.mk (rK.out.below hb0); obtain ⟨c0, c1, c2, c3⟩ := r1.out.cell; have hB0R : Kpt (B0 ≠ R) := ⟨fun e => by have := rK.out.bx.lt; omega⟩; have hB0v : Kpt (∀ g, (Value.slice va n vc).ownBlock = some g → g < B0) := ⟨fun g hg => Nat.lt_of_lt_of_le (rK.out.mid.own hg).2 hB0⟩; replace hX0 := Kpt.mk hX0; replace hB0 := Kpt.mk hB0; replace hb0 := Kpt.mk hb0)
  have fin : Kpt (∃ hR : Nat, hR = R) := ⟨R, rfl⟩
  go_cut [4, 5, 6] from 20 to 36 (fun t4 t5 t6 wc => ∃ (A : Nat) (pv : Array Value) (nn er : Int), t4 = .pointer (some ⟨A, 0, none⟩) ∧ t5 = .int .i64 nn ∧ t6 = .int .i64 er ∧ Kpt (NxK base w wc R h d va n vc Wt B0 A pv nn er))
  case first =>
    refine wp_region_any (by kernel_rfl) ?_
    refine wpAny_of_C (C := fun W => Bx W R #[.bool h, .bool d, .slice va n vc, .int .i64 0]) _ _ _ _ ?_
    refine wpAnyC_take 0 (.pointer (some ⟨R, 0, none⟩)) rfl (by kernel_rfl) (by kernel_rfl) (by kernel_rfl) (fun _ _ _ h => h) (wanted_free rfl _) (fun W hW => by go_simp) ?_
    try simp only [Act.put, List.getElem_toArray, List.getElem_cons_succ, List.getElem_cons_zero, List.setIfInBounds_toArray, List.set_cons_succ, List.set_cons_zero]
    refine wpAnyC_take 1 (.pointer (some ⟨R, 0, none⟩)) rfl (by kernel_rfl) (by kernel_rfl) (by kernel_rfl) (fun _ _ _ h => h) (wanted_free rfl _) (fun W hW => by go_simp) ?_
    try simp only [Act.put, List.getElem_toArray, List.getElem_cons_succ, List.getElem_cons_zero, List.setIfInBounds_toArray, List.set_cons_succ, List.set_cons_zero]
    refine wpAnyC_take 2 (.pointer (some ⟨R, 2, none⟩)) rfl (by kernel_rfl) (by kernel_rfl) (by kernel_rfl) (fun _ _ _ h => h) (wanted_free rfl _) (fun W hW => by go_simp) ?_
    try simp only [Act.put, List.getElem_toArray, List.getElem_cons_succ, List.getElem_cons_zero, List.setIfInBounds_toArray, List.set_cons_succ, List.set_cons_zero]
    refine wpAnyC_take 3 (.slice va n vc) rfl (by kernel_rfl) (by kernel_rfl) (by kernel_rfl) (fun _ _ _ h => h) (wanted_free rfl _) (fun W hW => by have c := hW.cells 2 (by simp); simp at c; go_simp) ?_
    try simp only [Act.put, List.getElem_toArray, List.getElem_cons_succ, List.getElem_cons_zero, List.setIfInBounds_toArray, List.set_cons_succ, List.set_cons_zero]
    refine wpAnyC_take 4 (.pointer (some ⟨R, 0, none⟩)) rfl (by kernel_rfl) (by kernel_rfl) (by kernel_rfl) (fun _ _ _ h => h) (wanted_free rfl _) (fun W hW => by go_simp) ?_
    try simp only [Act.put, List.getElem_toArray, List.getElem_cons_succ, List.getElem_cons_zero, List.setIfInBounds_toArray, List.set_cons_succ, List.set_cons_zero]
    refine wpAnyC_take 5 (.pointer (some ⟨R, 0, none⟩)) rfl (by kernel_rfl) (by kernel_rfl) (by kernel_rfl) (fun _ _ _ h => h) (wanted_free rfl _) (fun W hW => by go_simp) ?_
    try simp only [Act.put, List.getElem_toArray, List.getElem_cons_succ, List.getElem_cons_zero, List.setIfInBounds_toArray, List.set_cons_succ, List.set_cons_zero]
    refine wpAnyC_take 6 (.pointer (some ⟨R, 0, none⟩)) rfl (by kernel_rfl) (by kernel_rfl) (by kernel_rfl) (fun _ _ _ h => h) (wanted_free rfl _) (fun W hW => by go_simp) ?_
    try simp only [Act.put, List.getElem_toArray, List.getElem_cons_succ, List.getElem_cons_zero, List.setIfInBounds_toArray, List.set_cons_succ, List.set_cons_zero]
    refine wpAnyC_take 7 (.bool h) rfl (by kernel_rfl) (by kernel_rfl) (by kernel_rfl) (fun _ _ _ h => h) (wanted_free rfl _) (fun W hW => by have c := hW.cells 0 (by simp); simp at c; go_simp) ?_
    try simp only [Act.put, List.getElem_toArray, List.getElem_cons_succ, List.getElem_cons_zero, List.setIfInBounds_toArray, List.set_cons_succ, List.set_cons_zero]
    refine wpAnyC_take 8 (.pointer (some ⟨R, 0, none⟩)) rfl (by kernel_rfl) (by kernel_rfl) (by kernel_rfl) (fun _ _ _ h => h) (wanted_free rfl _) (fun W hW => by go_simp) ?_
    try simp only [Act.put, List.getElem_toArray, List.getElem_cons_succ, List.getElem_cons_zero, List.setIfInBounds_toArray, List.set_cons_succ, List.set_cons_zero]
    refine wpAnyC_take 9 (.pointer (some ⟨R, 0, none⟩)) rfl (by kernel_rfl) (by kernel_rfl) (by kernel_rfl) (fun _ _ _ h => h) (wanted_free rfl _) (fun W hW => by go_simp) ?_
    try simp only [Act.put, List.getElem_toArray, List.getElem_cons_succ, List.getElem_cons_zero, List.setIfInBounds_toArray, List.set_cons_succ, List.set_cons_zero]
    refine wpAnyC_take 10 (.pointer (some ⟨R, 1, none⟩)) rfl (by kernel_rfl) (by kernel_rfl) (by kernel_rfl) (fun _ _ _ h => h) (wanted_free rfl _) (fun W hW => by go_simp) ?_
    try simp only [Act.put, List.getElem_toArray, List.getElem_cons_succ, List.getElem_cons_zero, List.setIfInBounds_toArray, List.set_cons_succ, List.set_cons_zero]
    refine wpAnyC_take 11 (.bool d) rfl (by kernel_rfl) (by kernel_rfl) (by kernel_rfl) (fun _ _ _ h => h) (wanted_free rfl _) (fun W hW => by have c := hW.cells 1 (by simp); simp at c; go_simp) ?_
    try simp only [Act.put, List.getElem_toArray, List.getElem_cons_succ, List.getElem_cons_zero, List.setIfInBounds_toArray, List.set_cons_succ, List.set_cons_zero]
    refine wpAnyC_two 12 17 (r1.out.bx.drew) rfl rfl (by kernel_rfl) (wanted_free rfl _) (wanted_free rfl _) (fun KA hKA => ?_) (fun KA hKA => ?_)
    · go_simp
      refine (decode_k va n vc Wt h d _ ((r1.out.below (below_drew w0)).mid.rd) hn.out hvc.out hby.out).mono ?_
      rintro e w2 ⟨pv, nn, er, rfl, K2⟩
      obtain ⟨A, hA⟩ : ∃ A, A = w2.heap.size := ⟨_, rfl⟩
      obtain ⟨w3, hw3⟩ : ∃ W, W = w2.alloc (.cells (noP.vals (.slice none 0 0)) 26) := ⟨_, rfl⟩
      have J : Kpt (NxJ base w w3 R h d va n vc Wt B0 A pv nn er) := ⟨by
        have r2 := (r1.out.below (below_drew w0)).below K2.bel
        have x2 := hX0.out.drew.below K2.bel hX0.out.lt
        have l2 := (hb0.out.trans ((below_drew w0).mono hb0.out.size)).trans (K2.bel.mono hb0.out.size)
        have bA : Below w2.heap.size w2 w3 := by rw [hw3]; exact (Below.refl _ _).alloc (Nat.le_refl _) _
        refine ⟨r2.below bA, by rw [hw3, hA]; exact bx_new _ _ _, x2.below bA x2.lt, l2.trans (bA.mono l2.size), by rw [hA]; exact x2.lt, by rw [hA]; exact l2.size, fun e => by have := r2.bx.lt; omega, fun g hg => by have := (r2.mid.own hg).2; omega, K2.num, K2.ok, fun e => ?_⟩
        obtain ⟨q1, dv, q2, q3, q4⟩ := K2.good e
        have hlt := fun g hg => row_own q3 (g := g) hg
        exact ⟨q1, dv, q2, row_keep q3 (fun g hg => bA.block g (hlt g hg)), fun g hg => ⟨Nat.le_trans hb0.out.size (q4 g hg), by have h1 := q4 g hg; have h2 := hX0.out.drew.lt; omega, by have := hlt g hg; omega⟩⟩⟩
      have C2 : Kpt (Bx w2 R #[.bool h, .bool d, .slice va n vc, .int .i64 0]) := ⟨((r1.out.below (below_drew w0)).below K2.bel).bx⟩
      clear K2
      refine hKA _ _ ?_
      clear hKA KA
      try simp only [Act.put, List.getElem_toArray, List.getElem_cons_succ, List.getElem_cons_zero, List.setIfInBounds_toArray, List.set_cons_succ, List.set_cons_zero]
      refine wpAnyC_take 13 (.tuple #[.agg pv, .int .i64 nn, .int .i64 er]) rfl (by kernel_rfl) (by kernel_rfl) (by kernel_rfl) (fun _ _ _ h => h) (wanted_free rfl _) (fun W hW => by go_simp) ?_
      try simp only [Act.put, List.getElem_toArray, List.getElem_cons_succ, List.getElem_cons_zero, List.setIfInBounds_toArray, List.set_cons_succ, List.set_cons_zero]
      refine wpAnyC_take 14 (.agg pv) rfl (by kernel_rfl) (by kernel_rfl) (by kernel_rfl) (fun _ _ _ h => h) (wanted_free rfl _) (fun W hW => by go_simp) ?_
      try simp only [Act.put, List.getElem_toArray, List.getElem_cons_succ, List.getElem_cons_zero, List.setIfInBounds_toArray, List.set_cons_succ, List.set_cons_zero]
      refine wpAnyC_take 15 (.int .i64 nn) rfl (by kernel_rfl) (by kernel_rfl) (by kernel_rfl) (fun _ _ _ h => h) (wanted_free rfl _) (fun W hW => by go_simp) ?_
      try simp only [Act.put, List.getElem_toArray, List.getElem_cons_succ, List.getElem_cons_zero, List.setIfInBounds_toArray, List.set_cons_succ, List.set_cons_zero]
      refine wpAnyC_take 16 (.int .i64 er) rfl (by kernel_rfl) (by kernel_rfl) (by kernel_rfl) (fun _ _ _ h => h) (wanted_free rfl _) (fun W hW => by go_simp) ?_
      try simp only [Act.put, List.getElem_toArray, List.getElem_cons_succ, List.getElem_cons_zero, List.setIfInBounds_toArray, List.set_cons_succ, List.set_cons_zero]
      refine wpAnyC_one 17 (C2.out) rfl (by kernel_rfl) (wanted_free rfl _) (fun KA hKA => ?_)
      unfold Oper.wp
      rw [info_zero zeroPi _ _ _ rfl]
      refine hKA _ (w2.alloc (.cells (noP.vals (.slice none 0 0)) 26)) ?_
      clear hKA KA
      try simp only [Act.put, List.getElem_toArray, List.getElem_cons_succ, List.getElem_cons_zero, List.setIfInBounds_toArray, List.set_cons_succ, List.set_cons_zero]
      rw [← hA, ← hw3]
      clear hA hw3 C2
      refine wpAnyC_one 18 (J.out.re.bx) rfl (by kernel_rfl) (wanted_free rfl _) (fun KA hKA => ?_)
      refine wp_store_bx 26 (.tmp 4) (.tmp 34) rfl A (noP.vals (.slice none 0 0)) pv rfl rfl J.out.a (by rw [J.out.ok.1]; rfl) (by rw [J.out.ok.1]; exact sizeP) J.out.ok.2 ?_
      intro w5 hX5 hg5
      have K5 := Kpt.mk (J.out.put hX5 hg5)
      clear hX5 hg5
      refine hKA _ _ ?_
      clear hKA KA
      try simp only [Act.put, List.getElem_toArray, List.getElem_cons_succ, List.getElem_cons_zero, List.setIfInBounds_toArray, List.set_cons_succ, List.set_cons_zero]
      refine wpAnyC_one 19 (K5.out.re.bx) rfl (by kernel_rfl) (wanted_free rfl _) (fun KA hKA => ?_)
      go_simp
      refine hKA _ _ ?_
      clear hKA KA
      try simp only [Act.put, List.getElem_toArray, List.getElem_cons_succ, List.getElem_cons_zero, List.setIfInBounds_toArray, List.set_cons_succ, List.set_cons_zero]
      refine wpAnyC_one 20 (K5.out.re.bx) rfl (by kernel_rfl) (wanted_free rfl _) (fun KA hKA => ?_)
      go_simp
      refine hKA _ _ ?_
      clear hKA KA
      try simp only [Act.put, List.getElem_toArray, List.getElem_cons_succ, List.getElem_cons_zero, List.setIfInBounds_toArray, List.set_cons_succ, List.set_cons_zero]
      refine wpAnyC_done (K5.out.re.bx) (by kernel_rfl) ?_
      go_wp2_with fail
      go_meet
      exact ⟨A, pv, nn, er, rfl, rfl, rfl, K5⟩
    · unfold Oper.wp
      rw [info_zero zeroPi _ _ _ rfl]
      refine hKA _ (w0.drew.alloc (.cells (noP.vals (.slice none 0 0)) 26)) ?_
      clear hKA KA
      try simp only [Act.put, List.getElem_toArray, List.getElem_cons_succ, List.getElem_cons_zero, List.setIfInBounds_toArray, List.set_cons_succ, List.set_cons_zero]
      obtain ⟨A, hA⟩ : ∃ A, A = w0.heap.size := ⟨_, rfl⟩
      obtain ⟨w1, hw1⟩ : ∃ W, W = w0.drew.alloc (.cells (noP.vals (.slice none 0 0)) 26) := ⟨_, rfl⟩
      have bA : Below w0.drew.heap.size w0.drew w1 := by rw [hw1]; exact (Below.refl _ _).alloc (Nat.le_refl _) _
      have a1 : Kpt (Bx w1 A (noP.vals (.slice none 0 0))) := ⟨by rw [hw1, hA]; exact bx_new w0.drew _ _⟩
      have q1 := Kpt.mk ((r1.out.below (below_drew w0)).below bA)
      have z1 := Kpt.mk (hX0.out.drew.below bA hX0.out.lt)
      have l1 := Kpt.mk ((hb0.out.trans ((below_drew w0).mono hb0.out.size)).trans (bA.mono hb0.out.size))
      have f1 : Kpt (B0 < A ∧ R < A ∧ w.heap.size ≤ A ∧ ∀ g, (Value.slice va n vc).ownBlock = some g → g < A) := ⟨by rw [hA]; exact ⟨hX0.out.lt, r1.out.bx.lt, hb0.out.size, fun g hg => (r1.out.mid.own hg).2⟩⟩
      try simp only [World.drew_heap]
      rw [← hA, ← hw1]
      clear hA hw1 bA
      refine wpAnyC_one 12 (q1.out.bx) rfl (by kernel_rfl) (wanted_free rfl _) (fun KA hKA => ?_)
      go_simp
      refine (decode_k va n vc Wt h d _ (q1.out.mid.rd) hn.out hvc.out hby.out).mono ?_
      rintro e w3 ⟨pv, nn, er, rfl, K2⟩
      have J : Kpt (NxJ base w w3 R h d va n vc Wt B0 A pv nn er) := ⟨by
        obtain ⟨g1, g2, g3, g4⟩ := f1.out
        refine ⟨q1.out.below K2.bel, a1.out.below K2.bel a1.out.lt, z1.out.below K2.bel z1.out.lt, l1.out.trans (K2.bel.mono l1.out.size), g1, g3, by omega, fun g hg => by have := g4 g hg; omega, K2.num, K2.ok, fun e => ?_⟩
        obtain ⟨y1, dv, y2, y3, y4⟩ := K2.good e
        exact ⟨y1, dv, y2, y3, fun g hg => ⟨Nat.le_trans l1.out.size (y4 g hg), by have h1 := y4 g hg; have h2 := z1.out.lt; omega, by have h1 := y4 g hg; have h2 := a1.out.lt; omega⟩⟩⟩
      clear K2 q1 a1 z1 l1 f1
      refine hKA _ _ ?_
      clear hKA KA
      try simp only [Act.put, List.getElem_toArray, List.getElem_cons_succ, List.getElem_cons_zero, List.setIfInBounds_toArray, List.set_cons_succ, List.set_cons_zero]
      refine wpAnyC_take 13 (.tuple #[.agg pv, .int .i64 nn, .int .i64 er]) rfl (by kernel_rfl) (by kernel_rfl) (by kernel_rfl) (fun _ _ _ h => h) (wanted_free rfl _) (fun W hW => by go_simp) ?_
      try simp only [Act.put, List.getElem_toArray, List.getElem_cons_succ, List.getElem_cons_zero, List.setIfInBounds_toArray, List.set_cons_succ, List.set_cons_zero]
      refine wpAnyC_take 14 (.agg pv) rfl (by kernel_rfl) (by kernel_rfl) (by kernel_rfl) (fun _ _ _ h => h) (wanted_free rfl _) (fun W hW => by go_simp) ?_
      try simp only [Act.put, List.getElem_toArray, List.getElem_cons_succ, List.getElem_cons_zero, List.setIfInBounds_toArray, List.set_cons_succ, List.set_cons_zero]
      refine wpAnyC_take 15 (.int .i64 nn) rfl (by kernel_rfl) (by kernel_rfl) (by kernel_rfl) (fun _ _ _ h => h) (wanted_free rfl _) (fun W hW => by go_simp) ?_
      try simp only [Act.put, List.getElem_toArray, List.getElem_cons_succ, List.getElem_cons_zero, List.setIfInBounds_toArray, List.set_cons_succ, List.set_cons_zero]
      refine wpAnyC_take 16 (.int .i64 er) rfl (by kernel_rfl) (by kernel_rfl) (by kernel_rfl) (fun _ _ _ h => h) (wanted_free rfl _) (fun W hW => by go_simp) ?_
      try simp only [Act.put, List.getElem_toArray, List.getElem_cons_succ, List.getElem_cons_zero, List.setIfInBounds_toArray, List.set_cons_succ, List.set_cons_zero]
      refine wpAnyC_one 18 (J.out.re.bx) rfl (by kernel_rfl) (wanted_free rfl _) (fun KA hKA => ?_)
      refine wp_store_bx 26 (.tmp 4) (.tmp 34) rfl A (noP.vals (.slice none 0 0)) pv rfl rfl J.out.a (by rw [J.out.ok.1]; rfl) (by rw [J.out.ok.1]; exact sizeP) J.out.ok.2 ?_
      intro w5 hX5 hg5
      have K5 := Kpt.mk (J.out.put hX5 hg5)
      clear hX5 hg5
      refine hKA _ _ ?_
      clear hKA KA
      try simp only [Act.put, List.getElem_toArray, List.getElem_cons_succ, List.getElem_cons_zero, List.setIfInBounds_toArray, List.set_cons_succ, List.set_cons_zero]
      refine wpAnyC_one 19 (K5.out.re.bx) rfl (by kernel_rfl) (wanted_free rfl _) (fun KA hKA => ?_)
      go_simp
      refine hKA _ _ ?_
      clear hKA KA
      try simp only [Act.put, List.getElem_toArray, List.getElem_cons_succ, List.getElem_cons_zero, List.setIfInBounds_toArray, List.set_cons_succ, List.set_cons_zero]
      refine wpAnyC_one 20 (K5.out.re.bx) rfl (by kernel_rfl) (wanted_free rfl _) (fun KA hKA => ?_)
      go_simp
      refine hKA _ _ ?_
      clear hKA KA
      try simp only [Act.put, List.getElem_toArray, List.getElem_cons_succ, List.getElem_cons_zero, List.setIfInBounds_toArray, List.set_cons_succ, List.set_cons_zero]
      refine wpAnyC_done (K5.out.re.bx) (by kernel_rfl) ?_
      go_wp2_with fail
      go_meet
      exact ⟨A, pv, nn, er, rfl, rfl, rfl, K5⟩
  case rest =>
    obtain ⟨A, pv, nn, er, rfl, rfl, rfl, K⟩ := hcut
    have he : er = E := by rw [K.out.num, hEK.out]
    subst he
    have OK := Kpt.mk K.out.ok
    obtain ⟨-, -, z2, z3⟩ := K.out.re.cell
    have f2 := K.out.re.bx.free 2
    have f3 := K.out.re.bx.free 3
    have hX := bx_setCell (.slice none 0 0) (bx_setCell (.int .i64 er) K.out.re.bx (j := 3) (by simp)) (j := 2) (by simp)
    simp only [List.setIfInBounds_toArray, List.set_cons_succ, List.set_cons_zero] at hX
    have gR : Kpt (wc.grownBy ((wc.setCell ⟨R, 3, none⟩ (.int .i64 er)).setCell ⟨R, 2, none⟩ (.slice none 0 0)) (some R)) := ⟨by
      have k1 := grown_setCellK wc ⟨R, 3, none⟩ (.int .i64 er)
      have k2 := grown_setCellK (wc.setCell ⟨R, 3, none⟩ (.int .i64 er)) ⟨R, 2, none⟩ (.slice none 0 0)
      exact ⟨k2.os.trans k1.os, k2.tape.trans k1.tape, k2.output.trans k1.output, Nat.le_trans k1.size k2.size, fun j hj hn => (k2.block j (Nat.lt_of_lt_of_le hj k1.size) hn).trans (k1.block j hj hn)⟩⟩
    have BB := Kpt.mk (K.out.b.grown gR.out (fun e => hB0R.out (by injection e with e; exact e.symm)))
    have AA := Kpt.mk (K.out.a.grown gR.out (fun e => K.out.ra (by injection e)))
    have q1 : Kpt (Re base ((wc.setCell ⟨R, 3, none⟩ (.int .i64 er)).setCell ⟨R, 2, none⟩ (.slice none 0 0)) R h d er (.slice none 0 0) []) := ⟨⟨hX, Mid.nil _ _, K.out.re.ge, by simp [Value.ownBlock]⟩⟩
    have q2 : Kpt (Below base w ((wc.setCell ⟨R, 3, none⟩ (.int .i64 er)).setCell ⟨R, 2, none⟩ (.slice none 0 0))) := ⟨(K.out.bel.mono hlw.out).grown gR.out (Nat.le_trans hlw.out K.out.bel.size) (fun q e => by injection e with e; rw [← e]; exact K.out.re.ge)⟩
    clear hX r1 c0 c1 c2 c3 hX0 hb0
    go_wp2_with (first
      | (refine (?_ : wpList _ _ _ (Oper.mk none (Op.store 26 _ _) _ _ _ _ :: _) _ _); go_must (refine wpList_store_bx rfl 26 (.tmp 2) (.tmp 58) rfl B0 (noP.vals (.slice none 0 0)) pv rfl rfl BB.out (by rw [OK.out.1]; rfl) (by rw [OK.out.1]; exact sizeP) OK.out.2 rfl ?_; intro w8 hX8 hg8; have hX8K := Kpt.mk hX8; have hg8K := Kpt.mk hg8; clear hX8 hg8))
      | (refine (?_ : wpList _ _ _ (Oper.mk _ (Op.load 26 _) _ _ _ _ :: _) _ _); go_must (refine wpList_load_bx rfl 26 (.tmp 4) rfl A pv rfl AA.out _ Try.underlying26 rfl (by rw [OK.out.1]; exact sizeP) ?_)))
    refine bodyPost_ret (v := .tuple #[.agg pv, .int .i64 er]) (by simp [results, Try.results19, asAddr, Act.put, run_res hX8K.out 26 _ Try.underlying26 rfl (by rw [OK.out.1]; exact sizeP)]) rfl ?_
    have hwB := hB0.out
    exact ⟨pv, rfl, OK.out, q1.out.other hg8K.out hB0R.out (by simp [Value.ownBlock]), q2.out.grown hg8K.out (Nat.le_trans hlw.out q2.out.size) (fun q e => by injection e with e; rw [← e]; have := hlw.out; omega)⟩
end Go.Proofs.Ytigfoldobkigeaa
