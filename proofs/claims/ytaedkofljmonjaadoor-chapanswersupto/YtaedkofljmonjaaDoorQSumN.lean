/-
  The contract of the sum of no bytes, where there is no slice.
-/
import Derived.Test.YtaedkofljmonjaaDoorQSum
namespace Go.Proofs.YtaedkofljmonjaaDoor
open Go.RowKit Go.Shelf
set_option linter.unusedVariables false
set_option linter.unusedSimpArgs false
attribute [local go_sem] Oper.semAt_some

set_option maxRecDepth 100000 in
set_option maxHeartbeats 1500000 in
theorem sum_none (w : World) (hG : Gl w) :
    Calls Tryd.prog 8 #[.slice none 0 0] w fun e w' => e = .returned (.agg (cels (sumL [])).toArray) ∧ Below w.heap.size w w' := by
  refine (callsIn_wide (n := 9)).1 ?_
  refine callsIn_of_wp_marks Tryd.func8 rfl trivial ?_ rfl
  simp only [Tryd.ntmps8, List.size_toArray, List.length_cons, List.length_nil, Nat.reduceAdd, Nat.reduceSub, Array.replicate_succ, Array.replicate_zero, List.push_toArray, List.append_toArray, List.nil_append, List.cons_append]
  replace hG := Kpt.mk hG
  gi_wp2_with ((refine ⟨trivial, ?_⟩; gi_at_call 17; go_must (refine (chunk_in _ _ _ _ _).mono ?_; rintro e w' ⟨rfl, rfl⟩)))
  have hS0 : Sx w ((((w.alloc (.cells #[.int .u8 0, .int .u8 0, .int .u8 0, .int .u8 0, .int .u8 0, .int .u8 0, .int .u8 0, .int .u8 0, .int .u8 0, .int .u8 0, .int .u8 0, .int .u8 0, .int .u8 0, .int .u8 0, .int .u8 0, .int .u8 0] 24)).alloc (.cells (q4v h0N) 38)).alloc (.cells #[.slice none 0 0] 22)).alloc (.cells #[.int .i64 64] 3)) (w.heap.size + 1) h0N 0 0 0 0 [] := by
    have hbel := ((((Below.refl _ w).alloc (Nat.le_refl _) (.cells #[.int .u8 0, .int .u8 0, .int .u8 0, .int .u8 0, .int .u8 0, .int .u8 0, .int .u8 0, .int .u8 0, .int .u8 0, .int .u8 0, .int .u8 0, .int .u8 0, .int .u8 0, .int .u8 0, .int .u8 0, .int .u8 0] 24)).alloc (by simp) (.cells (q4v h0N) 38)).alloc (by simp; omega) (.cells #[.slice none 0 0] 22)).alloc (by simp; omega) (.cells #[.int .i64 64] 3)
    refine ⟨?_, (((bx_new w z16 24).alloc _).alloc _).alloc _, hbel, fun h0 => absurd h0 (Nat.lt_irrefl _)⟩
    have := ((bx_new (w.alloc (.cells z16 24)) (q4v h0N) 38).alloc (.cells #[.slice none 0 0] 22)).alloc (.cells #[.int .i64 64] 3)
    rw [World.size_alloc] at this
    exact this
  have hZ0 : ((((w.alloc (.cells #[.int .u8 0, .int .u8 0, .int .u8 0, .int .u8 0, .int .u8 0, .int .u8 0, .int .u8 0, .int .u8 0, .int .u8 0, .int .u8 0, .int .u8 0, .int .u8 0, .int .u8 0, .int .u8 0, .int .u8 0, .int .u8 0] 24)).alloc (.cells (q4v h0N) 38)).alloc (.cells #[.slice none 0 0] 22)).alloc (.cells #[.int .i64 64] 3)).heap.size = w.heap.size + 1 + 1 + 1 + 1 := by simp
  have hC0 : ((((w.alloc (.cells #[.int .u8 0, .int .u8 0, .int .u8 0, .int .u8 0, .int .u8 0, .int .u8 0, .int .u8 0, .int .u8 0, .int .u8 0, .int .u8 0, .int .u8 0, .int .u8 0, .int .u8 0, .int .u8 0, .int .u8 0, .int .u8 0] 24)).alloc (.cells (q4v h0N) 38)).alloc (.cells #[.slice none 0 0] 22)).alloc (.cells #[.int .i64 64] 3)).cell? ⟨w.heap.size + 1 + 1, 0, none⟩ = some (.slice none 0 0) := by
    have := ((bx_new ((w.alloc (.cells z16 24)).alloc (.cells (q4v h0N) 38)) #[.slice none 0 0] 22).alloc (.cells #[.int .i64 64] 3)).cells 0 (by simp)
    rw [World.size_alloc, World.size_alloc] at this
    exact this
  have hC1 : ((((w.alloc (.cells #[.int .u8 0, .int .u8 0, .int .u8 0, .int .u8 0, .int .u8 0, .int .u8 0, .int .u8 0, .int .u8 0, .int .u8 0, .int .u8 0, .int .u8 0, .int .u8 0, .int .u8 0, .int .u8 0, .int .u8 0, .int .u8 0] 24)).alloc (.cells (q4v h0N) 38)).alloc (.cells #[.slice none 0 0] 22)).alloc (.cells #[.int .i64 64] 3)).cell? ⟨w.heap.size + 1 + 1 + 1, 0, none⟩ = some (.int .i64 64) := by
    have := (bx_new (((w.alloc (.cells z16 24)).alloc (.cells (q4v h0N) 38)).alloc (.cells #[.slice none 0 0] 22)) #[.int .i64 64] 3).cells 0 (by simp)
    rw [World.size_alloc, World.size_alloc, World.size_alloc] at this
    exact this
  simp only [q4v, h0N] at hZ0 hC0 hC1
  change Sx w ((((w.alloc (.cells #[.int .u8 0, .int .u8 0, .int .u8 0, .int .u8 0, .int .u8 0, .int .u8 0, .int .u8 0, .int .u8 0, .int .u8 0, .int .u8 0, .int .u8 0, .int .u8 0, .int .u8 0, .int .u8 0, .int .u8 0, .int .u8 0] 24)).alloc (.cells #[.int .u32 1732584193, .int .u32 4023233417, .int .u32 2562383102, .int .u32 271733878] 38)).alloc (.cells #[.slice none 0 0] 22)).alloc (.cells #[.int .i64 64] 3)) (w.heap.size + 1) h0N 0 0 0 0 [] at hS0
  generalize hW0 : ((((w.alloc (.cells #[.int .u8 0, .int .u8 0, .int .u8 0, .int .u8 0, .int .u8 0, .int .u8 0, .int .u8 0, .int .u8 0, .int .u8 0, .int .u8 0, .int .u8 0, .int .u8 0, .int .u8 0, .int .u8 0, .int .u8 0, .int .u8 0] 24)).alloc (.cells #[.int .u32 1732584193, .int .u32 4023233417, .int .u32 2562383102, .int .u32 271733878] 38)).alloc (.cells #[.slice none 0 0] 22)).alloc (.cells #[.int .i64 64] 3)) = W0 at hS0 hZ0 hC0 hC1 ⊢
  clear hW0
  refine wpIn_rangeFunc_ownG rfl (by omega) (gf := 28) (lb := #[.pointer (some ⟨w.heap.size + 1 + 1, 0, none⟩), .pointer (some ⟨w.heap.size + 1 + 1 + 1, 0, none⟩)]) rfl trivial (enters_of Tryd.func28 (by kernel_rfl) rfl)
    (chunk_stops 8 (by omega) (w.heap.size + 1 + 1) (w.heap.size + 1 + 1 + 1) (w.heap.size + 1 + 1 + 1 + 1) (w.heap.size + 1) 0 0 0 0 (.slice none 0 0) (.inl ⟨rfl, none, 0, rfl⟩) _ (by omega) (by omega) (by omega) (by omega) (by omega) hC0 hC1)
    Kc.trans (kc_b (by omega)) (Below.refl _ _) (fun _ => rfl)
    (fun pre W => Sx w W (w.heap.size + 1) (foldX (N := 0) [] h0N pre) 0 0 0 0 [] ∧ w.heap.size + 1 + 1 + 1 + 1 ≤ W.heap.size)
    (fun _ _ _ => False)
    (by have := Sx.ownFrom (w := w) (H := w.heap.size + 1) (N := 0) (b := 0) (off := 0) (c := 0) (B := w.heap.size + 1 + 1 + 1 + 1) (zs := []) (foldX (N := 0) [] h0N) (by omega) (by omega) (fun h => absurd h (Nat.lt_irrefl _)); rw [hZ0]; exact this)
    (fun _ _ _ _ _ hs _ _ => hs)
    ⟨hS0, by omega⟩
    ?a0 ?assign ?body ?done ?stop
  case assign =>
    intro l x W K hK
    gi_wp2
    exact hK
  case body =>
    rintro l pre x W ⟨hS, hsz⟩ h0
    exact absurd h0 (Nat.not_lt_zero _)
  case done =>
    rintro D ys W hD rfl ⟨hS, hsz⟩ hK
    rw [foldX_up] at hS
    clear hS0 hC0 hC1
    have hZW := Kpt.mk hZ0
    clear hZ0
    replace hD := Kpt.mk hD
    replace hsz := Kpt.mk hsz
    replace hK := Kpt.mk hK
    replace hS := Kpt.mk hS
    have hend := Kpt.mk (ending_any (.slice none 0 0) 0 [] W (rd_nil W) (by simp) (by omega))
    gi_wp2_with (first
      | (refine ⟨trivial, ?_⟩; gi_at_call 19; go_must (refine (callsIn_wide.2 hend.out).mono ?_; rintro e W2 ⟨rfl, hX2, hb2⟩; replace hX2 := Kpt.mk hX2; replace hb2 := Kpt.mk hb2; clear hend))
      | (refine ⟨trivial, ?_⟩; gi_at_call 17; go_must (refine (chunk_in _ _ _ _ _).mono ?_; rintro e w' ⟨rfl, rfl⟩)))
    have hE : (padL 0 0).length = 64 := by rw [padL_length]
    have hNp : 0 < 1 := by omega
    have hNle : 64 * 1 ≤ 128 := by omega
    have hbE : Bytes (padL 0 0) := padL_bytes _ _
    replace hX2 : Kpt (Bx W2 W.heap.size (cels (padL 0 0)).toArray) := hX2
    obtain ⟨E, hEd⟩ : ∃ E, padL 0 0 = E := ⟨_, rfl⟩
    rw [hEd] at hE hX2 hbE
    replace hEd := Kpt.mk hEd
    obtain ⟨hh, hhd⟩ : ∃ hh, foldB [] h0N 0 = hh := ⟨_, rfl⟩
    have hhok : hh.ok := by rw [← hhd]; exact foldB_ok _ h0N_ok _
    rw [hhd] at hS
    replace hhd := Kpt.mk hhd
    have hlt := hS.out.num.lt
    have hlw := hS.out.res.lt
    have hsz2 := hb2.out.size
    have hGl2 := hX2.out.lt
    have hS0 : Sx w ((W2.alloc (.cells #[.slice (some ⟨W.heap.size, 0, none⟩) 64 64] 22)).alloc (.cells #[.int .i64 64] 3)) (w.heap.size + 1) hh 1 W.heap.size 0 64 E :=
      ⟨((hS.out.num.below hb2.out hlt).alloc _).alloc _, ((hS.out.res.below hb2.out hlw).alloc _).alloc _, ((hS.out.bel.trans (hb2.out.mono (by omega))).alloc (by omega) _).alloc (by simp; omega) _,
        fun _ => ⟨bx_rd ((hX2.out.alloc _).alloc _) hE, by simp; omega, by omega⟩⟩
    have hZ0 : ((W2.alloc (.cells #[.slice (some ⟨W.heap.size, 0, none⟩) 64 64] 22)).alloc (.cells #[.int .i64 64] 3)).heap.size = W2.heap.size + 1 + 1 := by simp
    have hC0 : ((W2.alloc (.cells #[.slice (some ⟨W.heap.size, 0, none⟩) 64 64] 22)).alloc (.cells #[.int .i64 64] 3)).cell? ⟨W2.heap.size, 0, none⟩ = some (.slice (some ⟨W.heap.size, 0, none⟩) 64 64) := ((bx_new W2 #[.slice (some ⟨W.heap.size, 0, none⟩) 64 64] 22).alloc (.cells #[.int .i64 64] 3)).cells 0 (by simp)
    have hC1 : ((W2.alloc (.cells #[.slice (some ⟨W.heap.size, 0, none⟩) 64 64] 22)).alloc (.cells #[.int .i64 64] 3)).cell? ⟨W2.heap.size + 1, 0, none⟩ = some (.int .i64 64) := by
      have := (bx_new (W2.alloc (.cells #[.slice (some ⟨W.heap.size, 0, none⟩) 64 64] 22)) #[.int .i64 64] 3).cells 0 (by simp)
      rw [World.size_alloc] at this
      exact this
    have hK2 : ((W2.alloc (.cells #[.slice (some ⟨W.heap.size, 0, none⟩) 64 64] 22)).alloc (.cells #[.int .i64 64] 3)).heap[D]? = some (.deferred (some [])) := by
      have hd := (Array.getElem?_eq_some_iff.1 hK.out).1
      rw [Below.heap_alloc _ _ _ (by simp; omega), Below.heap_alloc _ _ _ (by omega), hb2.out.block D hd]
      exact hK.out
    have hDlt : D < W2.heap.size := Nat.lt_of_lt_of_le (Array.getElem?_eq_some_iff.1 hK.out).1 hsz2
    have hD' := hD.out
    have hZ' := hZ0.symm
    generalize (World.alloc _ (Obj.cells #[.int .i64 64] 3)) = W3 at hS0 hZ0 hC0 hC1 hK2 hZ' ⊢
    clear hZ'
    refine wpIn_rangeFunc_ownG rfl (by omega) (gf := 28) (lb := #[.pointer (some ⟨W2.heap.size, 0, none⟩), .pointer (some ⟨W2.heap.size + 1, 0, none⟩)]) rfl trivial (enters_of Tryd.func28 (by kernel_rfl) rfl)
      (chunk_stops 8 (by omega) W2.heap.size (W2.heap.size + 1) (W2.heap.size + 1 + 1) (w.heap.size + 1) W.heap.size 0 1 64 (.slice (some ⟨W.heap.size, 0, none⟩) 64 64) (.inr ⟨rfl, Nat.le_refl _, by omega, hNp⟩) _ (by omega) (by omega) (by omega) (by omega) (by omega) hC0 hC1)
      Kc.trans (kc_b (by omega)) (Below.refl _ _) (fun _ => rfl)
      (fun pre W' => (Sx w W' (w.heap.size + 1) (foldX E hh pre) 1 W.heap.size 0 64 E ∧ W2.heap.size + 1 + 1 ≤ W'.heap.size) ∧ W'.heap[D]? = some (.deferred (some [])))
      (fun _ _ _ => False)
      (by have := Sx.ownFrom (w := w) (H := w.heap.size + 1) (N := 1) (b := W.heap.size) (off := 0) (c := 64 * 1) (B := W2.heap.size + 1 + 1) (zs := E) (foldX (N := 1) E hh) (by omega) (by omega) (fun h => by omega); rw [hZ0]; exact OwnFrom.and this (fun s A B' row hs hg hr => (hg.block D (Array.getElem?_eq_some_iff.1 hs).1 (fun e => by have := (hr _ e.symm).1; omega)).trans hs))
      (fun _ _ _ _ _ hs _ _ => hs)
      ⟨⟨hS0, by omega⟩, hK2⟩
      ?a1 ?assign2 ?body2 ?done2 ?stop2
    case assign2 =>
      intro l x W K hK
      gi_wp2
      exact hK
    case body2 =>
      rintro l pre x W' ⟨⟨hS, hsz⟩, hKD⟩ _
      have hok := foldX_ok E pre hhok
      have hmx := Kpt.mk (hS.mixed hok hbE hG.out x.1 x.2)
      rw [Nat.zero_add] at hmx
      obtain ⟨h, hh1⟩ : ∃ h, foldX E hh pre = h := ⟨_, rfl⟩
      rw [hh1] at hS hok hmx
      replace hh1 := Kpt.mk hh1
      obtain ⟨h', hh'⟩ : ∃ h', mixN (wordN (E.drop (64 * x.1))) h = h' := ⟨_, rfl⟩
      rw [hh'] at hmx
      replace hh' := Kpt.mk hh'
      unfold q4v at hmx
      obtain ⟨c0, c1, c2, c3⟩ := hS.cells
      replace hS := Kpt.mk hS
      replace hKD := Kpt.mk hKD
      gi_wp2_with ((refine ⟨trivial, ?_⟩; gi_at_call 18; go_must (refine (CallsIn.inRound l (callsIn_wide.2 hmx.out)).mono ?_; rintro e W1 ⟨rfl, hb1⟩; have nn := hS.out.num.below hb1 hS.out.num.lt; have d0 := nn.cells 0 (by simp [q4v]); have d1 := nn.cells 1 (by simp [q4v]); have d2 := nn.cells 2 (by simp [q4v]); have d3 := nn.cells 3 (by simp [q4v]); simp [q4v] at d0 d1 d2 d3; have f0 := nn.free 0; have f1 := nn.free 1; have f2 := nn.free 2; have f3 := nn.free 3; clear nn c0 c1 c2 c3 hmx; replace hb1 := Kpt.mk hb1)))
      refine ⟨keeps_turn hb1.out, kc_turn hb1.out hsz, ⟨?_, ?_⟩, ?_⟩
      · rw [foldX_snoc, hh1.out, hh'.out]
        exact hS.out.turn (by omega) hb1.out (by omega)
      · have := hb1.out.size; simp; omega
      · exact (keeps_turn (B := 0) hb1.out).same D _ (Nat.zero_le _) hKD.out rfl
    case done2 =>
      rintro D2 ys W4 hD2 rfl ⟨⟨hS, hsz⟩, hKD⟩ hK4
      rw [foldX_up] at hS
      obtain ⟨h9, h9d⟩ : ∃ h9, foldB E hh 1 = h9 := ⟨_, rfl⟩
      have h9ok : h9.ok := by rw [← h9d]; exact foldB_ok _ hhok _
      rw [h9d] at hS
      replace h9d := Kpt.mk h9d
      obtain ⟨o1, o2, o3, o4⟩ := h9ok
      have lw4 := hS.res.lt
      have hdl := (Array.getElem?_eq_some_iff.1 hKD).1
      have hdl2 := (Array.getElem?_eq_some_iff.1 hK4).1
      clear hS0 hC0 hC1 hK2 hX2 hE hbE
      replace hD2 : Kpt (W2.heap.size + 1 + 1 ≤ D2) := ⟨by omega⟩
      replace hDlt := Kpt.mk hDlt
      replace hD' := Kpt.mk (show w.heap.size + 1 + 1 + 1 + 1 ≤ D by have := hZW.out; have := hD.out; omega)
      have hDD : Kpt (D ≠ D2) := ⟨by have := hD2.out; have := hDlt.out; omega⟩
      replace hS := Kpt.mk hS
      replace hKD := Kpt.mk hKD
      replace hK4 := Kpt.mk hK4
      replace lw4 := Kpt.mk lw4
      replace hdl := Kpt.mk hdl
      replace hdl2 := Kpt.mk hdl2
      replace hsz := Kpt.mk hsz
      clear hZ0 hlt hlw hsz2 hGl2 hNp hNle
      replace hhok := Kpt.mk hhok
      gi_wp2_with ((refine (?_ : wpListIn _ _ _ _ _ (Oper.mk _ (Op.load 38 _) _ _ _ _ :: _) _ _); go_must (refine wpIn_load_bx rfl 38 (.tmp 3) rfl (w.heap.size + 1) #[.int .u32 (h9.a : Int), .int .u32 (h9.b : Int), .int .u32 (h9.c : Int), .int .u32 (h9.d : Int)] rfl (hS.out.num.alloc _) _ Tryd.underlying38 rfl info38 ?_)))
      gi_loopw [40] (fun t wr => ∃ k : Nat, k ≤ 4 ∧ t = .int .i64 k ∧ Kpt (Bx wr W4.heap.size (cels (outZ h9 k)).toArray) ∧ Kpt (Below W4.heap.size W4 wr)) (fun t _ => 4 - (intOf t).toNat)
      case atStart => exact ⟨0, by omega, rfl, ⟨bx_new W4 _ 24⟩, ⟨(Below.refl _ W4).alloc (Nat.le_refl _) _⟩⟩
      case round =>
        obtain ⟨k, hk, rfl, hX, hbl⟩ := hrel
        by_cases hlt : k < 4
        · obtain rfl | rfl | rfl | rfl : k = 0 ∨ k = 1 ∨ k = 2 ∨ k = 3 := by omega
          · gi_wp2_with (first | (refine (?_ : wpListIn _ _ _ _ _ (Oper.mk _ (Op.index 38 _ _) _ _ _ _ :: _) _ _); go_must (refine wpIn_of_exec (w1 := wr) (.int .u32 (h9.a : Int)) rfl (by kernel_rfl) ?_)) | (refine ⟨trivial, ?_⟩; gi_at_call 20; go_must (refine (callsIn_wide.2 (put_any W4.heap.size 0 4 _ (qn h9 0) (outZ h9 0) wr hX.out (by omega) (by rw [outZ_length _ _ (by omega)]; omega) (by omega) (by show h9.a < _; omega))).mono ?_; rintro e W5 ⟨⟨r, rfl⟩, hX5, hg5⟩; replace hX5 := Kpt.mk hX5; replace hg5 := Kpt.mk hg5)))
            go_roundw
            case rel => exact ⟨1, by omega, by simp, ⟨by have := hX5.out; rw [outZ_step h9 0 0 (by omega) rfl] at this; exact this⟩, ⟨hbl.out.grown hg5.out hbl.out.size (fun q e => by cases e; exact Nat.le_refl _)⟩⟩
            case measure => simp [intOf]
          · gi_wp2_with (first | (refine (?_ : wpListIn _ _ _ _ _ (Oper.mk _ (Op.index 38 _ _) _ _ _ _ :: _) _ _); go_must (refine wpIn_of_exec (w1 := wr) (.int .u32 (h9.b : Int)) rfl (by kernel_rfl) ?_)) | (refine ⟨trivial, ?_⟩; gi_at_call 20; go_must (refine (callsIn_wide.2 (put_any W4.heap.size 4 4 _ (qn h9 1) (outZ h9 1) wr hX.out (by omega) (by rw [outZ_length _ _ (by omega)]; omega) (by omega) (by show h9.b < _; omega))).mono ?_; rintro e W5 ⟨⟨r, rfl⟩, hX5, hg5⟩; replace hX5 := Kpt.mk hX5; replace hg5 := Kpt.mk hg5)))
            go_roundw
            case rel => exact ⟨2, by omega, by simp, ⟨by have := hX5.out; rw [outZ_step h9 1 4 (by omega) rfl] at this; exact this⟩, ⟨hbl.out.grown hg5.out hbl.out.size (fun q e => by cases e; exact Nat.le_refl _)⟩⟩
            case measure => simp [intOf]
          · gi_wp2_with (first | (refine (?_ : wpListIn _ _ _ _ _ (Oper.mk _ (Op.index 38 _ _) _ _ _ _ :: _) _ _); go_must (refine wpIn_of_exec (w1 := wr) (.int .u32 (h9.c : Int)) rfl (by kernel_rfl) ?_)) | (refine ⟨trivial, ?_⟩; gi_at_call 20; go_must (refine (callsIn_wide.2 (put_any W4.heap.size 8 4 _ (qn h9 2) (outZ h9 2) wr hX.out (by omega) (by rw [outZ_length _ _ (by omega)]; omega) (by omega) (by show h9.c < _; omega))).mono ?_; rintro e W5 ⟨⟨r, rfl⟩, hX5, hg5⟩; replace hX5 := Kpt.mk hX5; replace hg5 := Kpt.mk hg5)))
            go_roundw
            case rel => exact ⟨3, by omega, by simp, ⟨by have := hX5.out; rw [outZ_step h9 2 8 (by omega) rfl] at this; exact this⟩, ⟨hbl.out.grown hg5.out hbl.out.size (fun q e => by cases e; exact Nat.le_refl _)⟩⟩
            case measure => simp [intOf]
          · gi_wp2_with (first | (refine (?_ : wpListIn _ _ _ _ _ (Oper.mk _ (Op.index 38 _ _) _ _ _ _ :: _) _ _); go_must (refine wpIn_of_exec (w1 := wr) (.int .u32 (h9.d : Int)) rfl (by kernel_rfl) ?_)) | (refine ⟨trivial, ?_⟩; gi_at_call 20; go_must (refine (callsIn_wide.2 (put_any W4.heap.size 12 4 _ (qn h9 3) (outZ h9 3) wr hX.out (by omega) (by rw [outZ_length _ _ (by omega)]; omega) (by omega) (by show h9.d < _; omega))).mono ?_; rintro e W5 ⟨⟨r, rfl⟩, hX5, hg5⟩; replace hX5 := Kpt.mk hX5; replace hg5 := Kpt.mk hg5)))
            go_roundw
            case rel => exact ⟨4, by omega, by simp, ⟨by have := hX5.out; rw [outZ_step h9 3 12 (by omega) rfl] at this; exact this⟩, ⟨hbl.out.grown hg5.out hbl.out.size (fun q e => by cases e; exact Nat.le_refl _)⟩⟩
            case measure => simp [intOf]
        · obtain rfl : k = 4 := by omega
          have hX4 : Kpt (Bx wr W4.heap.size (cels (outL h9)).toArray) := ⟨by have := hX.out; rw [outZ_four] at this; exact this⟩
          have hszo : (cels (outL h9)).toArray.size = 16 := by simp [outL_length]
          have hR4 := Kpt.mk (hS.out.res.below hbl.out lw4.out)
          gi_wp2_with (first
            | (refine (?_ : wpListIn _ _ _ _ _ (Oper.mk _ (Op.load 24 _) _ _ _ _ :: _) _ _); go_must (refine wpIn_load_bx rfl 24 (.tmp 8) rfl W4.heap.size (cels (outL h9)).toArray rfl hX4.out _ Tryd.underlying24 rfl (by rw [hszo]; exact info24) ?_))
            | (refine (?_ : wpListIn _ _ _ _ _ (Oper.mk none (Op.store 24 _ _) _ _ _ _ :: _) _ _); go_must (refine wpIn_store_bx rfl 24 (.tmp 2) (.tmp 54) rfl w.heap.size z16 (cels (outL h9)).toArray rfl rfl hR4.out (by rw [hszo]; rfl) (by rw [hszo]; exact info24) (all_oneCell_toArray (cels_one _)) rfl ?_; intro W6 hX6 hg6; replace hX6 := Kpt.mk hX6; replace hg6 := Kpt.mk hg6)))
          have hbl6 := hbl.out
          have hWD2 : W6.heap[D2]? = some (.deferred (some [])) := by
            rw [hg6.out.block D2 (Nat.lt_of_lt_of_le hdl2.out hbl.out.size) (fun e => by injection e with e; have := hD2.out; have := hDlt.out; have := hD'.out; omega), hbl.out.block D2 hdl2.out]; exact hK4.out
          have hWD : W6.heap[D]? = some (.deferred (some [])) := by
            rw [hg6.out.block D (Nat.lt_of_lt_of_le hdl.out hbl.out.size) (fun e => by injection e with e; have := hD'.out; omega), hbl.out.block D hdl.out]; exact hKD.out
          have hWD' : (W6.putObj D2 (.deferred none)).heap[D]? = some (.deferred (some [])) := (World.putObj_heap_other hDD.out).trans hWD
          have hb6 : Below w.heap.size w ((W6.putObj D2 (.deferred none)).putObj D (.deferred none)) := by
            have h1 := hS.out.bel.trans (hbl.out.mono (by have := lw4.out; omega))
            have h2 := h1.grown hg6.out h1.size (fun q e => by cases e; exact Nat.le_refl _)
            have h3 := h2.grown (grownBy_putObj' W6 D2 (.deferred none)) h2.size (fun q e => by cases e; have := hD2.out; have := hDlt.out; have := hD'.out; omega)
            exact h3.grown (grownBy_putObj' _ D (.deferred none)) h3.size (fun q e => by cases e; have := hD'.out; omega)
          have hX7 : Bx ((W6.putObj D2 (.deferred none)).putObj D (.deferred none)) w.heap.size (cels (outL h9)).toArray := (hX6.out.grown (grownBy_putObj' W6 D2 _) (by simp; have := hD2.out; have := hDlt.out; have := hD'.out; omega)).grown (grownBy_putObj' _ D _) (by simp; have := hD'.out; omega)
          have hfin : outL h9 = sumL [] := by
            rw [← h9d.out, ← hhd.out, ← hEd.out]; rfl
          rw [hfin] at hX7
          refine ⟨by simp [Act.put], .inl ⟨_, _, rfl, run_takeDeferred hWD2, ?_⟩⟩
          refine ⟨by simp [Act.put], .inl ⟨_, _, rfl, run_takeDeferred hWD', ?_⟩⟩
          exact ⟨.agg (cels (sumL [])).toArray, (by simp [results, Tryd.results8, asAddr, Act.put, run_res hX7 24 _ Tryd.underlying24 rfl (by rw [show (cels (sumL [])).toArray.size = 16 by simp [sumL_length]]; exact info24)]), rfl, hb6⟩
    case stop2 =>
      rintro D c pre W _ _ h _
      exact h.elim
  case stop =>
    rintro D c pre W _ _ h _
    exact h.elim

end Go.Proofs.YtaedkofljmonjaaDoor
