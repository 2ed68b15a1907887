/-
  The contract of the sum of no bytes, where there is no slice. The contract of the sum of no bytes, where there is an odd slice. Answers to challenges: contracts of the program's and of the document's functions.
-/
import Derived.Test.YtplifodddfjhdaaGreatDoorMgA
import Derived.Test.YtplifodddfjhdaaGreatDoorMgC
import Derived.Test.YtplifodddfjhdaaGreatDoorQRss
import Derived.Lib.AppendStr
namespace Go.Proofs.YtplifodddfjhdaaGreatDoor
open Go.RowKit Go.Shelf
set_option linter.unusedVariables false
set_option linter.unusedSimpArgs false
attribute [local go_sem] Oper.semAt_some

set_option maxRecDepth 100000 in
set_option maxHeartbeats 1500000 in
theorem sum_none (w : World) (hG : Gq w) :
    Calls Tryz.prog 78 #[.slice none 0 0] w fun e w' => e = .returned (.agg (cels (sumL [])).toArray) ∧ Below w.heap.size w w' := by
  refine (callsIn_wide (n := 9)).1 ?_
  refine callsIn_of_wp_marks Tryz.func78 rfl trivial ?_ rfl
  simp only [Tryz.ntmps78, List.size_toArray, List.length_cons, List.length_nil, Nat.reduceAdd, Nat.reduceSub, Array.replicate_succ, Array.replicate_zero, List.push_toArray, List.append_toArray, List.nil_append, List.cons_append]
  replace hG := Kpt.mk hG
  gi_wp2_with ((refine ⟨trivial, ?_⟩; gi_at_call 89; go_must (refine (chunk_in _ _ _ _ _).mono ?_; rintro e w' ⟨rfl, rfl⟩)))
  have hS0 : Sx w ((((w.alloc (.cells #[.int .u8 0, .int .u8 0, .int .u8 0, .int .u8 0, .int .u8 0, .int .u8 0, .int .u8 0, .int .u8 0, .int .u8 0, .int .u8 0, .int .u8 0, .int .u8 0, .int .u8 0, .int .u8 0, .int .u8 0, .int .u8 0] 127)).alloc (.cells (q4v h0N) 145)).alloc (.cells #[.slice none 0 0] 26)).alloc (.cells #[.int .i64 64] 3)) (w.heap.size + 1) h0N 0 0 0 0 [] := by
    have hbel := ((((Below.refl _ w).alloc (Nat.le_refl _) (.cells #[.int .u8 0, .int .u8 0, .int .u8 0, .int .u8 0, .int .u8 0, .int .u8 0, .int .u8 0, .int .u8 0, .int .u8 0, .int .u8 0, .int .u8 0, .int .u8 0, .int .u8 0, .int .u8 0, .int .u8 0, .int .u8 0] 127)).alloc (by simp) (.cells (q4v h0N) 145)).alloc (by simp; omega) (.cells #[.slice none 0 0] 26)).alloc (by simp; omega) (.cells #[.int .i64 64] 3)
    refine ⟨?_, (((bx_new w z16 127).alloc _).alloc _).alloc _, hbel, fun h0 => absurd h0 (Nat.lt_irrefl _)⟩
    have := ((bx_new (w.alloc (.cells z16 127)) (q4v h0N) 145).alloc (.cells #[.slice none 0 0] 26)).alloc (.cells #[.int .i64 64] 3)
    rw [World.size_alloc] at this
    exact this
  have hZ0 : ((((w.alloc (.cells #[.int .u8 0, .int .u8 0, .int .u8 0, .int .u8 0, .int .u8 0, .int .u8 0, .int .u8 0, .int .u8 0, .int .u8 0, .int .u8 0, .int .u8 0, .int .u8 0, .int .u8 0, .int .u8 0, .int .u8 0, .int .u8 0] 127)).alloc (.cells (q4v h0N) 145)).alloc (.cells #[.slice none 0 0] 26)).alloc (.cells #[.int .i64 64] 3)).heap.size = w.heap.size + 1 + 1 + 1 + 1 := by simp
  have hC0 : ((((w.alloc (.cells #[.int .u8 0, .int .u8 0, .int .u8 0, .int .u8 0, .int .u8 0, .int .u8 0, .int .u8 0, .int .u8 0, .int .u8 0, .int .u8 0, .int .u8 0, .int .u8 0, .int .u8 0, .int .u8 0, .int .u8 0, .int .u8 0] 127)).alloc (.cells (q4v h0N) 145)).alloc (.cells #[.slice none 0 0] 26)).alloc (.cells #[.int .i64 64] 3)).cell? ⟨w.heap.size + 1 + 1, 0, none⟩ = some (.slice none 0 0) := by
    have := ((bx_new ((w.alloc (.cells z16 127)).alloc (.cells (q4v h0N) 145)) #[.slice none 0 0] 26).alloc (.cells #[.int .i64 64] 3)).cells 0 (by simp)
    rw [World.size_alloc, World.size_alloc] at this
    exact this
  have hC1 : ((((w.alloc (.cells #[.int .u8 0, .int .u8 0, .int .u8 0, .int .u8 0, .int .u8 0, .int .u8 0, .int .u8 0, .int .u8 0, .int .u8 0, .int .u8 0, .int .u8 0, .int .u8 0, .int .u8 0, .int .u8 0, .int .u8 0, .int .u8 0] 127)).alloc (.cells (q4v h0N) 145)).alloc (.cells #[.slice none 0 0] 26)).alloc (.cells #[.int .i64 64] 3)).cell? ⟨w.heap.size + 1 + 1 + 1, 0, none⟩ = some (.int .i64 64) := by
    have := (bx_new (((w.alloc (.cells z16 127)).alloc (.cells (q4v h0N) 145)).alloc (.cells #[.slice none 0 0] 26)) #[.int .i64 64] 3).cells 0 (by simp)
    rw [World.size_alloc, World.size_alloc, World.size_alloc] at this
    exact this
  simp only [q4v, h0N] at hZ0 hC0 hC1
  change Sx w ((((w.alloc (.cells #[.int .u8 0, .int .u8 0, .int .u8 0, .int .u8 0, .int .u8 0, .int .u8 0, .int .u8 0, .int .u8 0, .int .u8 0, .int .u8 0, .int .u8 0, .int .u8 0, .int .u8 0, .int .u8 0, .int .u8 0, .int .u8 0] 127)).alloc (.cells #[.int .u32 1732584193, .int .u32 4023233417, .int .u32 2562383102, .int .u32 271733878] 145)).alloc (.cells #[.slice none 0 0] 26)).alloc (.cells #[.int .i64 64] 3)) (w.heap.size + 1) h0N 0 0 0 0 [] at hS0
  generalize hW0 : ((((w.alloc (.cells #[.int .u8 0, .int .u8 0, .int .u8 0, .int .u8 0, .int .u8 0, .int .u8 0, .int .u8 0, .int .u8 0, .int .u8 0, .int .u8 0, .int .u8 0, .int .u8 0, .int .u8 0, .int .u8 0, .int .u8 0, .int .u8 0] 127)).alloc (.cells #[.int .u32 1732584193, .int .u32 4023233417, .int .u32 2562383102, .int .u32 271733878] 145)).alloc (.cells #[.slice none 0 0] 26)).alloc (.cells #[.int .i64 64] 3)) = W0 at hS0 hZ0 hC0 hC1 ⊢
  clear hW0
  refine wpIn_rangeFunc_ownG rfl (by omega) (gf := 105) (lb := #[.pointer (some ⟨w.heap.size + 1 + 1, 0, none⟩), .pointer (some ⟨w.heap.size + 1 + 1 + 1, 0, none⟩)]) rfl trivial (enters_of Tryz.func105 (by kernel_rfl) rfl)
    (chunk_stops 8 (by omega) (w.heap.size + 1 + 1) (w.heap.size + 1 + 1 + 1) (w.heap.size + 1 + 1 + 1 + 1) (w.heap.size + 1) 0 0 0 0 (.slice none 0 0) (.inl ⟨rfl, none, 0, rfl⟩) _ (by omega) (by omega) (by omega) (by omega) (by omega) hC0 hC1)
    Kq.trans (kq_b (by omega)) (Below.refl _ _) (fun _ => rfl)
    (fun pre W => Sx w W (w.heap.size + 1) (foldX (N := 0) [] h0N pre) 0 0 0 0 [] ∧ w.heap.size + 1 + 1 + 1 + 1 ≤ W.heap.size)
    (fun _ _ _ => False)
    (by have := Sx.ownFrom (w := w) (H := w.heap.size + 1) (N := 0) (b := 0) (off := 0) (c := 0) (B := w.heap.size + 1 + 1 + 1 + 1) (zs := []) (foldX (N := 0) [] h0N) (by omega) (by omega) (fun h => absurd h (Nat.lt_irrefl _)); rw [hZ0]; exact this)
    (fun _ _ _ _ _ hs _ _ => hs)
    ⟨hS0, by omega⟩
    ?a0 ?assign ?body ?done ?stop
  case assign =>
    intro l x W K hK
    gi_wp2
    exact hK
  case body =>
    rintro l pre x W ⟨hS, hsz⟩ h0
    exact absurd h0 (Nat.not_lt_zero _)
  case done =>
    rintro D ys W hD rfl ⟨hS, hsz⟩ hK
    rw [foldX_up] at hS
    clear hS0 hC0 hC1
    have hZW := Kpt.mk hZ0
    clear hZ0
    replace hD := Kpt.mk hD
    replace hsz := Kpt.mk hsz
    replace hK := Kpt.mk hK
    replace hS := Kpt.mk hS
    have hend := Kpt.mk (ending_any (.slice none 0 0) 0 [] W (rd_nil W) (by simp) (by omega))
    gi_wp2_with (first
      | (refine ⟨trivial, ?_⟩; gi_at_call 91; go_must (refine (callsIn_wide.2 hend.out).mono ?_; rintro e W2 ⟨rfl, hX2, hb2⟩; replace hX2 := Kpt.mk hX2; replace hb2 := Kpt.mk hb2; clear hend))
      | (refine ⟨trivial, ?_⟩; gi_at_call 89; go_must (refine (chunk_in _ _ _ _ _).mono ?_; rintro e w' ⟨rfl, rfl⟩)))
    have hE : (padL 0 0).length = 64 := by rw [padL_length]
    have hNp : 0 < 1 := by omega
    have hNle : 64 * 1 ≤ 128 := by omega
    have hbE : Bytes (padL 0 0) := padL_bytes _ _
    replace hX2 : Kpt (Bx W2 W.heap.size (cels (padL 0 0)).toArray) := hX2
    obtain ⟨E, hEd⟩ : ∃ E, padL 0 0 = E := ⟨_, rfl⟩
    rw [hEd] at hE hX2 hbE
    replace hEd := Kpt.mk hEd
    obtain ⟨hh, hhd⟩ : ∃ hh, foldB [] h0N 0 = hh := ⟨_, rfl⟩
    have hhok : hh.ok := by rw [← hhd]; exact foldB_ok _ h0N_ok _
    rw [hhd] at hS
    replace hhd := Kpt.mk hhd
    have hlt := hS.out.num.lt
    have hlw := hS.out.res.lt
    have hsz2 := hb2.out.size
    have hGl2 := hX2.out.lt
    have hS0 : Sx w ((W2.alloc (.cells #[.slice (some ⟨W.heap.size, 0, none⟩) 64 64] 26)).alloc (.cells #[.int .i64 64] 3)) (w.heap.size + 1) hh 1 W.heap.size 0 64 E :=
      ⟨((hS.out.num.below hb2.out hlt).alloc _).alloc _, ((hS.out.res.below hb2.out hlw).alloc _).alloc _, ((hS.out.bel.trans (hb2.out.mono (by omega))).alloc (by omega) _).alloc (by simp; omega) _,
        fun _ => ⟨bx_rd ((hX2.out.alloc _).alloc _) hE, by simp; omega, by omega⟩⟩
    have hZ0 : ((W2.alloc (.cells #[.slice (some ⟨W.heap.size, 0, none⟩) 64 64] 26)).alloc (.cells #[.int .i64 64] 3)).heap.size = W2.heap.size + 1 + 1 := by simp
    have hC0 : ((W2.alloc (.cells #[.slice (some ⟨W.heap.size, 0, none⟩) 64 64] 26)).alloc (.cells #[.int .i64 64] 3)).cell? ⟨W2.heap.size, 0, none⟩ = some (.slice (some ⟨W.heap.size, 0, none⟩) 64 64) := ((bx_new W2 #[.slice (some ⟨W.heap.size, 0, none⟩) 64 64] 26).alloc (.cells #[.int .i64 64] 3)).cells 0 (by simp)
    have hC1 : ((W2.alloc (.cells #[.slice (some ⟨W.heap.size, 0, none⟩) 64 64] 26)).alloc (.cells #[.int .i64 64] 3)).cell? ⟨W2.heap.size + 1, 0, none⟩ = some (.int .i64 64) := by
      have := (bx_new (W2.alloc (.cells #[.slice (some ⟨W.heap.size, 0, none⟩) 64 64] 26)) #[.int .i64 64] 3).cells 0 (by simp)
      rw [World.size_alloc] at this
      exact this
    have hK2 : ((W2.alloc (.cells #[.slice (some ⟨W.heap.size, 0, none⟩) 64 64] 26)).alloc (.cells #[.int .i64 64] 3)).heap[D]? = some (.deferred (some [])) := by
      have hd := (Array.getElem?_eq_some_iff.1 hK.out).1
      rw [Below.heap_alloc _ _ _ (by simp; omega), Below.heap_alloc _ _ _ (by omega), hb2.out.block D hd]
      exact hK.out
    have hDlt : D < W2.heap.size := Nat.lt_of_lt_of_le (Array.getElem?_eq_some_iff.1 hK.out).1 hsz2
    have hD' := hD.out
    have hZ' := hZ0.symm
    generalize (World.alloc _ (Obj.cells #[.int .i64 64] 3)) = W3 at hS0 hZ0 hC0 hC1 hK2 hZ' ⊢
    clear hZ'
    refine wpIn_rangeFunc_ownG rfl (by omega) (gf := 105) (lb := #[.pointer (some ⟨W2.heap.size, 0, none⟩), .pointer (some ⟨W2.heap.size + 1, 0, none⟩)]) rfl trivial (enters_of Tryz.func105 (by kernel_rfl) rfl)
      (chunk_stops 8 (by omega) W2.heap.size (W2.heap.size + 1) (W2.heap.size + 1 + 1) (w.heap.size + 1) W.heap.size 0 1 64 (.slice (some ⟨W.heap.size, 0, none⟩) 64 64) (.inr ⟨rfl, Nat.le_refl _, by omega, hNp⟩) _ (by omega) (by omega) (by omega) (by omega) (by omega) hC0 hC1)
      Kq.trans (kq_b (by omega)) (Below.refl _ _) (fun _ => rfl)
      (fun pre W' => (Sx w W' (w.heap.size + 1) (foldX E hh pre) 1 W.heap.size 0 64 E ∧ W2.heap.size + 1 + 1 ≤ W'.heap.size) ∧ W'.heap[D]? = some (.deferred (some [])))
      (fun _ _ _ => False)
      (by have := Sx.ownFrom (w := w) (H := w.heap.size + 1) (N := 1) (b := W.heap.size) (off := 0) (c := 64 * 1) (B := W2.heap.size + 1 + 1) (zs := E) (foldX (N := 1) E hh) (by omega) (by omega) (fun h => by omega); rw [hZ0]; exact OwnFrom.and this (fun s A B' row hs hg hr => (hg.block D (Array.getElem?_eq_some_iff.1 hs).1 (fun e => by have := (hr _ e.symm).1; omega)).trans hs))
      (fun _ _ _ _ _ hs _ _ => hs)
      ⟨⟨hS0, by omega⟩, hK2⟩
      ?a1 ?assign2 ?body2 ?done2 ?stop2
    case assign2 =>
      intro l x W K hK
      gi_wp2
      exact hK
    case body2 =>
      rintro l pre x W' ⟨⟨hS, hsz⟩, hKD⟩ _
      have hok := foldX_ok E pre hhok
      have hmx := Kpt.mk (hS.mixed hok hbE hG.out x.1 x.2)
      rw [Nat.zero_add] at hmx
      obtain ⟨h, hh1⟩ : ∃ h, foldX E hh pre = h := ⟨_, rfl⟩
      rw [hh1] at hS hok hmx
      replace hh1 := Kpt.mk hh1
      obtain ⟨h', hh'⟩ : ∃ h', mixN (wordN (E.drop (64 * x.1))) h = h' := ⟨_, rfl⟩
      rw [hh'] at hmx
      replace hh' := Kpt.mk hh'
      unfold q4v at hmx
      obtain ⟨c0, c1, c2, c3⟩ := hS.cells
      replace hS := Kpt.mk hS
      replace hKD := Kpt.mk hKD
      gi_wp2_with ((refine ⟨trivial, ?_⟩; gi_at_call 90; go_must (refine (CallsIn.inRound l (callsIn_wide.2 hmx.out)).mono ?_; rintro e W1 ⟨rfl, hb1⟩; have nn := hS.out.num.below hb1 hS.out.num.lt; have d0 := nn.cells 0 (by simp [q4v]); have d1 := nn.cells 1 (by simp [q4v]); have d2 := nn.cells 2 (by simp [q4v]); have d3 := nn.cells 3 (by simp [q4v]); simp [q4v] at d0 d1 d2 d3; have f0 := nn.free 0; have f1 := nn.free 1; have f2 := nn.free 2; have f3 := nn.free 3; clear nn c0 c1 c2 c3 hmx; replace hb1 := Kpt.mk hb1)))
      refine ⟨keeps_turn hb1.out, kc_turn hb1.out hsz, ⟨?_, ?_⟩, ?_⟩
      · rw [foldX_snoc, hh1.out, hh'.out]
        exact hS.out.turn (by omega) hb1.out (by omega)
      · have := hb1.out.size; simp; omega
      · exact (keeps_turn (B := 0) hb1.out).same D _ (Nat.zero_le _) hKD.out rfl
    case done2 =>
      rintro D2 ys W4 hD2 rfl ⟨⟨hS, hsz⟩, hKD⟩ hK4
      rw [foldX_up] at hS
      obtain ⟨h9, h9d⟩ : ∃ h9, foldB E hh 1 = h9 := ⟨_, rfl⟩
      have h9ok : h9.ok := by rw [← h9d]; exact foldB_ok _ hhok _
      rw [h9d] at hS
      replace h9d := Kpt.mk h9d
      obtain ⟨o1, o2, o3, o4⟩ := h9ok
      have lw4 := hS.res.lt
      have hdl := (Array.getElem?_eq_some_iff.1 hKD).1
      have hdl2 := (Array.getElem?_eq_some_iff.1 hK4).1
      clear hS0 hC0 hC1 hK2 hX2 hE hbE
      replace hD2 : Kpt (W2.heap.size + 1 + 1 ≤ D2) := ⟨by omega⟩
      replace hDlt := Kpt.mk hDlt
      replace hD' := Kpt.mk (show w.heap.size + 1 + 1 + 1 + 1 ≤ D by have := hZW.out; have := hD.out; omega)
      have hDD : Kpt (D ≠ D2) := ⟨by have := hD2.out; have := hDlt.out; omega⟩
      replace hS := Kpt.mk hS
      replace hKD := Kpt.mk hKD
      replace hK4 := Kpt.mk hK4
      replace lw4 := Kpt.mk lw4
      replace hdl := Kpt.mk hdl
      replace hdl2 := Kpt.mk hdl2
      replace hsz := Kpt.mk hsz
      clear hZ0 hlt hlw hsz2 hGl2 hNp hNle
      replace hhok := Kpt.mk hhok
      gi_wp2_with ((refine (?_ : wpListIn _ _ _ _ _ (Oper.mk _ (Op.load 145 _) _ _ _ _ :: _) _ _); go_must (refine wpIn_load_bx rfl 145 (.tmp 3) rfl (w.heap.size + 1) #[.int .u32 (h9.a : Int), .int .u32 (h9.b : Int), .int .u32 (h9.c : Int), .int .u32 (h9.d : Int)] rfl (hS.out.num.alloc _) _ Tryz.underlying145 rfl infoT38 ?_)))
      gi_loopw [40] (fun t wr => ∃ k : Nat, k ≤ 4 ∧ t = .int .i64 k ∧ Kpt (Bx wr W4.heap.size (cels (outZ h9 k)).toArray) ∧ Kpt (Below W4.heap.size W4 wr)) (fun t _ => 4 - (intOf t).toNat)
      case atStart => exact ⟨0, by omega, rfl, ⟨bx_new W4 _ 127⟩, ⟨(Below.refl _ W4).alloc (Nat.le_refl _) _⟩⟩
      case round =>
        obtain ⟨k, hk, rfl, hX, hbl⟩ := hrel
        by_cases hlt : k < 4
        · obtain rfl | rfl | rfl | rfl : k = 0 ∨ k = 1 ∨ k = 2 ∨ k = 3 := by omega
          · gi_wp2_with (first | (refine (?_ : wpListIn _ _ _ _ _ (Oper.mk _ (Op.index 145 _ _) _ _ _ _ :: _) _ _); go_must (refine wpIn_of_exec (w1 := wr) (.int .u32 (h9.a : Int)) rfl (by kernel_rfl) ?_)) | (refine ⟨trivial, ?_⟩; gi_at_call 92; go_must (refine (callsIn_wide.2 (put_any W4.heap.size 0 4 _ (qn h9 0) (outZ h9 0) wr hX.out (by omega) (by rw [outZ_length _ _ (by omega)]; omega) (by omega) (by show h9.a < _; omega))).mono ?_; rintro e W5 ⟨⟨r, rfl⟩, hX5, hg5⟩; replace hX5 := Kpt.mk hX5; replace hg5 := Kpt.mk hg5)))
            go_roundw
            case rel => exact ⟨1, by omega, by simp, ⟨by have := hX5.out; rw [outZ_step h9 0 0 (by omega) rfl] at this; exact this⟩, ⟨hbl.out.grown hg5.out hbl.out.size (fun q e => by cases e; exact Nat.le_refl _)⟩⟩
            case measure => simp [intOf]
          · gi_wp2_with (first | (refine (?_ : wpListIn _ _ _ _ _ (Oper.mk _ (Op.index 145 _ _) _ _ _ _ :: _) _ _); go_must (refine wpIn_of_exec (w1 := wr) (.int .u32 (h9.b : Int)) rfl (by kernel_rfl) ?_)) | (refine ⟨trivial, ?_⟩; gi_at_call 92; go_must (refine (callsIn_wide.2 (put_any W4.heap.size 4 4 _ (qn h9 1) (outZ h9 1) wr hX.out (by omega) (by rw [outZ_length _ _ (by omega)]; omega) (by omega) (by show h9.b < _; omega))).mono ?_; rintro e W5 ⟨⟨r, rfl⟩, hX5, hg5⟩; replace hX5 := Kpt.mk hX5; replace hg5 := Kpt.mk hg5)))
            go_roundw
            case rel => exact ⟨2, by omega, by simp, ⟨by have := hX5.out; rw [outZ_step h9 1 4 (by omega) rfl] at this; exact this⟩, ⟨hbl.out.grown hg5.out hbl.out.size (fun q e => by cases e; exact Nat.le_refl _)⟩⟩
            case measure => simp [intOf]
          · gi_wp2_with (first | (refine (?_ : wpListIn _ _ _ _ _ (Oper.mk _ (Op.index 145 _ _) _ _ _ _ :: _) _ _); go_must (refine wpIn_of_exec (w1 := wr) (.int .u32 (h9.c : Int)) rfl (by kernel_rfl) ?_)) | (refine ⟨trivial, ?_⟩; gi_at_call 92; go_must (refine (callsIn_wide.2 (put_any W4.heap.size 8 4 _ (qn h9 2) (outZ h9 2) wr hX.out (by omega) (by rw [outZ_length _ _ (by omega)]; omega) (by omega) (by show h9.c < _; omega))).mono ?_; rintro e W5 ⟨⟨r, rfl⟩, hX5, hg5⟩; replace hX5 := Kpt.mk hX5; replace hg5 := Kpt.mk hg5)))
            go_roundw
            case rel => exact ⟨3, by omega, by simp, ⟨by have := hX5.out; rw [outZ_step h9 2 8 (by omega) rfl] at this; exact this⟩, ⟨hbl.out.grown hg5.out hbl.out.size (fun q e => by cases e; exact Nat.le_refl _)⟩⟩
            case measure => simp [intOf]
          · gi_wp2_with (first | (refine (?_ : wpListIn _ _ _ _ _ (Oper.mk _ (Op.index 145 _ _) _ _ _ _ :: _) _ _); go_must (refine wpIn_of_exec (w1 := wr) (.int .u32 (h9.d : Int)) rfl (by kernel_rfl) ?_)) | (refine ⟨trivial, ?_⟩; gi_at_call 92; go_must (refine (callsIn_wide.2 (put_any W4.heap.size 12 4 _ (qn h9 3) (outZ h9 3) wr hX.out (by omega) (by rw [outZ_length _ _ (by omega)]; omega) (by omega) (by show h9.d < _; omega))).mono ?_; rintro e W5 ⟨⟨r, rfl⟩, hX5, hg5⟩; replace hX5 := Kpt.mk hX5; replace hg5 := Kpt.mk hg5)))
            go_roundw
            case rel => exact ⟨4, by omega, by simp, ⟨by have := hX5.out; rw [outZ_step h9 3 12 (by omega) rfl] at this; exact this⟩, ⟨hbl.out.grown hg5.out hbl.out.size (fun q e => by cases e; exact Nat.le_refl _)⟩⟩
            case measure => simp [intOf]
        · obtain rfl : k = 4 := by omega
          have hX4 : Kpt (Bx wr W4.heap.size (cels (outL h9)).toArray) := ⟨by have := hX.out; rw [outZ_four] at this; exact this⟩
          have hszo : (cels (outL h9)).toArray.size = 16 := by simp [outL_length]
          have hR4 := Kpt.mk (hS.out.res.below hbl.out lw4.out)
          gi_wp2_with (first
            | (refine (?_ : wpListIn _ _ _ _ _ (Oper.mk _ (Op.load 127 _) _ _ _ _ :: _) _ _); go_must (refine wpIn_load_bx rfl 127 (.tmp 8) rfl W4.heap.size (cels (outL h9)).toArray rfl hX4.out _ Tryz.underlying127 rfl (by rw [hszo]; exact infoT24) ?_))
            | (refine (?_ : wpListIn _ _ _ _ _ (Oper.mk none (Op.store 127 _ _) _ _ _ _ :: _) _ _); go_must (refine wpIn_store_bx rfl 127 (.tmp 2) (.tmp 54) rfl w.heap.size z16 (cels (outL h9)).toArray rfl rfl hR4.out (by rw [hszo]; rfl) (by rw [hszo]; exact infoT24) (all_oneCell_toArray (cels_one _)) rfl ?_; intro W6 hX6 hg6; replace hX6 := Kpt.mk hX6; replace hg6 := Kpt.mk hg6)))
          have hbl6 := hbl.out
          have hWD2 : W6.heap[D2]? = some (.deferred (some [])) := by
            rw [hg6.out.block D2 (Nat.lt_of_lt_of_le hdl2.out hbl.out.size) (fun e => by injection e with e; have := hD2.out; have := hDlt.out; have := hD'.out; omega), hbl.out.block D2 hdl2.out]; exact hK4.out
          have hWD : W6.heap[D]? = some (.deferred (some [])) := by
            rw [hg6.out.block D (Nat.lt_of_lt_of_le hdl.out hbl.out.size) (fun e => by injection e with e; have := hD'.out; omega), hbl.out.block D hdl.out]; exact hKD.out
          have hWD' : (W6.putObj D2 (.deferred none)).heap[D]? = some (.deferred (some [])) := (World.putObj_heap_other hDD.out).trans hWD
          have hb6 : Below w.heap.size w ((W6.putObj D2 (.deferred none)).putObj D (.deferred none)) := by
            have h1 := hS.out.bel.trans (hbl.out.mono (by have := lw4.out; omega))
            have h2 := h1.grown hg6.out h1.size (fun q e => by cases e; exact Nat.le_refl _)
            have h3 := h2.grown (grownBy_putObj' W6 D2 (.deferred none)) h2.size (fun q e => by cases e; have := hD2.out; have := hDlt.out; have := hD'.out; omega)
            exact h3.grown (grownBy_putObj' _ D (.deferred none)) h3.size (fun q e => by cases e; have := hD'.out; omega)
          have hX7 : Bx ((W6.putObj D2 (.deferred none)).putObj D (.deferred none)) w.heap.size (cels (outL h9)).toArray := (hX6.out.grown (grownBy_putObj' W6 D2 _) (by simp; have := hD2.out; have := hDlt.out; have := hD'.out; omega)).grown (grownBy_putObj' _ D _) (by simp; have := hD'.out; omega)
          have hfin : outL h9 = sumL [] := by
            rw [← h9d.out, ← hhd.out, ← hEd.out]; rfl
          rw [hfin] at hX7
          refine ⟨by simp [Act.put], .inl ⟨_, _, rfl, run_takeDeferred hWD2, ?_⟩⟩
          refine ⟨by simp [Act.put], .inl ⟨_, _, rfl, run_takeDeferred hWD', ?_⟩⟩
          exact ⟨.agg (cels (sumL [])).toArray, (by simp [results, Tryz.results78, asAddr, Act.put, run_res hX7 127 _ Tryz.underlying127 rfl (by rw [show (cels (sumL [])).toArray.size = 16 by simp [sumL_length]]; exact infoT24)]), rfl, hb6⟩
    case stop2 =>
      rintro D c pre W _ _ h _
      exact h.elim
  case stop =>
    rintro D c pre W _ _ h _
    exact h.elim

end Go.Proofs.YtplifodddfjhdaaGreatDoor

namespace Go.Proofs.YtplifodddfjhdaaGreatDoor
open Go.RowKit Go.Shelf
set_option linter.unusedVariables false
set_option linter.unusedSimpArgs false
attribute [local go_sem] Oper.semAt_some

set_option maxRecDepth 100000 in
set_option maxHeartbeats 1500000 in
theorem sum_odd (x : Addr) (w : World) (hG : Gq w) :
    Calls Tryz.prog 78 #[.slice (some x) 0 0] w fun e w' => e = .returned (.agg (cels (sumL [])).toArray) ∧ Below w.heap.size w w' := by
  refine (callsIn_wide (n := 9)).1 ?_
  refine callsIn_of_wp_marks Tryz.func78 rfl trivial ?_ rfl
  simp only [Tryz.ntmps78, List.size_toArray, List.length_cons, List.length_nil, Nat.reduceAdd, Nat.reduceSub, Array.replicate_succ, Array.replicate_zero, List.push_toArray, List.append_toArray, List.nil_append, List.cons_append]
  replace hG := Kpt.mk hG
  gi_wp2_with ((refine ⟨trivial, ?_⟩; gi_at_call 89; go_must (refine (chunk_in _ _ _ _ _).mono ?_; rintro e w' ⟨rfl, rfl⟩)))
  have hS0 : Sx w ((((w.alloc (.cells #[.int .u8 0, .int .u8 0, .int .u8 0, .int .u8 0, .int .u8 0, .int .u8 0, .int .u8 0, .int .u8 0, .int .u8 0, .int .u8 0, .int .u8 0, .int .u8 0, .int .u8 0, .int .u8 0, .int .u8 0, .int .u8 0] 127)).alloc (.cells (q4v h0N) 145)).alloc (.cells #[.slice (some x) 0 0] 26)).alloc (.cells #[.int .i64 64] 3)) (w.heap.size + 1) h0N 0 0 0 0 [] := by
    have hbel := ((((Below.refl _ w).alloc (Nat.le_refl _) (.cells #[.int .u8 0, .int .u8 0, .int .u8 0, .int .u8 0, .int .u8 0, .int .u8 0, .int .u8 0, .int .u8 0, .int .u8 0, .int .u8 0, .int .u8 0, .int .u8 0, .int .u8 0, .int .u8 0, .int .u8 0, .int .u8 0] 127)).alloc (by simp) (.cells (q4v h0N) 145)).alloc (by simp; omega) (.cells #[.slice (some x) 0 0] 26)).alloc (by simp; omega) (.cells #[.int .i64 64] 3)
    refine ⟨?_, (((bx_new w z16 127).alloc _).alloc _).alloc _, hbel, fun h0 => absurd h0 (Nat.lt_irrefl _)⟩
    have := ((bx_new (w.alloc (.cells z16 127)) (q4v h0N) 145).alloc (.cells #[.slice (some x) 0 0] 26)).alloc (.cells #[.int .i64 64] 3)
    rw [World.size_alloc] at this
    exact this
  have hZ0 : ((((w.alloc (.cells #[.int .u8 0, .int .u8 0, .int .u8 0, .int .u8 0, .int .u8 0, .int .u8 0, .int .u8 0, .int .u8 0, .int .u8 0, .int .u8 0, .int .u8 0, .int .u8 0, .int .u8 0, .int .u8 0, .int .u8 0, .int .u8 0] 127)).alloc (.cells (q4v h0N) 145)).alloc (.cells #[.slice (some x) 0 0] 26)).alloc (.cells #[.int .i64 64] 3)).heap.size = w.heap.size + 1 + 1 + 1 + 1 := by simp
  have hC0 : ((((w.alloc (.cells #[.int .u8 0, .int .u8 0, .int .u8 0, .int .u8 0, .int .u8 0, .int .u8 0, .int .u8 0, .int .u8 0, .int .u8 0, .int .u8 0, .int .u8 0, .int .u8 0, .int .u8 0, .int .u8 0, .int .u8 0, .int .u8 0] 127)).alloc (.cells (q4v h0N) 145)).alloc (.cells #[.slice (some x) 0 0] 26)).alloc (.cells #[.int .i64 64] 3)).cell? ⟨w.heap.size + 1 + 1, 0, none⟩ = some (.slice (some x) 0 0) := by
    have := ((bx_new ((w.alloc (.cells z16 127)).alloc (.cells (q4v h0N) 145)) #[.slice (some x) 0 0] 26).alloc (.cells #[.int .i64 64] 3)).cells 0 (by simp)
    rw [World.size_alloc, World.size_alloc] at this
    exact this
  have hC1 : ((((w.alloc (.cells #[.int .u8 0, .int .u8 0, .int .u8 0, .int .u8 0, .int .u8 0, .int .u8 0, .int .u8 0, .int .u8 0, .int .u8 0, .int .u8 0, .int .u8 0, .int .u8 0, .int .u8 0, .int .u8 0, .int .u8 0, .int .u8 0] 127)).alloc (.cells (q4v h0N) 145)).alloc (.cells #[.slice (some x) 0 0] 26)).alloc (.cells #[.int .i64 64] 3)).cell? ⟨w.heap.size + 1 + 1 + 1, 0, none⟩ = some (.int .i64 64) := by
    have := (bx_new (((w.alloc (.cells z16 127)).alloc (.cells (q4v h0N) 145)).alloc (.cells #[.slice (some x) 0 0] 26)) #[.int .i64 64] 3).cells 0 (by simp)
    rw [World.size_alloc, World.size_alloc, World.size_alloc] at this
    exact this
  simp only [q4v, h0N] at hZ0 hC0 hC1
  change Sx w ((((w.alloc (.cells #[.int .u8 0, .int .u8 0, .int .u8 0, .int .u8 0, .int .u8 0, .int .u8 0, .int .u8 0, .int .u8 0, .int .u8 0, .int .u8 0, .int .u8 0, .int .u8 0, .int .u8 0, .int .u8 0, .int .u8 0, .int .u8 0] 127)).alloc (.cells #[.int .u32 1732584193, .int .u32 4023233417, .int .u32 2562383102, .int .u32 271733878] 145)).alloc (.cells #[.slice (some x) 0 0] 26)).alloc (.cells #[.int .i64 64] 3)) (w.heap.size + 1) h0N 0 0 0 0 [] at hS0
  generalize hW0 : ((((w.alloc (.cells #[.int .u8 0, .int .u8 0, .int .u8 0, .int .u8 0, .int .u8 0, .int .u8 0, .int .u8 0, .int .u8 0, .int .u8 0, .int .u8 0, .int .u8 0, .int .u8 0, .int .u8 0, .int .u8 0, .int .u8 0, .int .u8 0] 127)).alloc (.cells #[.int .u32 1732584193, .int .u32 4023233417, .int .u32 2562383102, .int .u32 271733878] 145)).alloc (.cells #[.slice (some x) 0 0] 26)).alloc (.cells #[.int .i64 64] 3)) = W0 at hS0 hZ0 hC0 hC1 ⊢
  clear hW0
  refine wpIn_rangeFunc_ownG rfl (by omega) (gf := 105) (lb := #[.pointer (some ⟨w.heap.size + 1 + 1, 0, none⟩), .pointer (some ⟨w.heap.size + 1 + 1 + 1, 0, none⟩)]) rfl trivial (enters_of Tryz.func105 (by kernel_rfl) rfl)
    (chunk_stops 8 (by omega) (w.heap.size + 1 + 1) (w.heap.size + 1 + 1 + 1) (w.heap.size + 1 + 1 + 1 + 1) (w.heap.size + 1) 0 0 0 0 (.slice (some x) 0 0) (.inl ⟨rfl, some x, 0, rfl⟩) _ (by omega) (by omega) (by omega) (by omega) (by omega) hC0 hC1)
    Kq.trans (kq_b (by omega)) (Below.refl _ _) (fun _ => rfl)
    (fun pre W => Sx w W (w.heap.size + 1) (foldX (N := 0) [] h0N pre) 0 0 0 0 [] ∧ w.heap.size + 1 + 1 + 1 + 1 ≤ W.heap.size)
    (fun _ _ _ => False)
    (by have := Sx.ownFrom (w := w) (H := w.heap.size + 1) (N := 0) (b := 0) (off := 0) (c := 0) (B := w.heap.size + 1 + 1 + 1 + 1) (zs := []) (foldX (N := 0) [] h0N) (by omega) (by omega) (fun h => absurd h (Nat.lt_irrefl _)); rw [hZ0]; exact this)
    (fun _ _ _ _ _ hs _ _ => hs)
    ⟨hS0, by omega⟩
    ?a0 ?assign ?body ?done ?stop
  case assign =>
    intro l y W K hK
    gi_wp2
    exact hK
  case body =>
    rintro l pre y W ⟨hS, hsz⟩ h0
    exact absurd h0 (Nat.not_lt_zero _)
  case done =>
    rintro D ys W hD rfl ⟨hS, hsz⟩ hK
    rw [foldX_up] at hS
    clear hS0 hC0 hC1
    have hZW := Kpt.mk hZ0
    clear hZ0
    replace hD := Kpt.mk hD
    replace hsz := Kpt.mk hsz
    replace hK := Kpt.mk hK
    replace hS := Kpt.mk hS
    have hend := Kpt.mk (ending_any (.slice (some x) 0 0) 0 [] W ⟨some x, 0, rfl, (fun h => by cases h), Nat.le_refl _, .inl rfl⟩ (by simp) (by omega))
    gi_wp2_with (first
      | (refine ⟨trivial, ?_⟩; gi_at_call 91; go_must (refine (callsIn_wide.2 hend.out).mono ?_; rintro e W2 ⟨rfl, hX2, hb2⟩; replace hX2 := Kpt.mk hX2; replace hb2 := Kpt.mk hb2; clear hend))
      | (refine ⟨trivial, ?_⟩; gi_at_call 89; go_must (refine (chunk_in _ _ _ _ _).mono ?_; rintro e w' ⟨rfl, rfl⟩)))
    have hE : (padL 0 0).length = 64 := by rw [padL_length]
    have hNp : 0 < 1 := by omega
    have hNle : 64 * 1 ≤ 128 := by omega
    have hbE : Bytes (padL 0 0) := padL_bytes _ _
    replace hX2 : Kpt (Bx W2 W.heap.size (cels (padL 0 0)).toArray) := hX2
    obtain ⟨E, hEd⟩ : ∃ E, padL 0 0 = E := ⟨_, rfl⟩
    rw [hEd] at hE hX2 hbE
    replace hEd := Kpt.mk hEd
    obtain ⟨hh, hhd⟩ : ∃ hh, foldB [] h0N 0 = hh := ⟨_, rfl⟩
    have hhok : hh.ok := by rw [← hhd]; exact foldB_ok _ h0N_ok _
    rw [hhd] at hS
    replace hhd := Kpt.mk hhd
    have hlt := hS.out.num.lt
    have hlw := hS.out.res.lt
    have hsz2 := hb2.out.size
    have hGl2 := hX2.out.lt
    have hS0 : Sx w ((W2.alloc (.cells #[.slice (some ⟨W.heap.size, 0, none⟩) 64 64] 26)).alloc (.cells #[.int .i64 64] 3)) (w.heap.size + 1) hh 1 W.heap.size 0 64 E :=
      ⟨((hS.out.num.below hb2.out hlt).alloc _).alloc _, ((hS.out.res.below hb2.out hlw).alloc _).alloc _, ((hS.out.bel.trans (hb2.out.mono (by omega))).alloc (by omega) _).alloc (by simp; omega) _,
        fun _ => ⟨bx_rd ((hX2.out.alloc _).alloc _) hE, by simp; omega, by omega⟩⟩
    have hZ0 : ((W2.alloc (.cells #[.slice (some ⟨W.heap.size, 0, none⟩) 64 64] 26)).alloc (.cells #[.int .i64 64] 3)).heap.size = W2.heap.size + 1 + 1 := by simp
    have hC0 : ((W2.alloc (.cells #[.slice (some ⟨W.heap.size, 0, none⟩) 64 64] 26)).alloc (.cells #[.int .i64 64] 3)).cell? ⟨W2.heap.size, 0, none⟩ = some (.slice (some ⟨W.heap.size, 0, none⟩) 64 64) := ((bx_new W2 #[.slice (some ⟨W.heap.size, 0, none⟩) 64 64] 26).alloc (.cells #[.int .i64 64] 3)).cells 0 (by simp)
    have hC1 : ((W2.alloc (.cells #[.slice (some ⟨W.heap.size, 0, none⟩) 64 64] 26)).alloc (.cells #[.int .i64 64] 3)).cell? ⟨W2.heap.size + 1, 0, none⟩ = some (.int .i64 64) := by
      have := (bx_new (W2.alloc (.cells #[.slice (some ⟨W.heap.size, 0, none⟩) 64 64] 26)) #[.int .i64 64] 3).cells 0 (by simp)
      rw [World.size_alloc] at this
      exact this
    have hK2 : ((W2.alloc (.cells #[.slice (some ⟨W.heap.size, 0, none⟩) 64 64] 26)).alloc (.cells #[.int .i64 64] 3)).heap[D]? = some (.deferred (some [])) := by
      have hd := (Array.getElem?_eq_some_iff.1 hK.out).1
      rw [Below.heap_alloc _ _ _ (by simp; omega), Below.heap_alloc _ _ _ (by omega), hb2.out.block D hd]
      exact hK.out
    have hDlt : D < W2.heap.size := Nat.lt_of_lt_of_le (Array.getElem?_eq_some_iff.1 hK.out).1 hsz2
    have hD' := hD.out
    have hZ' := hZ0.symm
    generalize (World.alloc _ (Obj.cells #[.int .i64 64] 3)) = W3 at hS0 hZ0 hC0 hC1 hK2 hZ' ⊢
    clear hZ'
    refine wpIn_rangeFunc_ownG rfl (by omega) (gf := 105) (lb := #[.pointer (some ⟨W2.heap.size, 0, none⟩), .pointer (some ⟨W2.heap.size + 1, 0, none⟩)]) rfl trivial (enters_of Tryz.func105 (by kernel_rfl) rfl)
      (chunk_stops 8 (by omega) W2.heap.size (W2.heap.size + 1) (W2.heap.size + 1 + 1) (w.heap.size + 1) W.heap.size 0 1 64 (.slice (some ⟨W.heap.size, 0, none⟩) 64 64) (.inr ⟨rfl, Nat.le_refl _, by omega, hNp⟩) _ (by omega) (by omega) (by omega) (by omega) (by omega) hC0 hC1)
      Kq.trans (kq_b (by omega)) (Below.refl _ _) (fun _ => rfl)
      (fun pre W' => (Sx w W' (w.heap.size + 1) (foldX E hh pre) 1 W.heap.size 0 64 E ∧ W2.heap.size + 1 + 1 ≤ W'.heap.size) ∧ W'.heap[D]? = some (.deferred (some [])))
      (fun _ _ _ => False)
      (by have := Sx.ownFrom (w := w) (H := w.heap.size + 1) (N := 1) (b := W.heap.size) (off := 0) (c := 64 * 1) (B := W2.heap.size + 1 + 1) (zs := E) (foldX (N := 1) E hh) (by omega) (by omega) (fun h => by omega); rw [hZ0]; exact OwnFrom.and this (fun s A B' row hs hg hr => (hg.block D (Array.getElem?_eq_some_iff.1 hs).1 (fun e => by have := (hr _ e.symm).1; omega)).trans hs))
      (fun _ _ _ _ _ hs _ _ => hs)
      ⟨⟨hS0, by omega⟩, hK2⟩
      ?a1 ?assign2 ?body2 ?done2 ?stop2
    case assign2 =>
      intro l y W K hK
      gi_wp2
      exact hK
    case body2 =>
      rintro l pre y W' ⟨⟨hS, hsz⟩, hKD⟩ _
      have hok := foldX_ok E pre hhok
      have hmx := Kpt.mk (hS.mixed hok hbE hG.out y.1 y.2)
      rw [Nat.zero_add] at hmx
      obtain ⟨h, hh1⟩ : ∃ h, foldX E hh pre = h := ⟨_, rfl⟩
      rw [hh1] at hS hok hmx
      replace hh1 := Kpt.mk hh1
      obtain ⟨h', hh'⟩ : ∃ h', mixN (wordN (E.drop (64 * y.1))) h = h' := ⟨_, rfl⟩
      rw [hh'] at hmx
      replace hh' := Kpt.mk hh'
      unfold q4v at hmx
      obtain ⟨c0, c1, c2, c3⟩ := hS.cells
      replace hS := Kpt.mk hS
      replace hKD := Kpt.mk hKD
      gi_wp2_with ((refine ⟨trivial, ?_⟩; gi_at_call 90; go_must (refine (CallsIn.inRound l (callsIn_wide.2 hmx.out)).mono ?_; rintro e W1 ⟨rfl, hb1⟩; have nn := hS.out.num.below hb1 hS.out.num.lt; have d0 := nn.cells 0 (by simp [q4v]); have d1 := nn.cells 1 (by simp [q4v]); have d2 := nn.cells 2 (by simp [q4v]); have d3 := nn.cells 3 (by simp [q4v]); simp [q4v] at d0 d1 d2 d3; have f0 := nn.free 0; have f1 := nn.free 1; have f2 := nn.free 2; have f3 := nn.free 3; clear nn c0 c1 c2 c3 hmx; replace hb1 := Kpt.mk hb1)))
      refine ⟨keeps_turn hb1.out, kc_turn hb1.out hsz, ⟨?_, ?_⟩, ?_⟩
      · rw [foldX_snoc, hh1.out, hh'.out]
        exact hS.out.turn (by omega) hb1.out (by omega)
      · have := hb1.out.size; simp; omega
      · exact (keeps_turn (B := 0) hb1.out).same D _ (Nat.zero_le _) hKD.out rfl
    case done2 =>
      rintro D2 ys W4 hD2 rfl ⟨⟨hS, hsz⟩, hKD⟩ hK4
      rw [foldX_up] at hS
      obtain ⟨h9, h9d⟩ : ∃ h9, foldB E hh 1 = h9 := ⟨_, rfl⟩
      have h9ok : h9.ok := by rw [← h9d]; exact foldB_ok _ hhok _
      rw [h9d] at hS
      replace h9d := Kpt.mk h9d
      obtain ⟨o1, o2, o3, o4⟩ := h9ok
      have lw4 := hS.res.lt
      have hdl := (Array.getElem?_eq_some_iff.1 hKD).1
      have hdl2 := (Array.getElem?_eq_some_iff.1 hK4).1
      clear hS0 hC0 hC1 hK2 hX2 hE hbE
      replace hD2 : Kpt (W2.heap.size + 1 + 1 ≤ D2) := ⟨by omega⟩
      replace hDlt := Kpt.mk hDlt
      replace hD' := Kpt.mk (show w.heap.size + 1 + 1 + 1 + 1 ≤ D by have := hZW.out; have := hD.out; omega)
      have hDD : Kpt (D ≠ D2) := ⟨by have := hD2.out; have := hDlt.out; omega⟩
      replace hS := Kpt.mk hS
      replace hKD := Kpt.mk hKD
      replace hK4 := Kpt.mk hK4
      replace lw4 := Kpt.mk lw4
      replace hdl := Kpt.mk hdl
      replace hdl2 := Kpt.mk hdl2
      replace hsz := Kpt.mk hsz
      clear hZ0 hlt hlw hsz2 hGl2 hNp hNle
      replace hhok := Kpt.mk hhok
      gi_wp2_with ((refine (?_ : wpListIn _ _ _ _ _ (Oper.mk _ (Op.load 145 _) _ _ _ _ :: _) _ _); go_must (refine wpIn_load_bx rfl 145 (.tmp 3) rfl (w.heap.size + 1) #[.int .u32 (h9.a : Int), .int .u32 (h9.b : Int), .int .u32 (h9.c : Int), .int .u32 (h9.d : Int)] rfl (hS.out.num.alloc _) _ Tryz.underlying145 rfl infoT38 ?_)))
      gi_loopw [40] (fun t wr => ∃ k : Nat, k ≤ 4 ∧ t = .int .i64 k ∧ Kpt (Bx wr W4.heap.size (cels (outZ h9 k)).toArray) ∧ Kpt (Below W4.heap.size W4 wr)) (fun t _ => 4 - (intOf t).toNat)
      case atStart => exact ⟨0, by omega, rfl, ⟨bx_new W4 _ 127⟩, ⟨(Below.refl _ W4).alloc (Nat.le_refl _) _⟩⟩
      case round =>
        obtain ⟨k, hk, rfl, hX, hbl⟩ := hrel
        by_cases hlt : k < 4
        · obtain rfl | rfl | rfl | rfl : k = 0 ∨ k = 1 ∨ k = 2 ∨ k = 3 := by omega
          · gi_wp2_with (first | (refine (?_ : wpListIn _ _ _ _ _ (Oper.mk _ (Op.index 145 _ _) _ _ _ _ :: _) _ _); go_must (refine wpIn_of_exec (w1 := wr) (.int .u32 (h9.a : Int)) rfl (by kernel_rfl) ?_)) | (refine ⟨trivial, ?_⟩; gi_at_call 92; go_must (refine (callsIn_wide.2 (put_any W4.heap.size 0 4 _ (qn h9 0) (outZ h9 0) wr hX.out (by omega) (by rw [outZ_length _ _ (by omega)]; omega) (by omega) (by show h9.a < _; omega))).mono ?_; rintro e W5 ⟨⟨r, rfl⟩, hX5, hg5⟩; replace hX5 := Kpt.mk hX5; replace hg5 := Kpt.mk hg5)))
            go_roundw
            case rel => exact ⟨1, by omega, by simp, ⟨by have := hX5.out; rw [outZ_step h9 0 0 (by omega) rfl] at this; exact this⟩, ⟨hbl.out.grown hg5.out hbl.out.size (fun q e => by cases e; exact Nat.le_refl _)⟩⟩
            case measure => simp [intOf]
          · gi_wp2_with (first | (refine (?_ : wpListIn _ _ _ _ _ (Oper.mk _ (Op.index 145 _ _) _ _ _ _ :: _) _ _); go_must (refine wpIn_of_exec (w1 := wr) (.int .u32 (h9.b : Int)) rfl (by kernel_rfl) ?_)) | (refine ⟨trivial, ?_⟩; gi_at_call 92; go_must (refine (callsIn_wide.2 (put_any W4.heap.size 4 4 _ (qn h9 1) (outZ h9 1) wr hX.out (by omega) (by rw [outZ_length _ _ (by omega)]; omega) (by omega) (by show h9.b < _; omega))).mono ?_; rintro e W5 ⟨⟨r, rfl⟩, hX5, hg5⟩; replace hX5 := Kpt.mk hX5; replace hg5 := Kpt.mk hg5)))
            go_roundw
            case rel => exact ⟨2, by omega, by simp, ⟨by have := hX5.out; rw [outZ_step h9 1 4 (by omega) rfl] at this; exact this⟩, ⟨hbl.out.grown hg5.out hbl.out.size (fun q e => by cases e; exact Nat.le_refl _)⟩⟩
            case measure => simp [intOf]
          · gi_wp2_with (first | (refine (?_ : wpListIn _ _ _ _ _ (Oper.mk _ (Op.index 145 _ _) _ _ _ _ :: _) _ _); go_must (refine wpIn_of_exec (w1 := wr) (.int .u32 (h9.c : Int)) rfl (by kernel_rfl) ?_)) | (refine ⟨trivial, ?_⟩; gi_at_call 92; go_must (refine (callsIn_wide.2 (put_any W4.heap.size 8 4 _ (qn h9 2) (outZ h9 2) wr hX.out (by omega) (by rw [outZ_length _ _ (by omega)]; omega) (by omega) (by show h9.c < _; omega))).mono ?_; rintro e W5 ⟨⟨r, rfl⟩, hX5, hg5⟩; replace hX5 := Kpt.mk hX5; replace hg5 := Kpt.mk hg5)))
            go_roundw
            case rel => exact ⟨3, by omega, by simp, ⟨by have := hX5.out; rw [outZ_step h9 2 8 (by omega) rfl] at this; exact this⟩, ⟨hbl.out.grown hg5.out hbl.out.size (fun q e => by cases e; exact Nat.le_refl _)⟩⟩
            case measure => simp [intOf]
          · gi_wp2_with (first | (refine (?_ : wpListIn _ _ _ _ _ (Oper.mk _ (Op.index 145 _ _) _ _ _ _ :: _) _ _); go_must (refine wpIn_of_exec (w1 := wr) (.int .u32 (h9.d : Int)) rfl (by kernel_rfl) ?_)) | (refine ⟨trivial, ?_⟩; gi_at_call 92; go_must (refine (callsIn_wide.2 (put_any W4.heap.size 12 4 _ (qn h9 3) (outZ h9 3) wr hX.out (by omega) (by rw [outZ_length _ _ (by omega)]; omega) (by omega) (by show h9.d < _; omega))).mono ?_; rintro e W5 ⟨⟨r, rfl⟩, hX5, hg5⟩; replace hX5 := Kpt.mk hX5; replace hg5 := Kpt.mk hg5)))
            go_roundw
            case rel => exact ⟨4, by omega, by simp, ⟨by have := hX5.out; rw [outZ_step h9 3 12 (by omega) rfl] at this; exact this⟩, ⟨hbl.out.grown hg5.out hbl.out.size (fun q e => by cases e; exact Nat.le_refl _)⟩⟩
            case measure => simp [intOf]
        · obtain rfl : k = 4 := by omega
          have hX4 : Kpt (Bx wr W4.heap.size (cels (outL h9)).toArray) := ⟨by have := hX.out; rw [outZ_four] at this; exact this⟩
          have hszo : (cels (outL h9)).toArray.size = 16 := by simp [outL_length]
          have hR4 := Kpt.mk (hS.out.res.below hbl.out lw4.out)
          gi_wp2_with (first
            | (refine (?_ : wpListIn _ _ _ _ _ (Oper.mk _ (Op.load 127 _) _ _ _ _ :: _) _ _); go_must (refine wpIn_load_bx rfl 127 (.tmp 8) rfl W4.heap.size (cels (outL h9)).toArray rfl hX4.out _ Tryz.underlying127 rfl (by rw [hszo]; exact infoT24) ?_))
            | (refine (?_ : wpListIn _ _ _ _ _ (Oper.mk none (Op.store 127 _ _) _ _ _ _ :: _) _ _); go_must (refine wpIn_store_bx rfl 127 (.tmp 2) (.tmp 54) rfl w.heap.size z16 (cels (outL h9)).toArray rfl rfl hR4.out (by rw [hszo]; rfl) (by rw [hszo]; exact infoT24) (all_oneCell_toArray (cels_one _)) rfl ?_; intro W6 hX6 hg6; replace hX6 := Kpt.mk hX6; replace hg6 := Kpt.mk hg6)))
          have hbl6 := hbl.out
          have hWD2 : W6.heap[D2]? = some (.deferred (some [])) := by
            rw [hg6.out.block D2 (Nat.lt_of_lt_of_le hdl2.out hbl.out.size) (fun e => by injection e with e; have := hD2.out; have := hDlt.out; have := hD'.out; omega), hbl.out.block D2 hdl2.out]; exact hK4.out
          have hWD : W6.heap[D]? = some (.deferred (some [])) := by
            rw [hg6.out.block D (Nat.lt_of_lt_of_le hdl.out hbl.out.size) (fun e => by injection e with e; have := hD'.out; omega), hbl.out.block D hdl.out]; exact hKD.out
          have hWD' : (W6.putObj D2 (.deferred none)).heap[D]? = some (.deferred (some [])) := (World.putObj_heap_other hDD.out).trans hWD
          have hb6 : Below w.heap.size w ((W6.putObj D2 (.deferred none)).putObj D (.deferred none)) := by
            have h1 := hS.out.bel.trans (hbl.out.mono (by have := lw4.out; omega))
            have h2 := h1.grown hg6.out h1.size (fun q e => by cases e; exact Nat.le_refl _)
            have h3 := h2.grown (grownBy_putObj' W6 D2 (.deferred none)) h2.size (fun q e => by cases e; have := hD2.out; have := hDlt.out; have := hD'.out; omega)
            exact h3.grown (grownBy_putObj' _ D (.deferred none)) h3.size (fun q e => by cases e; have := hD'.out; omega)
          have hX7 : Bx ((W6.putObj D2 (.deferred none)).putObj D (.deferred none)) w.heap.size (cels (outL h9)).toArray := (hX6.out.grown (grownBy_putObj' W6 D2 _) (by simp; have := hD2.out; have := hDlt.out; have := hD'.out; omega)).grown (grownBy_putObj' _ D _) (by simp; have := hD'.out; omega)
          have hfin : outL h9 = sumL [] := by
            rw [← h9d.out, ← hhd.out, ← hEd.out]; rfl
          rw [hfin] at hX7
          refine ⟨by simp [Act.put], .inl ⟨_, _, rfl, run_takeDeferred hWD2, ?_⟩⟩
          refine ⟨by simp [Act.put], .inl ⟨_, _, rfl, run_takeDeferred hWD', ?_⟩⟩
          exact ⟨.agg (cels (sumL [])).toArray, (by simp [results, Tryz.results78, asAddr, Act.put, run_res hX7 127 _ Tryz.underlying127 rfl (by rw [show (cels (sumL [])).toArray.size = 16 by simp [sumL_length]]; exact infoT24)]), rfl, hb6⟩
    case stop2 =>
      rintro D c pre W _ _ h _
      exact h.elim
  case stop =>
    rintro D c pre W _ _ h _
    exact h.elim


/-- The sum of any bytes. -/
theorem sum_any (v : Value) (zs : List Int) (w : World) (hr : RdAt w v zs) (hb : Bytes zs) (hm : zs.length ≤ 140737488355328) (hG : Gq w) (ho : v = .slice none 0 0 ∨ (∃ x, v = .slice (some x) 0 0) ∨ ∃ b off n c, v = .slice (some ⟨b, off, none⟩) n c) :
    Calls Tryz.prog 78 #[v] w fun e w' => e = .returned (.agg (cels (sumL zs)).toArray) ∧ Below w.heap.size w w' := by
  have hl0 : ∀ a c, v = .slice a 0 c → zs = [] := fun a c e => by
    obtain ⟨a', c', e', _⟩ := hr
    rw [e] at e'
    simp only [Value.slice.injEq] at e'
    exact List.eq_nil_of_length_eq_zero e'.2.1.symm
  rcases ho with rfl | ⟨x, rfl⟩ | ⟨b, off, n, c, rfl⟩
  · obtain rfl := hl0 _ _ rfl
    exact sum_none w hG
  · obtain rfl := hl0 _ _ rfl
    exact sum_odd x w hG
  · have hl := (rd_cells hr).1
    exact sum_some b off n c zs w hr (fun h0 => hr.lt (by omega) rfl) hb (by omega) hG
end Go.Proofs.YtplifodddfjhdaaGreatDoor

namespace Go.Proofs.YtplifodddfjhdaaGreatDoor
open Go.RowKit
set_option linter.unusedVariables false
set_option linter.unusedSimpArgs false

theorem own_ho {w : World} {base n : Nat} {v : Value} {xs : List Value} (h : w.ownsRow base 5 1 v n xs) : v = .slice none 0 0 ∨ (∃ x, v = .slice (some x) 0 0) ∨ ∃ b off n' c', v = .slice (some ⟨b, off, none⟩) n' c' := by
  rcases h.2 with ⟨rfl, _⟩ | ⟨g, cap, cur, rfl, _⟩
  · exact .inl rfl
  · exact .inr (.inr ⟨_, _, _, _, rfl⟩)
theorem sum_size (zs : List Int) : (cels (sumL zs)).toArray.size = 16 := by simp [sumL_length]

theorem outL_bytes (h : Q4) : Bytes (outL h) := bytes_of_mem fun z hz => by
  unfold outL at hz
  simp only [List.mem_append] at hz
  rcases hz with ((hz | hz) | hz) | hz <;> exact lowL_bytes _ _ z hz
theorem sumL_bytes (zs : List Int) : Bytes (sumL zs) := outL_bytes _
theorem own_row {w : World} {base n : Nat} {v : Value} {zs : List Int} (h : w.ownsRow base 5 1 v n (cels zs)) (hn : zs.length = n) : RdAt w v zs := by
  subst hn
  exact Row.rd (own_base h (Nat.zero_le _))

def unE (o : Option (List Int)) : Int := match o with
  | none => 13
  | some _ => 0
theorem UnO.rd {w w' : World} {o : Option (List Int)} {v : Value} {e : Int} (h : UnO w w' o v e) : RdAt w' v (o.getD []) ∧ e = unE o := by
  cases o with
  | none => obtain ⟨rfl, rfl⟩ := h; exact ⟨rd_nil w', rfl⟩
  | some l => obtain ⟨h1, rfl⟩ := h; exact ⟨own_row h1 rfl, rfl⟩
theorem unhex_s (T : ByteArray) (w : World) (hm : T.size ≤ 140737488355328) :
    Calls Tryz.prog 68 #[.string T] w fun e w' => ∃ v, e = .returned (.tuple #[v, .int .i64 (unE (unx (nums T)))]) ∧ RdAt w' v ((unx (nums T)).getD []) ∧ Below w.heap.size w w' := by
  have h := unhex_any (nums T) w (nums_byte T) (by rw [nums_len]; exact hm)
  rw [str_nums] at h
  exact h.mono fun e w' ⟨v, er, h1, h2, h3⟩ => by
    obtain ⟨r1, rfl⟩ := h2.rd
    exact ⟨v, h1, r1, h3⟩
theorem runhex_s (T : ByteArray) (w : World) (hm : T.size ≤ 140737488355328) :
    Calls Tryz.prog 18 #[.string T] w fun e w' => ∃ v, e = .returned (.tuple #[v, .int .i64 (unE (unx (nums T)))]) ∧ RdAt w' v ((unx (nums T)).getD []) ∧ Below w.heap.size w w' := by
  have h := runhex_any (nums T) w (nums_byte T) (by rw [nums_len]; exact hm)
  rw [str_nums] at h
  exact h.mono fun e w' ⟨v, er, h1, h2, h3⟩ => by
    obtain ⟨r1, rfl⟩ := h2.rd
    exact ⟨v, h1, r1, h3⟩
theorem strCells_nums (S : ByteArray) : Lib.strCells S = cels (nums S) := by
  unfold Lib.strCells cels nums
  rw [List.map_map]
  rfl

theorem wpList_append_str {w : World} {ops : Array Oper} {rest : List Oper} {o : Oper} {a : Act} {Q : Exit → Act → World → Prop} (hgd : o.guard = none) (d s : Operand)
    (ho : o.op = .call { callee := .builtin .append, args := #[d, s], argTypes := #[26, 9] })
    (base : Nat) (v : Value) (zs : List Int) (n : Nat) (T : ByteArray) (hd : a.eval d = v) (hs : a.eval s = .string T) (hown : w.ownsRow base 5 1 v n (cels zs)) (hlen : n + T.size ≤ 140737488355328) (hb : base ≤ w.heap.size)
    (h : ∀ v' w', Kpt (w'.ownsRow base 5 1 v' (n + T.size) (cels (zs ++ nums T))) → Kpt (w.grownBy w' v.ownBlock) → wpList Tryz.prog ops Q rest (a.put o.dst v') w') : wpList Tryz.prog ops Q (o :: rest) a w := by
  obtain ⟨i0, hi0, hz0, hz1, hz2⟩ := info_parts Tryz.info5
  refine Lib.wpList_append_own_string (P := Tryz.prog) w hgd d s 26 9 ho base 5 i0 Tryz.underlying26 Tryz.underlying9 hi0 hz0 hz1 hz2 v n (cels zs) hd hown T hs (by unfold maxLen; omega) (by omega) hb ?_
  intro v' w' ho' hg' _
  exact h v' w' ⟨by rw [cels_append, ← strCells_nums]; exact ho'⟩ ⟨hg'⟩

/-- The bytes whose sum is the answer. -/
def ansB (id : Int) (T : ByteArray) (zs : List Int) : List Int := ([id] ++ nums T) ++ zs
theorem ansB_length (id : Int) (T : ByteArray) (zs : List Int) : (ansB id T zs).length = 1 + T.size + zs.length := by simp [ansB, nums_len]; omega
theorem ansB_bytes {id : Int} (T : ByteArray) {zs : List Int} (h0 : 0 ≤ id ∧ id ≤ 255) (hb : Bytes zs) : Bytes (ansB id T zs) := ((Bytes.cons h0 Bytes.nil).append (nums_byte T)).append hb

set_option maxRecDepth 100000 in
set_option maxHeartbeats 1000000 in
theorem asum_any (id : Int) (h0 : 0 ≤ id ∧ id ≤ 255) (T : ByteArray) (a : Option Addr) (n c : Nat) (zs : List Int) (w : World) (hr : RdAt w (.slice a n c) zs) (hb : Bytes zs) (hm : n + T.size ≤ 1048576) (hG : Gq w) :
    Calls Tryz.prog 69 #[.int .u8 id, .string T, .slice a n c] w fun e w' => e = .returned (.agg (cels (sumL (ansB id T zs))).toArray) ∧ Below w.heap.size w w' := by
  have hlen : n = zs.length := by obtain ⟨a', c', e, _⟩ := hr; simp only [Value.slice.injEq] at e; exact e.2.1
  replace hr := Kpt.mk hr
  replace hb := Kpt.mk hb
  replace hG := Kpt.mk hG
  replace hlen := Kpt.mk hlen
  replace h0 := Kpt.mk h0
  go_enter Tryz.func69, Tryz.ntmps69
  go_wp2_with (first
    | (refine (?_ : wpList _ _ _ (Oper.mk none (Op.store 127 (.tmp 6) _) _ _ _ _ :: _) _ _); have hmm := m4; go_must (refine wpList_store_bx rfl 127 (.tmp 6) (.tmp 15) rfl w.heap.size #[.int .u8 0, .int .u8 0, .int .u8 0, .int .u8 0, .int .u8 0, .int .u8 0, .int .u8 0, .int .u8 0, .int .u8 0, .int .u8 0, .int .u8 0, .int .u8 0, .int .u8 0, .int .u8 0, .int .u8 0, .int .u8 0] (cels (sumL (ansB id T zs))).toArray rfl rfl hX5.out (by rw [sum_size]; rfl) (by rw [sum_size]; exact infoT24) (all_oneCell_toArray (cels_one _)) rfl ?_; intro w6 hX6 hg6; replace hX6 := Kpt.mk hX6; have hb6 : Kpt (Below w.heap.size w w6) := ⟨hb5.out.grown hg6 hb5.out.size (fun j e => by cases e; exact Nat.le_refl _)⟩; clear hg6 hmm m4))
    | (go_at_call 78; have hmm := m3; go_must (refine (sum_any v4 (ansB id T zs) _ (own_row ho4.out (by rw [ansB_length, hlen.out])) (ansB_bytes T h0.out hb.out) (by rw [ansB_length]; have := hlen.out; omega) (hG.out.below hb4.out hG.out.lt) (own_ho ho4.out)).mono ?_; rintro e w5 ⟨rfl, hb45⟩; have hb5 : Kpt (Below w.heap.size w w5) := ⟨hb4.out.trans (hb45.mono hb4.out.size)⟩; have hX5 : Kpt (Bx w5 w.heap.size #[.int .u8 0, .int .u8 0, .int .u8 0, .int .u8 0, .int .u8 0, .int .u8 0, .int .u8 0, .int .u8 0, .int .u8 0, .int .u8 0, .int .u8 0, .int .u8 0, .int .u8 0, .int .u8 0, .int .u8 0, .int .u8 0]) := ⟨hX4.out.below hb45 hX4.out.lt⟩; clear hb45 hmm m3; have m4 : Kpt True := ⟨trivial⟩))
    | (refine (?_ : wpList _ _ _ (Oper.mk (some 14) _ _ _ _ _ :: _) _ _); have hmm := m2; go_must (refine wpList_append_gen rfl (.tmp 12) (.tmp 13) rfl w1s v3 (.slice a n c) ([id] ++ nums T) zs (1 + T.size) rfl rfl ho3.out (hr.out.bel hb3.out) (by simp [nums_len]; omega) (by have := hlen.out; omega) hs3.out ?_; intro v4 w4 ho4 hg4; replace ho4 : Kpt (w4.ownsRow w1s 5 1 v4 (1 + T.size + n) (cels (ansB id T zs))) := ⟨by rw [hlen.out]; exact ho4.out⟩; have hb4 : Kpt (Below w.heap.size w w4) := ⟨hb3.out.grown hg4.out hb3.out.size (fun j e => Nat.le_trans hws.out (World.ownsRow.lt ho3.out j e).1)⟩; have hX4 : Kpt (Bx w4 w.heap.size #[.int .u8 0, .int .u8 0, .int .u8 0, .int .u8 0, .int .u8 0, .int .u8 0, .int .u8 0, .int .u8 0, .int .u8 0, .int .u8 0, .int .u8 0, .int .u8 0, .int .u8 0, .int .u8 0, .int .u8 0, .int .u8 0]) := ⟨hX3.out.grown hg4.out (fun e => by have := (World.ownsRow.lt ho3.out _ e).1; have := hws1.out; omega)⟩; clear hg4 hmm m2; have m3 : Kpt True := ⟨trivial⟩))
    | (refine (?_ : wpList _ _ _ (Oper.mk (some 11) _ _ _ _ _ :: _) _ _); have hmm := m1; go_must (refine wpList_append_str rfl (.tmp 9) (.tmp 10) rfl w1s (.slice (some ⟨g2, 0, none⟩) 1 1) [id] 1 T rfl rfl ho2.out (by omega) hs2.out ?_; intro v3 w3 ho3 hg3; have hb3 : Kpt (Below w.heap.size w w3) := ⟨hb2.out.grown hg3.out hb2.out.size (fun j e => Nat.le_trans hws.out (World.ownsRow.lt ho2.out j e).1)⟩; have hX3 : Kpt (Bx w3 w.heap.size #[.int .u8 0, .int .u8 0, .int .u8 0, .int .u8 0, .int .u8 0, .int .u8 0, .int .u8 0, .int .u8 0, .int .u8 0, .int .u8 0, .int .u8 0, .int .u8 0, .int .u8 0, .int .u8 0, .int .u8 0, .int .u8 0]) := ⟨hX2.out.grown hg3.out (fun e => by have := (World.ownsRow.lt ho2.out _ e).1; have := hws1.out; omega)⟩; have hs3 : Kpt (w1s ≤ w3.heap.size) := ⟨Nat.le_trans hs2.out hg3.out.size⟩; clear hg3 hmm m1; have m2 : Kpt True := ⟨trivial⟩))
    | (refine (?_ : wpList _ _ _ (Oper.mk (some 9) _ _ _ _ _ :: _) _ _); go_must (refine wpList_built rfl 1 [id] (by kernel_rfl) rfl (by decide) ?_; intro g2 w2 hg2 ho2 hbe2; have hX1 := bx_new w #[.int .u8 0, .int .u8 0, .int .u8 0, .int .u8 0, .int .u8 0, .int .u8 0, .int .u8 0, .int .u8 0, .int .u8 0, .int .u8 0, .int .u8 0, .int .u8 0, .int .u8 0, .int .u8 0, .int .u8 0, .int .u8 0] 127; have hb1 : Below w.heap.size w (w.alloc (.cells #[.int .u8 0, .int .u8 0, .int .u8 0, .int .u8 0, .int .u8 0, .int .u8 0, .int .u8 0, .int .u8 0, .int .u8 0, .int .u8 0, .int .u8 0, .int .u8 0, .int .u8 0, .int .u8 0, .int .u8 0, .int .u8 0] 127)) := (Below.refl _ w).alloc (Nat.le_refl _) _; obtain ⟨w1s, hw1s⟩ : ∃ w1s, (w.alloc (.cells #[.int .u8 0, .int .u8 0, .int .u8 0, .int .u8 0, .int .u8 0, .int .u8 0, .int .u8 0, .int .u8 0, .int .u8 0, .int .u8 0, .int .u8 0, .int .u8 0, .int .u8 0, .int .u8 0, .int .u8 0, .int .u8 0] 127)).heap.size = w1s := ⟨_, rfl⟩; have hws1 : Kpt (w.heap.size < w1s) := ⟨by rw [← hw1s]; simp⟩; have hws : Kpt (w.heap.size ≤ w1s) := ⟨Nat.le_of_lt hws1.out⟩; have hX2 : Kpt (Bx w2 w.heap.size #[.int .u8 0, .int .u8 0, .int .u8 0, .int .u8 0, .int .u8 0, .int .u8 0, .int .u8 0, .int .u8 0, .int .u8 0, .int .u8 0, .int .u8 0, .int .u8 0, .int .u8 0, .int .u8 0, .int .u8 0, .int .u8 0]) := ⟨hX1.below hbe2 hX1.lt⟩; have hb2 : Kpt (Below w.heap.size w w2) := ⟨hb1.trans (hbe2.mono hb1.size)⟩; have hs2 : Kpt (w1s ≤ w2.heap.size) := ⟨by rw [← hw1s]; exact hbe2.size⟩; rw [hw1s] at ho2; replace ho2 := Kpt.mk ho2; clear hbe2 hg2 hX1 hb1 hw1s; have m1 : Kpt True := ⟨trivial⟩)))
  refine bodyPost_ret (v := .agg (cels (sumL (ansB id T zs))).toArray) (by simp [results, Tryz.results69, asAddr, run_res hX6.out 127 _ Tryz.underlying127 rfl (by rw [sum_size]; exact infoT24)]) rfl ⟨rfl, hb6.out⟩

theorem equal_any (v1 v2 : Value) (xs ys : List Int) (w : World) (h1 : RdAt w v1 xs) (h2 : RdAt w v2 ys) (b1 : Bytes xs) (b2 : Bytes ys) :
    Calls Tryz.prog 70 #[v1, v2] w fun e w' => e = .returned (.bool (decide (xs = ys))) ∧ w' = w := by
  have c1 := conv_rd h1
  have c2 := conv_rd h2
  have he : Kpt (((strOfNums xs).toList == (strOfNums ys).toList) = decide (xs = ys)) := ⟨by
    by_cases h : xs = ys
    · subst h; simp
    · rw [decide_eq_false h]
      refine beq_false_of_ne fun hq => h (str_inj b1 b2 ?_)
      apply ByteArray.ext
      apply Array.ext'
      rw [ByteArray.toList_eq, ByteArray.toList_eq] at hq
      exact hq⟩
  generalize strOfNums xs = X at c1 he
  generalize strOfNums ys = Y at c2 he
  generalize decide (xs = ys) = D at he ⊢
  clear h1 h2
  go_enter Tryz.func70, Tryz.ntmps70
  go_wp2
  go_ret
  exact ⟨by rw [← he.out]; rfl, rfl⟩

set_option maxRecDepth 100000 in
set_option maxHeartbeats 1000000 in
theorem right_any (id : Int) (h0 : 0 ≤ id ∧ id ≤ 255) (T : ByteArray) (a : Option Addr) (n c : Nat) (zs : List Int) (R : ByteArray) (w : World) (hr : RdAt w (.slice a n c) zs) (hb : Bytes zs) (hm : n + T.size ≤ 1048576) (hR : R.size ≤ 1048576) (hG : Gq w) :
    Calls Tryz.prog 57 #[.int .u8 id, .string T, .slice a n c, .string R] w fun e w' => e = .returned (.bool (decide (unx (nums R) = some (sumL (ansB id T zs))))) ∧ Below w.heap.size w w' := by
  have hu := Kpt.mk (unhex_s R w (by omega))
  have hs := Kpt.mk (fun W (h : Below w.heap.size w W) => asum_any id h0 T a n c zs W (hr.bel h) hb hm (hG.bel h))
  have hsb := Kpt.mk (sumL_bytes (ansB id T zs))
  have hsl := Kpt.mk (sumL_length (ansB id T zs))
  have hsz := Kpt.mk (sum_size (ansB id T zs))
  generalize sumL (ansB id T zs) = A at hs hsb hsl hsz
  cases hx : unx (nums R) with
  | none =>
    rw [hx] at hu
    simp only [unE] at hu
    clear hr hb h0 hx
    go_enter Tryz.func57, Tryz.ntmps57
    go_wp2_with (first
      | (refine (?_ : wpList _ _ _ (Oper.mk none (Op.store 127 (.tmp 11) _) _ _ _ _ :: _) _ _); have hmm := m2; go_must (refine wpList_store_bx rfl 127 (.tmp 11) (.tmp 20) rfl w2.heap.size #[.int .u8 0, .int .u8 0, .int .u8 0, .int .u8 0, .int .u8 0, .int .u8 0, .int .u8 0, .int .u8 0, .int .u8 0, .int .u8 0, .int .u8 0, .int .u8 0, .int .u8 0, .int .u8 0, .int .u8 0, .int .u8 0] (cels A).toArray rfl rfl (bx_new w2 _ 127) (by rw [hsz.out]; rfl) (by rw [hsz.out]; exact infoT24) (all_oneCell_toArray (cels_one _)) rfl ?_; intro w3 hX3 hg3; have hb3 : Kpt (Below w.heap.size w w3) := ⟨(hb2.out.alloc hb2.out.size _).grown hg3 (by simp; have := hb2.out.size; omega) (fun j e => by cases e; exact hb2.out.size)⟩; clear hX3 hg3 hmm m2))
      | (go_at_call 69; have hmm := m1; go_must (refine (hs.out _ hb1.out).mono ?_; rintro e w2 ⟨rfl, hb12⟩; have hb2 : Kpt (Below w.heap.size w w2) := ⟨hb1.out.trans (hb12.mono hb1.out.size)⟩; clear hb12 hmm m1; have m2 : Kpt True := ⟨trivial⟩))
      | (go_at_call 68; go_must (refine hu.out.mono ?_; rintro e w1 ⟨v1, rfl, hr1, hb1⟩; replace hb1 := Kpt.mk hb1; replace hr1 := Kpt.mk hr1; have m1 : Kpt True := ⟨trivial⟩)))
    go_ret
    exact ⟨by simp, hb3.out⟩
  | some l =>
    have hlb := Kpt.mk (unx_bytes hx)
    rw [hx] at hu
    simp only [unE, Option.getD_some] at hu
    clear hr hb h0 hx
    go_enter Tryz.func57, Tryz.ntmps57
    go_wp2_with (first
      | (go_at_call 70; have hmm := m3; go_must (refine (equal_any _ _ l A _ (hr1.out.bel hb13.out) (bx_rd hX3.out hsl.out) hlb.out hsb.out).mono ?_; rintro e w3 ⟨rfl, rfl⟩; clear hmm m3))
      | (refine (?_ : wpList _ _ _ (Oper.mk none (Op.store 127 (.tmp 11) _) _ _ _ _ :: _) _ _); have hmm := m2; go_must (refine wpList_store_bx rfl 127 (.tmp 11) (.tmp 20) rfl w2.heap.size #[.int .u8 0, .int .u8 0, .int .u8 0, .int .u8 0, .int .u8 0, .int .u8 0, .int .u8 0, .int .u8 0, .int .u8 0, .int .u8 0, .int .u8 0, .int .u8 0, .int .u8 0, .int .u8 0, .int .u8 0, .int .u8 0] (cels A).toArray rfl rfl (bx_new w2 _ 127) (by rw [hsz.out]; rfl) (by rw [hsz.out]; exact infoT24) (all_oneCell_toArray (cels_one _)) rfl ?_; intro w3 hX3 hg3; have hb3 : Kpt (Below w.heap.size w w3) := ⟨(hb2.out.alloc hb2.out.size _).grown hg3 (by simp; have := hb2.out.size; omega) (fun j e => by cases e; exact hb2.out.size)⟩; have hb13 : Kpt (Below w1.heap.size w1 w3) := ⟨(hb12.out.alloc hb12.out.size _).grown hg3 (by simp; have := hb12.out.size; omega) (fun j e => by cases e; exact hb12.out.size)⟩; replace hX3 := Kpt.mk hX3; clear hg3 hmm m2; have m3 : Kpt True := ⟨trivial⟩))
      | (go_at_call 69; have hmm := m1; go_must (refine (hs.out _ hb1.out).mono ?_; rintro e w2 ⟨rfl, hb12⟩; have hb2 : Kpt (Below w.heap.size w w2) := ⟨hb1.out.trans (hb12.mono hb1.out.size)⟩; replace hb12 := Kpt.mk hb12; clear hmm m1; have m2 : Kpt True := ⟨trivial⟩))
      | (go_at_call 68; go_must (refine hu.out.mono ?_; rintro e w1 ⟨v1, rfl, hr1, hb1⟩; replace hb1 := Kpt.mk hb1; replace hr1 := Kpt.mk hr1; have m1 : Kpt True := ⟨trivial⟩)))
    go_ret
    exact ⟨by simp, hb3.out⟩

set_option maxRecDepth 100000 in
set_option maxHeartbeats 1000000 in
theorem ranswer_any (id : Int) (h0 : 0 ≤ id ∧ id ≤ 255) (T : ByteArray) (a : Option Addr) (n c : Nat) (zs : List Int) (w : World) (hr : RdAt w (.slice a n c) zs) (hb : Bytes zs) (hm : n + T.size ≤ 1048576) :
    Calls Tryz.prog 10 #[.int .u8 id, .string T, .slice a n c] w fun e w' => e = .returned (.string (strOfNums (48 :: 120 :: hexL (sumL (ansB id T zs))))) ∧ Below w.heap.size w w' := by
  have hlen : n = zs.length := by obtain ⟨a', c', e, _⟩ := hr; simp only [Value.slice.injEq] at e; exact e.2.1
  replace hr := Kpt.mk hr
  replace hb := Kpt.mk hb
  replace hlen := Kpt.mk hlen
  replace h0 := Kpt.mk h0
  go_enter Tryz.func10, Tryz.ntmps10
  go_wp2_with (first
    | (go_at_call 19; have hmm := m4; go_must (refine (rhex_any (some ⟨g5, 0, none⟩) 16 cap5 (sumL (ansB id T zs)) _ (own_rd ho5.out) (sumL_bytes _) (by omega)).mono ?_; rintro e w6 ⟨rfl, hb56⟩; have hb6 : Kpt (Below w.heap.size w w6) := ⟨hb5.out.trans (hb56.mono hb5.out.size)⟩; clear hb56 hmm m4))
    | (go_at_call 26; have hmm := m3; go_must (refine (rsum_any a4 (1 + T.size + n) c4 (ansB id T zs) _ (own_row ho4.out (by rw [ansB_length, hlen.out])) (ansB_bytes T h0.out hb.out) (by omega)).mono ?_; rintro e w5 ⟨g5, cap5, rfl, ho5, hb45⟩; have hb5 : Kpt (Below w.heap.size w w5) := ⟨hb4.out.trans (hb45.mono hb4.out.size)⟩; replace ho5 := Kpt.mk ho5; clear hb45 hmm m3; have m4 : Kpt True := ⟨trivial⟩))
    | (refine (?_ : wpList _ _ _ (Oper.mk (some 15) _ _ _ _ _ :: _) _ _); have hmm := m2; go_must (refine wpList_append_gen rfl (.tmp 13) (.tmp 14) rfl w.heap.size v3 (.slice a n c) ([id] ++ nums T) zs (1 + T.size) rfl rfl ho3.out (hr.out.bel hb3.out) (by simp [nums_len]; omega) (by have := hlen.out; omega) hb3.out.size ?_; intro v4 w4 ho4 hg4; replace ho4 : Kpt (w4.ownsRow w.heap.size 5 1 v4 (1 + T.size + n) (cels (ansB id T zs))) := ⟨by rw [hlen.out]; exact ho4.out⟩; have hb4 : Kpt (Below w.heap.size w w4) := ⟨hb3.out.grown hg4.out hb3.out.size (fun j e => (World.ownsRow.lt ho3.out j e).1)⟩; obtain ⟨a4, c4, hv4⟩ : ∃ a4 c4, v4 = .slice a4 (1 + T.size + n) c4 := by { obtain ⟨g, cap, e, _⟩ := own_shape ho4.out (by omega); exact ⟨_, _, e⟩ }; subst hv4; clear hg4 hmm m2; have m3 : Kpt True := ⟨trivial⟩))
    | (refine (?_ : wpList _ _ _ (Oper.mk (some 12) _ _ _ _ _ :: _) _ _); have hmm := m1; go_must (refine wpList_append_str rfl (.tmp 10) (.tmp 11) rfl w.heap.size (.slice (some ⟨g2, 0, none⟩) 1 1) [id] 1 T rfl rfl ho2.out (by omega) hb2.out.size ?_; intro v3 w3 ho3 hg3; have hb3 : Kpt (Below w.heap.size w w3) := ⟨hb2.out.grown hg3.out hb2.out.size (fun j e => (World.ownsRow.lt ho2.out j e).1)⟩; clear hg3 hmm m1; have m2 : Kpt True := ⟨trivial⟩))
    | (refine (?_ : wpList _ _ _ (Oper.mk (some 9) _ _ _ _ _ :: _) _ _); go_must (refine wpList_built rfl 1 [id] (by kernel_rfl) rfl (by decide) ?_; intro g2 w2 hg2 ho2 hbe2; have hb2 : Kpt (Below w.heap.size w w2) := ⟨hbe2⟩; replace ho2 := Kpt.mk ho2; clear hbe2 hg2; have m1 : Kpt True := ⟨trivial⟩)))
  go_ret
  exact ⟨rfl, hb6.out⟩
end Go.Proofs.YtplifodddfjhdaaGreatDoor
