/-
  The document's Make.
-/
import Derived.Test.YtcnjnebhidfogaaGBytes
namespace Go.Proofs.Ytcnjnebhidfogaa
open Go.RowKit
set_option linter.unusedVariables false
set_option linter.unusedSimpArgs false

theorem bcell {W w1 : World} (hb : Below W.heap.size W w1) : (∀ b o, b < W.heap.size → w1.cell? ⟨b, o, none⟩ = W.cell? ⟨b, o, none⟩) ∧ (∀ b o, b < W.heap.size → w1.frozen? ⟨b, o, none⟩ = W.frozen? ⟨b, o, none⟩) :=
  ⟨fun b o h => hb.cell (p := ⟨b, o, none⟩) h, fun b o h => hb.frozen (p := ⟨b, o, none⟩) h⟩
theorem calls_agg {f : Nat} {V V' : Array Value} {w : World} {P : Ending → World → Prop} (h : V = V') (hc : Calls Try.prog f #[.agg V'] w P) : Calls Try.prog f #[.agg V] w P := h ▸ hc
theorem infoT : (Try.prog.info? 28).map (·.size) = some 3 := by kernel_rfl
theorem tup_one (g a r : Int) : (tupV g a r).all (·.oneCell') = true := by simp [tupV, Value.oneCell']
theorem list16 (d : List Int) (hl : d.length = 16) : ∃ c0 c1 c2 c3 c4 c5 c6 c7 c8 c9 c10 c11 c12 c13 c14 c15, d = [c0, c1, c2, c3, c4, c5, c6, c7, c8, c9, c10, c11, c12, c13, c14, c15] := by
  match d, hl with
  | [c0, c1, c2, c3, c4, c5, c6, c7, c8, c9, c10, c11, c12, c13, c14, c15], _ => exact ⟨_, _, _, _, _, _, _, _, _, _, _, _, _, _, _, _, rfl⟩
theorem own_rowAt {w : World} {base g cap n : Nat} {zs : List Int} (h : w.ownsRow base 5 1 (.slice (some ⟨g, 0, none⟩) n cap) n (cels zs)) : RowAt w (some ⟨g, 0, none⟩) n zs :=
  .inr ⟨g, 0, rfl, fun j hj => by rw [Nat.zero_add]; exact own_facts h j hj⟩
theorem rc16_at (w : World) (a : Addr) (n c : Nat) (d : List Int) (hd : d.length = 16) (hn : n = 16) (hb : ∀ x ∈ d, 0 ≤ x ∧ x ≤ 255) (h : RowAt w (some a) 16 d) :
    Calls Try.prog 23 #[.slice (some a) n c] w fun e w' => e = .returned (.int .u16 (reg16 0 d : Int)) ∧ w' = w := by
  subst hn
  exact rc16_any _ 16 c d w hd (by unfold maxLen; omega) (bytes_of d hb) h

set_option maxHeartbeats 400000 in
theorem rmake_any (k lba app : Int) (d : List Int) (w : World) (hd : d.length = 16) (hb : ∀ x ∈ d, 0 ≤ x ∧ x ≤ 255) (h0 : 0 ≤ k) (h1 : k ≤ 255) (l0 : 0 ≤ lba) (l1 : lba ≤ 18446744073709551615) :
    Calls Try.prog 10 #[.int .i64 k, .int .u64 lba, .agg (cels d).toArray, .int .u16 app] w fun e w' => e = .returned (.agg (tupV (reg16 0 d : Int) app (refV k lba))) ∧ Below w.heap.size w w' := by
  have kb := Kpt.mk (fun W => rbytes_any ⟨d, 0, 0, 0⟩ ⟨hd, hb, by simp, by simp, by simp⟩ W)
  have kc := Kpt.mk (fun W a c (h : RowAt W (some a) 16 d) => rc16_at W a 16 c d hd rfl hb h)
  obtain ⟨G, hG⟩ : ∃ G, G = reg16 0 d := ⟨_, rfl⟩
  rw [← hG] at kc ⊢
  obtain ⟨D, hD⟩ : ∃ D, D = (cels d).toArray := ⟨_, rfl⟩
  have hDs : D.size = 16 := by rw [hD]; simp [hd]
  rw [← hD] 
  have hbx := Kpt.mk ((bx_new w D 23).alloc (.cells #[.int .u16 0, .int .u16 0, .int .u32 0] 28))
  have hin : (Try.prog.info? 23).map (·.size) = some D.size := by rw [hDs]; kernel_rfl
  have hB0 : Kpt (Below w.heap.size w ((w.alloc (.cells D 23)).alloc (.cells #[.int .u16 0, .int .u16 0, .int .u32 0] 28))) := ⟨((Below.refl _ _).alloc (Nat.le_refl _) _).alloc (by simp) _⟩
  have hb80 : Kpt (Bx ((w.alloc (.cells D 23)).alloc (.cells #[.int .u16 0, .int .u16 0, .int .u32 0] 28)) (w.heap.size + 1) #[.int .u16 0, .int .u16 0, .int .u32 0]) := ⟨by have := bx_new (w.alloc (.cells D 23)) #[.int .u16 0, .int .u16 0, .int .u32 0] 28; simpa using this⟩
  replace hD := Kpt.mk hD
  replace hd := Kpt.mk hd
  have hv : Kpt (refV k lba = if hasB k = true then lba % 4294967296 else 0) := ⟨rfl⟩
  rw [hv.out]
  clear hG hv hb
  have hcase : k = 1 ∨ (k ≠ 1 ∧ k = 2) ∨ (k ≠ 1 ∧ k ≠ 2) := by omega
  rcases hcase with hk | ⟨hn, hk⟩ | ⟨hn, hk⟩
  · subst hk
    have hh : hasB 1 = true := by decide
    rw [hh, if_pos rfl]
    clear hh
    go_enter Try.func10, Try.ntmps10
    go_wp2_with (first | (refine wpList_store_bx rfl 28 (.tmp 8) (.tmp 26) rfl (w.heap.size + 1) #[.int .u16 0, .int .u16 0, .int .u32 0] (tupV (G : Int) app (lba % 4294967296)) rfl rfl (hb8.out.alloc _) rfl infoT (tup_one _ _ _) rfl ?_; intro w5 hb5 hg5) | (refine wpList_load_bx rfl 23 (.tmp 6) rfl w.heap.size D rfl hbx.out _ Try.underlying23 rfl hin ?_) | (go_at_call 23; go_must (refine (kc.out _ _ _ (own_rowAt ho.out)).mono ?_; rintro e w' ⟨rfl, rfl⟩)) | (go_at_call 24; go_must (refine calls_agg (V' := (Bk.vals ⟨d, 0, 0, 0⟩)) ?_ ((kb.out _).mono ?_); rotate_left; rintro e w1 ⟨g, cp, rfl, ho, hb1⟩; replace ho := Kpt.mk ho; have hB1 : Kpt (Below w.heap.size w w1) := ⟨hB0.out.trans (hb1.mono (by simp <;> omega))⟩; have hb8 : Kpt (Bx w1 (w.heap.size + 1) #[.int .u16 0, .int .u16 0, .int .u32 0]) := ⟨hb80.out.below hb1 (by simp)⟩; clear hb1)))
    · refine bodyPost_ret (v := .agg (tupV (G : Int) app (lba % 4294967296))) (by simp [results, Try.results10, asAddr, run_res hb5 28 _ Try.underlying28 rfl infoT]) rfl ⟨rfl, ?_⟩
      exact (hB1.out.alloc hB1.out.size _).grown hg5 (by have := hB1.out.size; simp <;> omega) (fun q hq => by cases hq; omega)
    · obtain ⟨c0, c1, c2, c3, c4, c5, c6, c7, c8, c9, c10, c11, c12, c13, c14, c15, rfl⟩ := list16 d hd.out
      rw [hD.out]
      simp [cels, Bk.vals, Bk.cs]
  · subst hk
    have hh : hasB 2 = true := by decide
    rw [hh, if_pos rfl]
    clear hh
    go_enter Try.func10, Try.ntmps10
    go_wp2_with (first | (refine wpList_store_bx rfl 28 (.tmp 8) (.tmp 26) rfl (w.heap.size + 1) #[.int .u16 0, .int .u16 0, .int .u32 0] (tupV (G : Int) app (lba % 4294967296)) rfl rfl (hb8.out.alloc _) rfl infoT (tup_one _ _ _) rfl ?_; intro w5 hb5 hg5) | (refine wpList_load_bx rfl 23 (.tmp 6) rfl w.heap.size D rfl hbx.out _ Try.underlying23 rfl hin ?_) | (go_at_call 23; go_must (refine (kc.out _ _ _ (own_rowAt ho.out)).mono ?_; rintro e w' ⟨rfl, rfl⟩)) | (go_at_call 24; go_must (refine calls_agg (V' := (Bk.vals ⟨d, 0, 0, 0⟩)) ?_ ((kb.out _).mono ?_); rotate_left; rintro e w1 ⟨g, cp, rfl, ho, hb1⟩; replace ho := Kpt.mk ho; have hB1 : Kpt (Below w.heap.size w w1) := ⟨hB0.out.trans (hb1.mono (by simp <;> omega))⟩; have hb8 : Kpt (Bx w1 (w.heap.size + 1) #[.int .u16 0, .int .u16 0, .int .u32 0]) := ⟨hb80.out.below hb1 (by simp)⟩; clear hb1)))
    · refine bodyPost_ret (v := .agg (tupV (G : Int) app (lba % 4294967296))) (by simp [results, Try.results10, asAddr, run_res hb5 28 _ Try.underlying28 rfl infoT]) rfl ⟨rfl, ?_⟩
      exact (hB1.out.alloc hB1.out.size _).grown hg5 (by have := hB1.out.size; simp <;> omega) (fun q hq => by cases hq; omega)
    · obtain ⟨c0, c1, c2, c3, c4, c5, c6, c7, c8, c9, c10, c11, c12, c13, c14, c15, rfl⟩ := list16 d hd.out
      rw [hD.out]
      simp [cels, Bk.vals, Bk.cs]
  · have hh : hasB k = false := by unfold hasB; rw [decide_eq_false (by omega)]
    rw [hh, if_neg (by simp)]
    have e1 : (k == 1) = false := by simpa using hn
    have e2 : (k == 2) = false := by simpa using hk
    clear hh hn hk
    go_enter Try.func10, Try.ntmps10
    go_wp2_with (first | (refine wpList_store_bx rfl 28 (.tmp 8) (.tmp 26) rfl (w.heap.size + 1) #[.int .u16 0, .int .u16 0, .int .u32 0] (tupV (G : Int) app (0)) rfl rfl (hb8.out.alloc _) rfl infoT (tup_one _ _ _) rfl ?_; intro w5 hb5 hg5) | (refine wpList_load_bx rfl 23 (.tmp 6) rfl w.heap.size D rfl hbx.out _ Try.underlying23 rfl hin ?_) | (go_at_call 23; go_must (refine (kc.out _ _ _ (own_rowAt ho.out)).mono ?_; rintro e w' ⟨rfl, rfl⟩)) | (go_at_call 24; go_must (refine calls_agg (V' := (Bk.vals ⟨d, 0, 0, 0⟩)) ?_ ((kb.out _).mono ?_); rotate_left; rintro e w1 ⟨g, cp, rfl, ho, hb1⟩; replace ho := Kpt.mk ho; have hB1 : Kpt (Below w.heap.size w w1) := ⟨hB0.out.trans (hb1.mono (by simp <;> omega))⟩; have hb8 : Kpt (Bx w1 (w.heap.size + 1) #[.int .u16 0, .int .u16 0, .int .u32 0]) := ⟨hb80.out.below hb1 (by simp)⟩; clear hb1)))
    · refine bodyPost_ret (v := .agg (tupV (G : Int) app (0))) (by simp [results, Try.results10, asAddr, run_res hb5 28 _ Try.underlying28 rfl infoT]) rfl ⟨rfl, ?_⟩
      exact (hB1.out.alloc hB1.out.size _).grown hg5 (by have := hB1.out.size; simp <;> omega) (fun q hq => by cases hq; omega)
    · obtain ⟨c0, c1, c2, c3, c4, c5, c6, c7, c8, c9, c10, c11, c12, c13, c14, c15, rfl⟩ := list16 d hd.out
      rw [hD.out]
      simp [cels, Bk.vals, Bk.cs]
end Go.Proofs.Ytcnjnebhidfogaa
