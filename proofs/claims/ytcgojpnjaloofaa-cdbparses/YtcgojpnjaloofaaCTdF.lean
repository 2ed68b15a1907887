/-
  The contract of the document's told.
-/
import Derived.Test.YtcgojpnjaloofaaCObB
namespace Go.Proofs.Ytcgojpnjaloofaa
open Go.RowKit
set_option linter.unusedVariables false
set_option linter.unusedSimpArgs false
set_option maxRecDepth 100000 in
set_option maxHeartbeats 2000000 in
theorem told_42 (b off cap : Nat) (zs : List Int) (s : Int) (w : World) (hb : B.Bytes zs) (hc : Cells w b off 10 zs) (h0 : zs.getD 0 0 = 42) :
    Calls Try.prog 24 #[.slice (some ⟨b, off, none⟩) 10 cap, .int .u8 s] w fun e w' => e = .returned (.tuple #[.agg (cmdL 42 zs).vals, .int .i64 (toldL 42 zs 10).1, .int .i64 (toldL 42 zs 10).2]) ∧ Below w.heap.size w w' := by
  have hK : Kpt (∀ W, Calls Try.prog 35 #[.int .u8 42] W fun e w' => e = .returned (.int .i64 8) ∧ Below W.heap.size W w') := ⟨fun W => rkind_any 42 W ⟨13, by decide, by decide⟩⟩
  have T : Kpt (∀ W, Below w.heap.size w W → Calls Try.prog 37 #[.agg #[.int .u8 8, .bool false, .int .u64 0, .int .u64 0, .int .i64 0, .bool false, .int .u8 0, .bool false, .bool false, .int .u8 0, .int .u8 0, .bool false, .int .u8 0, .int .u8 0, .bool false], .slice (some ⟨b, off, none⟩) 10 cap] W fun e w' => e = .returned (.tuple #[.agg (cmdL 42 zs).vals, .int .i64 (toldL 42 zs 10).1, .int .i64 (toldL 42 zs 10).2]) ∧ Below W.heap.size W w') := ⟨fun W hW => onBlocks_42 b off cap zs W hb (hc.below hW hc.1)⟩
  have c0 := hc.2 0 (by decide)
  have hlt := hc.1
  rw [h0, Nat.add_zero] at c0
  clear hc hb h0
  generalize cmdL 42 zs = R at *
  generalize toldL 42 zs 10 = F at *
  obtain ⟨f1, f2⟩ := F
  simp only at T ⊢
  go_enter Try.func24, Try.ntmps24
  go_wp2_with (first
    | (go_at_call 35; refine (hK.out _).mono ?_; rintro e w1 ⟨rfl, hb1⟩; have HB : Kpt (Below w.heap.size w w1) := ⟨((Below.refl _ _).alloc (Nat.le_refl _) _).trans (hb1.mono (by simp))⟩; have B0 : Kpt (Bx w1 w.heap.size zeroC) := ⟨(bx_new w zeroC 27).below hb1 (by simp)⟩; have hlt1 : b < w1.heap.size := Nat.lt_of_lt_of_le hlt HB.out.size; clear hb1)
    | (go_at_call 37; refine (T.out _ (HB.out.alloc HB.out.size _)).mono ?_; rintro e w3 ⟨rfl, hb3⟩; have HB3 : Kpt (Below w.heap.size w w3) := ⟨(HB.out.alloc HB.out.size _).trans (hb3.mono (by have := HB.out.size; simp; omega))⟩; have B3 : Kpt (Bx w3 w.heap.size zeroC) := ⟨(B0.out.alloc _).below hb3 (B0.out.alloc _).lt⟩; clear hb3)
    | (refine wpList_store_bx rfl 27 (.tmp 4) (.tmp 188) rfl w.heap.size zeroC R.vals rfl rfl B3.out rfl infoC (Cm.vals_one _) rfl ?_; intro w2 hB2 hg2; replace hB2 := Kpt.mk hB2; replace hg2 := Kpt.mk hg2))
  refine bodyPost_ret (v := .tuple #[.agg R.vals, .int .i64 f1, .int .i64 f2]) (by simp [results, Try.results24, asAddr, run_res hB2.out 27 _ Try.underlying27 rfl infoC]) rfl ⟨rfl, ?_⟩
  exact HB3.out.grown hg2.out (Nat.le_of_lt B3.out.lt) (fun k h => by cases h; exact Nat.le_refl _)

set_option maxRecDepth 100000 in
set_option maxHeartbeats 2000000 in
theorem told_46 (b off cap : Nat) (zs : List Int) (s : Int) (w : World) (hb : B.Bytes zs) (hc : Cells w b off 10 zs) (h0 : zs.getD 0 0 = 46) :
    Calls Try.prog 24 #[.slice (some ⟨b, off, none⟩) 10 cap, .int .u8 s] w fun e w' => e = .returned (.tuple #[.agg (cmdL 46 zs).vals, .int .i64 (toldL 46 zs 10).1, .int .i64 (toldL 46 zs 10).2]) ∧ Below w.heap.size w w' := by
  have hK : Kpt (∀ W, Calls Try.prog 35 #[.int .u8 46] W fun e w' => e = .returned (.int .i64 9) ∧ Below W.heap.size W w') := ⟨fun W => rkind_any 46 W ⟨15, by decide, by decide⟩⟩
  have T : Kpt (∀ W, Below w.heap.size w W → Calls Try.prog 37 #[.agg #[.int .u8 9, .bool false, .int .u64 0, .int .u64 0, .int .i64 0, .bool false, .int .u8 0, .bool false, .bool false, .int .u8 0, .int .u8 0, .bool false, .int .u8 0, .int .u8 0, .bool false], .slice (some ⟨b, off, none⟩) 10 cap] W fun e w' => e = .returned (.tuple #[.agg (cmdL 46 zs).vals, .int .i64 (toldL 46 zs 10).1, .int .i64 (toldL 46 zs 10).2]) ∧ Below W.heap.size W w') := ⟨fun W hW => onBlocks_46 b off cap zs W hb (hc.below hW hc.1)⟩
  have c0 := hc.2 0 (by decide)
  have hlt := hc.1
  rw [h0, Nat.add_zero] at c0
  clear hc hb h0
  generalize cmdL 46 zs = R at *
  generalize toldL 46 zs 10 = F at *
  obtain ⟨f1, f2⟩ := F
  simp only at T ⊢
  go_enter Try.func24, Try.ntmps24
  go_wp2_with (first
    | (go_at_call 35; refine (hK.out _).mono ?_; rintro e w1 ⟨rfl, hb1⟩; have HB : Kpt (Below w.heap.size w w1) := ⟨((Below.refl _ _).alloc (Nat.le_refl _) _).trans (hb1.mono (by simp))⟩; have B0 : Kpt (Bx w1 w.heap.size zeroC) := ⟨(bx_new w zeroC 27).below hb1 (by simp)⟩; have hlt1 : b < w1.heap.size := Nat.lt_of_lt_of_le hlt HB.out.size; clear hb1)
    | (go_at_call 37; refine (T.out _ (HB.out.alloc HB.out.size _)).mono ?_; rintro e w3 ⟨rfl, hb3⟩; have HB3 : Kpt (Below w.heap.size w w3) := ⟨(HB.out.alloc HB.out.size _).trans (hb3.mono (by have := HB.out.size; simp; omega))⟩; have B3 : Kpt (Bx w3 w.heap.size zeroC) := ⟨(B0.out.alloc _).below hb3 (B0.out.alloc _).lt⟩; clear hb3)
    | (refine wpList_store_bx rfl 27 (.tmp 4) (.tmp 188) rfl w.heap.size zeroC R.vals rfl rfl B3.out rfl infoC (Cm.vals_one _) rfl ?_; intro w2 hB2 hg2; replace hB2 := Kpt.mk hB2; replace hg2 := Kpt.mk hg2))
  refine bodyPost_ret (v := .tuple #[.agg R.vals, .int .i64 f1, .int .i64 f2]) (by simp [results, Try.results24, asAddr, run_res hB2.out 27 _ Try.underlying27 rfl infoC]) rfl ⟨rfl, ?_⟩
  exact HB3.out.grown hg2.out (Nat.le_of_lt B3.out.lt) (fun k h => by cases h; exact Nat.le_refl _)

set_option maxRecDepth 100000 in
set_option maxHeartbeats 2000000 in
theorem told_47 (b off cap : Nat) (zs : List Int) (s : Int) (w : World) (hb : B.Bytes zs) (hc : Cells w b off 10 zs) (h0 : zs.getD 0 0 = 47) :
    Calls Try.prog 24 #[.slice (some ⟨b, off, none⟩) 10 cap, .int .u8 s] w fun e w' => e = .returned (.tuple #[.agg (cmdL 47 zs).vals, .int .i64 (toldL 47 zs 10).1, .int .i64 (toldL 47 zs 10).2]) ∧ Below w.heap.size w w' := by
  have hK : Kpt (∀ W, Calls Try.prog 35 #[.int .u8 47] W fun e w' => e = .returned (.int .i64 10) ∧ Below W.heap.size W w') := ⟨fun W => rkind_any 47 W ⟨16, by decide, by decide⟩⟩
  have T : Kpt (∀ W, Below w.heap.size w W → Calls Try.prog 37 #[.agg #[.int .u8 10, .bool false, .int .u64 0, .int .u64 0, .int .i64 0, .bool false, .int .u8 0, .bool false, .bool false, .int .u8 0, .int .u8 0, .bool false, .int .u8 0, .int .u8 0, .bool false], .slice (some ⟨b, off, none⟩) 10 cap] W fun e w' => e = .returned (.tuple #[.agg (cmdL 47 zs).vals, .int .i64 (toldL 47 zs 10).1, .int .i64 (toldL 47 zs 10).2]) ∧ Below W.heap.size W w') := ⟨fun W hW => onBlocks_47 b off cap zs W hb (hc.below hW hc.1)⟩
  have c0 := hc.2 0 (by decide)
  have hlt := hc.1
  rw [h0, Nat.add_zero] at c0
  clear hc hb h0
  generalize cmdL 47 zs = R at *
  generalize toldL 47 zs 10 = F at *
  obtain ⟨f1, f2⟩ := F
  simp only at T ⊢
  go_enter Try.func24, Try.ntmps24
  go_wp2_with (first
    | (go_at_call 35; refine (hK.out _).mono ?_; rintro e w1 ⟨rfl, hb1⟩; have HB : Kpt (Below w.heap.size w w1) := ⟨((Below.refl _ _).alloc (Nat.le_refl _) _).trans (hb1.mono (by simp))⟩; have B0 : Kpt (Bx w1 w.heap.size zeroC) := ⟨(bx_new w zeroC 27).below hb1 (by simp)⟩; have hlt1 : b < w1.heap.size := Nat.lt_of_lt_of_le hlt HB.out.size; clear hb1)
    | (go_at_call 37; refine (T.out _ (HB.out.alloc HB.out.size _)).mono ?_; rintro e w3 ⟨rfl, hb3⟩; have HB3 : Kpt (Below w.heap.size w w3) := ⟨(HB.out.alloc HB.out.size _).trans (hb3.mono (by have := HB.out.size; simp; omega))⟩; have B3 : Kpt (Bx w3 w.heap.size zeroC) := ⟨(B0.out.alloc _).below hb3 (B0.out.alloc _).lt⟩; clear hb3)
    | (refine wpList_store_bx rfl 27 (.tmp 4) (.tmp 188) rfl w.heap.size zeroC R.vals rfl rfl B3.out rfl infoC (Cm.vals_one _) rfl ?_; intro w2 hB2 hg2; replace hB2 := Kpt.mk hB2; replace hg2 := Kpt.mk hg2))
  refine bodyPost_ret (v := .tuple #[.agg R.vals, .int .i64 f1, .int .i64 f2]) (by simp [results, Try.results24, asAddr, run_res hB2.out 27 _ Try.underlying27 rfl infoC]) rfl ⟨rfl, ?_⟩
  exact HB3.out.grown hg2.out (Nat.le_of_lt B3.out.lt) (fun k h => by cases h; exact Nat.le_refl _)
end Go.Proofs.Ytcgojpnjaloofaa
