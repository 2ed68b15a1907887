/-
  The contract of take: on blocks.
-/
import Derived.Test.YtcgojpnjaloofaaCTbC
namespace Go.Proofs.Ytcgojpnjaloofaa
open Go.RowKit
set_option linter.unusedVariables false
set_option linter.unusedSimpArgs false
set_option maxRecDepth 100000 in
set_option maxHeartbeats 1000000 in
theorem take_136 (b off cap : Nat) (zs : List Int) (w : World) (hb : B.Bytes zs) (hc : Cells w b off 16 zs) (h0 : zs.getD 0 0 = 136) :
    Calls Try.prog 20 #[.slice (some ⟨b, off, none⟩) 16 cap] w fun e w' => e = .returned (.agg (cmdL 136 zs).vals) ∧ Below w.heap.size w w' := by
  have T : Kpt (∀ W, Below w.heap.size w W → Calls Try.prog 33 #[.agg #[.int .u8 7, .bool false, .int .u64 0, .int .u64 0, .int .i64 0, .bool false, .int .u8 0, .bool false, .bool false, .int .u8 0, .int .u8 0, .bool false, .int .u8 0, .int .u8 0, .bool false], .slice (some ⟨b, off, none⟩) 16 cap] W fun e w' => e = .returned (.agg (cmdL 136 zs).vals) ∧ Below W.heap.size W w') := ⟨fun W hW => takeBlocks_136 b off cap zs W hb (hc.below hW hc.1)⟩
  have c0 := hc.2 0 (by decide)
  have hlt := hc.1
  rw [h0, Nat.add_zero] at c0
  clear hc hb h0
  generalize cmdL 136 zs = R at *
  go_enter Try.func20, Try.ntmps20
  go_wp2_with (first
    | (go_at_call 30; refine (kind_136 _).mono ?_; rintro e w' ⟨rfl, rfl⟩)
    | (go_at_call 33; refine (T.out _ (by repeat (first | refine Below.setCell ?_ (by simp) _ | refine Below.alloc ?_ (by simp) _ | exact Below.refl _ _))).mono ?_; rintro e w1 ⟨rfl, hb⟩; have HB : Kpt (Below w.heap.size w w1) := ⟨Below.trans (by repeat (first | refine Below.setCell ?_ (by simp) _ | refine Below.alloc ?_ (by simp) _ | exact Below.refl _ _)) (hb.mono (by simp; omega))⟩; have B0 : Kpt (Bx w1 w.heap.size zeroC) := ⟨((bx_new w zeroC 27).alloc _).below hb (by simp; omega)⟩; clear hb)
    | (refine wpList_store_bx rfl 27 (.tmp 2) (.tmp 102) rfl w.heap.size zeroC R.vals rfl rfl B0.out rfl infoC (Cm.vals_one _) rfl ?_; intro w2 hB2 hg2; replace hB2 := Kpt.mk hB2; replace hg2 := Kpt.mk hg2))
  refine bodyPost_ret (v := .agg R.vals) (by simp [results, Try.results20, asAddr, run_res hB2.out 27 _ Try.underlying27 rfl infoC]) rfl ⟨rfl, ?_⟩
  exact HB.out.grown hg2.out (by have := B0.out.lt; omega) (fun k h => by cases h; exact Nat.le_refl _)

set_option maxRecDepth 100000 in
set_option maxHeartbeats 1000000 in
theorem take_138 (b off cap : Nat) (zs : List Int) (w : World) (hb : B.Bytes zs) (hc : Cells w b off 16 zs) (h0 : zs.getD 0 0 = 138) :
    Calls Try.prog 20 #[.slice (some ⟨b, off, none⟩) 16 cap] w fun e w' => e = .returned (.agg (cmdL 138 zs).vals) ∧ Below w.heap.size w w' := by
  have T : Kpt (∀ W, Below w.heap.size w W → Calls Try.prog 33 #[.agg #[.int .u8 8, .bool false, .int .u64 0, .int .u64 0, .int .i64 0, .bool false, .int .u8 0, .bool false, .bool false, .int .u8 0, .int .u8 0, .bool false, .int .u8 0, .int .u8 0, .bool false], .slice (some ⟨b, off, none⟩) 16 cap] W fun e w' => e = .returned (.agg (cmdL 138 zs).vals) ∧ Below W.heap.size W w') := ⟨fun W hW => takeBlocks_138 b off cap zs W hb (hc.below hW hc.1)⟩
  have c0 := hc.2 0 (by decide)
  have hlt := hc.1
  rw [h0, Nat.add_zero] at c0
  clear hc hb h0
  generalize cmdL 138 zs = R at *
  go_enter Try.func20, Try.ntmps20
  go_wp2_with (first
    | (go_at_call 30; refine (kind_138 _).mono ?_; rintro e w' ⟨rfl, rfl⟩)
    | (go_at_call 33; refine (T.out _ (by repeat (first | refine Below.setCell ?_ (by simp) _ | refine Below.alloc ?_ (by simp) _ | exact Below.refl _ _))).mono ?_; rintro e w1 ⟨rfl, hb⟩; have HB : Kpt (Below w.heap.size w w1) := ⟨Below.trans (by repeat (first | refine Below.setCell ?_ (by simp) _ | refine Below.alloc ?_ (by simp) _ | exact Below.refl _ _)) (hb.mono (by simp; omega))⟩; have B0 : Kpt (Bx w1 w.heap.size zeroC) := ⟨((bx_new w zeroC 27).alloc _).below hb (by simp; omega)⟩; clear hb)
    | (refine wpList_store_bx rfl 27 (.tmp 2) (.tmp 102) rfl w.heap.size zeroC R.vals rfl rfl B0.out rfl infoC (Cm.vals_one _) rfl ?_; intro w2 hB2 hg2; replace hB2 := Kpt.mk hB2; replace hg2 := Kpt.mk hg2))
  refine bodyPost_ret (v := .agg R.vals) (by simp [results, Try.results20, asAddr, run_res hB2.out 27 _ Try.underlying27 rfl infoC]) rfl ⟨rfl, ?_⟩
  exact HB.out.grown hg2.out (by have := B0.out.lt; omega) (fun k h => by cases h; exact Nat.le_refl _)

set_option maxRecDepth 100000 in
set_option maxHeartbeats 1000000 in
theorem take_137 (b off cap : Nat) (zs : List Int) (w : World) (hb : B.Bytes zs) (hc : Cells w b off 16 zs) (h0 : zs.getD 0 0 = 137) :
    Calls Try.prog 20 #[.slice (some ⟨b, off, none⟩) 16 cap] w fun e w' => e = .returned (.agg (cmdL 137 zs).vals) ∧ Below w.heap.size w w' := by
  have T : Kpt (∀ W, Below w.heap.size w W → Calls Try.prog 33 #[.agg #[.int .u8 14, .bool false, .int .u64 0, .int .u64 0, .int .i64 0, .bool false, .int .u8 0, .bool false, .bool false, .int .u8 0, .int .u8 0, .bool false, .int .u8 0, .int .u8 0, .bool false], .slice (some ⟨b, off, none⟩) 16 cap] W fun e w' => e = .returned (.agg (cmdL 137 zs).vals) ∧ Below W.heap.size W w') := ⟨fun W hW => takeBlocks_137 b off cap zs W hb (hc.below hW hc.1)⟩
  have c0 := hc.2 0 (by decide)
  have hlt := hc.1
  rw [h0, Nat.add_zero] at c0
  clear hc hb h0
  generalize cmdL 137 zs = R at *
  go_enter Try.func20, Try.ntmps20
  go_wp2_with (first
    | (go_at_call 30; refine (kind_137 _).mono ?_; rintro e w' ⟨rfl, rfl⟩)
    | (go_at_call 33; refine (T.out _ (by repeat (first | refine Below.setCell ?_ (by simp) _ | refine Below.alloc ?_ (by simp) _ | exact Below.refl _ _))).mono ?_; rintro e w1 ⟨rfl, hb⟩; have HB : Kpt (Below w.heap.size w w1) := ⟨Below.trans (by repeat (first | refine Below.setCell ?_ (by simp) _ | refine Below.alloc ?_ (by simp) _ | exact Below.refl _ _)) (hb.mono (by simp; omega))⟩; have B0 : Kpt (Bx w1 w.heap.size zeroC) := ⟨((bx_new w zeroC 27).alloc _).below hb (by simp; omega)⟩; clear hb)
    | (refine wpList_store_bx rfl 27 (.tmp 2) (.tmp 102) rfl w.heap.size zeroC R.vals rfl rfl B0.out rfl infoC (Cm.vals_one _) rfl ?_; intro w2 hB2 hg2; replace hB2 := Kpt.mk hB2; replace hg2 := Kpt.mk hg2))
  refine bodyPost_ret (v := .agg R.vals) (by simp [results, Try.results20, asAddr, run_res hB2.out 27 _ Try.underlying27 rfl infoC]) rfl ⟨rfl, ?_⟩
  exact HB.out.grown hg2.out (by have := B0.out.lt; omega) (fun k h => by cases h; exact Nat.le_refl _)

set_option maxRecDepth 100000 in
set_option maxHeartbeats 1000000 in
theorem take_145 (b off cap : Nat) (zs : List Int) (w : World) (hb : B.Bytes zs) (hc : Cells w b off 16 zs) (h0 : zs.getD 0 0 = 145) :
    Calls Try.prog 20 #[.slice (some ⟨b, off, none⟩) 16 cap] w fun e w' => e = .returned (.agg (cmdL 145 zs).vals) ∧ Below w.heap.size w w' := by
  have T : Kpt (∀ W, Below w.heap.size w W → Calls Try.prog 33 #[.agg #[.int .u8 11, .bool false, .int .u64 0, .int .u64 0, .int .i64 0, .bool false, .int .u8 0, .bool false, .bool false, .int .u8 0, .int .u8 0, .bool false, .int .u8 0, .int .u8 0, .bool false], .slice (some ⟨b, off, none⟩) 16 cap] W fun e w' => e = .returned (.agg (cmdL 145 zs).vals) ∧ Below W.heap.size W w') := ⟨fun W hW => takeBlocks_145 b off cap zs W hb (hc.below hW hc.1)⟩
  have c0 := hc.2 0 (by decide)
  have hlt := hc.1
  rw [h0, Nat.add_zero] at c0
  clear hc hb h0
  generalize cmdL 145 zs = R at *
  go_enter Try.func20, Try.ntmps20
  go_wp2_with (first
    | (go_at_call 30; refine (kind_145 _).mono ?_; rintro e w' ⟨rfl, rfl⟩)
    | (go_at_call 33; refine (T.out _ (by repeat (first | refine Below.setCell ?_ (by simp) _ | refine Below.alloc ?_ (by simp) _ | exact Below.refl _ _))).mono ?_; rintro e w1 ⟨rfl, hb⟩; have HB : Kpt (Below w.heap.size w w1) := ⟨Below.trans (by repeat (first | refine Below.setCell ?_ (by simp) _ | refine Below.alloc ?_ (by simp) _ | exact Below.refl _ _)) (hb.mono (by simp; omega))⟩; have B0 : Kpt (Bx w1 w.heap.size zeroC) := ⟨((bx_new w zeroC 27).alloc _).below hb (by simp; omega)⟩; clear hb)
    | (refine wpList_store_bx rfl 27 (.tmp 2) (.tmp 102) rfl w.heap.size zeroC R.vals rfl rfl B0.out rfl infoC (Cm.vals_one _) rfl ?_; intro w2 hB2 hg2; replace hB2 := Kpt.mk hB2; replace hg2 := Kpt.mk hg2))
  refine bodyPost_ret (v := .agg R.vals) (by simp [results, Try.results20, asAddr, run_res hB2.out 27 _ Try.underlying27 rfl infoC]) rfl ⟨rfl, ?_⟩
  exact HB.out.grown hg2.out (by have := B0.out.lt; omega) (fun k h => by cases h; exact Nat.le_refl _)

set_option maxRecDepth 100000 in
set_option maxHeartbeats 1000000 in
theorem take_147 (b off cap : Nat) (zs : List Int) (w : World) (hb : B.Bytes zs) (hc : Cells w b off 16 zs) (h0 : zs.getD 0 0 = 147) :
    Calls Try.prog 20 #[.slice (some ⟨b, off, none⟩) 16 cap] w fun e w' => e = .returned (.agg (cmdL 147 zs).vals) ∧ Below w.heap.size w w' := by
  have T : Kpt (∀ W, Below w.heap.size w W → Calls Try.prog 33 #[.agg #[.int .u8 12, .bool false, .int .u64 0, .int .u64 0, .int .i64 0, .bool false, .int .u8 0, .bool false, .bool false, .int .u8 0, .int .u8 0, .bool false, .int .u8 0, .int .u8 0, .bool false], .slice (some ⟨b, off, none⟩) 16 cap] W fun e w' => e = .returned (.agg (cmdL 147 zs).vals) ∧ Below W.heap.size W w') := ⟨fun W hW => takeBlocks_147 b off cap zs W hb (hc.below hW hc.1)⟩
  have c0 := hc.2 0 (by decide)
  have hlt := hc.1
  rw [h0, Nat.add_zero] at c0
  clear hc hb h0
  generalize cmdL 147 zs = R at *
  go_enter Try.func20, Try.ntmps20
  go_wp2_with (first
    | (go_at_call 30; refine (kind_147 _).mono ?_; rintro e w' ⟨rfl, rfl⟩)
    | (go_at_call 33; refine (T.out _ (by repeat (first | refine Below.setCell ?_ (by simp) _ | refine Below.alloc ?_ (by simp) _ | exact Below.refl _ _))).mono ?_; rintro e w1 ⟨rfl, hb⟩; have HB : Kpt (Below w.heap.size w w1) := ⟨Below.trans (by repeat (first | refine Below.setCell ?_ (by simp) _ | refine Below.alloc ?_ (by simp) _ | exact Below.refl _ _)) (hb.mono (by simp; omega))⟩; have B0 : Kpt (Bx w1 w.heap.size zeroC) := ⟨((bx_new w zeroC 27).alloc _).below hb (by simp; omega)⟩; clear hb)
    | (refine wpList_store_bx rfl 27 (.tmp 2) (.tmp 102) rfl w.heap.size zeroC R.vals rfl rfl B0.out rfl infoC (Cm.vals_one _) rfl ?_; intro w2 hB2 hg2; replace hB2 := Kpt.mk hB2; replace hg2 := Kpt.mk hg2))
  refine bodyPost_ret (v := .agg R.vals) (by simp [results, Try.results20, asAddr, run_res hB2.out 27 _ Try.underlying27 rfl infoC]) rfl ⟨rfl, ?_⟩
  exact HB.out.grown hg2.out (by have := B0.out.lt; omega) (fun k h => by cases h; exact Nat.le_refl _)
end Go.Proofs.Ytcgojpnjaloofaa
