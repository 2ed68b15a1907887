/-
  The contract of take: on pages.
-/
import Derived.Test.YtcgojpnjaloofaaCTm
namespace Go.Proofs.Ytcgojpnjaloofaa
open Go.RowKit
set_option linter.unusedVariables false
set_option linter.unusedSimpArgs false
set_option maxRecDepth 100000 in
set_option maxHeartbeats 1000000 in
theorem take_21 (b off cap : Nat) (zs : List Int) (w : World) (hb : B.Bytes zs) (hc : Cells w b off 6 zs) (h0 : zs.getD 0 0 = 21) :
    Calls Try.prog 20 #[.slice (some ⟨b, off, none⟩) 6 cap] w fun e w' => e = .returned (.agg (cmdL 21 zs).vals) ∧ Below w.heap.size w w' := by
  have T : Kpt (∀ W, Below w.heap.size w W → Calls Try.prog 32 #[.agg #[.int .u8 4, .bool false, .int .u64 0, .int .u64 0, .int .i64 0, .bool false, .int .u8 0, .bool false, .bool false, .int .u8 0, .int .u8 0, .bool false, .int .u8 0, .int .u8 0, .bool false], .slice (some ⟨b, off, none⟩) 6 cap] W fun e w' => e = .returned (.agg (cmdL 21 zs).vals) ∧ Below W.heap.size W w') := ⟨fun W hW => takeMode_21 b off cap zs W hb (hc.below hW hc.1)⟩
  have c0 := hc.2 0 (by decide)
  have hlt := hc.1
  rw [h0, Nat.add_zero] at c0
  clear hc hb h0
  generalize cmdL 21 zs = R at *
  go_enter Try.func20, Try.ntmps20
  go_wp2_with (first
    | (go_at_call 30; refine (kind_21 _).mono ?_; rintro e w' ⟨rfl, rfl⟩)
    | (go_at_call 32; refine (T.out _ (by repeat (first | refine Below.setCell ?_ (by simp) _ | refine Below.alloc ?_ (by simp) _ | exact Below.refl _ _))).mono ?_; rintro e w1 ⟨rfl, hb⟩; have HB : Kpt (Below w.heap.size w w1) := ⟨Below.trans (by repeat (first | refine Below.setCell ?_ (by simp) _ | refine Below.alloc ?_ (by simp) _ | exact Below.refl _ _)) (hb.mono (by simp; omega))⟩; have B0 : Kpt (Bx w1 w.heap.size zeroC) := ⟨((bx_new w zeroC 27).alloc _).below hb (by simp; omega)⟩; clear hb)
    | (refine wpList_store_bx rfl 27 (.tmp 2) (.tmp 40) rfl w.heap.size zeroC R.vals rfl rfl B0.out rfl infoC (Cm.vals_one _) rfl ?_; intro w2 hB2 hg2; replace hB2 := Kpt.mk hB2; replace hg2 := Kpt.mk hg2))
  refine bodyPost_ret (v := .agg R.vals) (by simp [results, Try.results20, asAddr, run_res hB2.out 27 _ Try.underlying27 rfl infoC]) rfl ⟨rfl, ?_⟩
  exact HB.out.grown hg2.out (by have := B0.out.lt; omega) (fun k h => by cases h; exact Nat.le_refl _)

set_option maxRecDepth 100000 in
set_option maxHeartbeats 1000000 in
theorem take_85 (b off cap : Nat) (zs : List Int) (w : World) (hb : B.Bytes zs) (hc : Cells w b off 10 zs) (h0 : zs.getD 0 0 = 85) :
    Calls Try.prog 20 #[.slice (some ⟨b, off, none⟩) 10 cap] w fun e w' => e = .returned (.agg (cmdL 85 zs).vals) ∧ Below w.heap.size w w' := by
  have T : Kpt (∀ W, Below w.heap.size w W → Calls Try.prog 32 #[.agg #[.int .u8 4, .bool false, .int .u64 0, .int .u64 0, .int .i64 0, .bool false, .int .u8 0, .bool false, .bool false, .int .u8 0, .int .u8 0, .bool false, .int .u8 0, .int .u8 0, .bool false], .slice (some ⟨b, off, none⟩) 10 cap] W fun e w' => e = .returned (.agg (cmdL 85 zs).vals) ∧ Below W.heap.size W w') := ⟨fun W hW => takeMode_85 b off cap zs W hb (hc.below hW hc.1)⟩
  have c0 := hc.2 0 (by decide)
  have hlt := hc.1
  rw [h0, Nat.add_zero] at c0
  clear hc hb h0
  generalize cmdL 85 zs = R at *
  go_enter Try.func20, Try.ntmps20
  go_wp2_with (first
    | (go_at_call 30; refine (kind_85 _).mono ?_; rintro e w' ⟨rfl, rfl⟩)
    | (go_at_call 32; refine (T.out _ (by repeat (first | refine Below.setCell ?_ (by simp) _ | refine Below.alloc ?_ (by simp) _ | exact Below.refl _ _))).mono ?_; rintro e w1 ⟨rfl, hb⟩; have HB : Kpt (Below w.heap.size w w1) := ⟨Below.trans (by repeat (first | refine Below.setCell ?_ (by simp) _ | refine Below.alloc ?_ (by simp) _ | exact Below.refl _ _)) (hb.mono (by simp; omega))⟩; have B0 : Kpt (Bx w1 w.heap.size zeroC) := ⟨((bx_new w zeroC 27).alloc _).below hb (by simp; omega)⟩; clear hb)
    | (refine wpList_store_bx rfl 27 (.tmp 2) (.tmp 40) rfl w.heap.size zeroC R.vals rfl rfl B0.out rfl infoC (Cm.vals_one _) rfl ?_; intro w2 hB2 hg2; replace hB2 := Kpt.mk hB2; replace hg2 := Kpt.mk hg2))
  refine bodyPost_ret (v := .agg R.vals) (by simp [results, Try.results20, asAddr, run_res hB2.out 27 _ Try.underlying27 rfl infoC]) rfl ⟨rfl, ?_⟩
  exact HB.out.grown hg2.out (by have := B0.out.lt; omega) (fun k h => by cases h; exact Nat.le_refl _)

set_option maxRecDepth 100000 in
set_option maxHeartbeats 1000000 in
theorem take_26 (b off cap : Nat) (zs : List Int) (w : World) (hb : B.Bytes zs) (hc : Cells w b off 6 zs) (h0 : zs.getD 0 0 = 26) :
    Calls Try.prog 20 #[.slice (some ⟨b, off, none⟩) 6 cap] w fun e w' => e = .returned (.agg (cmdL 26 zs).vals) ∧ Below w.heap.size w w' := by
  have T : Kpt (∀ W, Below w.heap.size w W → Calls Try.prog 32 #[.agg #[.int .u8 5, .bool false, .int .u64 0, .int .u64 0, .int .i64 0, .bool false, .int .u8 0, .bool false, .bool false, .int .u8 0, .int .u8 0, .bool false, .int .u8 0, .int .u8 0, .bool false], .slice (some ⟨b, off, none⟩) 6 cap] W fun e w' => e = .returned (.agg (cmdL 26 zs).vals) ∧ Below W.heap.size W w') := ⟨fun W hW => takeMode_26 b off cap zs W hb (hc.below hW hc.1)⟩
  have c0 := hc.2 0 (by decide)
  have hlt := hc.1
  rw [h0, Nat.add_zero] at c0
  clear hc hb h0
  generalize cmdL 26 zs = R at *
  go_enter Try.func20, Try.ntmps20
  go_wp2_with (first
    | (go_at_call 30; refine (kind_26 _).mono ?_; rintro e w' ⟨rfl, rfl⟩)
    | (go_at_call 32; refine (T.out _ (by repeat (first | refine Below.setCell ?_ (by simp) _ | refine Below.alloc ?_ (by simp) _ | exact Below.refl _ _))).mono ?_; rintro e w1 ⟨rfl, hb⟩; have HB : Kpt (Below w.heap.size w w1) := ⟨Below.trans (by repeat (first | refine Below.setCell ?_ (by simp) _ | refine Below.alloc ?_ (by simp) _ | exact Below.refl _ _)) (hb.mono (by simp; omega))⟩; have B0 : Kpt (Bx w1 w.heap.size zeroC) := ⟨((bx_new w zeroC 27).alloc _).below hb (by simp; omega)⟩; clear hb)
    | (refine wpList_store_bx rfl 27 (.tmp 2) (.tmp 40) rfl w.heap.size zeroC R.vals rfl rfl B0.out rfl infoC (Cm.vals_one _) rfl ?_; intro w2 hB2 hg2; replace hB2 := Kpt.mk hB2; replace hg2 := Kpt.mk hg2))
  refine bodyPost_ret (v := .agg R.vals) (by simp [results, Try.results20, asAddr, run_res hB2.out 27 _ Try.underlying27 rfl infoC]) rfl ⟨rfl, ?_⟩
  exact HB.out.grown hg2.out (by have := B0.out.lt; omega) (fun k h => by cases h; exact Nat.le_refl _)

set_option maxRecDepth 100000 in
set_option maxHeartbeats 1000000 in
theorem take_90 (b off cap : Nat) (zs : List Int) (w : World) (hb : B.Bytes zs) (hc : Cells w b off 10 zs) (h0 : zs.getD 0 0 = 90) :
    Calls Try.prog 20 #[.slice (some ⟨b, off, none⟩) 10 cap] w fun e w' => e = .returned (.agg (cmdL 90 zs).vals) ∧ Below w.heap.size w w' := by
  have T : Kpt (∀ W, Below w.heap.size w W → Calls Try.prog 32 #[.agg #[.int .u8 5, .bool false, .int .u64 0, .int .u64 0, .int .i64 0, .bool false, .int .u8 0, .bool false, .bool false, .int .u8 0, .int .u8 0, .bool false, .int .u8 0, .int .u8 0, .bool false], .slice (some ⟨b, off, none⟩) 10 cap] W fun e w' => e = .returned (.agg (cmdL 90 zs).vals) ∧ Below W.heap.size W w') := ⟨fun W hW => takeMode_90 b off cap zs W hb (hc.below hW hc.1)⟩
  have c0 := hc.2 0 (by decide)
  have hlt := hc.1
  rw [h0, Nat.add_zero] at c0
  clear hc hb h0
  generalize cmdL 90 zs = R at *
  go_enter Try.func20, Try.ntmps20
  go_wp2_with (first
    | (go_at_call 30; refine (kind_90 _).mono ?_; rintro e w' ⟨rfl, rfl⟩)
    | (go_at_call 32; refine (T.out _ (by repeat (first | refine Below.setCell ?_ (by simp) _ | refine Below.alloc ?_ (by simp) _ | exact Below.refl _ _))).mono ?_; rintro e w1 ⟨rfl, hb⟩; have HB : Kpt (Below w.heap.size w w1) := ⟨Below.trans (by repeat (first | refine Below.setCell ?_ (by simp) _ | refine Below.alloc ?_ (by simp) _ | exact Below.refl _ _)) (hb.mono (by simp; omega))⟩; have B0 : Kpt (Bx w1 w.heap.size zeroC) := ⟨((bx_new w zeroC 27).alloc _).below hb (by simp; omega)⟩; clear hb)
    | (refine wpList_store_bx rfl 27 (.tmp 2) (.tmp 40) rfl w.heap.size zeroC R.vals rfl rfl B0.out rfl infoC (Cm.vals_one _) rfl ?_; intro w2 hB2 hg2; replace hB2 := Kpt.mk hB2; replace hg2 := Kpt.mk hg2))
  refine bodyPost_ret (v := .agg R.vals) (by simp [results, Try.results20, asAddr, run_res hB2.out 27 _ Try.underlying27 rfl infoC]) rfl ⟨rfl, ?_⟩
  exact HB.out.grown hg2.out (by have := B0.out.lt; omega) (fun k h => by cases h; exact Nat.le_refl _)
end Go.Proofs.Ytcgojpnjaloofaa
