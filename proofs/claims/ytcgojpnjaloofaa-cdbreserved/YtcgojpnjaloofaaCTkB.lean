/-
  The contract of take: two that draw.
-/
import Derived.Test.YtcgojpnjaloofaaCBit
namespace Go.Proofs.Ytcgojpnjaloofaa
open Go.RowKit
set_option linter.unusedVariables false
set_option linter.unusedSimpArgs false
set_option maxRecDepth 100000 in
set_option maxHeartbeats 1000000 in
theorem take_18 (b off cap : Nat) (zs : List Int) (w : World) (hb : B.Bytes zs) (hc : Cells w b off 6 zs) (h0 : zs.getD 0 0 = 18) (hz : zs.getD 1 0 = 0 ∨ zs.getD 1 0 = 1) :
    Calls Try.prog 20 #[.slice (some ⟨b, off, none⟩) 6 cap] w fun e w' => e = .returned (.agg (cmdL 18 zs).vals) ∧ Below w.heap.size w w' := by
  have N1 := count_in b off 6 cap 3 2 zs w (by decide) (by decide) (by decide) (by decide) hb hc
  have c0 := hc.2 0 (by decide)
  have z0 := hb 0
  have c1 := hc.2 1 (by decide)
  have z1 := hb 1
  have c2 := hc.2 2 (by decide)
  have z2 := hb 2
  have hlt := hc.1
  have hR : cmdL 18 zs = { kind := 3, evpd := bt (zs.getD 1 0) 1, page := zs.getD 2 0, alloc := B.num zs 3 2 } := rfl
  rw [hR]
  obtain ⟨x1, e1⟩ : ∃ x, x = B.num zs 3 2 := ⟨_, rfl⟩
  rw [← e1] at N1 ⊢
  rw [h0, Nat.add_zero] at c0
  have q0 := bt_one _ hz
  obtain ⟨y1, ez1⟩ : ∃ x, x = zs.getD 1 0 := ⟨_, rfl⟩
  rw [← ez1] at c1 z1
  try rw [← ez1]
  obtain ⟨y2, ez2⟩ : ∃ x, x = zs.getD 2 0 := ⟨_, rfl⟩
  rw [← ez2] at c2 z2
  try rw [← ez2]
  rw [← ez1] at q0
  replace q0 := Kpt.mk q0
  clear hz
  clear e1 ez1 ez2 hR hc hb h0
  simp only [Cm.vals]
  go_enter Try.func20, Try.ntmps20
  go_wp2_with (first | (go_at_call 30; refine (kind_18 _).mono ?_; rintro e w' ⟨rfl, rfl⟩) | (go_at_call 31; refine (N1.out _ (by repeat (first | refine Below.drew ?_ | refine Below.setCell ?_ (by simp) _ | refine Below.alloc ?_ (by simp) _ | exact Below.refl _ _))).mono ?_; rintro e w' ⟨rfl, rfl⟩))
  go_region
  all_goals go_wp2_with (first | (go_at_call 30; refine (kind_18 _).mono ?_; rintro e w' ⟨rfl, rfl⟩) | (go_at_call 31; refine (N1.out _ (by repeat (first | refine Below.drew ?_ | refine Below.setCell ?_ (by simp) _ | refine Below.alloc ?_ (by simp) _ | exact Below.refl _ _))).mono ?_; rintro e w' ⟨rfl, rfl⟩))
  all_goals
    refine bodyPost_ret (v := .agg #[.int .u8 3, .bool (false), .int .u64 0, .int .u64 0, .int .i64 x1, .bool false, .int .u8 0, .bool false, .bool (bt y1 1), .int .u8 y2, .int .u8 0, .bool false, .int .u8 0, .int .u8 0, .bool false]) (by simp [results, Try.results20, go_sem, q0.out]) rfl ⟨rfl, ?_⟩
    exact (by repeat (first | refine Below.drew ?_ | refine Below.setCell ?_ (by simp) _ | refine Below.alloc ?_ (by simp) _ | exact Below.refl _ _))

set_option maxRecDepth 100000 in
set_option maxHeartbeats 1000000 in
theorem take_95 (b off cap : Nat) (zs : List Int) (w : World) (hb : B.Bytes zs) (hc : Cells w b off 10 zs) (h0 : zs.getD 0 0 = 95) :
    Calls Try.prog 20 #[.slice (some ⟨b, off, none⟩) 10 cap] w fun e w' => e = .returned (.agg (cmdL 95 zs).vals) ∧ Below w.heap.size w w' := by
  have N1 := count_in b off 10 cap 5 4 zs w (by decide) (by decide) (by decide) (by decide) hb hc
  have c0 := hc.2 0 (by decide)
  have z0 := hb 0
  have c1 := hc.2 1 (by decide)
  have z1 := hb 1
  have c2 := hc.2 2 (by decide)
  have z2 := hb 2
  have hlt := hc.1
  have hR : cmdL 95 zs = { kind := 16, service := zs.getD 1 0, type := zs.getD 2 0, alloc := B.num zs 5 4 } := rfl
  rw [hR]
  obtain ⟨x1, e1⟩ : ∃ x, x = B.num zs 5 4 := ⟨_, rfl⟩
  rw [← e1] at N1 ⊢
  rw [h0, Nat.add_zero] at c0
  obtain ⟨y1, ez1⟩ : ∃ x, x = zs.getD 1 0 := ⟨_, rfl⟩
  rw [← ez1] at c1 z1
  try rw [← ez1]
  obtain ⟨y2, ez2⟩ : ∃ x, x = zs.getD 2 0 := ⟨_, rfl⟩
  rw [← ez2] at c2 z2
  try rw [← ez2]
  clear e1 ez1 ez2 hR hc hb h0
  simp only [Cm.vals]
  go_enter Try.func20, Try.ntmps20
  go_wp2_with (first | (go_at_call 30; refine (kind_95 _).mono ?_; rintro e w' ⟨rfl, rfl⟩) | (go_at_call 31; refine (N1.out _ (by repeat (first | refine Below.drew ?_ | refine Below.setCell ?_ (by simp) _ | refine Below.alloc ?_ (by simp) _ | exact Below.refl _ _))).mono ?_; rintro e w' ⟨rfl, rfl⟩))
  go_region
  all_goals go_wp2_with (first | (go_at_call 30; refine (kind_95 _).mono ?_; rintro e w' ⟨rfl, rfl⟩) | (go_at_call 31; refine (N1.out _ (by repeat (first | refine Below.drew ?_ | refine Below.setCell ?_ (by simp) _ | refine Below.alloc ?_ (by simp) _ | exact Below.refl _ _))).mono ?_; rintro e w' ⟨rfl, rfl⟩))
  all_goals
    refine bodyPost_ret (v := .agg #[.int .u8 16, .bool (false), .int .u64 0, .int .u64 0, .int .i64 x1, .bool false, .int .u8 0, .bool false, .bool (false), .int .u8 0, .int .u8 0, .bool false, .int .u8 y1, .int .u8 y2, .bool false]) (by simp [results, Try.results20, go_sem]) rfl ⟨rfl, ?_⟩
    exact (by repeat (first | refine Below.drew ?_ | refine Below.setCell ?_ (by simp) _ | refine Below.alloc ?_ (by simp) _ | exact Below.refl _ _))
end Go.Proofs.Ytcgojpnjaloofaa
