/-
  The contract of take: single ones.
-/
import Derived.Test.YtcgojpnjaloofaaCBit
namespace Go.Proofs.Ytcgojpnjaloofaa
open Go.RowKit
set_option linter.unusedVariables false
set_option linter.unusedSimpArgs false
set_option maxRecDepth 100000 in
set_option maxHeartbeats 1000000 in
theorem take_0 (b off cap : Nat) (zs : List Int) (w : World) (hb : B.Bytes zs) (hc : Cells w b off 6 zs) (h0 : zs.getD 0 0 = 0) :
    Calls Try.prog 20 #[.slice (some ⟨b, off, none⟩) 6 cap] w fun e w' => e = .returned (.agg (cmdL 0 zs).vals) ∧ Below w.heap.size w w' := by
  have c0 := hc.2 0 (by decide)
  have z0 := hb 0
  have c1 := hc.2 1 (by decide)
  have z1 := hb 1
  have c2 := hc.2 2 (by decide)
  have z2 := hb 2
  have hlt := hc.1
  have hR : cmdL 0 zs = { kind := 1 } := rfl
  rw [hR]
  rw [h0, Nat.add_zero] at c0
  obtain ⟨y1, ez1⟩ : ∃ x, x = zs.getD 1 0 := ⟨_, rfl⟩
  rw [← ez1] at c1 z1
  try rw [← ez1]
  obtain ⟨y2, ez2⟩ : ∃ x, x = zs.getD 2 0 := ⟨_, rfl⟩
  rw [← ez2] at c2 z2
  try rw [← ez2]
  clear  ez1 ez2 hR hc hb h0
  simp only [Cm.vals]
  go_enter Try.func20, Try.ntmps20
  go_wp2_with (go_at_call 30; refine (kind_0 _).mono ?_; rintro e w' ⟨rfl, rfl⟩)
  refine bodyPost_ret (v := .agg #[.int .u8 1, .bool (false), .int .u64 0, .int .u64 0, .int .i64 0, .bool false, .int .u8 0, .bool false, .bool (false), .int .u8 0, .int .u8 0, .bool false, .int .u8 0, .int .u8 0, .bool false]) (by simp [results, Try.results20, go_sem]) rfl ⟨rfl, ?_⟩
  exact (by repeat (first | refine Below.drew ?_ | refine Below.setCell ?_ (by simp) _ | refine Below.alloc ?_ (by simp) _ | exact Below.refl _ _))

set_option maxRecDepth 100000 in
set_option maxHeartbeats 1000000 in
theorem take_3 (b off cap : Nat) (zs : List Int) (w : World) (hb : B.Bytes zs) (hc : Cells w b off 6 zs) (h0 : zs.getD 0 0 = 3) (hz : zs.getD 1 0 = 0 ∨ zs.getD 1 0 = 1) :
    Calls Try.prog 20 #[.slice (some ⟨b, off, none⟩) 6 cap] w fun e w' => e = .returned (.agg (cmdL 3 zs).vals) ∧ Below w.heap.size w w' := by
  have N1 := count_in b off 6 cap 4 1 zs w (by decide) (by decide) (by decide) (by decide) hb hc
  have c0 := hc.2 0 (by decide)
  have z0 := hb 0
  have c1 := hc.2 1 (by decide)
  have z1 := hb 1
  have c2 := hc.2 2 (by decide)
  have z2 := hb 2
  have hlt := hc.1
  have hR : cmdL 3 zs = { kind := 2, long := bt (zs.getD 1 0) 1, alloc := B.num zs 4 1 } := rfl
  rw [hR]
  obtain ⟨x1, e1⟩ : ∃ x, x = B.num zs 4 1 := ⟨_, rfl⟩
  rw [← e1] at N1 ⊢
  rw [h0, Nat.add_zero] at c0
  have q0 := bt_one _ hz
  obtain ⟨y1, ez1⟩ : ∃ x, x = zs.getD 1 0 := ⟨_, rfl⟩
  rw [← ez1] at c1 z1
  try rw [← ez1]
  obtain ⟨y2, ez2⟩ : ∃ x, x = zs.getD 2 0 := ⟨_, rfl⟩
  rw [← ez2] at c2 z2
  try rw [← ez2]
  rw [← ez1] at q0
  replace q0 := Kpt.mk q0
  clear hz
  clear e1 ez1 ez2 hR hc hb h0
  simp only [Cm.vals]
  go_enter Try.func20, Try.ntmps20
  go_wp2_with (first | (go_at_call 30; refine (kind_3 _).mono ?_; rintro e w' ⟨rfl, rfl⟩) | (go_at_call 31; refine (N1.out _ (by repeat (first | refine Below.drew ?_ | refine Below.setCell ?_ (by simp) _ | refine Below.alloc ?_ (by simp) _ | exact Below.refl _ _))).mono ?_; rintro e w' ⟨rfl, rfl⟩))
  refine bodyPost_ret (v := .agg #[.int .u8 2, .bool (bt y1 1), .int .u64 0, .int .u64 0, .int .i64 x1, .bool false, .int .u8 0, .bool false, .bool (false), .int .u8 0, .int .u8 0, .bool false, .int .u8 0, .int .u8 0, .bool false]) (by simp [results, Try.results20, go_sem, q0.out]) rfl ⟨rfl, ?_⟩
  exact (by repeat (first | refine Below.drew ?_ | refine Below.setCell ?_ (by simp) _ | refine Below.alloc ?_ (by simp) _ | exact Below.refl _ _))

set_option maxRecDepth 100000 in
set_option maxHeartbeats 1000000 in
theorem take_37 (b off cap : Nat) (zs : List Int) (w : World) (hb : B.Bytes zs) (hc : Cells w b off 10 zs) (h0 : zs.getD 0 0 = 37) :
    Calls Try.prog 20 #[.slice (some ⟨b, off, none⟩) 10 cap] w fun e w' => e = .returned (.agg (cmdL 37 zs).vals) ∧ Below w.heap.size w w' := by
  have c0 := hc.2 0 (by decide)
  have z0 := hb 0
  have c1 := hc.2 1 (by decide)
  have z1 := hb 1
  have c2 := hc.2 2 (by decide)
  have z2 := hb 2
  have hlt := hc.1
  have hR : cmdL 37 zs = { kind := 6 } := rfl
  rw [hR]
  rw [h0, Nat.add_zero] at c0
  obtain ⟨y1, ez1⟩ : ∃ x, x = zs.getD 1 0 := ⟨_, rfl⟩
  rw [← ez1] at c1 z1
  try rw [← ez1]
  obtain ⟨y2, ez2⟩ : ∃ x, x = zs.getD 2 0 := ⟨_, rfl⟩
  rw [← ez2] at c2 z2
  try rw [← ez2]
  clear  ez1 ez2 hR hc hb h0
  simp only [Cm.vals]
  go_enter Try.func20, Try.ntmps20
  go_wp2_with (go_at_call 30; refine (kind_37 _).mono ?_; rintro e w' ⟨rfl, rfl⟩)
  refine bodyPost_ret (v := .agg #[.int .u8 6, .bool (false), .int .u64 0, .int .u64 0, .int .i64 0, .bool false, .int .u8 0, .bool false, .bool (false), .int .u8 0, .int .u8 0, .bool false, .int .u8 0, .int .u8 0, .bool false]) (by simp [results, Try.results20, go_sem]) rfl ⟨rfl, ?_⟩
  exact (by repeat (first | refine Below.drew ?_ | refine Below.setCell ?_ (by simp) _ | refine Below.alloc ?_ (by simp) _ | exact Below.refl _ _))

set_option maxRecDepth 100000 in
set_option maxHeartbeats 1000000 in
theorem take_66 (b off cap : Nat) (zs : List Int) (w : World) (hb : B.Bytes zs) (hc : Cells w b off 10 zs) (h0 : zs.getD 0 0 = 66) :
    Calls Try.prog 20 #[.slice (some ⟨b, off, none⟩) 10 cap] w fun e w' => e = .returned (.agg (cmdL 66 zs).vals) ∧ Below w.heap.size w w' := by
  have N1 := count_in b off 10 cap 7 2 zs w (by decide) (by decide) (by decide) (by decide) hb hc
  have c0 := hc.2 0 (by decide)
  have z0 := hb 0
  have c1 := hc.2 1 (by decide)
  have z1 := hb 1
  have c2 := hc.2 2 (by decide)
  have z2 := hb 2
  have hlt := hc.1
  have hR : cmdL 66 zs = { kind := 13, alloc := B.num zs 7 2 } := rfl
  rw [hR]
  obtain ⟨x1, e1⟩ : ∃ x, x = B.num zs 7 2 := ⟨_, rfl⟩
  rw [← e1] at N1 ⊢
  rw [h0, Nat.add_zero] at c0
  obtain ⟨y1, ez1⟩ : ∃ x, x = zs.getD 1 0 := ⟨_, rfl⟩
  rw [← ez1] at c1 z1
  try rw [← ez1]
  obtain ⟨y2, ez2⟩ : ∃ x, x = zs.getD 2 0 := ⟨_, rfl⟩
  rw [← ez2] at c2 z2
  try rw [← ez2]
  clear e1 ez1 ez2 hR hc hb h0
  simp only [Cm.vals]
  go_enter Try.func20, Try.ntmps20
  go_wp2_with (first | (go_at_call 30; refine (kind_66 _).mono ?_; rintro e w' ⟨rfl, rfl⟩) | (go_at_call 31; refine (N1.out _ (by repeat (first | refine Below.drew ?_ | refine Below.setCell ?_ (by simp) _ | refine Below.alloc ?_ (by simp) _ | exact Below.refl _ _))).mono ?_; rintro e w' ⟨rfl, rfl⟩))
  refine bodyPost_ret (v := .agg #[.int .u8 13, .bool (false), .int .u64 0, .int .u64 0, .int .i64 x1, .bool false, .int .u8 0, .bool false, .bool (false), .int .u8 0, .int .u8 0, .bool false, .int .u8 0, .int .u8 0, .bool false]) (by simp [results, Try.results20, go_sem]) rfl ⟨rfl, ?_⟩
  exact (by repeat (first | refine Below.drew ?_ | refine Below.setCell ?_ (by simp) _ | refine Below.alloc ?_ (by simp) _ | exact Below.refl _ _))

set_option maxRecDepth 100000 in
set_option maxHeartbeats 1000000 in
theorem take_94 (b off cap : Nat) (zs : List Int) (w : World) (hb : B.Bytes zs) (hc : Cells w b off 10 zs) (h0 : zs.getD 0 0 = 94) :
    Calls Try.prog 20 #[.slice (some ⟨b, off, none⟩) 10 cap] w fun e w' => e = .returned (.agg (cmdL 94 zs).vals) ∧ Below w.heap.size w w' := by
  have N1 := count_in b off 10 cap 7 2 zs w (by decide) (by decide) (by decide) (by decide) hb hc
  have c0 := hc.2 0 (by decide)
  have z0 := hb 0
  have c1 := hc.2 1 (by decide)
  have z1 := hb 1
  have c2 := hc.2 2 (by decide)
  have z2 := hb 2
  have hlt := hc.1
  have hR : cmdL 94 zs = { kind := 15, service := zs.getD 1 0, alloc := B.num zs 7 2 } := rfl
  rw [hR]
  obtain ⟨x1, e1⟩ : ∃ x, x = B.num zs 7 2 := ⟨_, rfl⟩
  rw [← e1] at N1 ⊢
  rw [h0, Nat.add_zero] at c0
  obtain ⟨y1, ez1⟩ : ∃ x, x = zs.getD 1 0 := ⟨_, rfl⟩
  rw [← ez1] at c1 z1
  try rw [← ez1]
  obtain ⟨y2, ez2⟩ : ∃ x, x = zs.getD 2 0 := ⟨_, rfl⟩
  rw [← ez2] at c2 z2
  try rw [← ez2]
  clear e1 ez1 ez2 hR hc hb h0
  simp only [Cm.vals]
  go_enter Try.func20, Try.ntmps20
  go_wp2_with (first | (go_at_call 30; refine (kind_94 _).mono ?_; rintro e w' ⟨rfl, rfl⟩) | (go_at_call 31; refine (N1.out _ (by repeat (first | refine Below.drew ?_ | refine Below.setCell ?_ (by simp) _ | refine Below.alloc ?_ (by simp) _ | exact Below.refl _ _))).mono ?_; rintro e w' ⟨rfl, rfl⟩))
  refine bodyPost_ret (v := .agg #[.int .u8 15, .bool (false), .int .u64 0, .int .u64 0, .int .i64 x1, .bool false, .int .u8 0, .bool false, .bool (false), .int .u8 0, .int .u8 0, .bool false, .int .u8 y1, .int .u8 0, .bool false]) (by simp [results, Try.results20, go_sem]) rfl ⟨rfl, ?_⟩
  exact (by repeat (first | refine Below.drew ?_ | refine Below.setCell ?_ (by simp) _ | refine Below.alloc ?_ (by simp) _ | exact Below.refl _ _))

set_option maxRecDepth 100000 in
set_option maxHeartbeats 1000000 in
theorem take_131 (b off cap : Nat) (zs : List Int) (w : World) (hb : B.Bytes zs) (hc : Cells w b off 16 zs) (h0 : zs.getD 0 0 = 131) :
    Calls Try.prog 20 #[.slice (some ⟨b, off, none⟩) 16 cap] w fun e w' => e = .returned (.agg (cmdL 131 zs).vals) ∧ Below w.heap.size w w' := by
  have N1 := count_in b off 16 cap 10 4 zs w (by decide) (by decide) (by decide) (by decide) hb hc
  have c0 := hc.2 0 (by decide)
  have z0 := hb 0
  have c1 := hc.2 1 (by decide)
  have z1 := hb 1
  have c2 := hc.2 2 (by decide)
  have z2 := hb 2
  have hlt := hc.1
  have hR : cmdL 131 zs = { kind := 18, alloc := B.num zs 10 4 } := rfl
  rw [hR]
  obtain ⟨x1, e1⟩ : ∃ x, x = B.num zs 10 4 := ⟨_, rfl⟩
  rw [← e1] at N1 ⊢
  rw [h0, Nat.add_zero] at c0
  obtain ⟨y1, ez1⟩ : ∃ x, x = zs.getD 1 0 := ⟨_, rfl⟩
  rw [← ez1] at c1 z1
  try rw [← ez1]
  obtain ⟨y2, ez2⟩ : ∃ x, x = zs.getD 2 0 := ⟨_, rfl⟩
  rw [← ez2] at c2 z2
  try rw [← ez2]
  clear e1 ez1 ez2 hR hc hb h0
  simp only [Cm.vals]
  go_enter Try.func20, Try.ntmps20
  go_wp2_with (first | (go_at_call 30; refine (kind_131 _).mono ?_; rintro e w' ⟨rfl, rfl⟩) | (go_at_call 31; refine (N1.out _ (by repeat (first | refine Below.drew ?_ | refine Below.setCell ?_ (by simp) _ | refine Below.alloc ?_ (by simp) _ | exact Below.refl _ _))).mono ?_; rintro e w' ⟨rfl, rfl⟩))
  refine bodyPost_ret (v := .agg #[.int .u8 18, .bool (false), .int .u64 0, .int .u64 0, .int .i64 x1, .bool false, .int .u8 0, .bool false, .bool (false), .int .u8 0, .int .u8 0, .bool false, .int .u8 0, .int .u8 0, .bool false]) (by simp [results, Try.results20, go_sem]) rfl ⟨rfl, ?_⟩
  exact (by repeat (first | refine Below.drew ?_ | refine Below.setCell ?_ (by simp) _ | refine Below.alloc ?_ (by simp) _ | exact Below.refl _ _))

set_option maxRecDepth 100000 in
set_option maxHeartbeats 1000000 in
theorem take_158 (b off cap : Nat) (zs : List Int) (w : World) (hb : B.Bytes zs) (hc : Cells w b off 16 zs) (h0 : zs.getD 0 0 = 158) :
    Calls Try.prog 20 #[.slice (some ⟨b, off, none⟩) 16 cap] w fun e w' => e = .returned (.agg (cmdL 158 zs).vals) ∧ Below w.heap.size w w' := by
  have N1 := count_in b off 16 cap 10 4 zs w (by decide) (by decide) (by decide) (by decide) hb hc
  have c0 := hc.2 0 (by decide)
  have z0 := hb 0
  have c1 := hc.2 1 (by decide)
  have z1 := hb 1
  have c2 := hc.2 2 (by decide)
  have z2 := hb 2
  have hlt := hc.1
  have hR : cmdL 158 zs = { kind := 6, long := true, alloc := B.num zs 10 4 } := rfl
  rw [hR]
  obtain ⟨x1, e1⟩ : ∃ x, x = B.num zs 10 4 := ⟨_, rfl⟩
  rw [← e1] at N1 ⊢
  rw [h0, Nat.add_zero] at c0
  obtain ⟨y1, ez1⟩ : ∃ x, x = zs.getD 1 0 := ⟨_, rfl⟩
  rw [← ez1] at c1 z1
  try rw [← ez1]
  obtain ⟨y2, ez2⟩ : ∃ x, x = zs.getD 2 0 := ⟨_, rfl⟩
  rw [← ez2] at c2 z2
  try rw [← ez2]
  clear e1 ez1 ez2 hR hc hb h0
  simp only [Cm.vals]
  go_enter Try.func20, Try.ntmps20
  go_wp2_with (first | (go_at_call 30; refine (kind_158 _).mono ?_; rintro e w' ⟨rfl, rfl⟩) | (go_at_call 31; refine (N1.out _ (by repeat (first | refine Below.drew ?_ | refine Below.setCell ?_ (by simp) _ | refine Below.alloc ?_ (by simp) _ | exact Below.refl _ _))).mono ?_; rintro e w' ⟨rfl, rfl⟩))
  refine bodyPost_ret (v := .agg #[.int .u8 6, .bool (true), .int .u64 0, .int .u64 0, .int .i64 x1, .bool false, .int .u8 0, .bool false, .bool (false), .int .u8 0, .int .u8 0, .bool false, .int .u8 0, .int .u8 0, .bool false]) (by simp [results, Try.results20, go_sem]) rfl ⟨rfl, ?_⟩
  exact (by repeat (first | refine Below.drew ?_ | refine Below.setCell ?_ (by simp) _ | refine Below.alloc ?_ (by simp) _ | exact Below.refl _ _))

set_option maxRecDepth 100000 in
set_option maxHeartbeats 1000000 in
theorem take_160 (b off cap : Nat) (zs : List Int) (w : World) (hb : B.Bytes zs) (hc : Cells w b off 12 zs) (h0 : zs.getD 0 0 = 160) :
    Calls Try.prog 20 #[.slice (some ⟨b, off, none⟩) 12 cap] w fun e w' => e = .returned (.agg (cmdL 160 zs).vals) ∧ Below w.heap.size w w' := by
  have N1 := count_in b off 12 cap 6 4 zs w (by decide) (by decide) (by decide) (by decide) hb hc
  have c0 := hc.2 0 (by decide)
  have z0 := hb 0
  have c1 := hc.2 1 (by decide)
  have z1 := hb 1
  have c2 := hc.2 2 (by decide)
  have z2 := hb 2
  have hlt := hc.1
  have hR : cmdL 160 zs = { kind := 17, page := zs.getD 2 0, alloc := B.num zs 6 4 } := rfl
  rw [hR]
  obtain ⟨x1, e1⟩ : ∃ x, x = B.num zs 6 4 := ⟨_, rfl⟩
  rw [← e1] at N1 ⊢
  rw [h0, Nat.add_zero] at c0
  obtain ⟨y1, ez1⟩ : ∃ x, x = zs.getD 1 0 := ⟨_, rfl⟩
  rw [← ez1] at c1 z1
  try rw [← ez1]
  obtain ⟨y2, ez2⟩ : ∃ x, x = zs.getD 2 0 := ⟨_, rfl⟩
  rw [← ez2] at c2 z2
  try rw [← ez2]
  clear e1 ez1 ez2 hR hc hb h0
  simp only [Cm.vals]
  go_enter Try.func20, Try.ntmps20
  go_wp2_with (first | (go_at_call 30; refine (kind_160 _).mono ?_; rintro e w' ⟨rfl, rfl⟩) | (go_at_call 31; refine (N1.out _ (by repeat (first | refine Below.drew ?_ | refine Below.setCell ?_ (by simp) _ | refine Below.alloc ?_ (by simp) _ | exact Below.refl _ _))).mono ?_; rintro e w' ⟨rfl, rfl⟩))
  refine bodyPost_ret (v := .agg #[.int .u8 17, .bool (false), .int .u64 0, .int .u64 0, .int .i64 x1, .bool false, .int .u8 0, .bool false, .bool (false), .int .u8 y2, .int .u8 0, .bool false, .int .u8 0, .int .u8 0, .bool false]) (by simp [results, Try.results20, go_sem]) rfl ⟨rfl, ?_⟩
  exact (by repeat (first | refine Below.drew ?_ | refine Below.setCell ?_ (by simp) _ | refine Below.alloc ?_ (by simp) _ | exact Below.refl _ _))
end Go.Proofs.Ytcgojpnjaloofaa
