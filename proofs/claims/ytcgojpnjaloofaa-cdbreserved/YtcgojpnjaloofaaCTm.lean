/-
  The contract of takeMode.
-/
import Derived.Test.YtcgojpnjaloofaaCBit
namespace Go.Proofs.Ytcgojpnjaloofaa
open Go.RowKit
set_option linter.unusedVariables false
set_option linter.unusedSimpArgs false
set_option maxRecDepth 100000 in
set_option maxHeartbeats 1000000 in
theorem takeMode_21 (b off cap : Nat) (zs : List Int) (w : World) (hb : B.Bytes zs) (hc : Cells w b off 6 zs) :
    Calls Try.prog 32 #[.agg ({ kind := 4 } : Cm).vals, .slice (some ⟨b, off, none⟩) 6 cap] w fun e w' => e = .returned (.agg (cmdL 21 zs).vals) ∧ Below w.heap.size w w' := by
  have N1 := count_in b off 6 cap 4 1 zs w (by decide) (by decide) (by decide) (by decide) hb hc
  have c0 := hc.2 0 (by decide)
  have z0 := hb 0
  have c1 := hc.2 1 (by decide)
  have z1 := hb 1
  have c2 := hc.2 2 (by decide)
  have z2 := hb 2
  have hlt := hc.1
  have hR : cmdL 21 zs = { kind := 4, save := bt (zs.getD 1 0) 1, alloc := B.num zs 4 1 } := rfl
  rw [hR]
  obtain ⟨x1, e1⟩ : ∃ x, x = B.num zs 4 1 := ⟨_, rfl⟩
  rw [← e1] at N1 ⊢
  obtain ⟨y1, ez1⟩ : ∃ x, x = zs.getD 1 0 := ⟨_, rfl⟩
  rw [← ez1] at c1 z1
  try rw [← ez1]
  obtain ⟨y2, ez2⟩ : ∃ x, x = zs.getD 2 0 := ⟨_, rfl⟩
  rw [← ez2] at c2 z2
  try rw [← ez2]
  obtain ⟨q1, _⟩ := bt_of y1 z1
  obtain ⟨_, _, _, _, q63⟩ := bt_of y2 z2
  replace q1 := Kpt.mk q1; replace q63 := Kpt.mk q63
  clear e1 ez1 ez2 hR hc hb c0 z0
  simp only [Cm.vals]
  go_enter Try.func32, Try.ntmps32
  go_wp2_with (go_at_call 31; refine (N1.out _ (by repeat (first | refine Below.setCell ?_ (by simp) _ | refine Below.alloc ?_ (by simp) _ | exact Below.refl _ _))).mono ?_; rintro e w' ⟨rfl, rfl⟩)
  refine bodyPost_ret (v := .agg #[.int .u8 4, .bool false, .int .u64 0, .int .u64 0, .int .i64 x1, .bool false, .int .u8 0, .bool false, .bool false, .int .u8 (0), .int .u8 (0), .bool (bt y1 1), .int .u8 0, .int .u8 0, .bool false]) (by simp [results, Try.results32, go_sem, q1.out, q63.out]) rfl ⟨rfl, ?_⟩
  exact (by repeat (first | refine Below.drew ?_ | refine Below.setCell ?_ (by simp) _ | refine Below.alloc ?_ (by simp) _ | exact Below.refl _ _))

set_option maxRecDepth 100000 in
set_option maxHeartbeats 1000000 in
theorem takeMode_85 (b off cap : Nat) (zs : List Int) (w : World) (hb : B.Bytes zs) (hc : Cells w b off 10 zs) :
    Calls Try.prog 32 #[.agg ({ kind := 4 } : Cm).vals, .slice (some ⟨b, off, none⟩) 10 cap] w fun e w' => e = .returned (.agg (cmdL 85 zs).vals) ∧ Below w.heap.size w w' := by
  have N1 := count_in b off 10 cap 7 2 zs w (by decide) (by decide) (by decide) (by decide) hb hc
  have c0 := hc.2 0 (by decide)
  have z0 := hb 0
  have c1 := hc.2 1 (by decide)
  have z1 := hb 1
  have c2 := hc.2 2 (by decide)
  have z2 := hb 2
  have hlt := hc.1
  have hR : cmdL 85 zs = { kind := 4, long := true, save := bt (zs.getD 1 0) 1, alloc := B.num zs 7 2 } := rfl
  rw [hR]
  obtain ⟨x1, e1⟩ : ∃ x, x = B.num zs 7 2 := ⟨_, rfl⟩
  rw [← e1] at N1 ⊢
  obtain ⟨y1, ez1⟩ : ∃ x, x = zs.getD 1 0 := ⟨_, rfl⟩
  rw [← ez1] at c1 z1
  try rw [← ez1]
  obtain ⟨y2, ez2⟩ : ∃ x, x = zs.getD 2 0 := ⟨_, rfl⟩
  rw [← ez2] at c2 z2
  try rw [← ez2]
  obtain ⟨q1, _⟩ := bt_of y1 z1
  obtain ⟨_, _, _, _, q63⟩ := bt_of y2 z2
  replace q1 := Kpt.mk q1; replace q63 := Kpt.mk q63
  clear e1 ez1 ez2 hR hc hb c0 z0
  simp only [Cm.vals]
  go_enter Try.func32, Try.ntmps32
  go_wp2_with (go_at_call 31; refine (N1.out _ (by repeat (first | refine Below.setCell ?_ (by simp) _ | refine Below.alloc ?_ (by simp) _ | exact Below.refl _ _))).mono ?_; rintro e w' ⟨rfl, rfl⟩)
  refine bodyPost_ret (v := .agg #[.int .u8 4, .bool true, .int .u64 0, .int .u64 0, .int .i64 x1, .bool false, .int .u8 0, .bool false, .bool false, .int .u8 (0), .int .u8 (0), .bool (bt y1 1), .int .u8 0, .int .u8 0, .bool false]) (by simp [results, Try.results32, go_sem, q1.out, q63.out]) rfl ⟨rfl, ?_⟩
  exact (by repeat (first | refine Below.drew ?_ | refine Below.setCell ?_ (by simp) _ | refine Below.alloc ?_ (by simp) _ | exact Below.refl _ _))

set_option maxRecDepth 100000 in
set_option maxHeartbeats 1000000 in
theorem takeMode_26 (b off cap : Nat) (zs : List Int) (w : World) (hb : B.Bytes zs) (hc : Cells w b off 6 zs) :
    Calls Try.prog 32 #[.agg ({ kind := 5 } : Cm).vals, .slice (some ⟨b, off, none⟩) 6 cap] w fun e w' => e = .returned (.agg (cmdL 26 zs).vals) ∧ Below w.heap.size w w' := by
  have N1 := count_in b off 6 cap 4 1 zs w (by decide) (by decide) (by decide) (by decide) hb hc
  have c0 := hc.2 0 (by decide)
  have z0 := hb 0
  have c1 := hc.2 1 (by decide)
  have z1 := hb 1
  have c2 := hc.2 2 (by decide)
  have z2 := hb 2
  have hlt := hc.1
  have hR : cmdL 26 zs = { kind := 5, control := zs.getD 2 0 / 64, page := zs.getD 2 0 % 64, alloc := B.num zs 4 1 } := rfl
  rw [hR]
  obtain ⟨x1, e1⟩ : ∃ x, x = B.num zs 4 1 := ⟨_, rfl⟩
  rw [← e1] at N1 ⊢
  obtain ⟨y1, ez1⟩ : ∃ x, x = zs.getD 1 0 := ⟨_, rfl⟩
  rw [← ez1] at c1 z1
  try rw [← ez1]
  obtain ⟨y2, ez2⟩ : ∃ x, x = zs.getD 2 0 := ⟨_, rfl⟩
  rw [← ez2] at c2 z2
  try rw [← ez2]
  obtain ⟨q1, _⟩ := bt_of y1 z1
  obtain ⟨_, _, _, _, q63⟩ := bt_of y2 z2
  replace q1 := Kpt.mk q1; replace q63 := Kpt.mk q63
  clear e1 ez1 ez2 hR hc hb c0 z0
  simp only [Cm.vals]
  go_enter Try.func32, Try.ntmps32
  go_wp2_with (go_at_call 31; refine (N1.out _ (by repeat (first | refine Below.setCell ?_ (by simp) _ | refine Below.alloc ?_ (by simp) _ | exact Below.refl _ _))).mono ?_; rintro e w' ⟨rfl, rfl⟩)
  go_region
  all_goals go_wp2
  refine bodyPost_ret (v := .agg #[.int .u8 5, .bool false, .int .u64 0, .int .u64 0, .int .i64 x1, .bool false, .int .u8 0, .bool false, .bool false, .int .u8 (y2 % 64), .int .u8 (y2 / 64), .bool (false), .int .u8 0, .int .u8 0, .bool false]) (by simp [results, Try.results32, go_sem, q1.out, q63.out]) rfl ⟨rfl, ?_⟩
  exact (by repeat (first | refine Below.drew ?_ | refine Below.setCell ?_ (by simp) _ | refine Below.alloc ?_ (by simp) _ | exact Below.refl _ _))

set_option maxRecDepth 100000 in
set_option maxHeartbeats 1000000 in
theorem takeMode_90 (b off cap : Nat) (zs : List Int) (w : World) (hb : B.Bytes zs) (hc : Cells w b off 10 zs) :
    Calls Try.prog 32 #[.agg ({ kind := 5 } : Cm).vals, .slice (some ⟨b, off, none⟩) 10 cap] w fun e w' => e = .returned (.agg (cmdL 90 zs).vals) ∧ Below w.heap.size w w' := by
  have N1 := count_in b off 10 cap 7 2 zs w (by decide) (by decide) (by decide) (by decide) hb hc
  have c0 := hc.2 0 (by decide)
  have z0 := hb 0
  have c1 := hc.2 1 (by decide)
  have z1 := hb 1
  have c2 := hc.2 2 (by decide)
  have z2 := hb 2
  have hlt := hc.1
  have hR : cmdL 90 zs = { kind := 5, long := true, control := zs.getD 2 0 / 64, page := zs.getD 2 0 % 64, alloc := B.num zs 7 2 } := rfl
  rw [hR]
  obtain ⟨x1, e1⟩ : ∃ x, x = B.num zs 7 2 := ⟨_, rfl⟩
  rw [← e1] at N1 ⊢
  obtain ⟨y1, ez1⟩ : ∃ x, x = zs.getD 1 0 := ⟨_, rfl⟩
  rw [← ez1] at c1 z1
  try rw [← ez1]
  obtain ⟨y2, ez2⟩ : ∃ x, x = zs.getD 2 0 := ⟨_, rfl⟩
  rw [← ez2] at c2 z2
  try rw [← ez2]
  obtain ⟨q1, _⟩ := bt_of y1 z1
  obtain ⟨_, _, _, _, q63⟩ := bt_of y2 z2
  replace q1 := Kpt.mk q1; replace q63 := Kpt.mk q63
  clear e1 ez1 ez2 hR hc hb c0 z0
  simp only [Cm.vals]
  go_enter Try.func32, Try.ntmps32
  go_wp2_with (go_at_call 31; refine (N1.out _ (by repeat (first | refine Below.setCell ?_ (by simp) _ | refine Below.alloc ?_ (by simp) _ | exact Below.refl _ _))).mono ?_; rintro e w' ⟨rfl, rfl⟩)
  go_region
  all_goals go_wp2
  refine bodyPost_ret (v := .agg #[.int .u8 5, .bool true, .int .u64 0, .int .u64 0, .int .i64 x1, .bool false, .int .u8 0, .bool false, .bool false, .int .u8 (y2 % 64), .int .u8 (y2 / 64), .bool (false), .int .u8 0, .int .u8 0, .bool false]) (by simp [results, Try.results32, go_sem, q1.out, q63.out]) rfl ⟨rfl, ?_⟩
  exact (by repeat (first | refine Below.drew ?_ | refine Below.setCell ?_ (by simp) _ | refine Below.alloc ?_ (by simp) _ | exact Below.refl _ _))
end Go.Proofs.Ytcgojpnjaloofaa
