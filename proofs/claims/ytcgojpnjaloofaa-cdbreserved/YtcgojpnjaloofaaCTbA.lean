/-
  The contract of takeBlocks.
-/
import Derived.Test.YtcgojpnjaloofaaCBit
namespace Go.Proofs.Ytcgojpnjaloofaa
open Go.RowKit
set_option linter.unusedVariables false
set_option linter.unusedSimpArgs false
set_option maxRecDepth 100000 in
set_option maxHeartbeats 1000000 in
theorem takeBlocks_8 (b off cap : Nat) (zs : List Int) (w : World) (hb : B.Bytes zs) (hc : Cells w b off 6 zs) :
    Calls Try.prog 33 #[.agg ({ kind := 7 } : Cm).vals, .slice (some ⟨b, off, none⟩) 6 cap] w fun e w' => e = .returned (.agg (cmdL 8 zs).vals) ∧ Below w.heap.size w w' := by
  have N1 := number_in b off 6 cap 1 3 zs w (by decide) (by decide) (by decide) (by decide) hb hc
  have N2 := number_in b off 6 cap 4 1 zs w (by decide) (by decide) (by decide) (by decide) hb hc
  have c0 := hc.2 0 (by decide)
  have z0 := hb 0
  have c1 := hc.2 1 (by decide)
  have z1 := hb 1
  have c2 := hc.2 2 (by decide)
  have z2 := hb 2
  have hlt := hc.1
  have hR : cmdL 8 zs = { kind := 7, lba := B.num zs 1 3, blocks := if B.num zs 4 1 = 0 then 256 else B.num zs 4 1 } := rfl
  rw [hR]
  obtain ⟨x1, e1⟩ : ∃ x, x = B.num zs 1 3 := ⟨_, rfl⟩
  rw [← e1] at N1 ⊢
  obtain ⟨x2, e2⟩ : ∃ x, x = B.num zs 4 1 := ⟨_, rfl⟩
  rw [← e2] at N2 ⊢
  have bx2 := num_bd8 zs hb 4 1 (by decide)
  rw [← e2] at bx2
  obtain ⟨y1, ez1⟩ : ∃ x, x = zs.getD 1 0 := ⟨_, rfl⟩
  rw [← ez1] at c1 z1
  try rw [← ez1]
  have q := bt_of y1 z1
  obtain ⟨q1, q2, q8, q16, q63⟩ := q
  replace q1 := Kpt.mk q1; replace q2 := Kpt.mk q2; replace q8 := Kpt.mk q8; replace q16 := Kpt.mk q16; replace q63 := Kpt.mk q63
  clear e1 e2 ez1 hR hc hb c0 c2 z0 z2
  simp only [Cm.vals]
  by_cases hz : x2 = 0
  · rw [if_pos hz]
    go_enter Try.func33, Try.ntmps33
    go_wp2_with (first
      | (go_at_call 34; refine (place_6 _ _ _).mono ?_; rintro e w' ⟨rfl, rfl⟩)
      | (go_at_call 44; refine (lbaSize_10 _ _ _).mono ?_; rintro e w' ⟨rfl, rfl⟩)
      | (go_at_call 43; have hm := m1; refine (N2.out _ (by repeat (first | refine Below.setCell ?_ (by simp) _ | refine Below.alloc ?_ (by simp) _ | exact Below.refl _ _))).mono ?_; rintro e w' ⟨rfl, rfl⟩)
      | (go_at_call 43; refine (N1.out _ (by repeat (first | refine Below.setCell ?_ (by simp) _ | refine Below.alloc ?_ (by simp) _ | exact Below.refl _ _))).mono ?_; rintro e w' ⟨rfl, rfl⟩; have m1 : Kpt True := ⟨trivial⟩))
    refine bodyPost_ret (v := .agg #[.int .u8 7, .bool false, .int .u64 x1, .int .u64 256, .int .i64 0, .bool (false), .int .u8 (0), .bool (false), .bool false, .int .u8 0, .int .u8 0, .bool false, .int .u8 0, .int .u8 0, .bool (false)]) (by simp [results, Try.results33, go_sem, q2.out, q8.out]) rfl ⟨rfl, ?_⟩
    exact (by repeat (first | refine Below.setCell ?_ (by simp) _ | refine Below.alloc ?_ (by simp) _ | exact Below.refl _ _))
  · rw [if_neg hz]
    go_enter Try.func33, Try.ntmps33
    go_wp2_with (first
      | (go_at_call 34; refine (place_6 _ _ _).mono ?_; rintro e w' ⟨rfl, rfl⟩)
      | (go_at_call 44; refine (lbaSize_10 _ _ _).mono ?_; rintro e w' ⟨rfl, rfl⟩)
      | (go_at_call 43; have hm := m1; refine (N2.out _ (by repeat (first | refine Below.setCell ?_ (by simp) _ | refine Below.alloc ?_ (by simp) _ | exact Below.refl _ _))).mono ?_; rintro e w' ⟨rfl, rfl⟩)
      | (go_at_call 43; refine (N1.out _ (by repeat (first | refine Below.setCell ?_ (by simp) _ | refine Below.alloc ?_ (by simp) _ | exact Below.refl _ _))).mono ?_; rintro e w' ⟨rfl, rfl⟩; have m1 : Kpt True := ⟨trivial⟩))
    refine bodyPost_ret (v := .agg #[.int .u8 7, .bool false, .int .u64 x1, .int .u64 x2, .int .i64 0, .bool (false), .int .u8 (0), .bool (false), .bool false, .int .u8 0, .int .u8 0, .bool false, .int .u8 0, .int .u8 0, .bool (false)]) (by simp [results, Try.results33, go_sem, q2.out, q8.out]) rfl ⟨rfl, ?_⟩
    exact (by repeat (first | refine Below.setCell ?_ (by simp) _ | refine Below.alloc ?_ (by simp) _ | exact Below.refl _ _))

set_option maxRecDepth 100000 in
set_option maxHeartbeats 1000000 in
theorem takeBlocks_10 (b off cap : Nat) (zs : List Int) (w : World) (hb : B.Bytes zs) (hc : Cells w b off 6 zs) :
    Calls Try.prog 33 #[.agg ({ kind := 8 } : Cm).vals, .slice (some ⟨b, off, none⟩) 6 cap] w fun e w' => e = .returned (.agg (cmdL 10 zs).vals) ∧ Below w.heap.size w w' := by
  have N1 := number_in b off 6 cap 1 3 zs w (by decide) (by decide) (by decide) (by decide) hb hc
  have N2 := number_in b off 6 cap 4 1 zs w (by decide) (by decide) (by decide) (by decide) hb hc
  have c0 := hc.2 0 (by decide)
  have z0 := hb 0
  have c1 := hc.2 1 (by decide)
  have z1 := hb 1
  have c2 := hc.2 2 (by decide)
  have z2 := hb 2
  have hlt := hc.1
  have hR : cmdL 10 zs = { kind := 8, lba := B.num zs 1 3, blocks := if B.num zs 4 1 = 0 then 256 else B.num zs 4 1 } := rfl
  rw [hR]
  obtain ⟨x1, e1⟩ : ∃ x, x = B.num zs 1 3 := ⟨_, rfl⟩
  rw [← e1] at N1 ⊢
  obtain ⟨x2, e2⟩ : ∃ x, x = B.num zs 4 1 := ⟨_, rfl⟩
  rw [← e2] at N2 ⊢
  have bx2 := num_bd8 zs hb 4 1 (by decide)
  rw [← e2] at bx2
  obtain ⟨y1, ez1⟩ : ∃ x, x = zs.getD 1 0 := ⟨_, rfl⟩
  rw [← ez1] at c1 z1
  try rw [← ez1]
  have q := bt_of y1 z1
  obtain ⟨q1, q2, q8, q16, q63⟩ := q
  replace q1 := Kpt.mk q1; replace q2 := Kpt.mk q2; replace q8 := Kpt.mk q8; replace q16 := Kpt.mk q16; replace q63 := Kpt.mk q63
  clear e1 e2 ez1 hR hc hb c0 c2 z0 z2
  simp only [Cm.vals]
  by_cases hz : x2 = 0
  · rw [if_pos hz]
    go_enter Try.func33, Try.ntmps33
    go_wp2_with (first
      | (go_at_call 34; refine (place_6 _ _ _).mono ?_; rintro e w' ⟨rfl, rfl⟩)
      | (go_at_call 44; refine (lbaSize_10 _ _ _).mono ?_; rintro e w' ⟨rfl, rfl⟩)
      | (go_at_call 43; have hm := m1; refine (N2.out _ (by repeat (first | refine Below.setCell ?_ (by simp) _ | refine Below.alloc ?_ (by simp) _ | exact Below.refl _ _))).mono ?_; rintro e w' ⟨rfl, rfl⟩)
      | (go_at_call 43; refine (N1.out _ (by repeat (first | refine Below.setCell ?_ (by simp) _ | refine Below.alloc ?_ (by simp) _ | exact Below.refl _ _))).mono ?_; rintro e w' ⟨rfl, rfl⟩; have m1 : Kpt True := ⟨trivial⟩))
    refine bodyPost_ret (v := .agg #[.int .u8 8, .bool false, .int .u64 x1, .int .u64 256, .int .i64 0, .bool (false), .int .u8 (0), .bool (false), .bool false, .int .u8 0, .int .u8 0, .bool false, .int .u8 0, .int .u8 0, .bool (false)]) (by simp [results, Try.results33, go_sem, q2.out, q8.out]) rfl ⟨rfl, ?_⟩
    exact (by repeat (first | refine Below.setCell ?_ (by simp) _ | refine Below.alloc ?_ (by simp) _ | exact Below.refl _ _))
  · rw [if_neg hz]
    go_enter Try.func33, Try.ntmps33
    go_wp2_with (first
      | (go_at_call 34; refine (place_6 _ _ _).mono ?_; rintro e w' ⟨rfl, rfl⟩)
      | (go_at_call 44; refine (lbaSize_10 _ _ _).mono ?_; rintro e w' ⟨rfl, rfl⟩)
      | (go_at_call 43; have hm := m1; refine (N2.out _ (by repeat (first | refine Below.setCell ?_ (by simp) _ | refine Below.alloc ?_ (by simp) _ | exact Below.refl _ _))).mono ?_; rintro e w' ⟨rfl, rfl⟩)
      | (go_at_call 43; refine (N1.out _ (by repeat (first | refine Below.setCell ?_ (by simp) _ | refine Below.alloc ?_ (by simp) _ | exact Below.refl _ _))).mono ?_; rintro e w' ⟨rfl, rfl⟩; have m1 : Kpt True := ⟨trivial⟩))
    refine bodyPost_ret (v := .agg #[.int .u8 8, .bool false, .int .u64 x1, .int .u64 x2, .int .i64 0, .bool (false), .int .u8 (0), .bool (false), .bool false, .int .u8 0, .int .u8 0, .bool false, .int .u8 0, .int .u8 0, .bool (false)]) (by simp [results, Try.results33, go_sem, q2.out, q8.out]) rfl ⟨rfl, ?_⟩
    exact (by repeat (first | refine Below.setCell ?_ (by simp) _ | refine Below.alloc ?_ (by simp) _ | exact Below.refl _ _))

set_option maxRecDepth 100000 in
set_option maxHeartbeats 1000000 in
theorem takeBlocks_40 (b off cap : Nat) (zs : List Int) (w : World) (hb : B.Bytes zs) (hc : Cells w b off 10 zs) :
    Calls Try.prog 33 #[.agg ({ kind := 7 } : Cm).vals, .slice (some ⟨b, off, none⟩) 10 cap] w fun e w' => e = .returned (.agg (cmdL 40 zs).vals) ∧ Below w.heap.size w w' := by
  have N1 := number_in b off 10 cap 2 4 zs w (by decide) (by decide) (by decide) (by decide) hb hc
  have N2 := number_in b off 10 cap 7 2 zs w (by decide) (by decide) (by decide) (by decide) hb hc
  have c0 := hc.2 0 (by decide)
  have z0 := hb 0
  have c1 := hc.2 1 (by decide)
  have z1 := hb 1
  have c2 := hc.2 2 (by decide)
  have z2 := hb 2
  have hlt := hc.1
  have hR : cmdL 40 zs = { kind := 7, lba := B.num zs 2 4, blocks := B.num zs 7 2, prot := zs.getD 1 0 / 32, fua := bt (zs.getD 1 0) 8 } := rfl
  rw [hR]
  obtain ⟨x1, e1⟩ : ∃ x, x = B.num zs 2 4 := ⟨_, rfl⟩
  rw [← e1] at N1 ⊢
  obtain ⟨x2, e2⟩ : ∃ x, x = B.num zs 7 2 := ⟨_, rfl⟩
  rw [← e2] at N2 ⊢
  obtain ⟨y1, ez1⟩ : ∃ x, x = zs.getD 1 0 := ⟨_, rfl⟩
  rw [← ez1] at c1 z1
  try rw [← ez1]
  have q := bt_of y1 z1
  obtain ⟨q1, q2, q8, q16, q63⟩ := q
  replace q1 := Kpt.mk q1; replace q2 := Kpt.mk q2; replace q8 := Kpt.mk q8; replace q16 := Kpt.mk q16; replace q63 := Kpt.mk q63
  clear e1 e2 ez1 hR hc hb c0 c2 z0 z2
  simp only [Cm.vals]
  go_enter Try.func33, Try.ntmps33
  go_wp2_with (first
    | (go_at_call 34; refine (place_10 _ _ _).mono ?_; rintro e w' ⟨rfl, rfl⟩)
    | (go_at_call 44; refine (lbaSize_10 _ _ _).mono ?_; rintro e w' ⟨rfl, rfl⟩)
    | (go_at_call 43; have hm := m1; refine (N2.out _ (by repeat (first | refine Below.setCell ?_ (by simp) _ | refine Below.alloc ?_ (by simp) _ | exact Below.refl _ _))).mono ?_; rintro e w' ⟨rfl, rfl⟩)
    | (go_at_call 43; refine (N1.out _ (by repeat (first | refine Below.setCell ?_ (by simp) _ | refine Below.alloc ?_ (by simp) _ | exact Below.refl _ _))).mono ?_; rintro e w' ⟨rfl, rfl⟩; have m1 : Kpt True := ⟨trivial⟩))
  refine bodyPost_ret (v := .agg #[.int .u8 7, .bool false, .int .u64 x1, .int .u64 x2, .int .i64 0, .bool (bt y1 8), .int .u8 (y1 / 32), .bool (false), .bool false, .int .u8 0, .int .u8 0, .bool false, .int .u8 0, .int .u8 0, .bool (false)]) (by simp [results, Try.results33, go_sem, q2.out, q8.out]) rfl ⟨rfl, ?_⟩
  exact (by repeat (first | refine Below.setCell ?_ (by simp) _ | refine Below.alloc ?_ (by simp) _ | exact Below.refl _ _))

set_option maxRecDepth 100000 in
set_option maxHeartbeats 1000000 in
theorem takeBlocks_42 (b off cap : Nat) (zs : List Int) (w : World) (hb : B.Bytes zs) (hc : Cells w b off 10 zs) :
    Calls Try.prog 33 #[.agg ({ kind := 8 } : Cm).vals, .slice (some ⟨b, off, none⟩) 10 cap] w fun e w' => e = .returned (.agg (cmdL 42 zs).vals) ∧ Below w.heap.size w w' := by
  have N1 := number_in b off 10 cap 2 4 zs w (by decide) (by decide) (by decide) (by decide) hb hc
  have N2 := number_in b off 10 cap 7 2 zs w (by decide) (by decide) (by decide) (by decide) hb hc
  have c0 := hc.2 0 (by decide)
  have z0 := hb 0
  have c1 := hc.2 1 (by decide)
  have z1 := hb 1
  have c2 := hc.2 2 (by decide)
  have z2 := hb 2
  have hlt := hc.1
  have hR : cmdL 42 zs = { kind := 8, lba := B.num zs 2 4, blocks := B.num zs 7 2, prot := zs.getD 1 0 / 32, fua := bt (zs.getD 1 0) 8 } := rfl
  rw [hR]
  obtain ⟨x1, e1⟩ : ∃ x, x = B.num zs 2 4 := ⟨_, rfl⟩
  rw [← e1] at N1 ⊢
  obtain ⟨x2, e2⟩ : ∃ x, x = B.num zs 7 2 := ⟨_, rfl⟩
  rw [← e2] at N2 ⊢
  obtain ⟨y1, ez1⟩ : ∃ x, x = zs.getD 1 0 := ⟨_, rfl⟩
  rw [← ez1] at c1 z1
  try rw [← ez1]
  have q := bt_of y1 z1
  obtain ⟨q1, q2, q8, q16, q63⟩ := q
  replace q1 := Kpt.mk q1; replace q2 := Kpt.mk q2; replace q8 := Kpt.mk q8; replace q16 := Kpt.mk q16; replace q63 := Kpt.mk q63
  clear e1 e2 ez1 hR hc hb c0 c2 z0 z2
  simp only [Cm.vals]
  go_enter Try.func33, Try.ntmps33
  go_wp2_with (first
    | (go_at_call 34; refine (place_10 _ _ _).mono ?_; rintro e w' ⟨rfl, rfl⟩)
    | (go_at_call 44; refine (lbaSize_10 _ _ _).mono ?_; rintro e w' ⟨rfl, rfl⟩)
    | (go_at_call 43; have hm := m1; refine (N2.out _ (by repeat (first | refine Below.setCell ?_ (by simp) _ | refine Below.alloc ?_ (by simp) _ | exact Below.refl _ _))).mono ?_; rintro e w' ⟨rfl, rfl⟩)
    | (go_at_call 43; refine (N1.out _ (by repeat (first | refine Below.setCell ?_ (by simp) _ | refine Below.alloc ?_ (by simp) _ | exact Below.refl _ _))).mono ?_; rintro e w' ⟨rfl, rfl⟩; have m1 : Kpt True := ⟨trivial⟩))
  refine bodyPost_ret (v := .agg #[.int .u8 8, .bool false, .int .u64 x1, .int .u64 x2, .int .i64 0, .bool (bt y1 8), .int .u8 (y1 / 32), .bool (false), .bool false, .int .u8 0, .int .u8 0, .bool false, .int .u8 0, .int .u8 0, .bool (false)]) (by simp [results, Try.results33, go_sem, q2.out, q8.out]) rfl ⟨rfl, ?_⟩
  exact (by repeat (first | refine Below.setCell ?_ (by simp) _ | refine Below.alloc ?_ (by simp) _ | exact Below.refl _ _))
end Go.Proofs.Ytcgojpnjaloofaa
