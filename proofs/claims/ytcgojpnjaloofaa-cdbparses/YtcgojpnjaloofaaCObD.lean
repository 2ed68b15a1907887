/-
  The contract of the document's onBlocks.
-/
import Derived.Test.YtcgojpnjaloofaaCTd
namespace Go.Proofs.Ytcgojpnjaloofaa
open Go.RowKit
set_option linter.unusedVariables false
set_option linter.unusedSimpArgs false
set_option maxRecDepth 100000 in
set_option maxHeartbeats 1000000 in
theorem onBlocks_138 (b off cap : Nat) (zs : List Int) (w : World) (hb : B.Bytes zs) (hc : Cells w b off 16 zs) :
    Calls Try.prog 37 #[.agg ({ kind := 8 } : Cm).vals, .slice (some ⟨b, off, none⟩) 16 cap] w fun e w' => e = .returned (.tuple #[.agg (cmdL 138 zs).vals, .int .i64 (toldL 138 zs 16).1, .int .i64 (toldL 138 zs 16).2]) ∧ Below w.heap.size w w' := by
  have N1 := rnum_in b off 16 cap 2 8 zs w (by decide) (by decide) (by decide) (by decide) hb hc
  have N2 := rnum_in b off 16 cap 10 4 zs w (by decide) (by decide) (by decide) (by decide) hb hc
  have c1 := hc.2 1 (by decide)
  have c4 := hc.2 4 (by decide)
  have z1 := hb 1
  have z4 := hb 4
  have hlt := hc.1
  obtain ⟨q1, q8, q2⟩ := bt_more _ z1
  have hR : cmdL 138 zs = { kind := 8, lba := B.num zs 2 8, blocks := B.num zs 10 4, prot := zs.getD 1 0 / 32, fua := bt (zs.getD 1 0) 8 } := rfl
  by_cases hg : 256 < B.num zs 10 4
  · have hU : toldL 138 zs 16 = (10, 7) := by unfold toldL; rw [hR]; simp [-List.getD_eq_getElem?_getD, toldF, unfitL, hg]
    rw [hU, hR]
    obtain ⟨x1, e1⟩ : ∃ x, x = B.num zs 2 8 := ⟨_, rfl⟩
    rw [← e1] at N1 ⊢
    obtain ⟨x2, e2⟩ : ∃ x, x = B.num zs 10 4 := ⟨_, rfl⟩
    rw [← e2] at N2 ⊢
    have bx2 := num_bd8 zs hb 10 4 (by decide)
    rw [← e2] at bx2
    obtain ⟨y1, ez1⟩ : ∃ x, x = zs.getD 1 0 := ⟨_, rfl⟩
    rw [← ez1] at c1 z1 q1 q8 q2
    try rw [← ez1]
    obtain ⟨y4, ez4⟩ : ∃ x, x = zs.getD 4 0 := ⟨_, rfl⟩
    rw [← ez4] at c4 z4
    try rw [← ez4]
    rw [← e2] at hg
    clear hU hR hc hb e1 e2 ez1 ez4
    simp only [Cm.vals]
    go_enter Try.func37, Try.ntmps37
    go_wp2_with (first
        | (go_at_call 36; have hm := m1; refine (N2.out _ (by repeat (first | refine Below.setCell ?_ (by simp) _ | refine Below.alloc ?_ (by simp) _ | exact Below.refl _ _))).mono ?_; rintro e w' ⟨rfl, rfl⟩)
        | (go_at_call 36; refine (N1.out _ (by repeat (first | refine Below.setCell ?_ (by simp) _ | refine Below.alloc ?_ (by simp) _ | exact Below.refl _ _))).mono ?_; rintro e w' ⟨rfl, rfl⟩; have m1 : Kpt True := ⟨trivial⟩))
    refine bodyPost_ret (v := .tuple #[.agg #[.int .u8 8, .bool false, .int .u64 x1, .int .u64 x2, .int .i64 0, .bool (bt y1 8), .int .u8 (y1 / 32), .bool (false), .bool false, .int .u8 0, .int .u8 0, .bool false, .int .u8 0, .int .u8 0, .bool (false)], .int .i64 (10), .int .i64 (7)]) (by simp [results, Try.results37, go_sem]) rfl ⟨rfl, ?_⟩
    exact (by repeat (first | refine Below.setCell ?_ (by simp) _ | refine Below.alloc ?_ (by simp) _ | exact Below.refl _ _))
  · have hU : toldL 138 zs 16 = (-1, 0) := by unfold toldL; rw [hR]; simp [-List.getD_eq_getElem?_getD, toldF, unfitL, hg]
    rw [hU, hR]
    obtain ⟨x1, e1⟩ : ∃ x, x = B.num zs 2 8 := ⟨_, rfl⟩
    rw [← e1] at N1 ⊢
    obtain ⟨x2, e2⟩ : ∃ x, x = B.num zs 10 4 := ⟨_, rfl⟩
    rw [← e2] at N2 ⊢
    have bx2 := num_bd8 zs hb 10 4 (by decide)
    rw [← e2] at bx2
    obtain ⟨y1, ez1⟩ : ∃ x, x = zs.getD 1 0 := ⟨_, rfl⟩
    rw [← ez1] at c1 z1 q1 q8 q2
    try rw [← ez1]
    obtain ⟨y4, ez4⟩ : ∃ x, x = zs.getD 4 0 := ⟨_, rfl⟩
    rw [← ez4] at c4 z4
    try rw [← ez4]
    rw [← e2] at hg
    clear hU hR hc hb e1 e2 ez1 ez4
    simp only [Cm.vals]
    go_enter Try.func37, Try.ntmps37
    go_wp2_with (first
        | (go_at_call 36; have hm := m1; refine (N2.out _ (by repeat (first | refine Below.setCell ?_ (by simp) _ | refine Below.alloc ?_ (by simp) _ | exact Below.refl _ _))).mono ?_; rintro e w' ⟨rfl, rfl⟩)
        | (go_at_call 36; refine (N1.out _ (by repeat (first | refine Below.setCell ?_ (by simp) _ | refine Below.alloc ?_ (by simp) _ | exact Below.refl _ _))).mono ?_; rintro e w' ⟨rfl, rfl⟩; have m1 : Kpt True := ⟨trivial⟩))
    refine bodyPost_ret (v := .tuple #[.agg #[.int .u8 8, .bool false, .int .u64 x1, .int .u64 x2, .int .i64 0, .bool (bt y1 8), .int .u8 (y1 / 32), .bool (false), .bool false, .int .u8 0, .int .u8 0, .bool false, .int .u8 0, .int .u8 0, .bool (false)], .int .i64 (-1), .int .i64 (0)]) (by simp [results, Try.results37, go_sem]) rfl ⟨rfl, ?_⟩
    exact (by repeat (first | refine Below.setCell ?_ (by simp) _ | refine Below.alloc ?_ (by simp) _ | exact Below.refl _ _))

set_option maxRecDepth 100000 in
set_option maxHeartbeats 1000000 in
theorem onBlocks_145 (b off cap : Nat) (zs : List Int) (w : World) (hb : B.Bytes zs) (hc : Cells w b off 16 zs) (hz : zs.getD 1 0 = 0) :
    Calls Try.prog 37 #[.agg ({ kind := 11 } : Cm).vals, .slice (some ⟨b, off, none⟩) 16 cap] w fun e w' => e = .returned (.tuple #[.agg (cmdL 145 zs).vals, .int .i64 (toldL 145 zs 16).1, .int .i64 (toldL 145 zs 16).2]) ∧ Below w.heap.size w w' := by
  have N1 := rnum_in b off 16 cap 2 8 zs w (by decide) (by decide) (by decide) (by decide) hb hc
  have N2 := rnum_in b off 16 cap 10 4 zs w (by decide) (by decide) (by decide) (by decide) hb hc
  have c1 := hc.2 1 (by decide)
  have c4 := hc.2 4 (by decide)
  have z1 := hb 1
  have z4 := hb 4
  have hlt := hc.1
  obtain ⟨q1, q8, q2⟩ := bt_more _ z1
  have hR : cmdL 145 zs = { kind := 11, lba := B.num zs 2 8, blocks := B.num zs 10 4, prot := zs.getD 1 0 / 32 } := rfl
  have hU : toldL 145 zs 16 = (-1, 0) := by unfold toldL; rw [hR]; simp [-List.getD_eq_getElem?_getD, toldF, unfitL]
  rw [hU, hR]
  obtain ⟨x1, e1⟩ : ∃ x, x = B.num zs 2 8 := ⟨_, rfl⟩
  rw [← e1] at N1 ⊢
  obtain ⟨x2, e2⟩ : ∃ x, x = B.num zs 10 4 := ⟨_, rfl⟩
  rw [← e2] at N2 ⊢
  have bx2 := num_bd8 zs hb 10 4 (by decide)
  rw [← e2] at bx2
  obtain ⟨y1, ez1⟩ : ∃ x, x = zs.getD 1 0 := ⟨_, rfl⟩
  rw [← ez1] at c1 z1 q1 q8 q2
  try rw [← ez1]
  obtain ⟨y4, ez4⟩ : ∃ x, x = zs.getD 4 0 := ⟨_, rfl⟩
  rw [← ez4] at c4 z4
  try rw [← ez4]
  have hy0 : y1 = 0 := ez1.trans hz
  subst hy0
  clear hz
  rw [show (0 : Int) / 32 = 0 from rfl]
  clear hU hR hc hb e1 e2 ez1 ez4
  simp only [Cm.vals]
  go_enter Try.func37, Try.ntmps37
  go_wp2_with (first
      | (go_at_call 36; have hm := m1; refine (N2.out _ (by repeat (first | refine Below.setCell ?_ (by simp) _ | refine Below.alloc ?_ (by simp) _ | exact Below.refl _ _))).mono ?_; rintro e w' ⟨rfl, rfl⟩)
      | (go_at_call 36; refine (N1.out _ (by repeat (first | refine Below.setCell ?_ (by simp) _ | refine Below.alloc ?_ (by simp) _ | exact Below.refl _ _))).mono ?_; rintro e w' ⟨rfl, rfl⟩; have m1 : Kpt True := ⟨trivial⟩))
  refine bodyPost_ret (v := .tuple #[.agg #[.int .u8 11, .bool false, .int .u64 x1, .int .u64 x2, .int .i64 0, .bool (false), .int .u8 (0), .bool (false), .bool false, .int .u8 0, .int .u8 0, .bool false, .int .u8 0, .int .u8 0, .bool (false)], .int .i64 (-1), .int .i64 (0)]) (by simp [results, Try.results37, go_sem]) rfl ⟨rfl, ?_⟩
  exact (by repeat (first | refine Below.setCell ?_ (by simp) _ | refine Below.alloc ?_ (by simp) _ | exact Below.refl _ _))

set_option maxRecDepth 100000 in
set_option maxHeartbeats 1000000 in
theorem onBlocks_147 (b off cap : Nat) (zs : List Int) (w : World) (hb : B.Bytes zs) (hc : Cells w b off 16 zs) :
    Calls Try.prog 37 #[.agg ({ kind := 12 } : Cm).vals, .slice (some ⟨b, off, none⟩) 16 cap] w fun e w' => e = .returned (.tuple #[.agg (cmdL 147 zs).vals, .int .i64 (toldL 147 zs 16).1, .int .i64 (toldL 147 zs 16).2]) ∧ Below w.heap.size w w' := by
  have N1 := rnum_in b off 16 cap 2 8 zs w (by decide) (by decide) (by decide) (by decide) hb hc
  have N2 := rnum_in b off 16 cap 10 4 zs w (by decide) (by decide) (by decide) (by decide) hb hc
  have c1 := hc.2 1 (by decide)
  have c4 := hc.2 4 (by decide)
  have z1 := hb 1
  have z4 := hb 4
  have hlt := hc.1
  obtain ⟨q1, q8, q2⟩ := bt_more _ z1
  have hR : cmdL 147 zs = { kind := 12, lba := B.num zs 2 8, blocks := B.num zs 10 4, prot := zs.getD 1 0 / 32, unmap := bt (zs.getD 1 0) 8 } := rfl
  have hU : toldL 147 zs 16 = (-1, 0) := by unfold toldL; rw [hR]; simp [-List.getD_eq_getElem?_getD, toldF, unfitL]
  rw [hU, hR]
  obtain ⟨x1, e1⟩ : ∃ x, x = B.num zs 2 8 := ⟨_, rfl⟩
  rw [← e1] at N1 ⊢
  obtain ⟨x2, e2⟩ : ∃ x, x = B.num zs 10 4 := ⟨_, rfl⟩
  rw [← e2] at N2 ⊢
  have bx2 := num_bd8 zs hb 10 4 (by decide)
  rw [← e2] at bx2
  obtain ⟨y1, ez1⟩ : ∃ x, x = zs.getD 1 0 := ⟨_, rfl⟩
  rw [← ez1] at c1 z1 q1 q8 q2
  try rw [← ez1]
  obtain ⟨y4, ez4⟩ : ∃ x, x = zs.getD 4 0 := ⟨_, rfl⟩
  rw [← ez4] at c4 z4
  try rw [← ez4]
  clear hU hR hc hb e1 e2 ez1 ez4
  simp only [Cm.vals]
  go_enter Try.func37, Try.ntmps37
  go_wp2_with (first
      | (go_at_call 36; have hm := m1; refine (N2.out _ (by repeat (first | refine Below.setCell ?_ (by simp) _ | refine Below.alloc ?_ (by simp) _ | exact Below.refl _ _))).mono ?_; rintro e w' ⟨rfl, rfl⟩)
      | (go_at_call 36; refine (N1.out _ (by repeat (first | refine Below.setCell ?_ (by simp) _ | refine Below.alloc ?_ (by simp) _ | exact Below.refl _ _))).mono ?_; rintro e w' ⟨rfl, rfl⟩; have m1 : Kpt True := ⟨trivial⟩))
  refine bodyPost_ret (v := .tuple #[.agg #[.int .u8 12, .bool false, .int .u64 x1, .int .u64 x2, .int .i64 0, .bool (false), .int .u8 (y1 / 32), .bool (bt y1 8), .bool false, .int .u8 0, .int .u8 0, .bool false, .int .u8 0, .int .u8 0, .bool (false)], .int .i64 (-1), .int .i64 (0)]) (by simp [results, Try.results37, go_sem]) rfl ⟨rfl, ?_⟩
  exact (by repeat (first | refine Below.setCell ?_ (by simp) _ | refine Below.alloc ?_ (by simp) _ | exact Below.refl _ _))
end Go.Proofs.Ytcgojpnjaloofaa
