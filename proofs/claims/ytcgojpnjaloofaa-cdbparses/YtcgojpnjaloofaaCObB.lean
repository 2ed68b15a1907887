/-
  The contract of the document's onBlocks.
-/
import Derived.Test.YtcgojpnjaloofaaCTd
namespace Go.Proofs.Ytcgojpnjaloofaa
open Go.RowKit
set_option linter.unusedVariables false
set_option linter.unusedSimpArgs false
set_option maxRecDepth 100000 in
set_option maxHeartbeats 1000000 in
theorem onBlocks_42 (b off cap : Nat) (zs : List Int) (w : World) (hb : B.Bytes zs) (hc : Cells w b off 10 zs) :
    Calls Try.prog 37 #[.agg ({ kind := 8 } : Cm).vals, .slice (some ⟨b, off, none⟩) 10 cap] w fun e w' => e = .returned (.tuple #[.agg (cmdL 42 zs).vals, .int .i64 (toldL 42 zs 10).1, .int .i64 (toldL 42 zs 10).2]) ∧ Below w.heap.size w w' := by
  have N1 := rnum_in b off 10 cap 2 4 zs w (by decide) (by decide) (by decide) (by decide) hb hc
  have N2 := rnum_in b off 10 cap 7 2 zs w (by decide) (by decide) (by decide) (by decide) hb hc
  have c1 := hc.2 1 (by decide)
  have c4 := hc.2 4 (by decide)
  have z1 := hb 1
  have z4 := hb 4
  have hlt := hc.1
  obtain ⟨q1, q8, q2⟩ := bt_more _ z1
  have hR : cmdL 42 zs = { kind := 8, lba := B.num zs 2 4, blocks := B.num zs 7 2, prot := zs.getD 1 0 / 32, fua := bt (zs.getD 1 0) 8 } := rfl
  by_cases hg : 256 < B.num zs 7 2
  · have hU : toldL 42 zs 10 = (7, 7) := by unfold toldL; rw [hR]; simp [-List.getD_eq_getElem?_getD, toldF, unfitL, hg]
    rw [hU, hR]
    obtain ⟨x1, e1⟩ : ∃ x, x = B.num zs 2 4 := ⟨_, rfl⟩
    rw [← e1] at N1 ⊢
    obtain ⟨x2, e2⟩ : ∃ x, x = B.num zs 7 2 := ⟨_, rfl⟩
    rw [← e2] at N2 ⊢
    have bx2 := num_bd8 zs hb 7 2 (by decide)
    rw [← e2] at bx2
    obtain ⟨y1, ez1⟩ : ∃ x, x = zs.getD 1 0 := ⟨_, rfl⟩
    rw [← ez1] at c1 z1 q1 q8 q2
    try rw [← ez1]
    obtain ⟨y4, ez4⟩ : ∃ x, x = zs.getD 4 0 := ⟨_, rfl⟩
    rw [← ez4] at c4 z4
    try rw [← ez4]
    rw [← e2] at hg
    clear hU hR hc hb e1 e2 ez1 ez4
    simp only [Cm.vals]
    go_enter Try.func37, Try.ntmps37
    go_wp2_with (first
        | (go_at_call 36; have hm := m1; refine (N2.out _ (by repeat (first | refine Below.setCell ?_ (by simp) _ | refine Below.alloc ?_ (by simp) _ | exact Below.refl _ _))).mono ?_; rintro e w' ⟨rfl, rfl⟩)
        | (go_at_call 36; refine (N1.out _ (by repeat (first | refine Below.setCell ?_ (by simp) _ | refine Below.alloc ?_ (by simp) _ | exact Below.refl _ _))).mono ?_; rintro e w' ⟨rfl, rfl⟩; have m1 : Kpt True := ⟨trivial⟩))
    refine bodyPost_ret (v := .tuple #[.agg #[.int .u8 8, .bool false, .int .u64 x1, .int .u64 x2, .int .i64 0, .bool (bt y1 8), .int .u8 (y1 / 32), .bool (false), .bool false, .int .u8 0, .int .u8 0, .bool false, .int .u8 0, .int .u8 0, .bool (false)], .int .i64 (7), .int .i64 (7)]) (by simp [results, Try.results37, go_sem]) rfl ⟨rfl, ?_⟩
    exact (by repeat (first | refine Below.setCell ?_ (by simp) _ | refine Below.alloc ?_ (by simp) _ | exact Below.refl _ _))
  · have hU : toldL 42 zs 10 = (-1, 0) := by unfold toldL; rw [hR]; simp [-List.getD_eq_getElem?_getD, toldF, unfitL, hg]
    rw [hU, hR]
    obtain ⟨x1, e1⟩ : ∃ x, x = B.num zs 2 4 := ⟨_, rfl⟩
    rw [← e1] at N1 ⊢
    obtain ⟨x2, e2⟩ : ∃ x, x = B.num zs 7 2 := ⟨_, rfl⟩
    rw [← e2] at N2 ⊢
    have bx2 := num_bd8 zs hb 7 2 (by decide)
    rw [← e2] at bx2
    obtain ⟨y1, ez1⟩ : ∃ x, x = zs.getD 1 0 := ⟨_, rfl⟩
    rw [← ez1] at c1 z1 q1 q8 q2
    try rw [← ez1]
    obtain ⟨y4, ez4⟩ : ∃ x, x = zs.getD 4 0 := ⟨_, rfl⟩
    rw [← ez4] at c4 z4
    try rw [← ez4]
    rw [← e2] at hg
    clear hU hR hc hb e1 e2 ez1 ez4
    simp only [Cm.vals]
    go_enter Try.func37, Try.ntmps37
    go_wp2_with (first
        | (go_at_call 36; have hm := m1; refine (N2.out _ (by repeat (first | refine Below.setCell ?_ (by simp) _ | refine Below.alloc ?_ (by simp) _ | exact Below.refl _ _))).mono ?_; rintro e w' ⟨rfl, rfl⟩)
        | (go_at_call 36; refine (N1.out _ (by repeat (first | refine Below.setCell ?_ (by simp) _ | refine Below.alloc ?_ (by simp) _ | exact Below.refl _ _))).mono ?_; rintro e w' ⟨rfl, rfl⟩; have m1 : Kpt True := ⟨trivial⟩))
    refine bodyPost_ret (v := .tuple #[.agg #[.int .u8 8, .bool false, .int .u64 x1, .int .u64 x2, .int .i64 0, .bool (bt y1 8), .int .u8 (y1 / 32), .bool (false), .bool false, .int .u8 0, .int .u8 0, .bool false, .int .u8 0, .int .u8 0, .bool (false)], .int .i64 (-1), .int .i64 (0)]) (by simp [results, Try.results37, go_sem]) rfl ⟨rfl, ?_⟩
    exact (by repeat (first | refine Below.setCell ?_ (by simp) _ | refine Below.alloc ?_ (by simp) _ | exact Below.refl _ _))

set_option maxRecDepth 100000 in
set_option maxHeartbeats 1000000 in
theorem onBlocks_46 (b off cap : Nat) (zs : List Int) (w : World) (hb : B.Bytes zs) (hc : Cells w b off 10 zs) :
    Calls Try.prog 37 #[.agg ({ kind := 9 } : Cm).vals, .slice (some ⟨b, off, none⟩) 10 cap] w fun e w' => e = .returned (.tuple #[.agg (cmdL 46 zs).vals, .int .i64 (toldL 46 zs 10).1, .int .i64 (toldL 46 zs 10).2]) ∧ Below w.heap.size w w' := by
  have N1 := rnum_in b off 10 cap 2 4 zs w (by decide) (by decide) (by decide) (by decide) hb hc
  have N2 := rnum_in b off 10 cap 7 2 zs w (by decide) (by decide) (by decide) (by decide) hb hc
  have c1 := hc.2 1 (by decide)
  have c4 := hc.2 4 (by decide)
  have z1 := hb 1
  have z4 := hb 4
  have hlt := hc.1
  obtain ⟨q1, q8, q2⟩ := bt_more _ z1
  have hR : cmdL 46 zs = { kind := 9, lba := B.num zs 2 4, blocks := B.num zs 7 2, prot := zs.getD 1 0 / 32 } := rfl
  by_cases hg : 256 < B.num zs 7 2
  · have hU : toldL 46 zs 10 = (7, 7) := by unfold toldL; rw [hR]; simp [-List.getD_eq_getElem?_getD, toldF, unfitL, hg]
    rw [hU, hR]
    obtain ⟨x1, e1⟩ : ∃ x, x = B.num zs 2 4 := ⟨_, rfl⟩
    rw [← e1] at N1 ⊢
    obtain ⟨x2, e2⟩ : ∃ x, x = B.num zs 7 2 := ⟨_, rfl⟩
    rw [← e2] at N2 ⊢
    have bx2 := num_bd8 zs hb 7 2 (by decide)
    rw [← e2] at bx2
    obtain ⟨y1, ez1⟩ : ∃ x, x = zs.getD 1 0 := ⟨_, rfl⟩
    rw [← ez1] at c1 z1 q1 q8 q2
    try rw [← ez1]
    obtain ⟨y4, ez4⟩ : ∃ x, x = zs.getD 4 0 := ⟨_, rfl⟩
    rw [← ez4] at c4 z4
    try rw [← ez4]
    rw [← e2] at hg
    clear hU hR hc hb e1 e2 ez1 ez4
    simp only [Cm.vals]
    go_enter Try.func37, Try.ntmps37
    go_wp2_with (first
        | (go_at_call 36; have hm := m1; refine (N2.out _ (by repeat (first | refine Below.setCell ?_ (by simp) _ | refine Below.alloc ?_ (by simp) _ | exact Below.refl _ _))).mono ?_; rintro e w' ⟨rfl, rfl⟩)
        | (go_at_call 36; refine (N1.out _ (by repeat (first | refine Below.setCell ?_ (by simp) _ | refine Below.alloc ?_ (by simp) _ | exact Below.refl _ _))).mono ?_; rintro e w' ⟨rfl, rfl⟩; have m1 : Kpt True := ⟨trivial⟩))
    refine bodyPost_ret (v := .tuple #[.agg #[.int .u8 9, .bool false, .int .u64 x1, .int .u64 x2, .int .i64 0, .bool (false), .int .u8 (y1 / 32), .bool (false), .bool false, .int .u8 0, .int .u8 0, .bool false, .int .u8 0, .int .u8 0, .bool (false)], .int .i64 (7), .int .i64 (7)]) (by simp [results, Try.results37, go_sem]) rfl ⟨rfl, ?_⟩
    exact (by repeat (first | refine Below.setCell ?_ (by simp) _ | refine Below.alloc ?_ (by simp) _ | exact Below.refl _ _))
  · have hU : toldL 46 zs 10 = (-1, 0) := by unfold toldL; rw [hR]; simp [-List.getD_eq_getElem?_getD, toldF, unfitL, hg]
    rw [hU, hR]
    obtain ⟨x1, e1⟩ : ∃ x, x = B.num zs 2 4 := ⟨_, rfl⟩
    rw [← e1] at N1 ⊢
    obtain ⟨x2, e2⟩ : ∃ x, x = B.num zs 7 2 := ⟨_, rfl⟩
    rw [← e2] at N2 ⊢
    have bx2 := num_bd8 zs hb 7 2 (by decide)
    rw [← e2] at bx2
    obtain ⟨y1, ez1⟩ : ∃ x, x = zs.getD 1 0 := ⟨_, rfl⟩
    rw [← ez1] at c1 z1 q1 q8 q2
    try rw [← ez1]
    obtain ⟨y4, ez4⟩ : ∃ x, x = zs.getD 4 0 := ⟨_, rfl⟩
    rw [← ez4] at c4 z4
    try rw [← ez4]
    rw [← e2] at hg
    clear hU hR hc hb e1 e2 ez1 ez4
    simp only [Cm.vals]
    go_enter Try.func37, Try.ntmps37
    go_wp2_with (first
        | (go_at_call 36; have hm := m1; refine (N2.out _ (by repeat (first | refine Below.setCell ?_ (by simp) _ | refine Below.alloc ?_ (by simp) _ | exact Below.refl _ _))).mono ?_; rintro e w' ⟨rfl, rfl⟩)
        | (go_at_call 36; refine (N1.out _ (by repeat (first | refine Below.setCell ?_ (by simp) _ | refine Below.alloc ?_ (by simp) _ | exact Below.refl _ _))).mono ?_; rintro e w' ⟨rfl, rfl⟩; have m1 : Kpt True := ⟨trivial⟩))
    refine bodyPost_ret (v := .tuple #[.agg #[.int .u8 9, .bool false, .int .u64 x1, .int .u64 x2, .int .i64 0, .bool (false), .int .u8 (y1 / 32), .bool (false), .bool false, .int .u8 0, .int .u8 0, .bool false, .int .u8 0, .int .u8 0, .bool (false)], .int .i64 (-1), .int .i64 (0)]) (by simp [results, Try.results37, go_sem]) rfl ⟨rfl, ?_⟩
    exact (by repeat (first | refine Below.setCell ?_ (by simp) _ | refine Below.alloc ?_ (by simp) _ | exact Below.refl _ _))

set_option maxRecDepth 100000 in
set_option maxHeartbeats 1000000 in
theorem onBlocks_47 (b off cap : Nat) (zs : List Int) (w : World) (hb : B.Bytes zs) (hc : Cells w b off 10 zs) :
    Calls Try.prog 37 #[.agg ({ kind := 10 } : Cm).vals, .slice (some ⟨b, off, none⟩) 10 cap] w fun e w' => e = .returned (.tuple #[.agg (cmdL 47 zs).vals, .int .i64 (toldL 47 zs 10).1, .int .i64 (toldL 47 zs 10).2]) ∧ Below w.heap.size w w' := by
  have N1 := rnum_in b off 10 cap 2 4 zs w (by decide) (by decide) (by decide) (by decide) hb hc
  have N2 := rnum_in b off 10 cap 7 2 zs w (by decide) (by decide) (by decide) (by decide) hb hc
  have c1 := hc.2 1 (by decide)
  have c4 := hc.2 4 (by decide)
  have z1 := hb 1
  have z4 := hb 4
  have hlt := hc.1
  obtain ⟨q1, q8, q2⟩ := bt_more _ z1
  have hR : cmdL 47 zs = { kind := 10, lba := B.num zs 2 4, blocks := B.num zs 7 2, prot := zs.getD 1 0 / 32, bytes := bt (zs.getD 1 0) 2 } := rfl
  by_cases hg : 256 < B.num zs 7 2
  · have hU : toldL 47 zs 10 = (7, 7) := by unfold toldL; rw [hR]; simp [-List.getD_eq_getElem?_getD, toldF, unfitL, hg]
    rw [hU, hR]
    obtain ⟨x1, e1⟩ : ∃ x, x = B.num zs 2 4 := ⟨_, rfl⟩
    rw [← e1] at N1 ⊢
    obtain ⟨x2, e2⟩ : ∃ x, x = B.num zs 7 2 := ⟨_, rfl⟩
    rw [← e2] at N2 ⊢
    have bx2 := num_bd8 zs hb 7 2 (by decide)
    rw [← e2] at bx2
    obtain ⟨y1, ez1⟩ : ∃ x, x = zs.getD 1 0 := ⟨_, rfl⟩
    rw [← ez1] at c1 z1 q1 q8 q2
    try rw [← ez1]
    obtain ⟨y4, ez4⟩ : ∃ x, x = zs.getD 4 0 := ⟨_, rfl⟩
    rw [← ez4] at c4 z4
    try rw [← ez4]
    rw [← e2] at hg
    clear hU hR hc hb e1 e2 ez1 ez4
    simp only [Cm.vals]
    go_enter Try.func37, Try.ntmps37
    go_wp2_with (first
        | (go_at_call 36; have hm := m1; refine (N2.out _ (by repeat (first | refine Below.setCell ?_ (by simp) _ | refine Below.alloc ?_ (by simp) _ | exact Below.refl _ _))).mono ?_; rintro e w' ⟨rfl, rfl⟩)
        | (go_at_call 36; refine (N1.out _ (by repeat (first | refine Below.setCell ?_ (by simp) _ | refine Below.alloc ?_ (by simp) _ | exact Below.refl _ _))).mono ?_; rintro e w' ⟨rfl, rfl⟩; have m1 : Kpt True := ⟨trivial⟩))
    refine bodyPost_ret (v := .tuple #[.agg #[.int .u8 10, .bool false, .int .u64 x1, .int .u64 x2, .int .i64 0, .bool (false), .int .u8 (y1 / 32), .bool (false), .bool false, .int .u8 0, .int .u8 0, .bool false, .int .u8 0, .int .u8 0, .bool (bt y1 2)], .int .i64 (7), .int .i64 (7)]) (by simp [results, Try.results37, go_sem]) rfl ⟨rfl, ?_⟩
    exact (by repeat (first | refine Below.setCell ?_ (by simp) _ | refine Below.alloc ?_ (by simp) _ | exact Below.refl _ _))
  · have hU : toldL 47 zs 10 = (-1, 0) := by unfold toldL; rw [hR]; simp [-List.getD_eq_getElem?_getD, toldF, unfitL, hg]
    rw [hU, hR]
    obtain ⟨x1, e1⟩ : ∃ x, x = B.num zs 2 4 := ⟨_, rfl⟩
    rw [← e1] at N1 ⊢
    obtain ⟨x2, e2⟩ : ∃ x, x = B.num zs 7 2 := ⟨_, rfl⟩
    rw [← e2] at N2 ⊢
    have bx2 := num_bd8 zs hb 7 2 (by decide)
    rw [← e2] at bx2
    obtain ⟨y1, ez1⟩ : ∃ x, x = zs.getD 1 0 := ⟨_, rfl⟩
    rw [← ez1] at c1 z1 q1 q8 q2
    try rw [← ez1]
    obtain ⟨y4, ez4⟩ : ∃ x, x = zs.getD 4 0 := ⟨_, rfl⟩
    rw [← ez4] at c4 z4
    try rw [← ez4]
    rw [← e2] at hg
    clear hU hR hc hb e1 e2 ez1 ez4
    simp only [Cm.vals]
    go_enter Try.func37, Try.ntmps37
    go_wp2_with (first
        | (go_at_call 36; have hm := m1; refine (N2.out _ (by repeat (first | refine Below.setCell ?_ (by simp) _ | refine Below.alloc ?_ (by simp) _ | exact Below.refl _ _))).mono ?_; rintro e w' ⟨rfl, rfl⟩)
        | (go_at_call 36; refine (N1.out _ (by repeat (first | refine Below.setCell ?_ (by simp) _ | refine Below.alloc ?_ (by simp) _ | exact Below.refl _ _))).mono ?_; rintro e w' ⟨rfl, rfl⟩; have m1 : Kpt True := ⟨trivial⟩))
    refine bodyPost_ret (v := .tuple #[.agg #[.int .u8 10, .bool false, .int .u64 x1, .int .u64 x2, .int .i64 0, .bool (false), .int .u8 (y1 / 32), .bool (false), .bool false, .int .u8 0, .int .u8 0, .bool false, .int .u8 0, .int .u8 0, .bool (bt y1 2)], .int .i64 (-1), .int .i64 (0)]) (by simp [results, Try.results37, go_sem]) rfl ⟨rfl, ?_⟩
    exact (by repeat (first | refine Below.setCell ?_ (by simp) _ | refine Below.alloc ?_ (by simp) _ | exact Below.refl _ _))
end Go.Proofs.Ytcgojpnjaloofaa
