/-
  The contract of the document's told.
-/
import Derived.Test.YtcgojpnjaloofaaCTd
namespace Go.Proofs.Ytcgojpnjaloofaa
open Go.RowKit
set_option linter.unusedVariables false
set_option linter.unusedSimpArgs false
set_option maxRecDepth 100000 in
set_option maxHeartbeats 2000000 in
theorem told_137 (b off cap : Nat) (zs : List Int) (s : Int) (w : World) (hb : B.Bytes zs) (hc : Cells w b off 16 zs) (h0 : zs.getD 0 0 = 137) (hz : zs.getD 10 0 = 0 ∧ zs.getD 11 0 = 0 ∧ zs.getD 12 0 = 0) :
    Calls Try.prog 24 #[.slice (some ⟨b, off, none⟩) 16 cap, .int .u8 s] w fun e w' => e = .returned (.tuple #[.agg (cmdL 137 zs).vals, .int .i64 (toldL 137 zs 16).1, .int .i64 (toldL 137 zs 16).2]) ∧ Below w.heap.size w w' := by
  have hK : Kpt (∀ W, Calls Try.prog 35 #[.int .u8 137] W fun e w' => e = .returned (.int .i64 14) ∧ Below W.heap.size W w') := ⟨fun W => rkind_any 137 W ⟨22, by decide, by decide⟩⟩
  have N1 := rnum_in b off 16 cap 2 8 zs w (by decide) (by decide) (by decide) (by decide) hb hc
  have N2 := rnum_in b off 16 cap 13 1 zs w (by decide) (by decide) (by decide) (by decide) hb hc
  have c0 := hc.2 0 (by decide)
  rw [h0, Nat.add_zero] at c0
  have hlt := hc.1
  have c1 := hc.2 1 (by decide)
  have z1 := hb 1
  have c2 := hc.2 2 (by decide)
  have z2 := hb 2
  have c4 := hc.2 4 (by decide)
  have z4 := hb 4
  obtain ⟨q1, q8, q2⟩ := bt_more _ z1
  have hR : cmdL 137 zs = { kind := 14, lba := B.num zs 2 8, blocks := B.num zs 10 4, prot := zs.getD 1 0 / 32, fua := bt (zs.getD 1 0) 8 } := rfl
  have hblk : B.num zs 10 4 = zs.getD 13 0 := by simp only [B.num, Nat.add_zero, hz.1, hz.2.1, hz.2.2]; simp [hz.1, hz.2.1, hz.2.2]
  have hU : toldL 137 zs 16 = (-1, 0) := by unfold toldL; rw [hR]; simp [-List.getD_eq_getElem?_getD, toldF, unfitL]
  rw [hU, hR]
  obtain ⟨x1, e1⟩ : ∃ x, x = B.num zs 2 8 := ⟨_, rfl⟩
  have bx1 := num_bd8 zs hb 2 8 (by decide)
  rw [← e1] at N1 bx1 ⊢
  rw [hblk]
  obtain ⟨x2, e2⟩ : ∃ x, x = B.num zs 13 1 := ⟨_, rfl⟩
  rw [← e2] at N2
  rw [show zs.getD 13 0 = x2 from by rw [e2, num_one]]
  obtain ⟨y1, ez1⟩ : ∃ x, x = zs.getD 1 0 := ⟨_, rfl⟩
  rw [← ez1] at c1 z1
  try rw [← ez1]
  obtain ⟨y2, ez2⟩ : ∃ x, x = zs.getD 2 0 := ⟨_, rfl⟩
  rw [← ez2] at c2 z2
  try rw [← ez2]
  obtain ⟨y4, ez4⟩ : ∃ x, x = zs.getD 4 0 := ⟨_, rfl⟩
  rw [← ez4] at c4 z4
  try rw [← ez4]
  rw [← ez1] at q1 q8 q2
  clear hz hblk
  clear hU hR hb h0 e1 e2 ez1 ez2 ez4
  have cK : Kpt (w.cell? ⟨b, off + 1, none⟩ = some (.int .u8 y1) ∧ w.cell? ⟨b, off + 2, none⟩ = some (.int .u8 y2) ∧ w.cell? ⟨b, off + 4, none⟩ = some (.int .u8 y4)) := ⟨c1, c2, c4⟩
  clear c1 c2 c4 hc
  simp only [Cm.vals]
  go_enter Try.func24, Try.ntmps24
  go_wp2_with (first
    | (go_at_call 35; refine (hK.out _).mono ?_; rintro e w1 ⟨rfl, hb1⟩; have HB : Kpt (Below w.heap.size w w1) := ⟨((Below.refl _ _).alloc (Nat.le_refl _) _).trans (hb1.mono (by simp))⟩; have B0 : Kpt (Bx w1 w.heap.size zeroC) := ⟨(bx_new w zeroC 27).below hb1 (by simp)⟩; have hlt1 : b < w1.heap.size := Nat.lt_of_lt_of_le hlt HB.out.size; have k1 := (HB.out.cell (p := ⟨b, off + 1, none⟩) hlt).trans cK.out.1; have k2 := (HB.out.cell (p := ⟨b, off + 2, none⟩) hlt).trans cK.out.2.1; have k4 := (HB.out.cell (p := ⟨b, off + 4, none⟩) hlt).trans cK.out.2.2; clear hb1)
    | (go_at_call 36; have hm := m1; refine (N2.out _ (HB.out.alloc HB.out.size _)).mono ?_; rintro e w' ⟨rfl, rfl⟩)
    | (go_at_call 36; refine (N1.out _ (HB.out.alloc HB.out.size _)).mono ?_; rintro e w' ⟨rfl, rfl⟩; have m1 : Kpt True := ⟨trivial⟩)
    | (refine wpList_store_bx rfl 27 (.tmp 4) (.tmp 191) rfl w.heap.size zeroC #[.int .u8 14, .bool (false), .int .u64 x1, .int .u64 x2, .int .i64 0, .bool (bt y1 8), .int .u8 (y1 / 32), .bool false, .bool (false), .int .u8 (0), .int .u8 (0), .bool (false), .int .u8 0, .int .u8 0, .bool false] rfl rfl (B0.out.alloc _) rfl infoC (by simp [Value.oneCell']) rfl ?_; intro w2 hB2 hg2; replace hB2 := Kpt.mk hB2; replace hg2 := Kpt.mk hg2))
  refine bodyPost_ret (v := .tuple #[.agg #[.int .u8 14, .bool (false), .int .u64 x1, .int .u64 x2, .int .i64 0, .bool (bt y1 8), .int .u8 (y1 / 32), .bool false, .bool (false), .int .u8 (0), .int .u8 (0), .bool (false), .int .u8 0, .int .u8 0, .bool false], .int .i64 (-1), .int .i64 (0)]) (by simp [results, Try.results24, asAddr, run_res hB2.out 27 _ Try.underlying27 rfl infoC]) rfl ⟨rfl, ?_⟩
  exact (HB.out.alloc HB.out.size _).grown hg2.out (by have := HB.out.size; simp; omega) (fun k h => by cases h; exact Nat.le_refl _)

set_option maxRecDepth 100000 in
set_option maxHeartbeats 2000000 in
theorem told_158 (b off cap : Nat) (zs : List Int) (s : Int) (w : World) (hb : B.Bytes zs) (hc : Cells w b off 16 zs) (h0 : zs.getD 0 0 = 158) :
    Calls Try.prog 24 #[.slice (some ⟨b, off, none⟩) 16 cap, .int .u8 s] w fun e w' => e = .returned (.tuple #[.agg (cmdL 158 zs).vals, .int .i64 (toldL 158 zs 16).1, .int .i64 (toldL 158 zs 16).2]) ∧ Below w.heap.size w w' := by
  have hK : Kpt (∀ W, Calls Try.prog 35 #[.int .u8 158] W fun e w' => e = .returned (.int .i64 6) ∧ Below W.heap.size W w') := ⟨fun W => rkind_any 158 W ⟨8, by decide, by decide⟩⟩
  have N1 := rnum_in b off 16 cap 10 4 zs w (by decide) (by decide) (by decide) (by decide) hb hc
  have c0 := hc.2 0 (by decide)
  rw [h0, Nat.add_zero] at c0
  have hlt := hc.1
  have c1 := hc.2 1 (by decide)
  have z1 := hb 1
  have c2 := hc.2 2 (by decide)
  have z2 := hb 2
  have c4 := hc.2 4 (by decide)
  have z4 := hb 4
  obtain ⟨q1, q8, q2⟩ := bt_more _ z1
  have hR : cmdL 158 zs = { kind := 6, long := true, alloc := B.num zs 10 4 } := rfl
  have hU : toldL 158 zs 16 = (-1, 0) := by unfold toldL; rw [hR]; simp [-List.getD_eq_getElem?_getD, toldF, unfitL]
  rw [hU, hR]
  obtain ⟨x1, e1⟩ : ∃ x, x = B.num zs 10 4 := ⟨_, rfl⟩
  have bx1 := num_bd8 zs hb 10 4 (by decide)
  have bw1 := num_bd4 zs hb 10 4 (by decide)
  rw [← e1] at bw1
  rw [← e1] at N1 bx1 ⊢
  obtain ⟨y1, ez1⟩ : ∃ x, x = zs.getD 1 0 := ⟨_, rfl⟩
  rw [← ez1] at c1 z1
  try rw [← ez1]
  obtain ⟨y2, ez2⟩ : ∃ x, x = zs.getD 2 0 := ⟨_, rfl⟩
  rw [← ez2] at c2 z2
  try rw [← ez2]
  obtain ⟨y4, ez4⟩ : ∃ x, x = zs.getD 4 0 := ⟨_, rfl⟩
  rw [← ez4] at c4 z4
  try rw [← ez4]
  rw [← ez1] at q1 q8 q2
  clear hU hR hb h0 e1 ez1 ez2 ez4
  have cK : Kpt (w.cell? ⟨b, off + 1, none⟩ = some (.int .u8 y1) ∧ w.cell? ⟨b, off + 2, none⟩ = some (.int .u8 y2) ∧ w.cell? ⟨b, off + 4, none⟩ = some (.int .u8 y4)) := ⟨c1, c2, c4⟩
  clear c1 c2 c4 hc
  simp only [Cm.vals]
  go_enter Try.func24, Try.ntmps24
  go_wp2_with (first
    | (go_at_call 35; refine (hK.out _).mono ?_; rintro e w1 ⟨rfl, hb1⟩; have HB : Kpt (Below w.heap.size w w1) := ⟨((Below.refl _ _).alloc (Nat.le_refl _) _).trans (hb1.mono (by simp))⟩; have B0 : Kpt (Bx w1 w.heap.size zeroC) := ⟨(bx_new w zeroC 27).below hb1 (by simp)⟩; have hlt1 : b < w1.heap.size := Nat.lt_of_lt_of_le hlt HB.out.size; have k1 := (HB.out.cell (p := ⟨b, off + 1, none⟩) hlt).trans cK.out.1; have k2 := (HB.out.cell (p := ⟨b, off + 2, none⟩) hlt).trans cK.out.2.1; have k4 := (HB.out.cell (p := ⟨b, off + 4, none⟩) hlt).trans cK.out.2.2; clear hb1)
    | (go_at_call 36; refine (N1.out _ (HB.out.alloc HB.out.size _)).mono ?_; rintro e w' ⟨rfl, rfl⟩; have m1 : Kpt True := ⟨trivial⟩)
    | (refine wpList_store_bx rfl 27 (.tmp 4) (.tmp 191) rfl w.heap.size zeroC #[.int .u8 6, .bool (true), .int .u64 0, .int .u64 0, .int .i64 x1, .bool (false), .int .u8 (0), .bool false, .bool (false), .int .u8 (0), .int .u8 (0), .bool (false), .int .u8 0, .int .u8 0, .bool false] rfl rfl (B0.out.alloc _) rfl infoC (by simp [Value.oneCell']) rfl ?_; intro w2 hB2 hg2; replace hB2 := Kpt.mk hB2; replace hg2 := Kpt.mk hg2))
  refine bodyPost_ret (v := .tuple #[.agg #[.int .u8 6, .bool (true), .int .u64 0, .int .u64 0, .int .i64 x1, .bool (false), .int .u8 (0), .bool false, .bool (false), .int .u8 (0), .int .u8 (0), .bool (false), .int .u8 0, .int .u8 0, .bool false], .int .i64 (-1), .int .i64 (0)]) (by simp [results, Try.results24, asAddr, run_res hB2.out 27 _ Try.underlying27 rfl infoC]) rfl ⟨rfl, ?_⟩
  exact (HB.out.alloc HB.out.size _).grown hg2.out (by have := HB.out.size; simp; omega) (fun k h => by cases h; exact Nat.le_refl _)

set_option maxRecDepth 100000 in
set_option maxHeartbeats 2000000 in
theorem told_160 (b off cap : Nat) (zs : List Int) (s : Int) (w : World) (hb : B.Bytes zs) (hc : Cells w b off 12 zs) (h0 : zs.getD 0 0 = 160) :
    Calls Try.prog 24 #[.slice (some ⟨b, off, none⟩) 12 cap, .int .u8 s] w fun e w' => e = .returned (.tuple #[.agg (cmdL 160 zs).vals, .int .i64 (toldL 160 zs 12).1, .int .i64 (toldL 160 zs 12).2]) ∧ Below w.heap.size w w' := by
  have hK : Kpt (∀ W, Calls Try.prog 35 #[.int .u8 160] W fun e w' => e = .returned (.int .i64 17) ∧ Below W.heap.size W w') := ⟨fun W => rkind_any 160 W ⟨25, by decide, by decide⟩⟩
  have N1 := rnum_in b off 12 cap 6 4 zs w (by decide) (by decide) (by decide) (by decide) hb hc
  have c0 := hc.2 0 (by decide)
  rw [h0, Nat.add_zero] at c0
  have hlt := hc.1
  have c1 := hc.2 1 (by decide)
  have z1 := hb 1
  have c2 := hc.2 2 (by decide)
  have z2 := hb 2
  have c4 := hc.2 4 (by decide)
  have z4 := hb 4
  obtain ⟨q1, q8, q2⟩ := bt_more _ z1
  have hR : cmdL 160 zs = { kind := 17, page := zs.getD 2 0, alloc := B.num zs 6 4 } := rfl
  by_cases hp : zs.getD 2 0 = 3
  · have hU : toldL 160 zs 12 = (2, 1) := by unfold toldL; rw [hR]; simp [-List.getD_eq_getElem?_getD, toldF, unfitL, hp]
    rw [hU, hR]
    obtain ⟨x1, e1⟩ : ∃ x, x = B.num zs 6 4 := ⟨_, rfl⟩
    have bx1 := num_bd8 zs hb 6 4 (by decide)
    have bw1 := num_bd4 zs hb 6 4 (by decide)
    rw [← e1] at bw1
    rw [← e1] at N1 bx1 ⊢
    obtain ⟨y1, ez1⟩ : ∃ x, x = zs.getD 1 0 := ⟨_, rfl⟩
    rw [← ez1] at c1 z1
    try rw [← ez1]
    obtain ⟨y2, ez2⟩ : ∃ x, x = zs.getD 2 0 := ⟨_, rfl⟩
    rw [← ez2] at c2 z2
    try rw [← ez2]
    obtain ⟨y4, ez4⟩ : ∃ x, x = zs.getD 4 0 := ⟨_, rfl⟩
    rw [← ez4] at c4 z4
    try rw [← ez4]
    rw [← ez1] at q1 q8 q2
    rw [← ez2] at hp
    subst hp
    clear hU hR hb h0 e1 ez1 ez2 ez4
    have cK : Kpt (w.cell? ⟨b, off + 1, none⟩ = some (.int .u8 y1) ∧ w.cell? ⟨b, off + 2, none⟩ = some (.int .u8 3) ∧ w.cell? ⟨b, off + 4, none⟩ = some (.int .u8 y4)) := ⟨c1, c2, c4⟩
    clear c1 c2 c4 hc
    simp only [Cm.vals]
    go_enter Try.func24, Try.ntmps24
    go_wp2_with (first
      | (go_at_call 35; refine (hK.out _).mono ?_; rintro e w1 ⟨rfl, hb1⟩; have HB : Kpt (Below w.heap.size w w1) := ⟨((Below.refl _ _).alloc (Nat.le_refl _) _).trans (hb1.mono (by simp))⟩; have B0 : Kpt (Bx w1 w.heap.size zeroC) := ⟨(bx_new w zeroC 27).below hb1 (by simp)⟩; have hlt1 : b < w1.heap.size := Nat.lt_of_lt_of_le hlt HB.out.size; have k1 := (HB.out.cell (p := ⟨b, off + 1, none⟩) hlt).trans cK.out.1; have k2 := (HB.out.cell (p := ⟨b, off + 2, none⟩) hlt).trans cK.out.2.1; have k4 := (HB.out.cell (p := ⟨b, off + 4, none⟩) hlt).trans cK.out.2.2; clear hb1)
      | (go_at_call 36; refine (N1.out _ (HB.out.alloc HB.out.size _)).mono ?_; rintro e w' ⟨rfl, rfl⟩; have m1 : Kpt True := ⟨trivial⟩)
      | (refine wpList_store_bx rfl 27 (.tmp 4) (.tmp 171) rfl w.heap.size zeroC #[.int .u8 17, .bool (false), .int .u64 0, .int .u64 0, .int .i64 x1, .bool (false), .int .u8 (0), .bool false, .bool (false), .int .u8 (3), .int .u8 (0), .bool (false), .int .u8 0, .int .u8 0, .bool false] rfl rfl (B0.out.alloc _) rfl infoC (by simp [Value.oneCell']) rfl ?_; intro w2 hB2 hg2; replace hB2 := Kpt.mk hB2; replace hg2 := Kpt.mk hg2))
    refine bodyPost_ret (v := .tuple #[.agg #[.int .u8 17, .bool (false), .int .u64 0, .int .u64 0, .int .i64 x1, .bool (false), .int .u8 (0), .bool false, .bool (false), .int .u8 (3), .int .u8 (0), .bool (false), .int .u8 0, .int .u8 0, .bool false], .int .i64 (2), .int .i64 (1)]) (by simp [results, Try.results24, asAddr, run_res hB2.out 27 _ Try.underlying27 rfl infoC]) rfl ⟨rfl, ?_⟩
    exact (HB.out.alloc HB.out.size _).grown hg2.out (by have := HB.out.size; simp; omega) (fun k h => by cases h; exact Nat.le_refl _)
  · have hU : toldL 160 zs 12 = (-1, 0) := by unfold toldL; rw [hR]; simp [-List.getD_eq_getElem?_getD, toldF, unfitL, hp]
    rw [hU, hR]
    obtain ⟨x1, e1⟩ : ∃ x, x = B.num zs 6 4 := ⟨_, rfl⟩
    have bx1 := num_bd8 zs hb 6 4 (by decide)
    have bw1 := num_bd4 zs hb 6 4 (by decide)
    rw [← e1] at bw1
    rw [← e1] at N1 bx1 ⊢
    obtain ⟨y1, ez1⟩ : ∃ x, x = zs.getD 1 0 := ⟨_, rfl⟩
    rw [← ez1] at c1 z1
    try rw [← ez1]
    obtain ⟨y2, ez2⟩ : ∃ x, x = zs.getD 2 0 := ⟨_, rfl⟩
    rw [← ez2] at c2 z2
    try rw [← ez2]
    obtain ⟨y4, ez4⟩ : ∃ x, x = zs.getD 4 0 := ⟨_, rfl⟩
    rw [← ez4] at c4 z4
    try rw [← ez4]
    rw [← ez1] at q1 q8 q2
    rw [← ez2] at hp
    clear hU hR hb h0 e1 ez1 ez2 ez4
    have cK : Kpt (w.cell? ⟨b, off + 1, none⟩ = some (.int .u8 y1) ∧ w.cell? ⟨b, off + 2, none⟩ = some (.int .u8 y2) ∧ w.cell? ⟨b, off + 4, none⟩ = some (.int .u8 y4)) := ⟨c1, c2, c4⟩
    clear c1 c2 c4 hc
    simp only [Cm.vals]
    go_enter Try.func24, Try.ntmps24
    go_wp2_with (first
      | (go_at_call 35; refine (hK.out _).mono ?_; rintro e w1 ⟨rfl, hb1⟩; have HB : Kpt (Below w.heap.size w w1) := ⟨((Below.refl _ _).alloc (Nat.le_refl _) _).trans (hb1.mono (by simp))⟩; have B0 : Kpt (Bx w1 w.heap.size zeroC) := ⟨(bx_new w zeroC 27).below hb1 (by simp)⟩; have hlt1 : b < w1.heap.size := Nat.lt_of_lt_of_le hlt HB.out.size; have k1 := (HB.out.cell (p := ⟨b, off + 1, none⟩) hlt).trans cK.out.1; have k2 := (HB.out.cell (p := ⟨b, off + 2, none⟩) hlt).trans cK.out.2.1; have k4 := (HB.out.cell (p := ⟨b, off + 4, none⟩) hlt).trans cK.out.2.2; clear hb1)
      | (go_at_call 36; refine (N1.out _ (HB.out.alloc HB.out.size _)).mono ?_; rintro e w' ⟨rfl, rfl⟩; have m1 : Kpt True := ⟨trivial⟩)
      | (refine wpList_store_bx rfl 27 (.tmp 4) (.tmp 191) rfl w.heap.size zeroC #[.int .u8 17, .bool (false), .int .u64 0, .int .u64 0, .int .i64 x1, .bool (false), .int .u8 (0), .bool false, .bool (false), .int .u8 (y2), .int .u8 (0), .bool (false), .int .u8 0, .int .u8 0, .bool false] rfl rfl (B0.out.alloc _) rfl infoC (by simp [Value.oneCell']) rfl ?_; intro w2 hB2 hg2; replace hB2 := Kpt.mk hB2; replace hg2 := Kpt.mk hg2))
    refine bodyPost_ret (v := .tuple #[.agg #[.int .u8 17, .bool (false), .int .u64 0, .int .u64 0, .int .i64 x1, .bool (false), .int .u8 (0), .bool false, .bool (false), .int .u8 (y2), .int .u8 (0), .bool (false), .int .u8 0, .int .u8 0, .bool false], .int .i64 (-1), .int .i64 (0)]) (by simp [results, Try.results24, asAddr, run_res hB2.out 27 _ Try.underlying27 rfl infoC]) rfl ⟨rfl, ?_⟩
    exact (HB.out.alloc HB.out.size _).grown hg2.out (by have := HB.out.size; simp; omega) (fun k h => by cases h; exact Nat.le_refl _)
end Go.Proofs.Ytcgojpnjaloofaa
