/-
  The document's Check, a case a theorem.
-/
import Derived.Test.YtcnjnebhidfogaaGChk
namespace Go.Proofs.Ytcnjnebhidfogaa
open Go.RowKit
set_option linter.unusedVariables false
set_option linter.unusedSimpArgs false

set_option maxRecDepth 100000 in
set_option maxHeartbeats 1000000 in
theorem rcheck_1 (k p lba : Int) (b : Bk) (w : World) (hb : b.ok) (h0 : 0 ≤ k) (h1 : k ≤ 255) (p0 : 0 ≤ p) (p1 : p ≤ 255) (l0 : 0 ≤ lba) (l1 : lba ≤ 18446744073709551615)
    (ha : k < 1) :
    Calls Try.prog 12 #[.int .i64 k, .int .i64 p, .int .u64 lba, .agg b.vals] w fun e w' => e = .returned (.int .i64 0) ∧ Below w.heap.size w w' := by
  obtain ⟨t0, t1, t2⟩ := cs_tup b hb
  have hr32 := hb.r
  have HB := Kpt.mk (fun W => rbytes_any b hb W)
  have HC := Kpt.mk (fun W a c (h : RowAt W (some a) 16 b.d) => rc16_at W a 16 c b.d hb.len rfl hb.byte h)
  obtain ⟨V, hV⟩ : ∃ V, V = b.vals := ⟨_, rfl⟩
  rw [← hV] at HB t0 t1 t2 ⊢
  have hVs : V.size = 19 := by rw [hV]; exact Bk.size hb
  have hin : (Try.prog.info? 33).map (·.size) = some V.size := by rw [hVs]; kernel_rfl
  have hbx := Kpt.mk (bx_new w V 33)
  have hB0 := Kpt.mk ((Below.refl w.heap.size w).alloc (Nat.le_refl _) (.cells V 33))
  have hlb := Kpt.mk hb
  obtain ⟨d, g, a, r⟩ := b
  simp only at *
  generalize hGG : (reg16 0 d : Int) = G at *
  replace hGG := Kpt.mk hGG
  replace hVs := Kpt.mk hVs
  replace hin := Kpt.mk hin
  clear hV hb
  go_enter Try.func12, Try.ntmps12
  go_wp2
  go_ret
  exact ⟨rfl, hB0.out⟩

set_option maxRecDepth 100000 in
set_option maxHeartbeats 1000000 in
theorem rcheck_2 (k p lba : Int) (b : Bk) (w : World) (hb : b.ok) (h0 : 0 ≤ k) (h1 : k ≤ 255) (p0 : 0 ≤ p) (p1 : p ≤ 255) (l0 : 0 ≤ lba) (l1 : lba ≤ 18446744073709551615)
    (ha : ¬ k < 1) (ha3 : 3 < k) :
    Calls Try.prog 12 #[.int .i64 k, .int .i64 p, .int .u64 lba, .agg b.vals] w fun e w' => e = .returned (.int .i64 0) ∧ Below w.heap.size w w' := by
  obtain ⟨t0, t1, t2⟩ := cs_tup b hb
  have hr32 := hb.r
  have HB := Kpt.mk (fun W => rbytes_any b hb W)
  have HC := Kpt.mk (fun W a c (h : RowAt W (some a) 16 b.d) => rc16_at W a 16 c b.d hb.len rfl hb.byte h)
  obtain ⟨V, hV⟩ : ∃ V, V = b.vals := ⟨_, rfl⟩
  rw [← hV] at HB t0 t1 t2 ⊢
  have hVs : V.size = 19 := by rw [hV]; exact Bk.size hb
  have hin : (Try.prog.info? 33).map (·.size) = some V.size := by rw [hVs]; kernel_rfl
  have hbx := Kpt.mk (bx_new w V 33)
  have hB0 := Kpt.mk ((Below.refl w.heap.size w).alloc (Nat.le_refl _) (.cells V 33))
  have hlb := Kpt.mk hb
  obtain ⟨d, g, a, r⟩ := b
  simp only at *
  generalize hGG : (reg16 0 d : Int) = G at *
  replace hGG := Kpt.mk hGG
  replace hVs := Kpt.mk hVs
  replace hin := Kpt.mk hin
  clear hV hb
  go_enter Try.func12, Try.ntmps12
  go_wp2
  go_ret
  exact ⟨rfl, hB0.out⟩

set_option maxRecDepth 100000 in
set_option maxHeartbeats 1000000 in
theorem rcheck_3 (k p lba : Int) (b : Bk) (w : World) (hb : b.ok) (h0 : 0 ≤ k) (h1 : k ≤ 255) (p0 : 0 ≤ p) (p1 : p ≤ 255) (l0 : 0 ≤ lba) (l1 : lba ≤ 18446744073709551615)
    (ha : ¬ k < 1) (ha3 : ¬ 3 < k) (hp3 : (p == 3) = true) :
    Calls Try.prog 12 #[.int .i64 k, .int .i64 p, .int .u64 lba, .agg b.vals] w fun e w' => e = .returned (.int .i64 0) ∧ Below w.heap.size w w' := by
  obtain ⟨t0, t1, t2⟩ := cs_tup b hb
  have hr32 := hb.r
  have HB := Kpt.mk (fun W => rbytes_any b hb W)
  have HC := Kpt.mk (fun W a c (h : RowAt W (some a) 16 b.d) => rc16_at W a 16 c b.d hb.len rfl hb.byte h)
  obtain ⟨V, hV⟩ : ∃ V, V = b.vals := ⟨_, rfl⟩
  rw [← hV] at HB t0 t1 t2 ⊢
  have hVs : V.size = 19 := by rw [hV]; exact Bk.size hb
  have hin : (Try.prog.info? 33).map (·.size) = some V.size := by rw [hVs]; kernel_rfl
  have hbx := Kpt.mk (bx_new w V 33)
  have hB0 := Kpt.mk ((Below.refl w.heap.size w).alloc (Nat.le_refl _) (.cells V 33))
  have hlb := Kpt.mk hb
  obtain ⟨d, g, a, r⟩ := b
  simp only at *
  generalize hGG : (reg16 0 d : Int) = G at *
  replace hGG := Kpt.mk hGG
  replace hVs := Kpt.mk hVs
  replace hin := Kpt.mk hin
  clear hV hb
  go_enter Try.func12, Try.ntmps12
  go_wp2
  go_ret
  exact ⟨rfl, hB0.out⟩

set_option maxRecDepth 100000 in
set_option maxHeartbeats 1000000 in
theorem rcheck_4 (k p lba : Int) (b : Bk) (w : World) (hb : b.ok) (h0 : 0 ≤ k) (h1 : k ≤ 255) (p0 : 0 ≤ p) (p1 : p ≤ 255) (l0 : 0 ≤ lba) (l1 : lba ≤ 18446744073709551615)
    (ha : ¬ k < 1) (ha3 : ¬ 3 < k) (hp3 : (p == 3) = false) (hp4 : 4 < p) :
    Calls Try.prog 12 #[.int .i64 k, .int .i64 p, .int .u64 lba, .agg b.vals] w fun e w' => e = .returned (.int .i64 0) ∧ Below w.heap.size w w' := by
  obtain ⟨t0, t1, t2⟩ := cs_tup b hb
  have hr32 := hb.r
  have HB := Kpt.mk (fun W => rbytes_any b hb W)
  have HC := Kpt.mk (fun W a c (h : RowAt W (some a) 16 b.d) => rc16_at W a 16 c b.d hb.len rfl hb.byte h)
  obtain ⟨V, hV⟩ : ∃ V, V = b.vals := ⟨_, rfl⟩
  rw [← hV] at HB t0 t1 t2 ⊢
  have hVs : V.size = 19 := by rw [hV]; exact Bk.size hb
  have hin : (Try.prog.info? 33).map (·.size) = some V.size := by rw [hVs]; kernel_rfl
  have hbx := Kpt.mk (bx_new w V 33)
  have hB0 := Kpt.mk ((Below.refl w.heap.size w).alloc (Nat.le_refl _) (.cells V 33))
  have hlb := Kpt.mk hb
  obtain ⟨d, g, a, r⟩ := b
  simp only at *
  generalize hGG : (reg16 0 d : Int) = G at *
  replace hGG := Kpt.mk hGG
  replace hVs := Kpt.mk hVs
  replace hin := Kpt.mk hin
  clear hV hb
  go_enter Try.func12, Try.ntmps12
  go_wp2
  go_ret
  exact ⟨rfl, hB0.out⟩

set_option maxRecDepth 100000 in
set_option maxHeartbeats 1000000 in
theorem rcheck_5 (k p lba : Int) (b : Bk) (w : World) (hb : b.ok) (h0 : 0 ≤ k) (h1 : k ≤ 255) (p0 : 0 ≤ p) (p1 : p ≤ 255) (l0 : 0 ≤ lba) (l1 : lba ≤ 18446744073709551615)
    (ha : ¬ k < 1) (ha3 : ¬ 3 < k) (hp3 : (p == 3) = false) (hp4 : ¬ 4 < p) (hq1 : (b.a == 65535) = true) (hq2 : (k != 3) = true) :
    Calls Try.prog 12 #[.int .i64 k, .int .i64 p, .int .u64 lba, .agg b.vals] w fun e w' => e = .returned (.int .i64 0) ∧ Below w.heap.size w w' := by
  obtain ⟨t0, t1, t2⟩ := cs_tup b hb
  have hr32 := hb.r
  have HB := Kpt.mk (fun W => rbytes_any b hb W)
  have HC := Kpt.mk (fun W a c (h : RowAt W (some a) 16 b.d) => rc16_at W a 16 c b.d hb.len rfl hb.byte h)
  obtain ⟨V, hV⟩ : ∃ V, V = b.vals := ⟨_, rfl⟩
  rw [← hV] at HB t0 t1 t2 ⊢
  have hVs : V.size = 19 := by rw [hV]; exact Bk.size hb
  have hin : (Try.prog.info? 33).map (·.size) = some V.size := by rw [hVs]; kernel_rfl
  have hbx := Kpt.mk (bx_new w V 33)
  have hB0 := Kpt.mk ((Below.refl w.heap.size w).alloc (Nat.le_refl _) (.cells V 33))
  have hlb := Kpt.mk hb
  obtain ⟨d, g, a, r⟩ := b
  simp only at *
  generalize hGG : (reg16 0 d : Int) = G at *
  replace hGG := Kpt.mk hGG
  replace hVs := Kpt.mk hVs
  replace hin := Kpt.mk hin
  clear hV hb
  go_enter Try.func12, Try.ntmps12
  go_wp2
  go_ret
  exact ⟨rfl, hB0.out⟩

set_option maxRecDepth 100000 in
set_option maxHeartbeats 1000000 in
theorem rcheck_6 (k p lba : Int) (b : Bk) (w : World) (hb : b.ok) (h0 : 0 ≤ k) (h1 : k ≤ 255) (p0 : 0 ≤ p) (p1 : p ≤ 255) (l0 : 0 ≤ lba) (l1 : lba ≤ 18446744073709551615)
    (ha : ¬ k < 1) (ha3 : ¬ 3 < k) (hp3 : (p == 3) = false) (hp4 : ¬ 4 < p) (hq1 : (b.a == 65535) = true) (hq2 : (k != 3) = false) (hq3 : (b.r == 4294967295) = true) :
    Calls Try.prog 12 #[.int .i64 k, .int .i64 p, .int .u64 lba, .agg b.vals] w fun e w' => e = .returned (.int .i64 0) ∧ Below w.heap.size w w' := by
  obtain ⟨t0, t1, t2⟩ := cs_tup b hb
  have hr32 := hb.r
  have HB := Kpt.mk (fun W => rbytes_any b hb W)
  have HC := Kpt.mk (fun W a c (h : RowAt W (some a) 16 b.d) => rc16_at W a 16 c b.d hb.len rfl hb.byte h)
  obtain ⟨V, hV⟩ : ∃ V, V = b.vals := ⟨_, rfl⟩
  rw [← hV] at HB t0 t1 t2 ⊢
  have hVs : V.size = 19 := by rw [hV]; exact Bk.size hb
  have hin : (Try.prog.info? 33).map (·.size) = some V.size := by rw [hVs]; kernel_rfl
  have hbx := Kpt.mk (bx_new w V 33)
  have hB0 := Kpt.mk ((Below.refl w.heap.size w).alloc (Nat.le_refl _) (.cells V 33))
  have hlb := Kpt.mk hb
  obtain ⟨d, g, a, r⟩ := b
  simp only at *
  generalize hGG : (reg16 0 d : Int) = G at *
  replace hGG := Kpt.mk hGG
  replace hVs := Kpt.mk hVs
  replace hin := Kpt.mk hin
  clear hV hb
  go_enter Try.func12, Try.ntmps12
  go_wp2
  go_ret
  exact ⟨rfl, hB0.out⟩

set_option maxRecDepth 100000 in
set_option maxHeartbeats 1000000 in
theorem rcheck_xA (k p lba : Int) (b : Bk) (w : World) (hb : b.ok) (h0 : 0 ≤ k) (h1 : k ≤ 255) (p0 : 0 ≤ p) (p1 : p ≤ 255) (l0 : 0 ≤ lba) (l1 : lba ≤ 18446744073709551615)
    (ha : ¬ k < 1) (ha3 : ¬ 3 < k) (hp3 : (p == 3) = false) (hp4 : ¬ 4 < p) (hq1 : (b.a == 65535) = false) (hp2 : (p != 2) = true) (hg : (b.g == (reg16 0 b.d : Int)) = false) :
    Calls Try.prog 12 #[.int .i64 k, .int .i64 p, .int .u64 lba, .agg b.vals] w fun e w' => e = .returned (.int .i64 4097) ∧ Below w.heap.size w w' := by
  obtain ⟨t0, t1, t2⟩ := cs_tup b hb
  have hr32 := hb.r
  have HB := Kpt.mk (fun W => rbytes_any b hb W)
  have HC := Kpt.mk (fun W a c (h : RowAt W (some a) 16 b.d) => rc16_at W a 16 c b.d hb.len rfl hb.byte h)
  obtain ⟨V, hV⟩ : ∃ V, V = b.vals := ⟨_, rfl⟩
  rw [← hV] at HB t0 t1 t2 ⊢
  have hVs : V.size = 19 := by rw [hV]; exact Bk.size hb
  have hin : (Try.prog.info? 33).map (·.size) = some V.size := by rw [hVs]; kernel_rfl
  have hbx := Kpt.mk (bx_new w V 33)
  have hB0 := Kpt.mk ((Below.refl w.heap.size w).alloc (Nat.le_refl _) (.cells V 33))
  have hlb := Kpt.mk hb
  obtain ⟨d, g, a, r⟩ := b
  simp only at *
  generalize hGG : (reg16 0 d : Int) = G at *
  replace hGG := Kpt.mk hGG
  replace hVs := Kpt.mk hVs
  replace hin := Kpt.mk hin
  clear hV hb
  go_enter Try.func12, Try.ntmps12
  go_wp2_with fail
  refine wp_region_any (by kernel_rfl) ?_
  refine wpAny_of_C (C := fun W => Bx W w.heap.size V) _ _ _ _ ?_
  refine wpAnyC_take 0 (.pointer (some ⟨w.heap.size, 16, none⟩)) rfl (by kernel_rfl) (by kernel_rfl) (by kernel_rfl) (fun _ _ _ h => h) (wanted_free rfl _) (fun W hW => by go_simp) ?_
  try simp only [Act.put, List.getElem_toArray, List.getElem_cons_succ, List.getElem_cons_zero, List.setIfInBounds_toArray, List.set_cons_succ, List.set_cons_zero]
  refine wpAnyC_take 1 (.pointer (some ⟨w.heap.size, 16, none⟩)) rfl (by kernel_rfl) (by kernel_rfl) (by kernel_rfl) (fun _ _ _ h => h) (wanted_free rfl _) (fun W hW => by go_simp) ?_
  try simp only [Act.put, List.getElem_toArray, List.getElem_cons_succ, List.getElem_cons_zero, List.setIfInBounds_toArray, List.set_cons_succ, List.set_cons_zero]
  refine wpAnyC_take 2 (.int .u16 g) rfl (by kernel_rfl) (by kernel_rfl) (by kernel_rfl) (fun _ _ _ h => h) (wanted_free rfl _) (fun W hW => by (have h16 : W.cell? ⟨w.heap.size, 16, none⟩ = some (.int .u16 g) := (hW.cells 16 (by rw [hVs.out]; decide)).trans t0); go_simp) ?_
  try simp only [Act.put, List.getElem_toArray, List.getElem_cons_succ, List.getElem_cons_zero, List.setIfInBounds_toArray, List.set_cons_succ, List.set_cons_zero]
  refine wpAnyC_take 3 (.agg V) rfl (by kernel_rfl) (by kernel_rfl) (by kernel_rfl) (fun _ _ _ h => h) (wanted_free rfl _) (fun W hW => exec_load_bx 33 (.tmp 7) rfl w.heap.size V rfl hW _ Try.underlying33 rfl hin.out) ?_
  try simp only [Act.put, List.getElem_toArray, List.getElem_cons_succ, List.getElem_cons_zero, List.setIfInBounds_toArray, List.set_cons_succ, List.set_cons_zero]
  refine wpAnyC_one 4 (hbx.out.drew) rfl (by kernel_rfl) (wanted_free rfl _) (fun KA hKA => ?_)
  go_simp
  refine (HB.out _).mono ?_
  rintro e x1 ⟨gg, cp, rfl, ho, hq⟩
  have hX1 : Bx x1 w.heap.size V := hbx.out.drew.below hq (by simp)
  have hx1 : Below w.heap.size w x1 := hB0.out.trans ((below_undrew hq).mono (by simp <;> omega))
  have hro := own_rowAt ho
  clear hq ho
  refine hKA _ _ ?_
  clear hKA KA
  try simp only [Act.put, List.getElem_toArray, List.getElem_cons_succ, List.getElem_cons_zero, List.setIfInBounds_toArray, List.set_cons_succ, List.set_cons_zero]
  refine wpAnyC_one 5 (hX1) rfl (by kernel_rfl) (wanted_free rfl _) (fun KA hKA => ?_)
  go_simp
  refine (HC.out _ _ _ hro).mono ?_
  rintro e x2 ⟨rfl, rfl⟩
  refine hKA _ _ ?_
  clear hKA KA hro
  try simp only [Act.put, List.getElem_toArray, List.getElem_cons_succ, List.getElem_cons_zero, List.setIfInBounds_toArray, List.set_cons_succ, List.set_cons_zero]
  refine wpAnyC_take 6 (.bool false) rfl (by kernel_rfl) (by kernel_rfl) (by kernel_rfl) (fun _ _ _ h => h) (wanted_free rfl _) (fun W hW => by go_simp) ?_
  try simp only [Act.put, List.getElem_toArray, List.getElem_cons_succ, List.getElem_cons_zero, List.setIfInBounds_toArray, List.set_cons_succ, List.set_cons_zero]
  refine wpAnyC_take 7 (.bool false) rfl (by kernel_rfl) (by kernel_rfl) (by kernel_rfl) (fun _ _ _ h => h) (wanted_free rfl _) (fun W hW => by go_simp) ?_
  try simp only [Act.put, List.getElem_toArray, List.getElem_cons_succ, List.getElem_cons_zero, List.setIfInBounds_toArray, List.set_cons_succ, List.set_cons_zero]
  refine wpAnyC_done (hX1) (by kernel_rfl) ?_
  have hY := Kpt.mk hx1
  have c18 : x2.cell? ⟨w.heap.size, 18, none⟩ = some (.int .u32 r) := (hX1.cells 18 (by rw [hVs.out]; decide)).trans t2
  clear hx1 hX1
  go_wp2
  go_ret
  exact ⟨rfl, hY.out⟩

set_option maxRecDepth 100000 in
set_option maxHeartbeats 1000000 in
theorem rcheck_xB1 (k p lba : Int) (b : Bk) (w : World) (hb : b.ok) (h0 : 0 ≤ k) (h1 : k ≤ 255) (p0 : 0 ≤ p) (p1 : p ≤ 255) (l0 : 0 ≤ lba) (l1 : lba ≤ 18446744073709551615)
    (ha : ¬ k < 1) (ha3 : ¬ 3 < k) (hp3 : (p == 3) = false) (hp4 : ¬ 4 < p) (hq1 : (b.a == 65535) = false) (hp2 : (p != 2) = true) (hg : (b.g == (reg16 0 b.d : Int)) = true) (hq4 : (p != 4) = false) :
    Calls Try.prog 12 #[.int .i64 k, .int .i64 p, .int .u64 lba, .agg b.vals] w fun e w' => e = .returned (.int .i64 0) ∧ Below w.heap.size w w' := by
  obtain ⟨t0, t1, t2⟩ := cs_tup b hb
  have hr32 := hb.r
  have HB := Kpt.mk (fun W => rbytes_any b hb W)
  have HC := Kpt.mk (fun W a c (h : RowAt W (some a) 16 b.d) => rc16_at W a 16 c b.d hb.len rfl hb.byte h)
  obtain ⟨V, hV⟩ : ∃ V, V = b.vals := ⟨_, rfl⟩
  rw [← hV] at HB t0 t1 t2 ⊢
  have hVs : V.size = 19 := by rw [hV]; exact Bk.size hb
  have hin : (Try.prog.info? 33).map (·.size) = some V.size := by rw [hVs]; kernel_rfl
  have hbx := Kpt.mk (bx_new w V 33)
  have hB0 := Kpt.mk ((Below.refl w.heap.size w).alloc (Nat.le_refl _) (.cells V 33))
  have hlb := Kpt.mk hb
  obtain ⟨d, g, a, r⟩ := b
  simp only at *
  generalize hGG : (reg16 0 d : Int) = G at *
  replace hGG := Kpt.mk hGG
  replace hVs := Kpt.mk hVs
  replace hin := Kpt.mk hin
  clear hV hb
  go_enter Try.func12, Try.ntmps12
  go_wp2_with fail
  refine wp_region_any (by kernel_rfl) ?_
  refine wpAny_of_C (C := fun W => Bx W w.heap.size V) _ _ _ _ ?_
  refine wpAnyC_take 0 (.pointer (some ⟨w.heap.size, 16, none⟩)) rfl (by kernel_rfl) (by kernel_rfl) (by kernel_rfl) (fun _ _ _ h => h) (wanted_free rfl _) (fun W hW => by go_simp) ?_
  try simp only [Act.put, List.getElem_toArray, List.getElem_cons_succ, List.getElem_cons_zero, List.setIfInBounds_toArray, List.set_cons_succ, List.set_cons_zero]
  refine wpAnyC_take 1 (.pointer (some ⟨w.heap.size, 16, none⟩)) rfl (by kernel_rfl) (by kernel_rfl) (by kernel_rfl) (fun _ _ _ h => h) (wanted_free rfl _) (fun W hW => by go_simp) ?_
  try simp only [Act.put, List.getElem_toArray, List.getElem_cons_succ, List.getElem_cons_zero, List.setIfInBounds_toArray, List.set_cons_succ, List.set_cons_zero]
  refine wpAnyC_take 2 (.int .u16 g) rfl (by kernel_rfl) (by kernel_rfl) (by kernel_rfl) (fun _ _ _ h => h) (wanted_free rfl _) (fun W hW => by (have h16 : W.cell? ⟨w.heap.size, 16, none⟩ = some (.int .u16 g) := (hW.cells 16 (by rw [hVs.out]; decide)).trans t0); go_simp) ?_
  try simp only [Act.put, List.getElem_toArray, List.getElem_cons_succ, List.getElem_cons_zero, List.setIfInBounds_toArray, List.set_cons_succ, List.set_cons_zero]
  refine wpAnyC_take 3 (.agg V) rfl (by kernel_rfl) (by kernel_rfl) (by kernel_rfl) (fun _ _ _ h => h) (wanted_free rfl _) (fun W hW => exec_load_bx 33 (.tmp 7) rfl w.heap.size V rfl hW _ Try.underlying33 rfl hin.out) ?_
  try simp only [Act.put, List.getElem_toArray, List.getElem_cons_succ, List.getElem_cons_zero, List.setIfInBounds_toArray, List.set_cons_succ, List.set_cons_zero]
  refine wpAnyC_one 4 (hbx.out.drew) rfl (by kernel_rfl) (wanted_free rfl _) (fun KA hKA => ?_)
  go_simp
  refine (HB.out _).mono ?_
  rintro e x1 ⟨gg, cp, rfl, ho, hq⟩
  have hX1 : Bx x1 w.heap.size V := hbx.out.drew.below hq (by simp)
  have hx1 : Below w.heap.size w x1 := hB0.out.trans ((below_undrew hq).mono (by simp <;> omega))
  have hro := own_rowAt ho
  clear hq ho
  refine hKA _ _ ?_
  clear hKA KA
  try simp only [Act.put, List.getElem_toArray, List.getElem_cons_succ, List.getElem_cons_zero, List.setIfInBounds_toArray, List.set_cons_succ, List.set_cons_zero]
  refine wpAnyC_one 5 (hX1) rfl (by kernel_rfl) (wanted_free rfl _) (fun KA hKA => ?_)
  go_simp
  refine (HC.out _ _ _ hro).mono ?_
  rintro e x2 ⟨rfl, rfl⟩
  refine hKA _ _ ?_
  clear hKA KA hro
  try simp only [Act.put, List.getElem_toArray, List.getElem_cons_succ, List.getElem_cons_zero, List.setIfInBounds_toArray, List.set_cons_succ, List.set_cons_zero]
  refine wpAnyC_take 6 (.bool true) rfl (by kernel_rfl) (by kernel_rfl) (by kernel_rfl) (fun _ _ _ h => h) (wanted_free rfl _) (fun W hW => by go_simp) ?_
  try simp only [Act.put, List.getElem_toArray, List.getElem_cons_succ, List.getElem_cons_zero, List.setIfInBounds_toArray, List.set_cons_succ, List.set_cons_zero]
  refine wpAnyC_take 7 (.bool true) rfl (by kernel_rfl) (by kernel_rfl) (by kernel_rfl) (fun _ _ _ h => h) (wanted_free rfl _) (fun W hW => by go_simp) ?_
  try simp only [Act.put, List.getElem_toArray, List.getElem_cons_succ, List.getElem_cons_zero, List.setIfInBounds_toArray, List.set_cons_succ, List.set_cons_zero]
  refine wpAnyC_done (hX1) (by kernel_rfl) ?_
  have hY := Kpt.mk hx1
  have c18 : x2.cell? ⟨w.heap.size, 18, none⟩ = some (.int .u32 r) := (hX1.cells 18 (by rw [hVs.out]; decide)).trans t2
  clear hx1 hX1
  go_wp2
  go_ret
  exact ⟨rfl, hY.out⟩

set_option maxRecDepth 100000 in
set_option maxHeartbeats 1000000 in
theorem rcheck_xB2 (k p lba : Int) (b : Bk) (w : World) (hb : b.ok) (h0 : 0 ≤ k) (h1 : k ≤ 255) (p0 : 0 ≤ p) (p1 : p ≤ 255) (l0 : 0 ≤ lba) (l1 : lba ≤ 18446744073709551615)
    (ha : ¬ k < 1) (ha3 : ¬ 3 < k) (hp3 : (p == 3) = false) (hp4 : ¬ 4 < p) (hq1 : (b.a == 65535) = false) (hp2 : (p != 2) = true) (hg : (b.g == (reg16 0 b.d : Int)) = true) (hq4 : (p != 4) = true) (hk : (k != 3) = false) :
    Calls Try.prog 12 #[.int .i64 k, .int .i64 p, .int .u64 lba, .agg b.vals] w fun e w' => e = .returned (.int .i64 0) ∧ Below w.heap.size w w' := by
  obtain ⟨t0, t1, t2⟩ := cs_tup b hb
  have hr32 := hb.r
  have HB := Kpt.mk (fun W => rbytes_any b hb W)
  have HC := Kpt.mk (fun W a c (h : RowAt W (some a) 16 b.d) => rc16_at W a 16 c b.d hb.len rfl hb.byte h)
  obtain ⟨V, hV⟩ : ∃ V, V = b.vals := ⟨_, rfl⟩
  rw [← hV] at HB t0 t1 t2 ⊢
  have hVs : V.size = 19 := by rw [hV]; exact Bk.size hb
  have hin : (Try.prog.info? 33).map (·.size) = some V.size := by rw [hVs]; kernel_rfl
  have hbx := Kpt.mk (bx_new w V 33)
  have hB0 := Kpt.mk ((Below.refl w.heap.size w).alloc (Nat.le_refl _) (.cells V 33))
  have hlb := Kpt.mk hb
  obtain ⟨d, g, a, r⟩ := b
  simp only at *
  generalize hGG : (reg16 0 d : Int) = G at *
  replace hGG := Kpt.mk hGG
  replace hVs := Kpt.mk hVs
  replace hin := Kpt.mk hin
  clear hV hb
  go_enter Try.func12, Try.ntmps12
  go_wp2_with fail
  refine wp_region_any (by kernel_rfl) ?_
  refine wpAny_of_C (C := fun W => Bx W w.heap.size V) _ _ _ _ ?_
  refine wpAnyC_take 0 (.pointer (some ⟨w.heap.size, 16, none⟩)) rfl (by kernel_rfl) (by kernel_rfl) (by kernel_rfl) (fun _ _ _ h => h) (wanted_free rfl _) (fun W hW => by go_simp) ?_
  try simp only [Act.put, List.getElem_toArray, List.getElem_cons_succ, List.getElem_cons_zero, List.setIfInBounds_toArray, List.set_cons_succ, List.set_cons_zero]
  refine wpAnyC_take 1 (.pointer (some ⟨w.heap.size, 16, none⟩)) rfl (by kernel_rfl) (by kernel_rfl) (by kernel_rfl) (fun _ _ _ h => h) (wanted_free rfl _) (fun W hW => by go_simp) ?_
  try simp only [Act.put, List.getElem_toArray, List.getElem_cons_succ, List.getElem_cons_zero, List.setIfInBounds_toArray, List.set_cons_succ, List.set_cons_zero]
  refine wpAnyC_take 2 (.int .u16 g) rfl (by kernel_rfl) (by kernel_rfl) (by kernel_rfl) (fun _ _ _ h => h) (wanted_free rfl _) (fun W hW => by (have h16 : W.cell? ⟨w.heap.size, 16, none⟩ = some (.int .u16 g) := (hW.cells 16 (by rw [hVs.out]; decide)).trans t0); go_simp) ?_
  try simp only [Act.put, List.getElem_toArray, List.getElem_cons_succ, List.getElem_cons_zero, List.setIfInBounds_toArray, List.set_cons_succ, List.set_cons_zero]
  refine wpAnyC_take 3 (.agg V) rfl (by kernel_rfl) (by kernel_rfl) (by kernel_rfl) (fun _ _ _ h => h) (wanted_free rfl _) (fun W hW => exec_load_bx 33 (.tmp 7) rfl w.heap.size V rfl hW _ Try.underlying33 rfl hin.out) ?_
  try simp only [Act.put, List.getElem_toArray, List.getElem_cons_succ, List.getElem_cons_zero, List.setIfInBounds_toArray, List.set_cons_succ, List.set_cons_zero]
  refine wpAnyC_one 4 (hbx.out.drew) rfl (by kernel_rfl) (wanted_free rfl _) (fun KA hKA => ?_)
  go_simp
  refine (HB.out _).mono ?_
  rintro e x1 ⟨gg, cp, rfl, ho, hq⟩
  have hX1 : Bx x1 w.heap.size V := hbx.out.drew.below hq (by simp)
  have hx1 : Below w.heap.size w x1 := hB0.out.trans ((below_undrew hq).mono (by simp <;> omega))
  have hro := own_rowAt ho
  clear hq ho
  refine hKA _ _ ?_
  clear hKA KA
  try simp only [Act.put, List.getElem_toArray, List.getElem_cons_succ, List.getElem_cons_zero, List.setIfInBounds_toArray, List.set_cons_succ, List.set_cons_zero]
  refine wpAnyC_one 5 (hX1) rfl (by kernel_rfl) (wanted_free rfl _) (fun KA hKA => ?_)
  go_simp
  refine (HC.out _ _ _ hro).mono ?_
  rintro e x2 ⟨rfl, rfl⟩
  refine hKA _ _ ?_
  clear hKA KA hro
  try simp only [Act.put, List.getElem_toArray, List.getElem_cons_succ, List.getElem_cons_zero, List.setIfInBounds_toArray, List.set_cons_succ, List.set_cons_zero]
  refine wpAnyC_take 6 (.bool true) rfl (by kernel_rfl) (by kernel_rfl) (by kernel_rfl) (fun _ _ _ h => h) (wanted_free rfl _) (fun W hW => by go_simp) ?_
  try simp only [Act.put, List.getElem_toArray, List.getElem_cons_succ, List.getElem_cons_zero, List.setIfInBounds_toArray, List.set_cons_succ, List.set_cons_zero]
  refine wpAnyC_take 7 (.bool true) rfl (by kernel_rfl) (by kernel_rfl) (by kernel_rfl) (fun _ _ _ h => h) (wanted_free rfl _) (fun W hW => by go_simp) ?_
  try simp only [Act.put, List.getElem_toArray, List.getElem_cons_succ, List.getElem_cons_zero, List.setIfInBounds_toArray, List.set_cons_succ, List.set_cons_zero]
  refine wpAnyC_done (hX1) (by kernel_rfl) ?_
  have hY := Kpt.mk hx1
  have c18 : x2.cell? ⟨w.heap.size, 18, none⟩ = some (.int .u32 r) := (hX1.cells 18 (by rw [hVs.out]; decide)).trans t2
  clear hx1 hX1
  go_wp2
  go_ret
  exact ⟨rfl, hY.out⟩
end Go.Proofs.Ytcnjnebhidfogaa
