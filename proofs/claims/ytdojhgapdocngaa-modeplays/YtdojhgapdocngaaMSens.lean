/-
  The contract of Sense.
-/
import Derived.Test.YtdojhgapdocngaaMLayB
namespace Go.Proofs.Ytdojhgapdocngaa
open Go.RowKit
set_option linter.unusedVariables false
set_option linter.unusedSimpArgs false

/-- A command. -/
structure Cm where
  kd : Int
  lg : Bool
  lba : Int
  bl : Int
  al : Int
  fua : Bool
  pr : Int
  um : Bool
  ev : Bool
  pg : Int
  ct : Int
  sv : Bool
  se : Int
  ty : Int
  bs : Bool
def Cm.vals (c : Cm) : Array Value := #[.int .u8 c.kd, .bool c.lg, .int .u64 c.lba, .int .u64 c.bl, .int .i64 c.al, .bool c.fua, .int .u8 c.pr, .bool c.um, .bool c.ev, .int .u8 c.pg, .int .u8 c.ct, .bool c.sv, .int .u8 c.se, .int .u8 c.ty, .bool c.bs]
def zeroS : Array Value := #[.int .u8 0, .int .u16 0, .int .u64 0, .bool false, .int .i64 0, .int .i64 0, .bool false, .bool false]
theorem noS_vals : noS.vals = zeroS := rfl
theorem infoS : (Try.prog.info? 42).map (·.size) = some 8 := by kernel_rfl
theorem Sn.vals_one (c : Sn) : c.vals.all (·.oneCell') = true := by simp [Sn.vals, Value.oneCell']

theorem eqlSlice (a : Addr) (n c : Nat) (w : World) : (binOp .eql 37 (.slice (some a) n c) (.slice none 0 0)).run Try.prog w = .ok (.bool false) w := by kernel_rfl
theorem eqlNil (w : World) : (binOp .eql 37 (.slice none 0 0) (.slice none 0 0)).run Try.prog w = .ok (.bool true) w := by kernel_rfl

theorem bx_sn {w : World} {b : Nat} {s : Sn} (h : Bx w b s.vals) : w.cell? ⟨b, 0, none⟩ = some (.int .u8 s.key) ∧ w.cell? ⟨b, 1, none⟩ = some (.int .u16 s.code) ∧ w.cell? ⟨b, 2, none⟩ = some (.int .u64 s.info) ∧ w.cell? ⟨b, 3, none⟩ = some (.bool s.hi) ∧ w.cell? ⟨b, 4, none⟩ = some (.int .i64 s.field) ∧ w.cell? ⟨b, 5, none⟩ = some (.int .i64 s.bit) ∧ w.cell? ⟨b, 6, none⟩ = some (.bool s.hf) ∧ w.cell? ⟨b, 7, none⟩ = some (.bool s.ic) :=
  ⟨h.cells 0 (show 0 < 8 by decide), h.cells 1 (show 1 < 8 by decide), h.cells 2 (show 2 < 8 by decide), h.cells 3 (show 3 < 8 by decide), h.cells 4 (show 4 < 8 by decide), h.cells 5 (show 5 < 8 by decide), h.cells 6 (show 6 < 8 by decide), h.cells 7 (show 7 < 8 by decide)⟩

def pgFault : Sn := ⟨5, 9216, 0, false, 2, 5, true, true⟩
def senL (lg : Bool) (pg ct : Int) (n s : Vs) : List Int := headL lg ((layB pg (askV ct n s)).length : Nat) n.c ++ layB pg (askV ct n s)
theorem layB_len (pg : Int) (v : Vs) : (layB pg v).length ≤ 32 ∧ 12 ≤ (layB pg v).length := by
  unfold layB
  split
  · exact ⟨show 20 ≤ 32 by decide, show 12 ≤ 20 by decide⟩
  · split
    · exact ⟨show 12 ≤ 32 by decide, show 12 ≤ 12 by decide⟩
    · exact ⟨show 32 ≤ 32 by decide, show 12 ≤ 32 by decide⟩
theorem headL_len (lg : Bool) (k : Int) (c : Bool) : (headL lg k c).length = if lg then 8 else 4 := by cases lg <;> rfl
theorem grown_of_below {w w' : World} {b : Nat} (h : Below w.heap.size w w') : w.grownBy w' (some b) := ⟨h.os, h.tape, h.output, h.size, fun k hk _ => h.block k hk⟩

theorem below_drew (w : World) : Below w.heap.size w w.drew := ⟨rfl, rfl, rfl, Nat.le_refl _, fun _ _ => rfl⟩
/-- The world of Sense ahead of its first region. -/
def sW (w : World) (c : Cm) : World := (w.alloc (.cells c.vals 36)).alloc (.cells zeroS 42)
theorem sW_size (w : World) (c : Cm) : (sW w c).heap.size = w.heap.size + 2 := by unfold sW; simp
theorem sW_below (w : World) (c : Cm) : Below w.heap.size w (sW w c) := ((Below.refl _ _).alloc (Nat.le_refl _) _).alloc (by simp) _
theorem sW_cell (w : World) (c : Cm) (j : Nat) (hj : j < 15) : (sW w c).cell? ⟨w.heap.size, j, none⟩ = c.vals[j]? := by
  unfold sW
  rw [World.cell?_of_block (w := w.alloc (.cells c.vals 36)) (a := ⟨w.heap.size, j, none⟩) (Below.heap_alloc _ _ _ (by simp))]
  simp
theorem sW_bx (w : World) (c : Cm) : Bx (sW w c) (w.heap.size + 1) zeroS := by
  have := bx_new (w.alloc (.cells c.vals 36)) zeroS 42
  simpa [sW] using this

set_option maxRecDepth 100000 in
set_option maxHeartbeats 2000000 in
theorem sense_some (B : Nat) (n s : Vs) (c : Cm) (w : World) (hP : Pg w B n s) (hpg : isPg c.pg) :
    Calls Try.prog 14 #[.pointer (some ⟨B, 0, none⟩), .agg c.vals] w fun e w' => ∃ g k, e = .returned (.tuple #[.slice (some ⟨g, 0, none⟩) (senL c.lg c.pg c.ct n s).length k, .agg noS.vals, .bool true]) ∧ w.heap.size ≤ g ∧ w'.ownsRow w.heap.size 5 1 (.slice (some ⟨g, 0, none⟩) (senL c.lg c.pg c.ct n s).length k) (senL c.lg c.pg c.ct n s).length (cels (senL c.lg c.pg c.ct n s)) ∧ Below w.heap.size w w' := by
  obtain ⟨Z, hZ⟩ : ∃ Z, Z = layB c.pg (askV c.ct n s) := ⟨_, rfl⟩
  have hsen : senL c.lg c.pg c.ct n s = headL c.lg (Z.length : Nat) n.c ++ Z := by rw [hZ]; rfl
  have hZl := layB_len c.pg (askV c.ct n s)
  have HA := Kpt.mk (fun W (h : Pg W B n s) => asked_any B n s c.ct W h)
  have HL := Kpt.mk (fun W => lay_some c.pg (askV c.ct n s) W hpg)
  have HN := Kpt.mk (fun W (h : Pg W B n s) => now_any B n s W h)
  rw [hsen]
  rw [← hZ] at hZl HL
  have HH := Kpt.mk (fun W => head_any c.lg Z.length n W (by omega))
  obtain ⟨m, hm⟩ : ∃ m, m = Z.length := ⟨_, rfl⟩
  obtain ⟨hd, hhd⟩ : ∃ hd, hd = headL c.lg (Z.length : Nat) n.c := ⟨_, rfl⟩
  have hdl : hd.length ≤ 8 ∧ 4 ≤ hd.length := by rw [hhd, headL_len]; cases c.lg <;> simp
  rw [← hhd] at HH ⊢
  obtain ⟨hl, hhl⟩ : ∃ hl, hl = hd.length := ⟨_, rfl⟩
  rw [← hhl] at HH hdl
  rw [← hm] at HL HH hZl
  rw [show (hd ++ Z).length = hl + m from by rw [List.length_append, ← hhl, ← hm]]
  have hmK := Kpt.mk hm
  have hhlK := Kpt.mk hhl
  have hsz := Kpt.mk (sW_size w c)
  have hbl := Kpt.mk (sW_below w c)
  have hbx := Kpt.mk (sW_bx w c)
  have hP1 := Kpt.mk (hP.below (sW_below w c) hP.lt)
  have z1 := sW_cell w c 1 (by decide)
  have z9 := sW_cell w c 9 (by decide)
  have z10 := sW_cell w c 10 (by decide)
  have hBlt := hP.lt
  have hw1 : sW w c = (w.alloc (.cells c.vals 36)).alloc (.cells zeroS 42) := rfl
  obtain ⟨w1, hw1'⟩ : ∃ w1, w1 = sW w c := ⟨_, rfl⟩
  rw [← hw1'] at hw1 hsz hbl hbx hP1 z1 z9 z10
  obtain ⟨av, hav⟩ : ∃ av, av = (askV c.ct n s).vals := ⟨_, rfl⟩
  rw [← hav] at HA HL
  obtain ⟨nv, hnv⟩ : ∃ nv, nv = n.vals := ⟨_, rfl⟩
  rw [← hnv] at HN HH
  obtain ⟨kd, lg, lba, bl, al, fua, pr, um, ev, pg, ct, sv, se, ty, bs⟩ := c
  simp only [Cm.vals] at hw1 z1 z9 z10 HA HL HN HH ⊢
  simp at z1 z9 z10
  replace hw1 := Kpt.mk hw1
  clear hm hhl hhd hZ hsen hP hpg hav hnv hw1'
  go_enter Try.func14, Try.ntmps14
  go_wp2_with fail
  rw [show ((w.alloc (.cells #[.int .u8 kd, .bool lg, .int .u64 lba, .int .u64 bl, .int .i64 al, .bool fua, .int .u8 pr, .bool um, .bool ev, .int .u8 pg, .int .u8 ct, .bool sv, .int .u8 se, .int .u8 ty, .bool bs] 36)).alloc (.cells #[.int .u8 0, .int .u16 0, .int .u64 0, .bool false, .int .i64 0, .int .i64 0, .bool false, .bool false] 42)) = w1 from hw1.out.symm]
  refine wp_region_any (by kernel_rfl) ?_
  refine wpAny_of_C (C := fun W => W.cell? ⟨w.heap.size, 9, none⟩ = some (.int .u8 pg) ∧ W.cell? ⟨w.heap.size, 10, none⟩ = some (.int .u8 ct)) _ _ _ _ ?_
  refine wpAnyC_take 0 (.pointer (some ⟨w.heap.size, 9, none⟩)) rfl (by kernel_rfl) (by kernel_rfl) (by kernel_rfl) (fun _ _ _ h => h) (wanted_free rfl _) (fun W hW => by go_simp) ?_
  simp only [Act.put, List.getElem_toArray, List.getElem_cons_succ, List.getElem_cons_zero, List.setIfInBounds_toArray, List.set_cons_succ, List.set_cons_zero]
  refine wpAnyC_take 1 (.int .u8 pg) rfl (by kernel_rfl) (by kernel_rfl) (by kernel_rfl) (fun _ _ _ h => h) (wanted_free rfl _) (fun W hW => by obtain ⟨y0, y1⟩ := hW; go_simp) ?_
  simp only [Act.put, List.getElem_toArray, List.getElem_cons_succ, List.getElem_cons_zero, List.setIfInBounds_toArray, List.set_cons_succ, List.set_cons_zero]
  refine wpAnyC_take 2 (.pointer (some ⟨B, 0, none⟩)) rfl (by kernel_rfl) (by kernel_rfl) (by kernel_rfl) (fun _ _ _ h => h) (wanted_free rfl _) (fun W hW => by go_simp) ?_
  simp only [Act.put, List.getElem_toArray, List.getElem_cons_succ, List.getElem_cons_zero, List.setIfInBounds_toArray, List.set_cons_succ, List.set_cons_zero]
  refine wpAnyC_take 3 (.pointer (some ⟨w.heap.size, 10, none⟩)) rfl (by kernel_rfl) (by kernel_rfl) (by kernel_rfl) (fun _ _ _ h => h) (wanted_free rfl _) (fun W hW => by go_simp) ?_
  simp only [Act.put, List.getElem_toArray, List.getElem_cons_succ, List.getElem_cons_zero, List.setIfInBounds_toArray, List.set_cons_succ, List.set_cons_zero]
  refine wpAnyC_take 4 (.int .u8 ct) rfl (by kernel_rfl) (by kernel_rfl) (by kernel_rfl) (fun _ _ _ h => h) (wanted_free rfl _) (fun W hW => by obtain ⟨y0, y1⟩ := hW; go_simp) ?_
  simp only [Act.put, List.getElem_toArray, List.getElem_cons_succ, List.getElem_cons_zero, List.setIfInBounds_toArray, List.set_cons_succ, List.set_cons_zero]
  refine wpAnyC_one 5 ⟨z9, z10⟩ rfl (by kernel_rfl) (wanted_free rfl _) (fun KA hKA => ?_)
  go_simp
  refine (HA.out _ (hP1.out.below' (below_drew _))).mono ?_
  rintro e w2 ⟨rfl, hb2⟩
  replace hb2 := below_undrew hb2
  have hl1 : w.heap.size < w1.heap.size := by have := hsz.out; omega
  have y9 := (hb2.cell (p := ⟨w.heap.size, 9, none⟩) hl1).trans z9
  have y10 := (hb2.cell (p := ⟨w.heap.size, 10, none⟩) hl1).trans z10
  refine hKA _ _ ?_
  clear hKA KA
  try simp only [Act.put, List.getElem_toArray, List.getElem_cons_succ, List.getElem_cons_zero, List.setIfInBounds_toArray, List.set_cons_succ, List.set_cons_zero]
  refine wpAnyC_one 6 ⟨y9, y10⟩ rfl (by kernel_rfl) (wanted_free rfl _) (fun KA hKA => ?_)
  go_simp
  refine (HL.out _).mono ?_
  rintro e w3 ⟨g, k, rfl, hg, ho, hb3⟩
  have hbw : Below w1.heap.size w1 w3 := hb2.trans (hb3.mono hb2.size)
  have q9 := (hbw.cell (p := ⟨w.heap.size, 9, none⟩) hl1).trans z9
  have q10 := (hbw.cell (p := ⟨w.heap.size, 10, none⟩) hl1).trans z10
  refine hKA _ _ ?_
  clear hKA KA
  try simp only [Act.put, List.getElem_toArray, List.getElem_cons_succ, List.getElem_cons_zero, List.setIfInBounds_toArray, List.set_cons_succ, List.set_cons_zero]
  refine wpAnyC_take 7 (.slice (some ⟨g, 0, none⟩) m k) rfl (by kernel_rfl) (by kernel_rfl) (by kernel_rfl) (fun _ _ _ h => h) (wanted_free rfl _) (fun W hW => by go_simp) ?_
  simp only [Act.put, List.getElem_toArray, List.getElem_cons_succ, List.getElem_cons_zero, List.setIfInBounds_toArray, List.set_cons_succ, List.set_cons_zero]
  refine wpAnyC_done ⟨q9, q10⟩ (by kernel_rfl) ?_
  have x1 := (hbw.cell (p := ⟨w.heap.size, 1, none⟩) hl1).trans z1
  have hg3 : w1.heap.size ≤ g := Nat.le_trans hb2.size hg
  have hP3 := Kpt.mk (hP1.out.below' hbw)
  have hbx3 := Kpt.mk (hbx.out.below hbw (by have := hsz.out; omega))
  have ho3 : Kpt (w3.ownsRow w1.heap.size 5 1 (.slice (some ⟨g, 0, none⟩) m k) m (cels Z)) := ⟨own_base ho hb2.size⟩
  have hgl := (World.ownsRow.lt ho3.out g rfl).2
  have hsz3 := hbw.size
  replace hbw := Kpt.mk hbw
  clear y9 y10 q9 q10 z1 z9 z10 hb2 hb3 ho hbx hP1
  have hne := eqlSlice ⟨g, 0, none⟩ m k w3
  go_wp2_with fail
  refine wp_region_any (by kernel_rfl) ?_
  refine wpAny_of_C (C := fun W => W.cell? ⟨w.heap.size, 1, none⟩ = some (.bool lg)) _ _ _ _ ?_
  refine wpAnyC_take 0 (.pointer (some ⟨w.heap.size, 1, none⟩)) rfl (by kernel_rfl) (by kernel_rfl) (by kernel_rfl) (fun _ _ _ h => h) (wanted_free rfl _) (fun W hW => by go_simp) ?_
  simp only [Act.put, List.getElem_toArray, List.getElem_cons_succ, List.getElem_cons_zero, List.setIfInBounds_toArray, List.set_cons_succ, List.set_cons_zero]
  refine wpAnyC_take 1 (.bool lg) rfl (by kernel_rfl) (by kernel_rfl) (by kernel_rfl) (fun _ _ _ h => h) (wanted_free rfl _) (fun W hW => by go_simp) ?_
  simp only [Act.put, List.getElem_toArray, List.getElem_cons_succ, List.getElem_cons_zero, List.setIfInBounds_toArray, List.set_cons_succ, List.set_cons_zero]
  refine wpAnyC_take 2 (.slice (some ⟨g, 0, none⟩) m k) rfl (by kernel_rfl) (by kernel_rfl) (by kernel_rfl) (fun _ _ _ h => h) (wanted_free rfl _) (fun W hW => by go_simp) ?_
  simp only [Act.put, List.getElem_toArray, List.getElem_cons_succ, List.getElem_cons_zero, List.setIfInBounds_toArray, List.set_cons_succ, List.set_cons_zero]
  refine wpAnyC_take 3 (.int .i64 m) rfl (by kernel_rfl) (by kernel_rfl) (by kernel_rfl) (fun _ _ _ h => h) (wanted_free rfl _) (fun W hW => by go_simp) ?_
  simp only [Act.put, List.getElem_toArray, List.getElem_cons_succ, List.getElem_cons_zero, List.setIfInBounds_toArray, List.set_cons_succ, List.set_cons_zero]
  refine wpAnyC_take 4 (.pointer (some ⟨B, 0, none⟩)) rfl (by kernel_rfl) (by kernel_rfl) (by kernel_rfl) (fun _ _ _ h => h) (wanted_free rfl _) (fun W hW => by go_simp) ?_
  simp only [Act.put, List.getElem_toArray, List.getElem_cons_succ, List.getElem_cons_zero, List.setIfInBounds_toArray, List.set_cons_succ, List.set_cons_zero]
  refine wpAnyC_take 7 (.slice (some ⟨g, 0, none⟩) m k) rfl (by kernel_rfl) (by kernel_rfl) (by kernel_rfl) (fun _ _ _ h => h) (wanted_free rfl _) (fun W hW => by go_simp) ?_
  simp only [Act.put, List.getElem_toArray, List.getElem_cons_succ, List.getElem_cons_zero, List.setIfInBounds_toArray, List.set_cons_succ, List.set_cons_zero]
  refine wpAnyC_take 9 (.agg #[.int .u8 0, .int .u16 0, .int .u64 0, .bool false, .int .i64 0, .int .i64 0, .bool false, .bool false]) rfl (by kernel_rfl) (by kernel_rfl) (by kernel_rfl) (fun _ _ _ h => h) (wanted_free rfl _) (fun W hW => by go_simp) ?_
  simp only [Act.put, List.getElem_toArray, List.getElem_cons_succ, List.getElem_cons_zero, List.setIfInBounds_toArray, List.set_cons_succ, List.set_cons_zero]
  refine wpAnyC_one 5 x1 rfl (by kernel_rfl) (wanted_free rfl _) (fun KA hKA => ?_)
  go_simp
  refine (HN.out _ (hP3.out.below' (below_drew _))).mono ?_
  rintro e w4 ⟨rfl, hb4⟩
  replace hb4 := below_undrew hb4
  have hl3 : w.heap.size < w3.heap.size := by omega
  have x2 := (hb4.cell (p := ⟨w.heap.size, 1, none⟩) hl3).trans x1
  refine hKA _ _ ?_
  clear hKA KA
  try simp only [Act.put, List.getElem_toArray, List.getElem_cons_succ, List.getElem_cons_zero, List.setIfInBounds_toArray, List.set_cons_succ, List.set_cons_zero]
  refine wpAnyC_one 6 x2 rfl (by kernel_rfl) (wanted_free rfl _) (fun KA hKA => ?_)
  go_simp
  refine (HH.out _).mono ?_
  rintro e w5 ⟨g5, k5, rfl, hg5, ho5, hb5⟩
  have hb35 : Below w3.heap.size w3 w5 := hb4.trans (hb5.mono hb4.size)
  have x3 := (hb35.cell (p := ⟨w.heap.size, 1, none⟩) hl3).trans x1
  have hoZ := own_of_block ho3.out (fun q hq => by cases hq; exact hb35.block _ hgl)
  refine hKA _ _ ?_
  clear hKA KA
  try simp only [Act.put, List.getElem_toArray, List.getElem_cons_succ, List.getElem_cons_zero, List.setIfInBounds_toArray, List.set_cons_succ, List.set_cons_zero]
  refine wpAnyC_one 8 x3 rfl (by kernel_rfl) (wanted_free rfl _) (fun KA hKA => ?_)
  refine wp_append_new rfl (.tmp 26) (.tmp 27) rfl w3.heap.size _ _ hd Z hl (hl + m) rfl rfl (own_base ho5 hb4.size) (own_rd hoZ) (by have := hmK.out; omega) hhlK.out.symm (by have := hmK.out; omega) (by omega) hb35.size ?_
  intro g6 k6 w6 ho6 hl6 hg6
  have hgg5 : w3.heap.size ≤ g5 := Nat.le_trans hb4.size hg5
  have x4 := (far_cell hg6.out ⟨w.heap.size, 1, none⟩ (by have := hb35.size; simp; omega) (fun e => by have e' : g5 = w.heap.size := Option.some.inj e; omega)).trans x3
  have hbx6 := (hbx3.out.below hb35 (by have := hsz.out; omega)).grown hg6.out (fun e => by have e' : g5 = w.heap.size + 1 := Option.some.inj e; have := hsz.out; omega)
  have hbe6 : Kpt (Below w.heap.size w w6) := ⟨((hbl.out.trans (hbw.out.mono (by omega))).trans (hb35.mono (by omega))).grown hg6.out (by have := hb35.size; omega) (fun q hq => by cases hq; show w.heap.size ≤ g5; omega)⟩
  refine hKA _ _ ?_
  clear hKA KA
  try simp only [Act.put, List.getElem_toArray, List.getElem_cons_succ, List.getElem_cons_zero, List.setIfInBounds_toArray, List.set_cons_succ, List.set_cons_zero]
  refine wpAnyC_take 10 (.slice (some ⟨g6, 0, none⟩) (hl + m) k6) rfl (by kernel_rfl) (by kernel_rfl) (by kernel_rfl) (fun _ _ _ h => h) (wanted_free rfl _) (fun W hW => by go_simp) ?_
  simp only [Act.put, List.getElem_toArray, List.getElem_cons_succ, List.getElem_cons_zero, List.setIfInBounds_toArray, List.set_cons_succ, List.set_cons_zero]
  refine wpAnyC_one 11 x4 rfl (by kernel_rfl) (wanted_free rfl _) (fun KA hKA => ?_)
  refine wp_store_bx 42 (.tmp 5) (.tmp 29) rfl (w.heap.size + 1) zeroS zeroS rfl rfl hbx6 rfl infoS (Sn.vals_one noS) ?_
  intro w7 hbx7 hg7
  have x5 := (far_cell hg7 ⟨w.heap.size, 1, none⟩ (by have := hb35.size; have := hg6.out.size; simp; omega) (fun e => by have e' : w.heap.size + 1 = w.heap.size := Option.some.inj e; omega)).trans x4
  have hl6' := hl6.out
  have ho7 : Kpt (w7.ownsRow w3.heap.size 5 1 (.slice (some ⟨g6, 0, none⟩) (hl + m) k6) (hl + m) (cels (hd ++ Z))) := ⟨own_of_block ho6.out (fun q hq => by cases hq; exact hg7.block _ hl6'.2 (fun e => by have e' : g6 = w.heap.size + 1 := Option.some.inj e; omega))⟩
  have hbe7 : Kpt (Below w.heap.size w w7) := ⟨hbe6.out.grown hg7 hbe6.out.size (fun q hq => by cases hq; omega)⟩
  refine hKA _ _ ?_
  clear hKA KA
  try simp only [Act.put, List.getElem_toArray, List.getElem_cons_succ, List.getElem_cons_zero, List.setIfInBounds_toArray, List.set_cons_succ, List.set_cons_zero]
  refine wpAnyC_take 12 (.bool true) rfl (by kernel_rfl) (by kernel_rfl) (by kernel_rfl) (fun _ _ _ h => h) (wanted_free rfl _) (fun W hW => by go_simp) ?_
  simp only [Act.put, List.getElem_toArray, List.getElem_cons_succ, List.getElem_cons_zero, List.setIfInBounds_toArray, List.set_cons_succ, List.set_cons_zero]
  refine wpAnyC_done x5 (by kernel_rfl) ?_
  have hbx7K := Kpt.mk hbx7
  clear x1 x2 x3 x4 x5 hoZ ho5 hb4 hb5 hb35 hg6 ho6 hbx6 hbx7 hg7
  go_wp2_with fail
  obtain ⟨c0, c1, c2, c3, c4, c5, c6, c7⟩ := bx_sn (s := noS) hbx7K.out
  refine bodyPost_ret (v := .tuple #[.slice (some ⟨g6, 0, none⟩) (hl + m) k6, .agg noS.vals, .bool true]) (by simp [results, Try.results14, go_sem, c0, c1, c2, c3, c4, c5, c6, c7, Sn.vals]) rfl ⟨g6, k6, rfl, by omega, own_base ho7.out (by omega), hbe7.out⟩

set_option maxRecDepth 100000 in
set_option maxHeartbeats 2000000 in
theorem sense_no (B : Nat) (n s : Vs) (c : Cm) (w : World) (hP : Pg w B n s) (hpg : ¬ isPg c.pg) :
    Calls Try.prog 14 #[.pointer (some ⟨B, 0, none⟩), .agg c.vals] w fun e w' => e = .returned (.tuple #[.slice none 0 0, .agg pgFault.vals, .bool false]) ∧ Below w.heap.size w w' := by
  have HA := Kpt.mk (fun W (h : Pg W B n s) => asked_any B n s c.ct W h)
  have HL := Kpt.mk (fun W => lay_no c.pg (askV c.ct n s) W hpg)
  have hsz := Kpt.mk (sW_size w c)
  have hbl := Kpt.mk (sW_below w c)
  have hbx := Kpt.mk (sW_bx w c)
  have hP1 := Kpt.mk (hP.below (sW_below w c) hP.lt)
  have z9 := sW_cell w c 9 (by decide)
  have z10 := sW_cell w c 10 (by decide)
  have hBlt := hP.lt
  have hw1 : sW w c = (w.alloc (.cells c.vals 36)).alloc (.cells zeroS 42) := rfl
  obtain ⟨w1, hw1'⟩ : ∃ w1, w1 = sW w c := ⟨_, rfl⟩
  rw [← hw1'] at hw1 hsz hbl hbx hP1 z9 z10
  obtain ⟨av, hav⟩ : ∃ av, av = (askV c.ct n s).vals := ⟨_, rfl⟩
  rw [← hav] at HA HL
  obtain ⟨kd, lg, lba, bl, al, fua, pr, um, ev, pg, ct, sv, se, ty, bs⟩ := c
  simp only [Cm.vals] at hw1 z9 z10 HA HL ⊢
  simp at z9 z10
  replace hw1 := Kpt.mk hw1
  clear hP hpg hav hw1'
  go_enter Try.func14, Try.ntmps14
  go_wp2_with fail
  rw [show ((w.alloc (.cells #[.int .u8 kd, .bool lg, .int .u64 lba, .int .u64 bl, .int .i64 al, .bool fua, .int .u8 pr, .bool um, .bool ev, .int .u8 pg, .int .u8 ct, .bool sv, .int .u8 se, .int .u8 ty, .bool bs] 36)).alloc (.cells #[.int .u8 0, .int .u16 0, .int .u64 0, .bool false, .int .i64 0, .int .i64 0, .bool false, .bool false] 42)) = w1 from hw1.out.symm]
  refine wp_region_any (by kernel_rfl) ?_
  refine wpAny_of_C (C := fun W => W.cell? ⟨w.heap.size, 9, none⟩ = some (.int .u8 pg) ∧ W.cell? ⟨w.heap.size, 10, none⟩ = some (.int .u8 ct)) _ _ _ _ ?_
  refine wpAnyC_take 0 (.pointer (some ⟨w.heap.size, 9, none⟩)) rfl (by kernel_rfl) (by kernel_rfl) (by kernel_rfl) (fun _ _ _ h => h) (wanted_free rfl _) (fun W hW => by go_simp) ?_
  simp only [Act.put, List.getElem_toArray, List.getElem_cons_succ, List.getElem_cons_zero, List.setIfInBounds_toArray, List.set_cons_succ, List.set_cons_zero]
  refine wpAnyC_take 1 (.int .u8 pg) rfl (by kernel_rfl) (by kernel_rfl) (by kernel_rfl) (fun _ _ _ h => h) (wanted_free rfl _) (fun W hW => by obtain ⟨y0, y1⟩ := hW; go_simp) ?_
  simp only [Act.put, List.getElem_toArray, List.getElem_cons_succ, List.getElem_cons_zero, List.setIfInBounds_toArray, List.set_cons_succ, List.set_cons_zero]
  refine wpAnyC_take 2 (.pointer (some ⟨B, 0, none⟩)) rfl (by kernel_rfl) (by kernel_rfl) (by kernel_rfl) (fun _ _ _ h => h) (wanted_free rfl _) (fun W hW => by go_simp) ?_
  simp only [Act.put, List.getElem_toArray, List.getElem_cons_succ, List.getElem_cons_zero, List.setIfInBounds_toArray, List.set_cons_succ, List.set_cons_zero]
  refine wpAnyC_take 3 (.pointer (some ⟨w.heap.size, 10, none⟩)) rfl (by kernel_rfl) (by kernel_rfl) (by kernel_rfl) (fun _ _ _ h => h) (wanted_free rfl _) (fun W hW => by go_simp) ?_
  simp only [Act.put, List.getElem_toArray, List.getElem_cons_succ, List.getElem_cons_zero, List.setIfInBounds_toArray, List.set_cons_succ, List.set_cons_zero]
  refine wpAnyC_take 4 (.int .u8 ct) rfl (by kernel_rfl) (by kernel_rfl) (by kernel_rfl) (fun _ _ _ h => h) (wanted_free rfl _) (fun W hW => by obtain ⟨y0, y1⟩ := hW; go_simp) ?_
  simp only [Act.put, List.getElem_toArray, List.getElem_cons_succ, List.getElem_cons_zero, List.setIfInBounds_toArray, List.set_cons_succ, List.set_cons_zero]
  refine wpAnyC_one 5 ⟨z9, z10⟩ rfl (by kernel_rfl) (wanted_free rfl _) (fun KA hKA => ?_)
  go_simp
  refine (HA.out _ (hP1.out.below' (below_drew _))).mono ?_
  rintro e w2 ⟨rfl, hb2⟩
  replace hb2 := below_undrew hb2
  have hl1 : w.heap.size < w1.heap.size := by have := hsz.out; omega
  have y9 := (hb2.cell (p := ⟨w.heap.size, 9, none⟩) hl1).trans z9
  have y10 := (hb2.cell (p := ⟨w.heap.size, 10, none⟩) hl1).trans z10
  refine hKA _ _ ?_
  clear hKA KA
  try simp only [Act.put, List.getElem_toArray, List.getElem_cons_succ, List.getElem_cons_zero, List.setIfInBounds_toArray, List.set_cons_succ, List.set_cons_zero]
  refine wpAnyC_one 6 ⟨y9, y10⟩ rfl (by kernel_rfl) (wanted_free rfl _) (fun KA hKA => ?_)
  go_simp
  refine (HL.out _).mono ?_
  rintro e w3 ⟨rfl, hb3⟩
  have hbw : Below w1.heap.size w1 w3 := hb2.trans (hb3.mono hb2.size)
  have q9 := (hbw.cell (p := ⟨w.heap.size, 9, none⟩) hl1).trans z9
  have q10 := (hbw.cell (p := ⟨w.heap.size, 10, none⟩) hl1).trans z10
  refine hKA _ _ ?_
  clear hKA KA
  try simp only [Act.put, List.getElem_toArray, List.getElem_cons_succ, List.getElem_cons_zero, List.setIfInBounds_toArray, List.set_cons_succ, List.set_cons_zero]
  refine wpAnyC_take 7 (.slice none 0 0) rfl (by kernel_rfl) (by kernel_rfl) (by kernel_rfl) (fun _ _ _ h => h) (wanted_free rfl _) (fun W hW => by go_simp) ?_
  simp only [Act.put, List.getElem_toArray, List.getElem_cons_succ, List.getElem_cons_zero, List.setIfInBounds_toArray, List.set_cons_succ, List.set_cons_zero]
  refine wpAnyC_done ⟨q9, q10⟩ (by kernel_rfl) ?_
  have hbx3 := hbx.out.below hbw (by have := hsz.out; omega)
  have hlt3 := hbx3.lt
  have hbx3K := Kpt.mk hbx3
  have hbe3 : Kpt (Below w.heap.size w w3) := ⟨hbl.out.trans (hbw.mono (by omega))⟩
  clear y9 y10 q9 q10 z9 z10 hb2 hb3 hbx hP1 hbx3 hbw
  have hne := eqlNil w3
  go_wp2_with fail
  obtain ⟨w4, hw4⟩ : ∃ w4, w4 = w3.alloc (.cells #[.int .u8 5, .int .u16 9216, .int .u64 0, .bool false, .int .i64 2, .int .i64 5, .bool true, .bool true] 42) := ⟨_, rfl⟩
  have hbn : Bx w4 w3.heap.size pgFault.vals := by rw [hw4]; exact bx_new w3 pgFault.vals 42
  have hbr : Bx w4 (w.heap.size + 1) zeroS := by rw [hw4]; exact hbx3K.out.alloc _
  have hbe4 : Below w.heap.size w w4 := by rw [hw4]; exact hbe3.out.alloc hbe3.out.size _
  rw [← hw4]
  clear hw4
  refine wp_region_any (by kernel_rfl) ?_
  refine wpAny_of_C (C := fun W => Bx W w3.heap.size pgFault.vals) _ _ _ _ ?_
  refine wpAnyC_take 0 (.agg #[.int .u8 5, .int .u16 9216, .int .u64 0, .bool false, .int .i64 2, .int .i64 5, .bool true, .bool true]) rfl (by kernel_rfl) (by kernel_rfl) (by kernel_rfl) (fun _ _ _ h => h) (wanted_free rfl _) (fun W hW => by obtain ⟨c0, c1, c2, c3, c4, c5, c6, c7⟩ := bx_sn hW; simp only [pgFault] at c0 c1 c2 c3 c4 c5 c6 c7; go_simp) ?_
  simp only [Act.put, List.getElem_toArray, List.getElem_cons_succ, List.getElem_cons_zero, List.setIfInBounds_toArray, List.set_cons_succ, List.set_cons_zero]
  refine wpAnyC_take 1 (.slice none 0 0) rfl (by kernel_rfl) (by kernel_rfl) (by kernel_rfl) (fun _ _ _ h => h) (wanted_free rfl _) (fun W hW => by go_simp) ?_
  simp only [Act.put, List.getElem_toArray, List.getElem_cons_succ, List.getElem_cons_zero, List.setIfInBounds_toArray, List.set_cons_succ, List.set_cons_zero]
  refine wpAnyC_one 2 hbn.drew rfl (by kernel_rfl) (wanted_free rfl _) (fun KA hKA => ?_)
  refine wp_store_bx 42 (.tmp 5) (.tmp 19) rfl (w.heap.size + 1) zeroS pgFault.vals rfl rfl hbr.drew rfl infoS (Sn.vals_one pgFault) ?_
  intro w5 hbx5 hg5
  have hbn5 := hbn.drew.grown hg5 (fun e => by have e' : w.heap.size + 1 = w3.heap.size := Option.some.inj e; omega)
  have hbe5 : Kpt (Below w.heap.size w w5) := ⟨hbe4.drew.grown hg5 hbe4.size (fun q hq => by cases hq; omega)⟩
  refine hKA _ _ ?_
  clear hKA KA
  try simp only [Act.put, List.getElem_toArray, List.getElem_cons_succ, List.getElem_cons_zero, List.setIfInBounds_toArray, List.set_cons_succ, List.set_cons_zero]
  refine wpAnyC_take 3 (.bool false) rfl (by kernel_rfl) (by kernel_rfl) (by kernel_rfl) (fun _ _ _ h => h) (wanted_free rfl _) (fun W hW => by go_simp) ?_
  simp only [Act.put, List.getElem_toArray, List.getElem_cons_succ, List.getElem_cons_zero, List.setIfInBounds_toArray, List.set_cons_succ, List.set_cons_zero]
  refine wpAnyC_done hbn5 (by kernel_rfl) ?_
  obtain ⟨c0, c1, c2, c3, c4, c5, c6, c7⟩ := bx_sn hbx5
  clear hbn hbr hbe4 hbx5 hbn5 hg5
  go_wp2_with fail
  refine bodyPost_ret (v := .tuple #[.slice none 0 0, .agg pgFault.vals, .bool false]) (by simp [results, Try.results14, go_sem, c0, c1, c2, c3, c4, c5, c6, c7, Sn.vals]) rfl ⟨rfl, hbe5.out⟩
end Go.Proofs.Ytdojhgapdocngaa
