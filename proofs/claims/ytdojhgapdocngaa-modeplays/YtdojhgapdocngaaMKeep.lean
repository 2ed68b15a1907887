/-
  ModeKeeps: the walk.
-/
import Derived.Test.YtdojhgapdocngaaMSelE
import Derived.Test.YtdojhgapdocngaaMSelF
import Derived.Test.YtdojhgapdocngaaMSelG
namespace Go.Proofs.Ytdojhgapdocngaa
open Go.RowKit
set_option linter.unusedVariables false
set_option linter.unusedSimpArgs false

theorem wanted_at (b : Bool) {o oj : Oper} {ops : Array Oper} {tmps : Array Value} {j d : Nat} (hg : o.guard = some (j, b)) (hj : ops[j]? = some oj) (hd : oj.dst = some d) (ht : tmps[d]? = some (.bool b)) : Region.wanted o (yielded ops tmps) = true := by
  unfold Region.wanted yielded
  rw [hg]
  simp [hj, hd, ht]
theorem infoC : (Try.prog.info? 36).map (·.size) = some 15 := by kernel_rfl
theorem neV_self (a b c : Bool) : neV ⟨a, b, c⟩ ⟨a, b, c⟩ = false := neV_eq.2 rfl
theorem rd_below {w W : World} {v : Value} {p : List Int} (h : RdAt w v p) (hB : Below w.heap.size w W) : RdAt W v p := by
  obtain ⟨a, c, rfl, ha, hlc, h⟩ := h
  refine ⟨a, c, rfl, ha, hlc, ?_⟩
  rcases h with h | ⟨b, off, rfl, hc⟩
  · exact .inl h
  · exact .inr ⟨b, off, rfl, fun j u hu => (hB.cell (p := ⟨b, off + j, none⟩) (World.block_lt_of_cell? w ⟨b, off + j, none⟩ (hc j u hu))).trans (hc j u hu)⟩

set_option maxRecDepth 100000 in
set_option maxHeartbeats 4000000 in
theorem keeps_go (v : Vs) (c : Cm) (x : Value) (p : List Int) (w : World) (hp : RdAt w x p) (n' s' : Vs) (ch ok : Bool) (s : Sn)
    (HS : ∀ W B, Below w.heap.size w W → w.heap.size ≤ B → Pg W B v v → Calls Try.prog 12 #[.pointer (some ⟨B, 0, none⟩), .agg c.vals, x] W fun e w' => e = .returned (.tuple #[.bool ch, .agg s.vals, .bool ok]) ∧ Pg w' B n' s' ∧ W.grownBy w' (some B))
    (hres : (ok = false ∧ ch = false ∧ s.key = 5 ∧ n' = v ∧ s' = v) ∨ (ok = true ∧ s = noS ∧ ch = neV n' v)) :
    Calls Try.prog 5 #[.agg v.vals, .agg c.vals, x] w fun e w' => e = .returned (.bool true) ∧ Below w.heap.size w w' := by
  have HA := Kpt.mk awake_any
  have HN := Kpt.mk (new_any v)
  have HSn := Kpt.mk (fun W => select_nil c (match x with | .slice a _ _ => a | _ => none) (match x with | .slice _ l _ => l | _ => 0) (match x with | .slice _ _ k => k | _ => 0) W)
  obtain ⟨xa, xc, hx, hxr⟩ : ∃ xa xc, x = .slice xa p.length xc ∧ True := by obtain ⟨a, c, h, _⟩ := hp; exact ⟨a, c, h, trivial⟩
  obtain ⟨xl, hxl⟩ : ∃ l, l = p.length := ⟨_, rfl⟩
  rw [← hxl] at hx
  subst hx
  simp only at HSn
  obtain ⟨S, hS⟩ : ∃ S, S = strOfNums p := ⟨_, rfl⟩
  have HC : Kpt (∀ W, Below w.heap.size w W → (convert 37 9 (.slice xa xl xc)).run Try.prog W = .ok (.string S) W) := ⟨fun W hW => by rw [hS]; exact conv_rd (rd_below hp hW)⟩
  replace HS := Kpt.mk HS
  replace hres := Kpt.mk hres
  clear hp hxr hxl hS
  have hzs : zeroS = #[.int .u8 0, .int .u16 0, .int .u64 0, .bool false, .int .i64 0, .int .i64 0, .bool false, .bool false] := rfl
  obtain ⟨kd, lg, lba, bl, al, fua, pr, um, ev, pg, ct, sv, se, ty, bs⟩ := c
  simp only [Cm.vals] at HS HSn ⊢
  obtain ⟨va, vb, vc⟩ := v
  rw [show (Vs.vals ⟨va, vb, vc⟩) = #[.bool va, .bool vb, .bool vc] from rfl] at HN ⊢
  obtain ⟨sk, sc, si, shi, sf, sb, shf, sic⟩ := s
  rw [show Sn.vals ⟨sk, sc, si, shi, sf, sb, shf, sic⟩ = #[.int .u8 sk, .int .u16 sc, .int .u64 si, .bool shi, .int .i64 sf, .int .i64 sb, .bool shf, .bool sic] from rfl] at HS
  go_enter Try.func5, Try.ntmps5
  go_wp2_with fail
  refine (HA.out _).mono ?_
  rintro e w1 ⟨rfl, hb1⟩
  obtain ⟨v0, v1, v2, vl⟩ : w1.cell? ⟨w.heap.size, 0, none⟩ = some (.bool va) ∧ w1.cell? ⟨w.heap.size, 1, none⟩ = some (.bool vb) ∧ w1.cell? ⟨w.heap.size, 2, none⟩ = some (.bool vc) ∧ w.heap.size + 2 ≤ w1.heap.size :=
    ⟨(hb1.cell (p := ⟨w.heap.size, 0, none⟩) (by simp; omega)).trans (by simp), (hb1.cell (p := ⟨w.heap.size, 1, none⟩) (by simp; omega)).trans (by simp), (hb1.cell (p := ⟨w.heap.size, 2, none⟩) (by simp; omega)).trans (by simp), by have := hb1.size; simp at this; omega⟩
  have hbc1 : Bx w1 (w.heap.size + 1) #[.int .u8 kd, .bool lg, .int .u64 lba, .int .u64 bl, .int .i64 al, .bool fua, .int .u8 pr, .bool um, .bool ev, .int .u8 pg, .int .u8 ct, .bool sv, .int .u8 se, .int .u8 ty, .bool bs] := by
    have := (bx_new (w.alloc (.cells #[.bool va, .bool vb, .bool vc] 23)) #[.int .u8 kd, .bool lg, .int .u64 lba, .int .u64 bl, .int .i64 al, .bool fua, .int .u8 pr, .bool um, .bool ev, .int .u8 pg, .int .u8 ct, .bool sv, .int .u8 se, .int .u8 ty, .bool bs] 36).below hb1 (by simp)
    rw [show (w.alloc (.cells #[.bool va, .bool vb, .bool vc] 23)).heap.size = w.heap.size + 1 from by simp] at this
    exact this
  have hB1 : Below w.heap.size w w1 := (((Below.refl _ _).alloc (Nat.le_refl _) _).alloc (by simp) _).trans (hb1.mono (by simp; omega))
  replace hB1 := Kpt.mk hB1
  replace hbc1 := Kpt.mk hbc1
  clear hb1 HA
  go_wp2_with fail
  refine (HN.out _).mono ?_
  rintro e w2 ⟨B, rfl, hBB, hP2, hb2⟩
  have u0 := (hb2.cell (p := ⟨w.heap.size, 0, none⟩) (by show w.heap.size < _; omega)).trans v0
  have u1 := (hb2.cell (p := ⟨w.heap.size, 1, none⟩) (by show w.heap.size < _; omega)).trans v1
  have u2 := (hb2.cell (p := ⟨w.heap.size, 2, none⟩) (by show w.heap.size < _; omega)).trans v2
  have hbc2 := Kpt.mk (hbc1.out.below' hb2)
  have hB2 : Kpt (Below w.heap.size w w2) := ⟨hB1.out.trans (hb2.mono hB1.out.size)⟩
  have hl2 : w.heap.size + 2 ≤ w2.heap.size := Nat.le_trans vl hb2.size
  have hBB : w.heap.size + 2 ≤ B := Nat.le_trans vl hBB
  have hcv := HC.out w2 hB2.out
  have hP2K := Kpt.mk hP2
  clear v0 v1 v2 hb2 hbc1 hB1 HN hP2
  go_wp2_with (refine wpList_load_bx rfl 36 (.tmp 4) rfl (w.heap.size + 1) #[.int .u8 kd, .bool lg, .int .u64 lba, .int .u64 bl, .int .i64 al, .bool fua, .int .u8 pr, .bool um, .bool ev, .int .u8 pg, .int .u8 ct, .bool sv, .int .u8 se, .int .u8 ty, .bool bs] rfl hbc2.out _ Try.underlying36 rfl infoC ?_)
  refine (HS.out w2 B hB2.out (by omega) hP2K.out).mono ?_
  rintro e w3 ⟨rfl, hP3, hg3⟩
  have t0 := (far_cell hg3 ⟨w.heap.size, 0, none⟩ (by show w.heap.size < _; omega) (fun e => by have e' : B = w.heap.size := Option.some.inj e; omega)).trans u0
  have t1 := (far_cell hg3 ⟨w.heap.size, 1, none⟩ (by show w.heap.size < _; omega) (fun e => by have e' : B = w.heap.size := Option.some.inj e; omega)).trans u1
  have t2 := (far_cell hg3 ⟨w.heap.size, 2, none⟩ (by show w.heap.size < _; omega) (fun e => by have e' : B = w.heap.size := Option.some.inj e; omega)).trans u2
  have hbc3 := hbc2.out.grown hg3 (fun e => by have e' : B = w.heap.size + 1 := Option.some.inj e; omega)
  have hB3 : Below w.heap.size w w3 := hB2.out.grown hg3 hB2.out.size (fun q hq => by cases hq; omega)
  have hl3 : w.heap.size + 2 ≤ w3.heap.size := Nat.le_trans hl2 hg3.size
  obtain ⟨w4, hw4⟩ : ∃ w4, w4 = w3.alloc (.cells #[.int .u8 sk, .int .u16 sc, .int .u64 si, .bool shi, .int .i64 sf, .int .i64 sb, .bool shf, .bool sic] 42) := ⟨_, rfl⟩
  have hw4K := Kpt.mk hw4
  have hx4 : Bx w4 w3.heap.size (Sn.vals ⟨sk, sc, si, shi, sf, sb, shf, sic⟩) := by rw [hw4]; exact bx_new w3 (Sn.vals ⟨sk, sc, si, shi, sf, sb, shf, sic⟩) 42
  have hb4 : Below w3.heap.size w3 w4 := by rw [hw4]; exact (Below.refl _ _).alloc (Nat.le_refl _) _
  obtain ⟨X, hX⟩ : ∃ X, X = w3.heap.size := ⟨_, rfl⟩
  rw [← hX] at hx4
  have hXb : w.heap.size + 2 ≤ X ∧ X ≠ B := by have := hP3.lt; omega
  have q0 := (hb4.cell (p := ⟨w.heap.size, 0, none⟩) (by show w.heap.size < _; omega)).trans t0
  have q1 := (hb4.cell (p := ⟨w.heap.size, 1, none⟩) (by show w.heap.size < _; omega)).trans t1
  have q2 := (hb4.cell (p := ⟨w.heap.size, 2, none⟩) (by show w.heap.size < _; omega)).trans t2
  have hP4 := hP3.below' hb4
  have hbc4 := Kpt.mk (hbc3.below' hb4)
  have hB4 : Kpt (Below w.heap.size w w4) := ⟨hB3.trans (hb4.mono hB3.size)⟩
  have hl4 : w.heap.size + 2 ≤ w4.heap.size := Nat.le_trans hl3 hb4.size
  have hcv4 := HC.out w4 hB4.out
  have hcv' : (convert 37 9 (.slice xa xl xc)).run Try.prog (w3.alloc (.cells #[.int .u8 sk, .int .u16 sc, .int .u64 si, .bool shi, .int .i64 sf, .int .i64 sb, .bool shf, .bool sic] 42)) = .ok (.string S) (w3.alloc (.cells #[.int .u8 sk, .int .u16 sc, .int .u64 si, .bool shi, .int .i64 sf, .int .i64 sb, .bool shf, .bool sic] 42)) := by rw [← hw4]; exact hcv4
  clear t0 t1 t2 u0 u1 u2 hbc2 hbc3 hB2 hB3 hl2 hP2K hg3 hP3 HS hcv vl hw4
  have hx4 := Kpt.mk hx4
  have hP4 := Kpt.mk hP4
  have q := Kpt.mk (And.intro q0 (And.intro q1 q2))
  clear q0 q1 q2
  cases hok : ok
  · rcases hres.out with ⟨_, hch, hk5, hn, hs⟩ | ⟨h, _⟩
    case inr => rw [hok] at h; cases h
    subst hch hk5 hn hs
    go_wp2_with fail
    rw [← hX]
    replace hX := Kpt.mk hX
    rw [show w3.alloc (.cells #[.int .u8 5, .int .u16 sc, .int .u64 si, .bool shi, .int .i64 sf, .int .i64 sb, .bool shf, .bool sic] 42) = w4 from hw4K.out.symm]
    refine wp_region_any (by kernel_rfl) ?_
    refine wpAny_of_C (C := fun W => Pg W B ⟨va, vb, vc⟩ ⟨va, vb, vc⟩ ∧ W.cell? ⟨X, 0, none⟩ = some (.int .u8 5) ∧ W.cell? ⟨w.heap.size, 0, none⟩ = some (.bool va) ∧ W.cell? ⟨w.heap.size, 1, none⟩ = some (.bool vb) ∧ W.cell? ⟨w.heap.size, 2, none⟩ = some (.bool vc)) _ _ _ _ ?_
    have hself := eql_vs va vb vc va vb vc
    rw [neV_self] at hself
    simp only [Bool.not_false] at hself
    have hC0 : Pg w4 B ⟨va, vb, vc⟩ ⟨va, vb, vc⟩ ∧ w4.cell? ⟨X, 0, none⟩ = some (.int .u8 5) ∧ w4.cell? ⟨w.heap.size, 0, none⟩ = some (.bool va) ∧ w4.cell? ⟨w.heap.size, 1, none⟩ = some (.bool vb) ∧ w4.cell? ⟨w.heap.size, 2, none⟩ = some (.bool vc) := ⟨hP4.out, (bx_sn hx4.out).1, q.out⟩
    have hXl := hx4.out.lt
    have carry : ∀ W, Below w4.heap.size w4 W → (Pg W B ⟨va, vb, vc⟩ ⟨va, vb, vc⟩ ∧ W.cell? ⟨X, 0, none⟩ = some (.int .u8 5) ∧ W.cell? ⟨w.heap.size, 0, none⟩ = some (.bool va) ∧ W.cell? ⟨w.heap.size, 1, none⟩ = some (.bool vb) ∧ W.cell? ⟨w.heap.size, 2, none⟩ = some (.bool vc)) := fun W h => ⟨hC0.1.below' h, (h.cell (p := ⟨X, 0, none⟩) hXl).trans hC0.2.1, (h.cell (p := ⟨w.heap.size, 0, none⟩) (by show w.heap.size < _; omega)).trans hC0.2.2.1, (h.cell (p := ⟨w.heap.size, 1, none⟩) (by show w.heap.size < _; omega)).trans hC0.2.2.2.1, (h.cell (p := ⟨w.heap.size, 2, none⟩) (by show w.heap.size < _; omega)).trans hC0.2.2.2.2⟩
    replace carry := Kpt.mk carry
    refine wpAnyC_take 0 (.bool false) rfl (by kernel_rfl) (by kernel_rfl) (by kernel_rfl) (fun _ _ _ h => h) (wanted_free rfl _) (fun W hW => by go_simp) ?_
    simp only [Act.put, List.getElem_toArray, List.getElem_cons_succ, List.getElem_cons_zero, List.setIfInBounds_toArray, List.set_cons_succ, List.set_cons_zero]
    refine wpAnyC_take 1 (.bool true) rfl (by kernel_rfl) (by kernel_rfl) (by kernel_rfl) (fun _ _ _ h => h) (wanted_free rfl _) (fun W hW => by go_simp) ?_
    simp only [Act.put, List.getElem_toArray, List.getElem_cons_succ, List.getElem_cons_zero, List.setIfInBounds_toArray, List.set_cons_succ, List.set_cons_zero]
    refine wpAnyC_take 2 (.bool true) rfl (by kernel_rfl) (by kernel_rfl) (by kernel_rfl) (fun _ _ _ h => h) (wanted_free rfl _) (fun W hW => by go_simp) ?_
    simp only [Act.put, List.getElem_toArray, List.getElem_cons_succ, List.getElem_cons_zero, List.setIfInBounds_toArray, List.set_cons_succ, List.set_cons_zero]
    refine wpAnyC_take 3 (.pointer (some ⟨X, 0, none⟩)) rfl (by kernel_rfl) (by kernel_rfl) (by kernel_rfl) (fun _ _ _ h => h) (wanted_at true rfl rfl rfl rfl) (fun W hW => by go_simp) ?_
    simp only [Act.put, List.getElem_toArray, List.getElem_cons_succ, List.getElem_cons_zero, List.setIfInBounds_toArray, List.set_cons_succ, List.set_cons_zero]
    refine wpAnyC_take 4 (.int .u8 5) rfl (by kernel_rfl) (by kernel_rfl) (by kernel_rfl) (fun _ _ _ h => h) (wanted_at true rfl rfl rfl rfl) (fun W hW => by obtain ⟨_, y0, _⟩ := hW; go_simp) ?_
    simp only [Act.put, List.getElem_toArray, List.getElem_cons_succ, List.getElem_cons_zero, List.setIfInBounds_toArray, List.set_cons_succ, List.set_cons_zero]
    refine wpAnyC_take 5 (.bool true) rfl (by kernel_rfl) (by kernel_rfl) (by kernel_rfl) (fun _ _ _ h => h) (wanted_at true rfl rfl rfl rfl) (fun W hW => by go_simp) ?_
    simp only [Act.put, List.getElem_toArray, List.getElem_cons_succ, List.getElem_cons_zero, List.setIfInBounds_toArray, List.set_cons_succ, List.set_cons_zero]
    refine wpAnyC_take 6 (.bool true) rfl (by kernel_rfl) (by kernel_rfl) (by kernel_rfl) (fun _ _ _ h => h) (wanted_free rfl _) (fun W hW => by go_simp) ?_
    simp only [Act.put, List.getElem_toArray, List.getElem_cons_succ, List.getElem_cons_zero, List.setIfInBounds_toArray, List.set_cons_succ, List.set_cons_zero]
    refine wpAnyC_take 7 (.bool true) rfl (by kernel_rfl) (by kernel_rfl) (by kernel_rfl) (fun _ _ _ h => h) (wanted_free rfl _) (fun W hW => by go_simp) ?_
    simp only [Act.put, List.getElem_toArray, List.getElem_cons_succ, List.getElem_cons_zero, List.setIfInBounds_toArray, List.set_cons_succ, List.set_cons_zero]
    refine wpAnyC_take 8 (.pointer (some ⟨B, 0, none⟩)) rfl (by kernel_rfl) (by kernel_rfl) (by kernel_rfl) (fun _ _ _ h => h) (wanted_at true rfl rfl rfl rfl) (fun W hW => by go_simp) ?_
    simp only [Act.put, List.getElem_toArray, List.getElem_cons_succ, List.getElem_cons_zero, List.setIfInBounds_toArray, List.set_cons_succ, List.set_cons_zero]
    refine wpAnyC_take 10 (.agg #[.bool va, .bool vb, .bool vc]) rfl (by kernel_rfl) (by kernel_rfl) (by kernel_rfl) (fun _ _ _ h => h) (wanted_at true rfl rfl rfl rfl) (fun W hW => by obtain ⟨_, _, y0, y1, y2⟩ := hW; go_simp) ?_
    simp only [Act.put, List.getElem_toArray, List.getElem_cons_succ, List.getElem_cons_zero, List.setIfInBounds_toArray, List.set_cons_succ, List.set_cons_zero]
    refine wpAnyC_one 9 (carry.out _ (below_drew _)) rfl (by kernel_rfl) (wanted_at true rfl rfl rfl rfl) (fun KA hKA => ?_)
    go_simp
    refine (now_any B ⟨va, vb, vc⟩ ⟨va, vb, vc⟩ _ (hP4.out.below' (below_drew _))).mono ?_
    rintro e w5 ⟨rfl, hb5⟩
    replace hb5 := below_undrew hb5
    refine hKA _ _ ?_
    clear hKA KA
    try simp only [Act.put, List.getElem_toArray, List.getElem_cons_succ, List.getElem_cons_zero, List.setIfInBounds_toArray, List.set_cons_succ, List.set_cons_zero]
    refine wpAnyC_take 11 (.bool true) rfl (by kernel_rfl) (by kernel_rfl) (by kernel_rfl) (fun _ _ _ h => h) (wanted_at true rfl rfl rfl rfl) (fun W hW => by go_simp; first | done | (rw [show Vs.vals ⟨va, vb, vc⟩ = #[.bool va, .bool vb, .bool vc] from rfl]; go_simp)) ?_
    simp only [Act.put, List.getElem_toArray, List.getElem_cons_succ, List.getElem_cons_zero, List.setIfInBounds_toArray, List.set_cons_succ, List.set_cons_zero]
    refine wpAnyC_take 12 (.bool true) rfl (by kernel_rfl) (by kernel_rfl) (by kernel_rfl) (fun _ _ _ h => h) (wanted_free rfl _) (fun W hW => by go_simp) ?_
    simp only [Act.put, List.getElem_toArray, List.getElem_cons_succ, List.getElem_cons_zero, List.setIfInBounds_toArray, List.set_cons_succ, List.set_cons_zero]
    refine wpAnyC_take 13 (.bool true) rfl (by kernel_rfl) (by kernel_rfl) (by kernel_rfl) (fun _ _ _ h => h) (wanted_free rfl _) (fun W hW => by go_simp) ?_
    simp only [Act.put, List.getElem_toArray, List.getElem_cons_succ, List.getElem_cons_zero, List.setIfInBounds_toArray, List.set_cons_succ, List.set_cons_zero]
    refine wpAnyC_take 14 (.pointer (some ⟨B, 0, none⟩)) rfl (by kernel_rfl) (by kernel_rfl) (by kernel_rfl) (fun _ _ _ h => h) (wanted_at true rfl rfl rfl rfl) (fun W hW => by go_simp) ?_
    simp only [Act.put, List.getElem_toArray, List.getElem_cons_succ, List.getElem_cons_zero, List.setIfInBounds_toArray, List.set_cons_succ, List.set_cons_zero]
    refine wpAnyC_take 16 (.agg #[.bool va, .bool vb, .bool vc]) rfl (by kernel_rfl) (by kernel_rfl) (by kernel_rfl) (fun _ _ _ h => h) (wanted_at true rfl rfl rfl rfl) (fun W hW => by obtain ⟨_, _, y0, y1, y2⟩ := hW; go_simp) ?_
    simp only [Act.put, List.getElem_toArray, List.getElem_cons_succ, List.getElem_cons_zero, List.setIfInBounds_toArray, List.set_cons_succ, List.set_cons_zero]
    refine wpAnyC_one 15 (carry.out _ hb5) rfl (by kernel_rfl) (wanted_at true rfl rfl rfl rfl) (fun KA hKA => ?_)
    go_simp
    refine (saved_any B ⟨va, vb, vc⟩ ⟨va, vb, vc⟩ _ (hP4.out.below' hb5)).mono ?_
    rintro e w6 ⟨rfl, hb6⟩
    have hb46 : Below w4.heap.size w4 w6 := hb5.trans (hb6.mono hb5.size)
    refine hKA _ _ ?_
    clear hKA KA
    try simp only [Act.put, List.getElem_toArray, List.getElem_cons_succ, List.getElem_cons_zero, List.setIfInBounds_toArray, List.set_cons_succ, List.set_cons_zero]
    refine wpAnyC_take 17 (.bool true) rfl (by kernel_rfl) (by kernel_rfl) (by kernel_rfl) (fun _ _ _ h => h) (wanted_at true rfl rfl rfl rfl) (fun W hW => by go_simp; first | done | (rw [show Vs.vals ⟨va, vb, vc⟩ = #[.bool va, .bool vb, .bool vc] from rfl]; go_simp)) ?_
    simp only [Act.put, List.getElem_toArray, List.getElem_cons_succ, List.getElem_cons_zero, List.setIfInBounds_toArray, List.set_cons_succ, List.set_cons_zero]
    refine wpAnyC_take 18 (.bool true) rfl (by kernel_rfl) (by kernel_rfl) (by kernel_rfl) (fun _ _ _ h => h) (wanted_free rfl _) (fun W hW => by go_simp) ?_
    simp only [Act.put, List.getElem_toArray, List.getElem_cons_succ, List.getElem_cons_zero, List.setIfInBounds_toArray, List.set_cons_succ, List.set_cons_zero]
    refine wpAnyC_take 19 (.bool true) rfl (by kernel_rfl) (by kernel_rfl) (by kernel_rfl) (fun _ _ _ h => h) (wanted_free rfl _) (fun W hW => by go_simp) ?_
    simp only [Act.put, List.getElem_toArray, List.getElem_cons_succ, List.getElem_cons_zero, List.setIfInBounds_toArray, List.set_cons_succ, List.set_cons_zero]
    refine wpAnyC_done (carry.out _ hb46) (by kernel_rfl) ?_
    have hBF : Kpt (Below w.heap.size w w6) := ⟨hB4.out.trans (hb46.mono hB4.out.size)⟩
    clear hb46 hb5 hb6 carry hC0
    go_wp2_with fail
    go_ret
    exact ⟨rfl, hBF.out⟩
  · rcases hres.out with ⟨h, _⟩ | ⟨_, hsn, hch⟩
    · rw [hok] at h; cases h
    simp only [noS, Sn.mk.injEq] at hsn
    obtain ⟨rfl, rfl, rfl, rfl, rfl, rfl, rfl, rfl⟩ := hsn
    obtain ⟨na, nb, nc⟩ := n'
    subst hch
    have hbcA : Kpt (Bx (w3.alloc (.cells #[.int .u8 0, .int .u16 0, .int .u64 0, .bool false, .int .i64 0, .int .i64 0, .bool false, .bool false] 42)) (w.heap.size + 1) #[.int .u8 kd, .bool lg, .int .u64 lba, .int .u64 bl, .int .i64 al, .bool fua, .int .u8 pr, .bool um, .bool ev, .int .u8 pg, .int .u8 ct, .bool sv, .int .u8 se, .int .u8 ty, .bool bs]) := ⟨by rw [← hw4K.out]; exact hbc4.out⟩
    go_wp2_with (refine wpList_load_bx rfl 36 (.tmp 4) rfl (w.heap.size + 1) #[.int .u8 kd, .bool lg, .int .u64 lba, .int .u64 bl, .int .i64 al, .bool fua, .int .u8 pr, .bool um, .bool ev, .int .u8 pg, .int .u8 ct, .bool sv, .int .u8 se, .int .u8 ty, .bool bs] rfl hbcA.out _ Try.underlying36 rfl infoC ?_)
    rw [← hX]
    replace hX := Kpt.mk hX
    rw [show w3.alloc (.cells #[.int .u8 0, .int .u16 0, .int .u64 0, .bool false, .int .i64 0, .int .i64 0, .bool false, .bool false] 42) = w4 from hw4K.out.symm]
    refine (HSn.out w4).mono ?_
    rintro e w5 ⟨rfl, hb5⟩
    rw [show noS.vals = #[.int .u8 0, .int .u16 0, .int .u64 0, .bool false, .int .i64 0, .int .i64 0, .bool false, .bool false] from rfl]
    clear hcv' hbcA hcv4
    go_wp2_with fail
    obtain ⟨w6, hw6⟩ : ∃ w6, w6 = w5.alloc (.cells #[.int .u8 0, .int .u16 0, .int .u64 0, .bool false, .int .i64 0, .int .i64 0, .bool false, .bool false] 42) := ⟨_, rfl⟩
    have hb56 : Below w5.heap.size w5 w6 := by rw [hw6]; exact (Below.refl _ _).alloc (Nat.le_refl _) _
    have hy6 : Bx w6 w5.heap.size (Sn.vals noS) := by rw [hw6]; exact bx_new w5 (Sn.vals noS) 42
    rw [← hw6]
    have hb46 : Below w4.heap.size w4 w6 := hb5.trans (hb56.mono hb5.size)
    obtain ⟨Y, hY⟩ : ∃ Y, Y = w5.heap.size := ⟨_, rfl⟩
    rw [← hY] at hy6 ⊢
    replace hY := Kpt.mk hY
    have hP6 := hP4.out.below' hb46
    have hx6 := hx4.out.below' hb46
    obtain ⟨q0, q1, q2⟩ := q.out
    have r0 := (hb46.cell (p := ⟨w.heap.size, 0, none⟩) (by show w.heap.size < _; omega)).trans q0
    have r1 := (hb46.cell (p := ⟨w.heap.size, 1, none⟩) (by show w.heap.size < _; omega)).trans q1
    have r2 := (hb46.cell (p := ⟨w.heap.size, 2, none⟩) (by show w.heap.size < _; omega)).trans q2
    have hB6 : Kpt (Below w.heap.size w w6) := ⟨hB4.out.trans (hb46.mono hB4.out.size)⟩
    have hl6 : w.heap.size + 2 ≤ w6.heap.size := Nat.le_trans hl4 hb46.size
    have carry : Kpt (∀ W, Below w6.heap.size w6 W → (Pg W B ⟨na, nb, nc⟩ s' ∧ Bx W X (Sn.vals noS) ∧ Bx W Y (Sn.vals noS) ∧ W.cell? ⟨w.heap.size, 0, none⟩ = some (.bool va) ∧ W.cell? ⟨w.heap.size, 1, none⟩ = some (.bool vb) ∧ W.cell? ⟨w.heap.size, 2, none⟩ = some (.bool vc))) := ⟨fun W h => ⟨hP6.below' h, hx6.below' h, hy6.below' h, (h.cell (p := ⟨w.heap.size, 0, none⟩) (by show w.heap.size < _; omega)).trans r0, (h.cell (p := ⟨w.heap.size, 1, none⟩) (by show w.heap.size < _; omega)).trans r1, (h.cell (p := ⟨w.heap.size, 2, none⟩) (by show w.heap.size < _; omega)).trans r2⟩⟩
    have hP6K := Kpt.mk hP6
    clear hw6 hb56 hy6 hb46 hP6 hx6 q0 q1 q2 r0 r1 r2 hb5 hw4K
    have hnq := neq_vs na nb nc va vb vc
    have hes : ∀ W : World, (binOp .eql 42 (.agg #[.int .u8 0, .int .u16 0, .int .u64 0, .bool false, .int .i64 0, .int .i64 0, .bool false, .bool false]) (.agg #[.int .u8 0, .int .u16 0, .int .u64 0, .bool false, .int .i64 0, .int .i64 0, .bool false, .bool false])).run Try.prog W = .ok (.bool true) W := fun _ => by kernel_rfl
    have hef : ∀ W : World, (binOp .eql 23 (.agg #[.bool false, .bool false, .bool false]) (.agg #[.bool false, .bool false, .bool false])).run Try.prog W = .ok (.bool true) W := fun _ => by kernel_rfl
    obtain ⟨ch, hch⟩ : ∃ ch, ch = neV ⟨na, nb, nc⟩ ⟨va, vb, vc⟩ := ⟨_, rfl⟩
    rw [← hch] at hnq ⊢
    replace hch := Kpt.mk hch
    refine wp_region_any (by kernel_rfl) ?_
    refine wpAny_of_C (C := fun W => Pg W B ⟨na, nb, nc⟩ s' ∧ Bx W X (Sn.vals noS) ∧ Bx W Y (Sn.vals noS) ∧ W.cell? ⟨w.heap.size, 0, none⟩ = some (.bool va) ∧ W.cell? ⟨w.heap.size, 1, none⟩ = some (.bool vb) ∧ W.cell? ⟨w.heap.size, 2, none⟩ = some (.bool vc)) _ _ _ _ ?_
    refine wpAnyC_take 0 (.agg #[.int .u8 0, .int .u16 0, .int .u64 0, .bool false, .int .i64 0, .int .i64 0, .bool false, .bool false]) rfl (by kernel_rfl) (by kernel_rfl) (by kernel_rfl) (fun _ _ _ h => h) (wanted_free rfl _) (fun W hW => by obtain ⟨_, hy, _⟩ := hW; obtain ⟨y0, y1, y2, y3, y4, y5, y6, y7⟩ := bx_sn hy; simp only [noS] at y0 y1 y2 y3 y4 y5 y6 y7; clear hy; go_simp) ?_
    simp only [Act.put, List.getElem_toArray, List.getElem_cons_succ, List.getElem_cons_zero, List.setIfInBounds_toArray, List.set_cons_succ, List.set_cons_zero]
    refine wpAnyC_take 1 (.agg #[.int .u8 0, .int .u16 0, .int .u64 0, .bool false, .int .i64 0, .int .i64 0, .bool false, .bool false]) rfl (by kernel_rfl) (by kernel_rfl) (by kernel_rfl) (fun _ _ _ h => h) (wanted_free rfl _) (fun W hW => by go_simp) ?_
    simp only [Act.put, List.getElem_toArray, List.getElem_cons_succ, List.getElem_cons_zero, List.setIfInBounds_toArray, List.set_cons_succ, List.set_cons_zero]
    refine wpAnyC_take 2 (.bool true) rfl (by kernel_rfl) (by kernel_rfl) (by kernel_rfl) (fun _ _ _ h => h) (wanted_free rfl _) (fun W hW => by go_simp) ?_
    simp only [Act.put, List.getElem_toArray, List.getElem_cons_succ, List.getElem_cons_zero, List.setIfInBounds_toArray, List.set_cons_succ, List.set_cons_zero]
    refine wpAnyC_take 3 (.bool true) rfl (by kernel_rfl) (by kernel_rfl) (by kernel_rfl) (fun _ _ _ h => h) (wanted_free rfl _) (fun W hW => by go_simp) ?_
    simp only [Act.put, List.getElem_toArray, List.getElem_cons_succ, List.getElem_cons_zero, List.setIfInBounds_toArray, List.set_cons_succ, List.set_cons_zero]
    refine wpAnyC_take 4 (.bool ch) rfl (by kernel_rfl) (by kernel_rfl) (by kernel_rfl) (fun _ _ _ h => h) (wanted_at true rfl rfl rfl rfl) (fun W hW => by go_simp) ?_
    simp only [Act.put, List.getElem_toArray, List.getElem_cons_succ, List.getElem_cons_zero, List.setIfInBounds_toArray, List.set_cons_succ, List.set_cons_zero]
    refine wpAnyC_take 5 (.pointer (some ⟨B, 0, none⟩)) rfl (by kernel_rfl) (by kernel_rfl) (by kernel_rfl) (fun _ _ _ h => h) (wanted_at true rfl rfl rfl rfl) (fun W hW => by go_simp) ?_
    simp only [Act.put, List.getElem_toArray, List.getElem_cons_succ, List.getElem_cons_zero, List.setIfInBounds_toArray, List.set_cons_succ, List.set_cons_zero]
    refine wpAnyC_take 7 (.agg #[.bool va, .bool vb, .bool vc]) rfl (by kernel_rfl) (by kernel_rfl) (by kernel_rfl) (fun _ _ _ h => h) (wanted_at true rfl rfl rfl rfl) (fun W hW => by obtain ⟨_, _, _, y0, y1, y2⟩ := hW; go_simp) ?_
    simp only [Act.put, List.getElem_toArray, List.getElem_cons_succ, List.getElem_cons_zero, List.setIfInBounds_toArray, List.set_cons_succ, List.set_cons_zero]
    refine wpAnyC_one 6 (carry.out _ (below_drew _)) rfl (by kernel_rfl) (wanted_at true rfl rfl rfl rfl) (fun KA hKA => ?_)
    go_simp
    refine (now_any B ⟨na, nb, nc⟩ s' _ (hP6K.out.below' (below_drew _))).mono ?_
    rintro e w7 ⟨rfl, hb7⟩
    rw [show Vs.vals ⟨na, nb, nc⟩ = #[.bool na, .bool nb, .bool nc] from rfl]; replace hb7 := below_undrew hb7
    refine hKA _ _ ?_
    clear hKA KA
    try simp only [Act.put, List.getElem_toArray, List.getElem_cons_succ, List.getElem_cons_zero, List.setIfInBounds_toArray, List.set_cons_succ, List.set_cons_zero]
    refine wpAnyC_take 8 (.bool ch) rfl (by kernel_rfl) (by kernel_rfl) (by kernel_rfl) (fun _ _ _ h => h) (wanted_at true rfl rfl rfl rfl) (fun W hW => by go_simp) ?_
    simp only [Act.put, List.getElem_toArray, List.getElem_cons_succ, List.getElem_cons_zero, List.setIfInBounds_toArray, List.set_cons_succ, List.set_cons_zero]
    refine wpAnyC_take 9 (.bool true) rfl (by kernel_rfl) (by kernel_rfl) (by kernel_rfl) (fun _ _ _ h => h) (wanted_at true rfl rfl rfl rfl) (fun W hW => by go_simp) ?_
    simp only [Act.put, List.getElem_toArray, List.getElem_cons_succ, List.getElem_cons_zero, List.setIfInBounds_toArray, List.set_cons_succ, List.set_cons_zero]
    refine wpAnyC_take 10 (.bool true) rfl (by kernel_rfl) (by kernel_rfl) (by kernel_rfl) (fun _ _ _ h => h) (wanted_free rfl _) (fun W hW => by go_simp) ?_
    simp only [Act.put, List.getElem_toArray, List.getElem_cons_succ, List.getElem_cons_zero, List.setIfInBounds_toArray, List.set_cons_succ, List.set_cons_zero]
    refine wpAnyC_take 11 (.bool true) rfl (by kernel_rfl) (by kernel_rfl) (by kernel_rfl) (fun _ _ _ h => h) (wanted_free rfl _) (fun W hW => by go_simp) ?_
    simp only [Act.put, List.getElem_toArray, List.getElem_cons_succ, List.getElem_cons_zero, List.setIfInBounds_toArray, List.set_cons_succ, List.set_cons_zero]
    refine wpAnyC_take 12 (.bool false) rfl (by kernel_rfl) (by kernel_rfl) (by kernel_rfl) (fun _ _ _ h => h) (wanted_at true rfl rfl rfl rfl) (fun W hW => by go_simp) ?_
    simp only [Act.put, List.getElem_toArray, List.getElem_cons_succ, List.getElem_cons_zero, List.setIfInBounds_toArray, List.set_cons_succ, List.set_cons_zero]
    refine wpAnyC_take 13 (.bool true) rfl (by kernel_rfl) (by kernel_rfl) (by kernel_rfl) (fun _ _ _ h => h) (wanted_at true rfl rfl rfl rfl) (fun W hW => by go_simp) ?_
    simp only [Act.put, List.getElem_toArray, List.getElem_cons_succ, List.getElem_cons_zero, List.setIfInBounds_toArray, List.set_cons_succ, List.set_cons_zero]
    refine wpAnyC_take 14 (.bool true) rfl (by kernel_rfl) (by kernel_rfl) (by kernel_rfl) (fun _ _ _ h => h) (wanted_free rfl _) (fun W hW => by go_simp) ?_
    simp only [Act.put, List.getElem_toArray, List.getElem_cons_succ, List.getElem_cons_zero, List.setIfInBounds_toArray, List.set_cons_succ, List.set_cons_zero]
    refine wpAnyC_take 15 (.bool true) rfl (by kernel_rfl) (by kernel_rfl) (by kernel_rfl) (fun _ _ _ h => h) (wanted_free rfl _) (fun W hW => by go_simp) ?_
    simp only [Act.put, List.getElem_toArray, List.getElem_cons_succ, List.getElem_cons_zero, List.setIfInBounds_toArray, List.set_cons_succ, List.set_cons_zero]
    refine wpAnyC_take 16 (.bool true) rfl (by kernel_rfl) (by kernel_rfl) (by kernel_rfl) (fun _ _ _ h => h) (wanted_at true rfl rfl rfl rfl) (fun W hW => by go_simp) ?_
    simp only [Act.put, List.getElem_toArray, List.getElem_cons_succ, List.getElem_cons_zero, List.setIfInBounds_toArray, List.set_cons_succ, List.set_cons_zero]
    refine wpAnyC_take 17 (.bool true) rfl (by kernel_rfl) (by kernel_rfl) (by kernel_rfl) (fun _ _ _ h => h) (wanted_free rfl _) (fun W hW => by go_simp) ?_
    simp only [Act.put, List.getElem_toArray, List.getElem_cons_succ, List.getElem_cons_zero, List.setIfInBounds_toArray, List.set_cons_succ, List.set_cons_zero]
    refine wpAnyC_take 18 (.bool true) rfl (by kernel_rfl) (by kernel_rfl) (by kernel_rfl) (fun _ _ _ h => h) (wanted_free rfl _) (fun W hW => by go_simp) ?_
    simp only [Act.put, List.getElem_toArray, List.getElem_cons_succ, List.getElem_cons_zero, List.setIfInBounds_toArray, List.set_cons_succ, List.set_cons_zero]
    refine wpAnyC_take 19 (.agg #[.int .u8 0, .int .u16 0, .int .u64 0, .bool false, .int .i64 0, .int .i64 0, .bool false, .bool false]) rfl (by kernel_rfl) (by kernel_rfl) (by kernel_rfl) (fun _ _ _ h => h) (wanted_at true rfl rfl rfl rfl) (fun W hW => by obtain ⟨_, _, hy, _⟩ := hW; obtain ⟨y0, y1, y2, y3, y4, y5, y6, y7⟩ := bx_sn hy; simp only [noS] at y0 y1 y2 y3 y4 y5 y6 y7; clear hy; go_simp) ?_
    simp only [Act.put, List.getElem_toArray, List.getElem_cons_succ, List.getElem_cons_zero, List.setIfInBounds_toArray, List.set_cons_succ, List.set_cons_zero]
    refine wpAnyC_take 20 (.agg #[.int .u8 0, .int .u16 0, .int .u64 0, .bool false, .int .i64 0, .int .i64 0, .bool false, .bool false]) rfl (by kernel_rfl) (by kernel_rfl) (by kernel_rfl) (fun _ _ _ h => h) (wanted_at true rfl rfl rfl rfl) (fun W hW => by go_simp) ?_
    simp only [Act.put, List.getElem_toArray, List.getElem_cons_succ, List.getElem_cons_zero, List.setIfInBounds_toArray, List.set_cons_succ, List.set_cons_zero]
    refine wpAnyC_take 21 (.bool true) rfl (by kernel_rfl) (by kernel_rfl) (by kernel_rfl) (fun _ _ _ h => h) (wanted_at true rfl rfl rfl rfl) (fun W hW => by go_simp) ?_
    simp only [Act.put, List.getElem_toArray, List.getElem_cons_succ, List.getElem_cons_zero, List.setIfInBounds_toArray, List.set_cons_succ, List.set_cons_zero]
    refine wpAnyC_take 22 (.bool true) rfl (by kernel_rfl) (by kernel_rfl) (by kernel_rfl) (fun _ _ _ h => h) (wanted_free rfl _) (fun W hW => by go_simp) ?_
    simp only [Act.put, List.getElem_toArray, List.getElem_cons_succ, List.getElem_cons_zero, List.setIfInBounds_toArray, List.set_cons_succ, List.set_cons_zero]
    refine wpAnyC_take 23 (.bool true) rfl (by kernel_rfl) (by kernel_rfl) (by kernel_rfl) (fun _ _ _ h => h) (wanted_free rfl _) (fun W hW => by go_simp) ?_
    simp only [Act.put, List.getElem_toArray, List.getElem_cons_succ, List.getElem_cons_zero, List.setIfInBounds_toArray, List.set_cons_succ, List.set_cons_zero]
    refine wpAnyC_take 24 (.pointer none) rfl (by kernel_rfl) (by kernel_rfl) (by kernel_rfl) (fun _ _ _ h => h) (wanted_at true rfl rfl rfl rfl) (fun W hW => by go_simp) ?_
    simp only [Act.put, List.getElem_toArray, List.getElem_cons_succ, List.getElem_cons_zero, List.setIfInBounds_toArray, List.set_cons_succ, List.set_cons_zero]
    refine wpAnyC_take 26 (.agg #[.bool false, .bool false, .bool false]) rfl (by kernel_rfl) (by kernel_rfl) (by kernel_rfl) (fun _ _ _ h => h) (wanted_at true rfl rfl rfl rfl) (fun W hW => by go_simp) ?_
    simp only [Act.put, List.getElem_toArray, List.getElem_cons_succ, List.getElem_cons_zero, List.setIfInBounds_toArray, List.set_cons_succ, List.set_cons_zero]
    refine wpAnyC_one 25 (carry.out _ hb7) rfl (by kernel_rfl) (wanted_at true rfl rfl rfl rfl) (fun KA hKA => ?_)
    go_simp
    refine (now_nil _).mono ?_
    rintro e w8 ⟨rfl, hb8⟩
    rw [show noV.vals = #[.bool false, .bool false, .bool false] from rfl]; replace hb8 : Below w6.heap.size w6 w8 := hb7.trans (hb8.mono hb7.size)
    refine hKA _ _ ?_
    clear hKA KA
    try simp only [Act.put, List.getElem_toArray, List.getElem_cons_succ, List.getElem_cons_zero, List.setIfInBounds_toArray, List.set_cons_succ, List.set_cons_zero]
    refine wpAnyC_take 27 (.bool true) rfl (by kernel_rfl) (by kernel_rfl) (by kernel_rfl) (fun _ _ _ h => h) (wanted_at true rfl rfl rfl rfl) (fun W hW => by go_simp) ?_
    simp only [Act.put, List.getElem_toArray, List.getElem_cons_succ, List.getElem_cons_zero, List.setIfInBounds_toArray, List.set_cons_succ, List.set_cons_zero]
    refine wpAnyC_take 28 (.bool true) rfl (by kernel_rfl) (by kernel_rfl) (by kernel_rfl) (fun _ _ _ h => h) (wanted_free rfl _) (fun W hW => by go_simp) ?_
    simp only [Act.put, List.getElem_toArray, List.getElem_cons_succ, List.getElem_cons_zero, List.setIfInBounds_toArray, List.set_cons_succ, List.set_cons_zero]
    refine wpAnyC_take 29 (.bool true) rfl (by kernel_rfl) (by kernel_rfl) (by kernel_rfl) (fun _ _ _ h => h) (wanted_free rfl _) (fun W hW => by go_simp) ?_
    simp only [Act.put, List.getElem_toArray, List.getElem_cons_succ, List.getElem_cons_zero, List.setIfInBounds_toArray, List.set_cons_succ, List.set_cons_zero]
    refine wpAnyC_take 30 (.pointer none) rfl (by kernel_rfl) (by kernel_rfl) (by kernel_rfl) (fun _ _ _ h => h) (wanted_at true rfl rfl rfl rfl) (fun W hW => by go_simp) ?_
    simp only [Act.put, List.getElem_toArray, List.getElem_cons_succ, List.getElem_cons_zero, List.setIfInBounds_toArray, List.set_cons_succ, List.set_cons_zero]
    refine wpAnyC_take 32 (.agg #[.bool false, .bool false, .bool false]) rfl (by kernel_rfl) (by kernel_rfl) (by kernel_rfl) (fun _ _ _ h => h) (wanted_at true rfl rfl rfl rfl) (fun W hW => by go_simp) ?_
    simp only [Act.put, List.getElem_toArray, List.getElem_cons_succ, List.getElem_cons_zero, List.setIfInBounds_toArray, List.set_cons_succ, List.set_cons_zero]
    refine wpAnyC_one 31 (carry.out _ hb8) rfl (by kernel_rfl) (wanted_at true rfl rfl rfl rfl) (fun KA hKA => ?_)
    go_simp
    refine (saved_nil _).mono ?_
    rintro e w9 ⟨rfl, hb9⟩
    rw [show noV.vals = #[.bool false, .bool false, .bool false] from rfl]; replace hb9 : Below w6.heap.size w6 w9 := hb8.trans (hb9.mono hb8.size)
    refine hKA _ _ ?_
    clear hKA KA
    try simp only [Act.put, List.getElem_toArray, List.getElem_cons_succ, List.getElem_cons_zero, List.setIfInBounds_toArray, List.set_cons_succ, List.set_cons_zero]
    refine wpAnyC_take 33 (.bool true) rfl (by kernel_rfl) (by kernel_rfl) (by kernel_rfl) (fun _ _ _ h => h) (wanted_at true rfl rfl rfl rfl) (fun W hW => by go_simp) ?_
    simp only [Act.put, List.getElem_toArray, List.getElem_cons_succ, List.getElem_cons_zero, List.setIfInBounds_toArray, List.set_cons_succ, List.set_cons_zero]
    refine wpAnyC_take 34 (.bool true) rfl (by kernel_rfl) (by kernel_rfl) (by kernel_rfl) (fun _ _ _ h => h) (wanted_free rfl _) (fun W hW => by go_simp) ?_
    simp only [Act.put, List.getElem_toArray, List.getElem_cons_succ, List.getElem_cons_zero, List.setIfInBounds_toArray, List.set_cons_succ, List.set_cons_zero]
    refine wpAnyC_take 35 (.bool true) rfl (by kernel_rfl) (by kernel_rfl) (by kernel_rfl) (fun _ _ _ h => h) (wanted_free rfl _) (fun W hW => by go_simp) ?_
    simp only [Act.put, List.getElem_toArray, List.getElem_cons_succ, List.getElem_cons_zero, List.setIfInBounds_toArray, List.set_cons_succ, List.set_cons_zero]
    refine wpAnyC_done (carry.out _ hb9) (by kernel_rfl) ?_
    have hBF : Kpt (Below w.heap.size w w9) := ⟨hB6.out.trans (hb9.mono hB6.out.size)⟩
    clear hb7 hb8 hb9 carry
    go_wp2_with fail
    go_ret
    exact ⟨rfl, hBF.out⟩
end Go.Proofs.Ytdojhgapdocngaa
