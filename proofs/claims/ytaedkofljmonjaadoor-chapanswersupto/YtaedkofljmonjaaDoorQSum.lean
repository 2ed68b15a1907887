/-
  The contract of the sum of bytes.
-/
import Derived.Test.YtaedkofljmonjaaDoorQMix
import Derived.Test.YtaedkofljmonjaaDoorQEnd
import Derived.Test.YtaedkofljmonjaaDoorQChk
namespace Go.Proofs.YtaedkofljmonjaaDoor
open Go.RowKit Go.Shelf
set_option linter.unusedVariables false
set_option linter.unusedSimpArgs false
attribute [local go_sem] Oper.semAt_some

/-- Behind the blocks that have come. -/
def foldX {N : Nat} (zs : List Int) (h : Q4) (pre : List { i : Nat // i < N }) : Q4 := pre.foldl (fun h x => mixN (wordN (zs.drop (64 * x.1))) h) h
theorem foldX_up (N : Nat) (zs : List Int) (h : Q4) : ∀ k hk, foldX zs h (upX N k hk) = foldB zs h k
  | 0, _ => rfl
  | k + 1, hk => by
    have ih := foldX_up N zs h k (Nat.le_of_succ_le hk)
    unfold foldX at ih ⊢
    rw [upX, List.foldl_append, ih]; rfl
theorem foldX_snoc {N : Nat} (zs : List Int) (h : Q4) (pre : List { i : Nat // i < N }) (x : { i : Nat // i < N }) : foldX zs h (pre ++ [x]) = mixN (wordN (zs.drop (64 * x.1))) (foldX zs h pre) := by
  unfold foldX; rw [List.foldl_append]; rfl
theorem foldX_ok {N : Nat} (zs : List Int) (pre : List { i : Nat // i < N }) : ∀ {h : Q4}, h.ok → (foldX zs h pre).ok := by
  induction pre with
  | nil => intro h hh; exact hh
  | cons x l ih => intro h hh; exact ih (h := mixN (wordN (zs.drop (64 * x.1))) h) (mixN_ok _ _)

def z16 : Array Value := (cels (List.replicate 16 0)).toArray

/-- What lies between two rounds. -/
structure Sx (w W : World) (H : Nat) (h : Q4) (N b off c : Nat) (zs : List Int) : Prop where
  num : Bx W H (q4v h)
  res : Bx W w.heap.size z16
  bel : Below w.heap.size w W
  src : 0 < N → RdAt W (.slice (some ⟨b, off, none⟩) (64 * N) c) zs ∧ b < W.heap.size ∧ b ≠ H

theorem Sx.kept {w W W' : World} {H : Nat} {h : Q4} {N b off c B : Nat} {zs : List Int} (x : Sx w W H h N b off c zs) (hg : W.grownBy W' none) : Sx w W' H h N b off c zs :=
  ⟨x.num.grown hg (by simp), x.res.grown hg (by simp), x.bel.grown hg x.bel.size (fun k e => by cases e), fun h0 => ⟨(x.src h0).1.of_block (fun g hg' => by simp [Value.ownBlock] at hg'; subst hg'; exact hg.block _ (x.src h0).2.1 (by simp)), Nat.lt_of_lt_of_le (x.src h0).2.1 hg.size, (x.src h0).2.2⟩⟩
theorem Sx.own {w W W' : World} {H : Nat} {h : Q4} {N b off c B : Nat} {zs : List Int} (x : Sx w W H h N b off c zs) (row : Option Nat) (hg : W.grownBy W' row) (hH : H < B) (hw : w.heap.size < B) (hb : 0 < N → b < B) (hr : ∀ r, row = some r → B ≤ r) : Sx w W' H h N b off c zs :=
  ⟨x.num.grown hg (fun e => by have := hr _ e; omega), x.res.grown hg (fun e => by have := hr _ e; omega), x.bel.grown hg x.bel.size (fun k e => by have := hr _ e; omega), fun h0 => ⟨(x.src h0).1.of_block (fun g hg' => by simp [Value.ownBlock] at hg'; subst hg'; exact hg.block _ (x.src h0).2.1 (fun e => by have := hr _ e.symm; have := hb h0; omega)), Nat.lt_of_lt_of_le (x.src h0).2.1 hg.size, (x.src h0).2.2⟩⟩

theorem rd_mid {w : World} {b off n c : Nat} {zs : List Int} (h : RdAt w (.slice (some ⟨b, off, none⟩) n c) zs) (k m : Nat) (hk : k + m ≤ n) : RdAt w (.slice (some ⟨b, off + k, none⟩) m m) ((zs.drop k).take m) := by
  obtain ⟨hl, hc⟩ := rd_cells h
  have hlen : ((zs.drop k).take m).length = m := by simp; omega
  refine ⟨some ⟨b, off + k, none⟩, m, by rw [hlen], (fun h => by cases h), by rw [hlen]; exact Nat.le_refl _, .inr ⟨b, off + k, rfl, fun j u hu => ?_⟩⟩
  have hj : j < m := by have := (List.getElem?_eq_some_iff.1 hu).1; simpa [hlen] using this
  have e : u = .int .u8 (zs.getD (k + j) 0) := by
    have hkj : k + j < zs.length := by omega
    simp [cels, List.getElem?_map, List.getElem?_take, hj, List.getElem?_drop, List.getElem?_eq_getElem hkj] at hu
    rw [← hu, List.getD_eq_getElem?_getD, List.getElem?_eq_getElem hkj]; rfl
  rw [e, Nat.add_assoc]
  exact hc (k + j) (by omega)

/-- A round: the numbers are turned and stored. -/
theorem Sx.turn {w W W1 : World} {H : Nat} {h h' : Q4} {N b off c : Nat} {zs : List Int} (x : Sx w W H h N b off c zs) (hw : w.heap.size < H) (hb : Below W.heap.size W W1) (hl : w.heap.size ≤ W.heap.size) :
    Sx w ((((W1.setCell ⟨H, 0, none⟩ (.int .u32 (h'.a : Int))).setCell ⟨H, 1, none⟩ (.int .u32 (h'.b : Int))).setCell ⟨H, 2, none⟩ (.int .u32 (h'.c : Int))).setCell ⟨H, 3, none⟩ (.int .u32 (h'.d : Int))) H h' N b off c zs := by
  have n1 := x.num.below hb x.num.lt
  have g1 := grown_setCellK W1 ⟨H, 0, none⟩ (.int .u32 (h'.a : Int))
  have g2 := grown_two g1 (grown_setCellK _ ⟨H, 1, none⟩ (.int .u32 (h'.b : Int)))
  have g3 := grown_two g2 (grown_setCellK _ ⟨H, 2, none⟩ (.int .u32 (h'.c : Int)))
  have g4 := grown_two g3 (grown_setCellK _ ⟨H, 3, none⟩ (.int .u32 (h'.d : Int)))
  have s1 := bx_setCell (.int .u32 (h'.a : Int)) n1 (j := 0) (by simp [q4v])
  have s2 := bx_setCell (.int .u32 (h'.b : Int)) s1 (j := 1) (by simp [q4v])
  have s3 := bx_setCell (.int .u32 (h'.c : Int)) s2 (j := 2) (by simp [q4v])
  have s4 := bx_setCell (.int .u32 (h'.d : Int)) s3 (j := 3) (by simp [q4v])
  have hbel := x.bel.trans (hb.mono hl)
  refine ⟨by simpa [q4v] using s4, (x.res.below hb x.res.lt).grown g4 (by simp; omega), hbel.grown g4 hbel.size (fun k e => by cases e; show w.heap.size ≤ H; omega), fun h0 => ?_⟩
  obtain ⟨r1, r2, r3⟩ := x.src h0
  refine ⟨(r1.bel hb).of_block (fun g hg' => by simp [Value.ownBlock] at hg'; subst hg'; exact g4.block _ (Nat.lt_of_lt_of_le r2 hb.size) (by simpa using r3)), Nat.lt_of_lt_of_le r2 (Nat.le_trans hb.size g4.size), r3⟩
theorem keeps_turn {W W1 : World} {H B : Nat} {v0 v1 v2 v3 : Value} (hb : Below W.heap.size W W1) : KeepsFrom B W ((((W1.setCell ⟨H, 0, none⟩ v0).setCell ⟨H, 1, none⟩ v1).setCell ⟨H, 2, none⟩ v2).setCell ⟨H, 3, none⟩ v3) := by
  have h0 : KeepsFrom B W W1 := ⟨hb.size, fun k o _ hk _ => (hb.block k (Array.getElem?_eq_some_iff.1 hk).1).trans hk⟩
  exact (((h0.trans ((KeepsOthers.setCell _ _ _).from _)).trans ((KeepsOthers.setCell _ _ _).from _)).trans ((KeepsOthers.setCell _ _ _).from _)).trans ((KeepsOthers.setCell _ _ _).from _)
theorem kc_turn {W W1 : World} {H n₁ : Nat} {v0 v1 v2 v3 : Value} (hb : Below W.heap.size W W1) (hn : n₁ ≤ W.heap.size) : Kc n₁ H W ((((W1.setCell ⟨H, 0, none⟩ v0).setCell ⟨H, 1, none⟩ v1).setCell ⟨H, 2, none⟩ v2).setCell ⟨H, 3, none⟩ v3) := by
  have g := grown_two (grown_two (grown_two (grown_setCellK W1 ⟨H, 0, none⟩ v0) (grown_setCellK _ ⟨H, 1, none⟩ v1)) (grown_setCellK _ ⟨H, 2, none⟩ v2)) (grown_setCellK _ ⟨H, 3, none⟩ v3)
  intro j h1 h2
  exact (g.block j (by have := hb.size; omega) (fun e => h2 (by injection e))).trans (hb.block j (by omega))


theorem bytes_of_mem {zs : List Int} (h : ∀ z ∈ zs, 0 ≤ z ∧ z ≤ 255) : Bytes zs := fun j => by
  rw [List.getD_eq_getElem?_getD]
  cases e : zs[j]? with
  | none => simp
  | some z => exact h z (List.mem_of_getElem? e)
theorem bx_rd {w : World} {g n : Nat} {E : List Int} (h : Bx w g (cels E).toArray) (hn : E.length = n) : RdAt w (.slice (some ⟨g, 0, none⟩) n n) E := by
  subst hn
  refine ⟨some ⟨g, 0, none⟩, E.length, rfl, (fun h => by cases h), Nat.le_refl _, .inr ⟨g, 0, rfl, fun j u hu => ?_⟩⟩
  have hj : j < (cels E).length := (List.getElem?_eq_some_iff.1 hu).1
  rw [Nat.zero_add, h.cells j (by simpa using hj), ← hu]; simp
theorem padL_bytes (r s : Nat) : Bytes (padL r s) := by
  refine bytes_of_mem fun z hz => ?_
  unfold padL at hz
  simp only [List.mem_cons, List.mem_append, List.mem_replicate] at hz
  rcases hz with rfl | ⟨_, rfl⟩ | hz
  · omega
  · omega
  · exact lowL_bytes _ _ z hz
theorem wpIn_of_exec {m : Nat} {w w1 : World} {ops : Array Oper} {rest : List Oper} {o : Oper} {a : Act} {Q : Exit → Act → World → Prop} (v : Value) (hgd : o.guard = none) (he : (execOp a.eval o).run Tryd.prog w = .ok (.value v) w1)
    (h : wpListIn Fence.wide m Tryd.prog ops Q rest (a.put o.dst v) w1) : wpListIn Fence.wide m Tryd.prog ops Q (o :: rest) a w :=
  wpListIn_plain hgd fun K hK => ⟨fun _ _ => trivial, by
    have e : Oper.semAt Fence.wide.round a.eval o = execOp a.eval o := by unfold Oper.semAt; simp [Fence.wide]
    rw [e, he]
    exact hK _ _ h⟩
theorem wpIn_load_bx {m : Nat} {w : World} {ops : Array Oper} {rest : List Oper} {o : Oper} {a : Act} {Q : Exit → Act → World → Prop} (hgd : o.guard = none) (ty : TypeId) (x : Operand)
    (ho : o.op = .load ty x) (b : Nat) (cs : Array Value) (hx : a.eval x = .pointer (some ⟨b, 0, none⟩)) (hB : Bx w b cs) (d : TypeDesc)
    (hu : Tryd.prog.underlying ty = some d) (hd : d.isRow = true) (hi : (Tryd.prog.info? ty).map (·.size) = some cs.size)
    (h : wpListIn Fence.wide m Tryd.prog ops Q rest (a.put o.dst (.agg cs)) w) : wpListIn Fence.wide m Tryd.prog ops Q (o :: rest) a w :=
  wpListIn_plain hgd fun K hK => ⟨fun _ _ => trivial, by
    have e : Oper.semAt Fence.wide.round a.eval o = execOp a.eval o := by unfold Oper.semAt; simp [Fence.wide]
    rw [e, exec_load_bx ty x ho b cs hx hB d hu hd hi]
    exact hK _ _ h⟩
theorem wpIn_store_bx {m : Nat} {w : World} {ops : Array Oper} {rest : List Oper} {o : Oper} {a : Act} {Q : Exit → Act → World → Prop} (hgd : o.guard = none) (ty : TypeId) (x y : Operand)
    (ho : o.op = .store ty x y) (b : Nat) (cs ds : Array Value) (hx : a.eval x = .pointer (some ⟨b, 0, none⟩)) (hy : a.eval y = .agg ds) (hB : Bx w b cs) (hl : ds.size = cs.size)
    (hi : (Tryd.prog.info? ty).map (·.size) = some ds.size) (h1 : ds.all (·.oneCell') = true) (hdst : o.dst = none)
    (h : ∀ w', Bx w' b ds → w.grownBy w' (some b) → wpListIn Fence.wide m Tryd.prog ops Q rest a w') : wpListIn Fence.wide m Tryd.prog ops Q (o :: rest) a w :=
  wpListIn_plain hgd fun K hK => ⟨fun _ _ => trivial, by
    have e : Oper.semAt Fence.wide.round a.eval o = execOp a.eval o := by unfold Oper.semAt; simp [Fence.wide]
    have hs := run_storeVar_mid (P := Tryd.prog) w b 0 ty ds (by rw [hl]; exact hB.there) hi h1
    rw [e]
    unfold execOp
    simp only [ho, hx, hy, Instr.storeAt, Instr.sureAddr, Sem.run_bind, Sem.run_pure, Result.andThen_ok, hs]
    refine hK _ _ ?_
    rw [hdst]
    exact h _ (bx_set hB hl) (grown_setCells b ds.toList 0 w)⟩

/-- The numbers' bytes, the first k of them laid. -/
def qn (h : Q4) : Nat → Nat
  | 0 => h.a
  | 1 => h.b
  | 2 => h.c
  | _ => h.d
def outP (h : Q4) : Nat → List Int
  | 0 => []
  | k + 1 => outP h k ++ lowL (qn h k) 4
theorem outP_length (h : Q4) : ∀ k, (outP h k).length = 4 * k
  | 0 => rfl
  | k + 1 => by rw [outP, List.length_append, outP_length h k, lowL_length]; omega
theorem outP_four (h : Q4) : outP h 4 = outL h := by simp [outP, outL, qn]
def outZ (h : Q4) (k : Nat) : List Int := outP h k ++ List.replicate (16 - 4 * k) 0
theorem outZ_length (h : Q4) (k : Nat) (hk : k ≤ 4) : (outZ h k).length = 16 := by simp [outZ, outP_length]; omega
theorem outZ_step (h : Q4) (k off : Nat) (hk : k < 4) (ho : off = 4 * k) : over (outZ h k) off (lowL (qn h k) 4) = outZ h (k + 1) := by
  subst ho
  unfold over outZ
  rw [List.take_append_of_le_length (by rw [outP_length]; omega), List.take_of_length_le (by rw [outP_length]; omega), lowL_length, outP]
  rw [List.drop_append, List.drop_eq_nil_of_le (by rw [outP_length]; omega), outP_length, List.nil_append, List.drop_replicate, List.append_assoc]
  congr 3
  omega
theorem outZ_four (h : Q4) : outZ h 4 = outL h := by rw [outZ, outP_four]; simp

theorem info24 : (Tryd.prog.info? 24).map (·.size) = some 16 := by kernel_rfl
theorem kc_b {n₁ H : Nat} {w : World} (hn : n₁ ≤ w.heap.size) (W : World) (l : Nat) (o o' : Obj) (hl : w.heap.size ≤ l) (h : W.heap[l]? = some o) (_ : o.isCells = false) (_ : o.isWalk = false) : Kc n₁ H W (W.putObj l o') :=
  fun j h1 h2 => World.putObj_heap_other (fun e => by omega)
theorem Sx.ownFrom {w : World} {H N b off c B : Nat} {zs : List Int} {β : Type} (f : β → Q4) (hH : H < B) (hw : w.heap.size < B) (hb : 0 < N → b < B) : OwnFrom B (fun (pre : β) W => Sx w W H (f pre) N b off c zs ∧ B ≤ W.heap.size) :=
  fun s W W' row hs hg hr => ⟨hs.1.own row hg hH hw hb (fun r e => (hr r e).1), Nat.le_trans hs.2 hg.size⟩
theorem Sx.cells {w W : World} {H : Nat} {h : Q4} {N b off c : Nat} {zs : List Int} (x : Sx w W H h N b off c zs) : W.cell? ⟨H, 0, none⟩ = some (.int .u32 (h.a : Int)) ∧ W.cell? ⟨H, 1, none⟩ = some (.int .u32 (h.b : Int)) ∧ W.cell? ⟨H, 2, none⟩ = some (.int .u32 (h.c : Int)) ∧ W.cell? ⟨H, 3, none⟩ = some (.int .u32 (h.d : Int)) :=
  ⟨x.num.cells 0 (by simp [q4v]), x.num.cells 1 (by simp [q4v]), x.num.cells 2 (by simp [q4v]), x.num.cells 3 (by simp [q4v])⟩

/-- The call in a round. -/
theorem Sx.mixed {w W : World} {H : Nat} {h : Q4} {N b off c : Nat} {zs : List Int} (x : Sx w W H h N b off c zs) (hh : h.ok) (hb : Bytes zs) (hG : Gl w) (i : Nat) (hi : i < N) :
    Calls Tryd.prog 18 #[.agg (q4v h), .slice (some ⟨b, off + 64 * i, none⟩) 64 64] W fun e w' => e = .returned (.agg (q4v (mixN (wordN (zs.drop (64 * i))) h))) ∧ Below W.heap.size W w' := by
  obtain ⟨r1, r2, r3⟩ := x.src (by omega)
  have hl := (rd_cells r1).1
  have := mixed_any h hh b (off + 64 * i) 64 64 ((zs.drop (64 * i)).take 64) W (rd_mid r1 (64 * i) 64 (by omega)) (by simp; omega) r2 ((hb.drop _).take _) (hG.below x.bel hG.lt)
  rwa [mixN_congr (fun j hj => wordN_congr (ys := zs.drop (64 * i)) (fun q hq => take_getD _ _ _ hq) j hj) h] at this

set_option maxRecDepth 100000 in
set_option maxHeartbeats 1500000 in
theorem sum_some (b off n c : Nat) (zs : List Int) (w : World) (hr : RdAt w (.slice (some ⟨b, off, none⟩) n c) zs) (hbw : 0 < n → b < w.heap.size) (hb : Bytes zs) (hm : n ≤ 140737488355328) (hG : Gl w) :
    Calls Tryd.prog 8 #[.slice (some ⟨b, off, none⟩) n c] w fun e w' => e = .returned (.agg (cels (sumL zs)).toArray) ∧ Below w.heap.size w w' := by
  have hlen := (rd_cells hr).1
  have hnc : n ≤ c := by obtain ⟨a, c', e, _, h2, _⟩ := hr; cases e; omega
  refine (callsIn_wide (n := 9)).1 ?_
  refine callsIn_of_wp_marks Tryd.func8 rfl trivial ?_ rfl
  simp only [Tryd.ntmps8, List.size_toArray, List.length_cons, List.length_nil, Nat.reduceAdd, Nat.reduceSub, Array.replicate_succ, Array.replicate_zero, List.push_toArray, List.append_toArray, List.nil_append, List.cons_append]
  replace hr := Kpt.mk hr
  replace hb := Kpt.mk hb
  replace hG := Kpt.mk hG
  replace hlen := Kpt.mk hlen
  gi_wp2_with ((refine ⟨trivial, ?_⟩; gi_at_call 17; go_must (refine (chunk_in _ _ _ _ _).mono ?_; rintro e w' ⟨rfl, rfl⟩)))
  obtain ⟨N, hN1, hN2⟩ : ∃ N, n - n % 64 = 64 * N ∧ N = n / 64 := ⟨n / 64, by omega, rfl⟩
  rw [hN1]
  replace hN2 := Kpt.mk hN2
  have hNn : 64 * N ≤ n := by omega
  have hS0 : Sx w ((((w.alloc (.cells #[.int .u8 0, .int .u8 0, .int .u8 0, .int .u8 0, .int .u8 0, .int .u8 0, .int .u8 0, .int .u8 0, .int .u8 0, .int .u8 0, .int .u8 0, .int .u8 0, .int .u8 0, .int .u8 0, .int .u8 0, .int .u8 0] 24)).alloc (.cells (q4v h0N) 38)).alloc (.cells #[.slice (some ⟨b, off, none⟩) (64 * N) c] 22)).alloc (.cells #[.int .i64 64] 3)) (w.heap.size + 1) h0N N b off c (zs.take (64 * N)) := by
    have hbel := ((((Below.refl _ w).alloc (Nat.le_refl _) (.cells #[.int .u8 0, .int .u8 0, .int .u8 0, .int .u8 0, .int .u8 0, .int .u8 0, .int .u8 0, .int .u8 0, .int .u8 0, .int .u8 0, .int .u8 0, .int .u8 0, .int .u8 0, .int .u8 0, .int .u8 0, .int .u8 0] 24)).alloc (by simp) (.cells (q4v h0N) 38)).alloc (by simp; omega) (.cells #[.slice (some ⟨b, off, none⟩) (64 * N) c] 22)).alloc (by simp; omega) (.cells #[.int .i64 64] 3)
    refine ⟨?_, (((bx_new w z16 24).alloc _).alloc _).alloc _, hbel, fun h0 => ⟨(rd_take hr.out (64 * N) (by rw [hlen.out]; omega)).bel hbel, Nat.lt_of_lt_of_le (hbw (by omega)) hbel.size, by have := hbw (by omega); omega⟩⟩
    have := ((bx_new (w.alloc (.cells z16 24)) (q4v h0N) 38).alloc (.cells #[.slice (some ⟨b, off, none⟩) (64 * N) c] 22)).alloc (.cells #[.int .i64 64] 3)
    rw [World.size_alloc] at this
    exact this
  have hZ0 : ((((w.alloc (.cells #[.int .u8 0, .int .u8 0, .int .u8 0, .int .u8 0, .int .u8 0, .int .u8 0, .int .u8 0, .int .u8 0, .int .u8 0, .int .u8 0, .int .u8 0, .int .u8 0, .int .u8 0, .int .u8 0, .int .u8 0, .int .u8 0] 24)).alloc (.cells (q4v h0N) 38)).alloc (.cells #[.slice (some ⟨b, off, none⟩) (64 * N) c] 22)).alloc (.cells #[.int .i64 64] 3)).heap.size = w.heap.size + 1 + 1 + 1 + 1 := by simp
  have hC0 : ((((w.alloc (.cells #[.int .u8 0, .int .u8 0, .int .u8 0, .int .u8 0, .int .u8 0, .int .u8 0, .int .u8 0, .int .u8 0, .int .u8 0, .int .u8 0, .int .u8 0, .int .u8 0, .int .u8 0, .int .u8 0, .int .u8 0, .int .u8 0] 24)).alloc (.cells (q4v h0N) 38)).alloc (.cells #[.slice (some ⟨b, off, none⟩) (64 * N) c] 22)).alloc (.cells #[.int .i64 64] 3)).cell? ⟨w.heap.size + 1 + 1, 0, none⟩ = some (.slice (some ⟨b, off, none⟩) (64 * N) c) := by
    have := ((bx_new ((w.alloc (.cells z16 24)).alloc (.cells (q4v h0N) 38)) #[.slice (some ⟨b, off, none⟩) (64 * N) c] 22).alloc (.cells #[.int .i64 64] 3)).cells 0 (by simp)
    rw [World.size_alloc, World.size_alloc] at this
    exact this
  have hC1 : ((((w.alloc (.cells #[.int .u8 0, .int .u8 0, .int .u8 0, .int .u8 0, .int .u8 0, .int .u8 0, .int .u8 0, .int .u8 0, .int .u8 0, .int .u8 0, .int .u8 0, .int .u8 0, .int .u8 0, .int .u8 0, .int .u8 0, .int .u8 0] 24)).alloc (.cells (q4v h0N) 38)).alloc (.cells #[.slice (some ⟨b, off, none⟩) (64 * N) c] 22)).alloc (.cells #[.int .i64 64] 3)).cell? ⟨w.heap.size + 1 + 1 + 1, 0, none⟩ = some (.int .i64 64) := by
    have := (bx_new (((w.alloc (.cells z16 24)).alloc (.cells (q4v h0N) 38)).alloc (.cells #[.slice (some ⟨b, off, none⟩) (64 * N) c] 22)) #[.int .i64 64] 3).cells 0 (by simp)
    rw [World.size_alloc, World.size_alloc, World.size_alloc] at this
    exact this
  simp only [q4v, h0N] at hZ0 hC0 hC1
  change Sx w ((((w.alloc (.cells #[.int .u8 0, .int .u8 0, .int .u8 0, .int .u8 0, .int .u8 0, .int .u8 0, .int .u8 0, .int .u8 0, .int .u8 0, .int .u8 0, .int .u8 0, .int .u8 0, .int .u8 0, .int .u8 0, .int .u8 0, .int .u8 0] 24)).alloc (.cells #[.int .u32 1732584193, .int .u32 4023233417, .int .u32 2562383102, .int .u32 271733878] 38)).alloc (.cells #[.slice (some ⟨b, off, none⟩) (64 * N) c] 22)).alloc (.cells #[.int .i64 64] 3)) (w.heap.size + 1) h0N N b off c (zs.take (64 * N)) at hS0
  generalize hW0 : ((((w.alloc (.cells #[.int .u8 0, .int .u8 0, .int .u8 0, .int .u8 0, .int .u8 0, .int .u8 0, .int .u8 0, .int .u8 0, .int .u8 0, .int .u8 0, .int .u8 0, .int .u8 0, .int .u8 0, .int .u8 0, .int .u8 0, .int .u8 0] 24)).alloc (.cells #[.int .u32 1732584193, .int .u32 4023233417, .int .u32 2562383102, .int .u32 271733878] 38)).alloc (.cells #[.slice (some ⟨b, off, none⟩) (64 * N) c] 22)).alloc (.cells #[.int .i64 64] 3)) = W0 at hS0 hZ0 hC0 hC1 ⊢
  clear hW0
  refine wpIn_rangeFunc_ownG rfl (by omega) (gf := 28) (lb := #[.pointer (some ⟨w.heap.size + 1 + 1, 0, none⟩), .pointer (some ⟨w.heap.size + 1 + 1 + 1, 0, none⟩)]) rfl trivial (enters_of Tryd.func28 (by kernel_rfl) rfl)
    (chunk_stops 8 (by omega) (w.heap.size + 1 + 1) (w.heap.size + 1 + 1 + 1) (w.heap.size + 1 + 1 + 1 + 1) (w.heap.size + 1) b off N c (.slice (some ⟨b, off, none⟩) (64 * N) c) (by unfold Pcs; by_cases h : N = 0; exact .inl ⟨h, _, _, by rw [h]⟩; exact .inr ⟨rfl, by omega, by omega, by omega⟩) _ (by omega) (by omega) (by omega) (by omega) (by omega) hC0 hC1)
    Kc.trans (kc_b (by omega)) (Below.refl _ _) (fun _ => rfl)
    (fun pre W => Sx w W (w.heap.size + 1) (foldX (zs.take (64 * N)) h0N pre) N b off c (zs.take (64 * N)) ∧ w.heap.size + 1 + 1 + 1 + 1 ≤ W.heap.size)
    (fun _ _ _ => False)
    (by have := Sx.ownFrom (w := w) (H := w.heap.size + 1) (N := N) (b := b) (off := off) (c := c) (B := w.heap.size + 1 + 1 + 1 + 1) (zs := zs.take (64 * N)) (foldX (N := N) (zs.take (64 * N)) h0N) (by omega) (by omega) (fun h => by have := hbw (by omega); omega); rw [hZ0]; exact this)
    (fun _ _ _ _ _ hs _ _ => hs)
    ⟨hS0, by omega⟩
    (fun x => { tmps := #[.slice (some ⟨b, off, none⟩) n c, undef, .pointer (some ⟨w.heap.size, 0, none⟩), .pointer (some ⟨w.heap.size + 1, 0, none⟩), .int .i64 ((n : Int) % 64), .slice (some ⟨b, off, none⟩) (64 * N) c, .slice (some ⟨b, off + 64 * x.1, none⟩) 64 64, undef, undef, undef, undef,
      .agg #[.int .u32 1732584193, .int .u32 4023233417, .int .u32 2562383102, .int .u32 271733878], .slice (some ⟨b, off, none⟩) n c, .int .i64 n, .int .i64 ((n : Int) % 64), .slice (some ⟨b, off, none⟩) n c, .slice (some ⟨b, off, none⟩) n c, .int .i64 n, .int .i64 ((n : Int) % 64), .int .i64 ((n : Int) - (n : Int) % 64), .slice (some ⟨b, off, none⟩) (64 * N) c, .slice (some ⟨b, off, none⟩) (64 * N) c,
      .func (.func 28) #[] #[.pointer (some ⟨w.heap.size + 1 + 1, 0, none⟩), .pointer (some ⟨w.heap.size + 1 + 1 + 1, 0, none⟩)], .slice (some ⟨b, off + 64 * x.1, none⟩) 64 64, undef, undef, undef, undef, undef, undef, undef, undef, undef, undef, undef, undef, undef, undef, undef, undef, undef, undef, undef, undef, undef, undef, undef, undef, undef, undef, undef, undef, undef, undef, undef], defers := [] }) ?assign ?body ?done ?stop
  case assign =>
    intro l x W K hK
    gi_wp2
    exact hK
  case body =>
    rintro l pre x W ⟨hS, hsz⟩ _
    have hok := foldX_ok (zs.take (64 * N)) pre h0N_ok
    have hmx := Kpt.mk (hS.mixed hok (hb.out.take _) hG.out x.1 x.2)
    obtain ⟨h, hh⟩ : ∃ h, foldX (zs.take (64 * N)) h0N pre = h := ⟨_, rfl⟩
    rw [hh] at hS hok hmx
    replace hh := Kpt.mk hh
    obtain ⟨h', hh'⟩ : ∃ h', mixN (wordN ((zs.take (64 * N)).drop (64 * x.1))) h = h' := ⟨_, rfl⟩
    rw [hh'] at hmx
    replace hh' := Kpt.mk hh'
    unfold q4v at hmx
    obtain ⟨c0, c1, c2, c3⟩ := hS.cells
    replace hS := Kpt.mk hS
    gi_wp2_with ((refine ⟨trivial, ?_⟩; gi_at_call 18; go_must (refine (CallsIn.inRound l (callsIn_wide.2 hmx.out)).mono ?_; rintro e W1 ⟨rfl, hb1⟩; have nn := hS.out.num.below hb1 hS.out.num.lt; have d0 := nn.cells 0 (by simp [q4v]); have d1 := nn.cells 1 (by simp [q4v]); have d2 := nn.cells 2 (by simp [q4v]); have d3 := nn.cells 3 (by simp [q4v]); simp [q4v] at d0 d1 d2 d3; have f0 := nn.free 0; have f1 := nn.free 1; have f2 := nn.free 2; have f3 := nn.free 3; clear nn c0 c1 c2 c3 hmx; replace hb1 := Kpt.mk hb1)))
    refine ⟨keeps_turn hb1.out, kc_turn hb1.out hsz, ?_, ?_⟩
    · rw [foldX_snoc, hh.out, hh'.out]
      exact hS.out.turn (by omega) hb1.out (by omega)
    · have := hb1.out.size; simp; omega
  case done =>
    rintro D ys W hD rfl ⟨hS, hsz⟩ hK
    rw [foldX_up] at hS
    clear hS0 hC0 hC1 hN1
    replace hbw := Kpt.mk hbw
    have hZW := Kpt.mk hZ0
    clear hZ0
    replace hD := Kpt.mk hD
    replace hsz := Kpt.mk hsz
    replace hK := Kpt.mk hK
    replace hS := Kpt.mk hS
    have hoff : (if c = 64 * N then some (⟨b, off, none⟩ : Addr) else some ⟨b, off + 64 * N, none⟩) = some ⟨b, offK c off (64 * N), none⟩ := by unfold offK; split <;> rfl
    have hend := Kpt.mk (ending_any (.slice (some ⟨b, offK c off (64 * N), none⟩) (n - 64 * N) (c - 64 * N)) n (zs.drop (64 * N)) W ((rd_drop hr.out (64 * N) hNn).bel hS.out.bel) (by simp; have := hlen.out; have := hN2.out; omega) (by omega))
    gi_wp2_with (first
      | (refine ⟨trivial, ?_⟩; gi_at_call 19; go_must (refine (callsIn_wide.2 hend.out).mono ?_; rintro e W2 ⟨rfl, hX2, hb2⟩; replace hX2 := Kpt.mk hX2; replace hb2 := Kpt.mk hb2; clear hend))
      | (refine ⟨trivial, ?_⟩; gi_at_call 17; go_must (refine (chunk_in _ _ _ _ _).mono ?_; rintro e w' ⟨rfl, rfl⟩)))
    have hE : (zs.drop (64 * N) ++ padL (zs.drop (64 * N)).length n).length = 64 * ((zs.length - 64 * N + 72) / 64) := by rw [List.length_append, padL_length, List.length_drop]; have := hlen.out; have := hN2.out; omega
    have hNp : 0 < (zs.length - 64 * N + 72) / 64 := by omega
    have hNle : 64 * ((zs.length - 64 * N + 72) / 64) ≤ 128 := by have := hlen.out; have := hN2.out; omega
    have hbE : Bytes (zs.drop (64 * N) ++ padL (zs.drop (64 * N)).length n) := (hb.out.drop _).append (padL_bytes _ _)
    obtain ⟨E, hEd⟩ : ∃ E, zs.drop (64 * N) ++ padL (zs.drop (64 * N)).length n = E := ⟨_, rfl⟩
    obtain ⟨N2, hN3⟩ : ∃ N2, (zs.length - 64 * N + 72) / 64 = N2 := ⟨_, rfl⟩
    rw [hEd] at hE hX2 hbE
    rw [hN3] at hE hNp hNle ⊢
    replace hEd := Kpt.mk hEd
    replace hN3 := Kpt.mk hN3
    obtain ⟨hh, hhd⟩ : ∃ hh, foldB (zs.take (64 * N)) h0N N = hh := ⟨_, rfl⟩
    have hhok : hh.ok := by rw [← hhd]; exact foldB_ok _ h0N_ok _
    rw [hhd] at hS
    replace hhd := Kpt.mk hhd
    have hlt := hS.out.num.lt
    have hlw := hS.out.res.lt
    have hsz2 := hb2.out.size
    have hGl2 := hX2.out.lt
    have hS0 : Sx w ((W2.alloc (.cells #[.slice (some ⟨W.heap.size, 0, none⟩) (64 * N2) (64 * N2)] 22)).alloc (.cells #[.int .i64 64] 3)) (w.heap.size + 1) hh N2 W.heap.size 0 (64 * N2) E :=
      ⟨((hS.out.num.below hb2.out hlt).alloc _).alloc _, ((hS.out.res.below hb2.out hlw).alloc _).alloc _, ((hS.out.bel.trans (hb2.out.mono (by omega))).alloc (by omega) _).alloc (by simp; omega) _,
        fun _ => ⟨bx_rd ((hX2.out.alloc _).alloc _) hE, by simp; omega, by omega⟩⟩
    have hZ0 : ((W2.alloc (.cells #[.slice (some ⟨W.heap.size, 0, none⟩) (64 * N2) (64 * N2)] 22)).alloc (.cells #[.int .i64 64] 3)).heap.size = W2.heap.size + 1 + 1 := by simp
    have hC0 : ((W2.alloc (.cells #[.slice (some ⟨W.heap.size, 0, none⟩) (64 * N2) (64 * N2)] 22)).alloc (.cells #[.int .i64 64] 3)).cell? ⟨W2.heap.size, 0, none⟩ = some (.slice (some ⟨W.heap.size, 0, none⟩) (64 * N2) (64 * N2)) := ((bx_new W2 #[.slice (some ⟨W.heap.size, 0, none⟩) (64 * N2) (64 * N2)] 22).alloc (.cells #[.int .i64 64] 3)).cells 0 (by simp)
    have hC1 : ((W2.alloc (.cells #[.slice (some ⟨W.heap.size, 0, none⟩) (64 * N2) (64 * N2)] 22)).alloc (.cells #[.int .i64 64] 3)).cell? ⟨W2.heap.size + 1, 0, none⟩ = some (.int .i64 64) := by
      have := (bx_new (W2.alloc (.cells #[.slice (some ⟨W.heap.size, 0, none⟩) (64 * N2) (64 * N2)] 22)) #[.int .i64 64] 3).cells 0 (by simp)
      rw [World.size_alloc] at this
      exact this
    have hK2 : ((W2.alloc (.cells #[.slice (some ⟨W.heap.size, 0, none⟩) (64 * N2) (64 * N2)] 22)).alloc (.cells #[.int .i64 64] 3)).heap[D]? = some (.deferred (some [])) := by
      have hd := (Array.getElem?_eq_some_iff.1 hK.out).1
      rw [Below.heap_alloc _ _ _ (by simp; omega), Below.heap_alloc _ _ _ (by omega), hb2.out.block D hd]
      exact hK.out
    have hDlt : D < W2.heap.size := Nat.lt_of_lt_of_le (Array.getElem?_eq_some_iff.1 hK.out).1 hsz2
    have hD' := hD.out
    have hZ' := hZ0.symm
    generalize (World.alloc _ (Obj.cells #[.int .i64 64] 3)) = W3 at hS0 hZ0 hC0 hC1 hK2 hZ' ⊢
    clear hZ'
    refine wpIn_rangeFunc_ownG rfl (by omega) (gf := 28) (lb := #[.pointer (some ⟨W2.heap.size, 0, none⟩), .pointer (some ⟨W2.heap.size + 1, 0, none⟩)]) rfl trivial (enters_of Tryd.func28 (by kernel_rfl) rfl)
      (chunk_stops 8 (by omega) W2.heap.size (W2.heap.size + 1) (W2.heap.size + 1 + 1) (w.heap.size + 1) W.heap.size 0 N2 (64 * N2) (.slice (some ⟨W.heap.size, 0, none⟩) (64 * N2) (64 * N2)) (.inr ⟨rfl, Nat.le_refl _, by omega, hNp⟩) _ (by omega) (by omega) (by omega) (by omega) (by omega) hC0 hC1)
      Kc.trans (kc_b (by omega)) (Below.refl _ _) (fun _ => rfl)
      (fun pre W' => (Sx w W' (w.heap.size + 1) (foldX E hh pre) N2 W.heap.size 0 (64 * N2) E ∧ W2.heap.size + 1 + 1 ≤ W'.heap.size) ∧ W'.heap[D]? = some (.deferred (some [])))
      (fun _ _ _ => False)
      (by have := Sx.ownFrom (w := w) (H := w.heap.size + 1) (N := N2) (b := W.heap.size) (off := 0) (c := 64 * N2) (B := W2.heap.size + 1 + 1) (zs := E) (foldX (N := N2) E hh) (by omega) (by omega) (fun h => by omega); rw [hZ0]; exact OwnFrom.and this (fun s A B' row hs hg hr => (hg.block D (Array.getElem?_eq_some_iff.1 hs).1 (fun e => by have := (hr _ e.symm).1; omega)).trans hs))
      (fun _ _ _ _ _ hs _ _ => hs)
      ⟨⟨hS0, by omega⟩, hK2⟩
      ?a1 ?assign2 ?body2 ?done2 ?stop2
    case assign2 =>
      intro l x W K hK
      gi_wp2
      exact hK
    case body2 =>
      rintro l pre x W' ⟨⟨hS, hsz⟩, hKD⟩ _
      have hok := foldX_ok E pre hhok
      have hmx := Kpt.mk (hS.mixed hok hbE hG.out x.1 x.2)
      rw [Nat.zero_add] at hmx
      obtain ⟨h, hh1⟩ : ∃ h, foldX E hh pre = h := ⟨_, rfl⟩
      rw [hh1] at hS hok hmx
      replace hh1 := Kpt.mk hh1
      obtain ⟨h', hh'⟩ : ∃ h', mixN (wordN (E.drop (64 * x.1))) h = h' := ⟨_, rfl⟩
      rw [hh'] at hmx
      replace hh' := Kpt.mk hh'
      unfold q4v at hmx
      obtain ⟨c0, c1, c2, c3⟩ := hS.cells
      replace hS := Kpt.mk hS
      replace hKD := Kpt.mk hKD
      gi_wp2_with ((refine ⟨trivial, ?_⟩; gi_at_call 18; go_must (refine (CallsIn.inRound l (callsIn_wide.2 hmx.out)).mono ?_; rintro e W1 ⟨rfl, hb1⟩; have nn := hS.out.num.below hb1 hS.out.num.lt; have d0 := nn.cells 0 (by simp [q4v]); have d1 := nn.cells 1 (by simp [q4v]); have d2 := nn.cells 2 (by simp [q4v]); have d3 := nn.cells 3 (by simp [q4v]); simp [q4v] at d0 d1 d2 d3; have f0 := nn.free 0; have f1 := nn.free 1; have f2 := nn.free 2; have f3 := nn.free 3; clear nn c0 c1 c2 c3 hmx; replace hb1 := Kpt.mk hb1)))
      refine ⟨keeps_turn hb1.out, kc_turn hb1.out hsz, ⟨?_, ?_⟩, ?_⟩
      · rw [foldX_snoc, hh1.out, hh'.out]
        exact hS.out.turn (by omega) hb1.out (by omega)
      · have := hb1.out.size; simp; omega
      · exact (keeps_turn (B := 0) hb1.out).same D _ (Nat.zero_le _) hKD.out rfl
    case done2 =>
      rintro D2 ys W4 hD2 rfl ⟨⟨hS, hsz⟩, hKD⟩ hK4
      rw [foldX_up] at hS
      obtain ⟨h9, h9d⟩ : ∃ h9, foldB E hh N2 = h9 := ⟨_, rfl⟩
      have h9ok : h9.ok := by rw [← h9d]; exact foldB_ok _ hhok _
      rw [h9d] at hS
      replace h9d := Kpt.mk h9d
      obtain ⟨o1, o2, o3, o4⟩ := h9ok
      have lw4 := hS.res.lt
      have hdl := (Array.getElem?_eq_some_iff.1 hKD).1
      have hdl2 := (Array.getElem?_eq_some_iff.1 hK4).1
      clear hS0 hC0 hC1 hK2 hX2 hE hbE
      replace hD2 : Kpt (W2.heap.size + 1 + 1 ≤ D2) := ⟨by omega⟩
      replace hDlt := Kpt.mk hDlt
      replace hD' := Kpt.mk (show w.heap.size + 1 + 1 + 1 + 1 ≤ D by have := hZW.out; have := hD.out; omega)
      have hDD : Kpt (D ≠ D2) := ⟨by have := hD2.out; have := hDlt.out; omega⟩
      replace hS := Kpt.mk hS
      replace hKD := Kpt.mk hKD
      replace hK4 := Kpt.mk hK4
      replace lw4 := Kpt.mk lw4
      replace hdl := Kpt.mk hdl
      replace hdl2 := Kpt.mk hdl2
      replace hsz := Kpt.mk hsz
      clear hZ0 hlt hlw hsz2 hGl2 hNp hNle
      replace hhok := Kpt.mk hhok
      clear hoff
      gi_wp2_with ((refine (?_ : wpListIn _ _ _ _ _ (Oper.mk _ (Op.load 38 _) _ _ _ _ :: _) _ _); go_must (refine wpIn_load_bx rfl 38 (.tmp 3) rfl (w.heap.size + 1) #[.int .u32 (h9.a : Int), .int .u32 (h9.b : Int), .int .u32 (h9.c : Int), .int .u32 (h9.d : Int)] rfl (hS.out.num.alloc _) _ Tryd.underlying38 rfl info38 ?_)))
      gi_loopw [40] (fun t wr => ∃ k : Nat, k ≤ 4 ∧ t = .int .i64 k ∧ Kpt (Bx wr W4.heap.size (cels (outZ h9 k)).toArray) ∧ Kpt (Below W4.heap.size W4 wr)) (fun t _ => 4 - (intOf t).toNat)
      case atStart => exact ⟨0, by omega, rfl, ⟨bx_new W4 _ 24⟩, ⟨(Below.refl _ W4).alloc (Nat.le_refl _) _⟩⟩
      case round =>
        obtain ⟨k, hk, rfl, hX, hbl⟩ := hrel
        by_cases hlt : k < 4
        · obtain rfl | rfl | rfl | rfl : k = 0 ∨ k = 1 ∨ k = 2 ∨ k = 3 := by omega
          · gi_wp2_with (first | (refine (?_ : wpListIn _ _ _ _ _ (Oper.mk _ (Op.index 38 _ _) _ _ _ _ :: _) _ _); go_must (refine wpIn_of_exec (w1 := wr) (.int .u32 (h9.a : Int)) rfl (by kernel_rfl) ?_)) | (refine ⟨trivial, ?_⟩; gi_at_call 20; go_must (refine (callsIn_wide.2 (put_any W4.heap.size 0 4 _ (qn h9 0) (outZ h9 0) wr hX.out (by omega) (by rw [outZ_length _ _ (by omega)]; omega) (by omega) (by show h9.a < _; omega))).mono ?_; rintro e W5 ⟨⟨r, rfl⟩, hX5, hg5⟩; replace hX5 := Kpt.mk hX5; replace hg5 := Kpt.mk hg5)))
            go_roundw
            case rel => exact ⟨1, by omega, by simp, ⟨by have := hX5.out; rw [outZ_step h9 0 0 (by omega) rfl] at this; exact this⟩, ⟨hbl.out.grown hg5.out hbl.out.size (fun q e => by cases e; exact Nat.le_refl _)⟩⟩
            case measure => simp [intOf]
          · gi_wp2_with (first | (refine (?_ : wpListIn _ _ _ _ _ (Oper.mk _ (Op.index 38 _ _) _ _ _ _ :: _) _ _); go_must (refine wpIn_of_exec (w1 := wr) (.int .u32 (h9.b : Int)) rfl (by kernel_rfl) ?_)) | (refine ⟨trivial, ?_⟩; gi_at_call 20; go_must (refine (callsIn_wide.2 (put_any W4.heap.size 4 4 _ (qn h9 1) (outZ h9 1) wr hX.out (by omega) (by rw [outZ_length _ _ (by omega)]; omega) (by omega) (by show h9.b < _; omega))).mono ?_; rintro e W5 ⟨⟨r, rfl⟩, hX5, hg5⟩; replace hX5 := Kpt.mk hX5; replace hg5 := Kpt.mk hg5)))
            go_roundw
            case rel => exact ⟨2, by omega, by simp, ⟨by have := hX5.out; rw [outZ_step h9 1 4 (by omega) rfl] at this; exact this⟩, ⟨hbl.out.grown hg5.out hbl.out.size (fun q e => by cases e; exact Nat.le_refl _)⟩⟩
            case measure => simp [intOf]
          · gi_wp2_with (first | (refine (?_ : wpListIn _ _ _ _ _ (Oper.mk _ (Op.index 38 _ _) _ _ _ _ :: _) _ _); go_must (refine wpIn_of_exec (w1 := wr) (.int .u32 (h9.c : Int)) rfl (by kernel_rfl) ?_)) | (refine ⟨trivial, ?_⟩; gi_at_call 20; go_must (refine (callsIn_wide.2 (put_any W4.heap.size 8 4 _ (qn h9 2) (outZ h9 2) wr hX.out (by omega) (by rw [outZ_length _ _ (by omega)]; omega) (by omega) (by show h9.c < _; omega))).mono ?_; rintro e W5 ⟨⟨r, rfl⟩, hX5, hg5⟩; replace hX5 := Kpt.mk hX5; replace hg5 := Kpt.mk hg5)))
            go_roundw
            case rel => exact ⟨3, by omega, by simp, ⟨by have := hX5.out; rw [outZ_step h9 2 8 (by omega) rfl] at this; exact this⟩, ⟨hbl.out.grown hg5.out hbl.out.size (fun q e => by cases e; exact Nat.le_refl _)⟩⟩
            case measure => simp [intOf]
          · gi_wp2_with (first | (refine (?_ : wpListIn _ _ _ _ _ (Oper.mk _ (Op.index 38 _ _) _ _ _ _ :: _) _ _); go_must (refine wpIn_of_exec (w1 := wr) (.int .u32 (h9.d : Int)) rfl (by kernel_rfl) ?_)) | (refine ⟨trivial, ?_⟩; gi_at_call 20; go_must (refine (callsIn_wide.2 (put_any W4.heap.size 12 4 _ (qn h9 3) (outZ h9 3) wr hX.out (by omega) (by rw [outZ_length _ _ (by omega)]; omega) (by omega) (by show h9.d < _; omega))).mono ?_; rintro e W5 ⟨⟨r, rfl⟩, hX5, hg5⟩; replace hX5 := Kpt.mk hX5; replace hg5 := Kpt.mk hg5)))
            go_roundw
            case rel => exact ⟨4, by omega, by simp, ⟨by have := hX5.out; rw [outZ_step h9 3 12 (by omega) rfl] at this; exact this⟩, ⟨hbl.out.grown hg5.out hbl.out.size (fun q e => by cases e; exact Nat.le_refl _)⟩⟩
            case measure => simp [intOf]
        · obtain rfl : k = 4 := by omega
          have hX4 : Kpt (Bx wr W4.heap.size (cels (outL h9)).toArray) := ⟨by have := hX.out; rw [outZ_four] at this; exact this⟩
          have hszo : (cels (outL h9)).toArray.size = 16 := by simp [outL_length]
          have hR4 := Kpt.mk (hS.out.res.below hbl.out lw4.out)
          gi_wp2_with (first
            | (refine (?_ : wpListIn _ _ _ _ _ (Oper.mk _ (Op.load 24 _) _ _ _ _ :: _) _ _); go_must (refine wpIn_load_bx rfl 24 (.tmp 8) rfl W4.heap.size (cels (outL h9)).toArray rfl hX4.out _ Tryd.underlying24 rfl (by rw [hszo]; exact info24) ?_))
            | (refine (?_ : wpListIn _ _ _ _ _ (Oper.mk none (Op.store 24 _ _) _ _ _ _ :: _) _ _); go_must (refine wpIn_store_bx rfl 24 (.tmp 2) (.tmp 54) rfl w.heap.size z16 (cels (outL h9)).toArray rfl rfl hR4.out (by rw [hszo]; rfl) (by rw [hszo]; exact info24) (all_oneCell_toArray (cels_one _)) rfl ?_; intro W6 hX6 hg6; replace hX6 := Kpt.mk hX6; replace hg6 := Kpt.mk hg6)))
          have hbl6 := hbl.out
          have hWD2 : W6.heap[D2]? = some (.deferred (some [])) := by
            rw [hg6.out.block D2 (Nat.lt_of_lt_of_le hdl2.out hbl.out.size) (fun e => by injection e with e; have := hD2.out; have := hDlt.out; have := hD'.out; omega), hbl.out.block D2 hdl2.out]; exact hK4.out
          have hWD : W6.heap[D]? = some (.deferred (some [])) := by
            rw [hg6.out.block D (Nat.lt_of_lt_of_le hdl.out hbl.out.size) (fun e => by injection e with e; have := hD'.out; omega), hbl.out.block D hdl.out]; exact hKD.out
          have hWD' : (W6.putObj D2 (.deferred none)).heap[D]? = some (.deferred (some [])) := (World.putObj_heap_other hDD.out).trans hWD
          have hb6 : Below w.heap.size w ((W6.putObj D2 (.deferred none)).putObj D (.deferred none)) := by
            have h1 := hS.out.bel.trans (hbl.out.mono (by have := lw4.out; omega))
            have h2 := h1.grown hg6.out h1.size (fun q e => by cases e; exact Nat.le_refl _)
            have h3 := h2.grown (grownBy_putObj' W6 D2 (.deferred none)) h2.size (fun q e => by cases e; have := hD2.out; have := hDlt.out; have := hD'.out; omega)
            exact h3.grown (grownBy_putObj' _ D (.deferred none)) h3.size (fun q e => by cases e; have := hD'.out; omega)
          have hX7 : Bx ((W6.putObj D2 (.deferred none)).putObj D (.deferred none)) w.heap.size (cels (outL h9)).toArray := (hX6.out.grown (grownBy_putObj' W6 D2 _) (by simp; have := hD2.out; have := hDlt.out; have := hD'.out; omega)).grown (grownBy_putObj' _ D _) (by simp; have := hD'.out; omega)
          have hfin : outL h9 = sumL zs := by
            rw [sumL_split, ← h9d.out, ← hhd.out, hlen.out, ← hN2.out, ← hEd.out, List.length_drop, hlen.out]
            have e1 : n - 64 * N = n % 64 := by have := hN2.out; omega
            rw [e1]
            have e2 : N2 = (n % 64 + 72) / 64 := by rw [← hN3.out, hlen.out, e1]
            rw [e2]
            congr 2
            refine foldB_congr _ _ fun j hj => take_getD _ _ _ (by omega)
          rw [hfin] at hX7
          refine ⟨by simp [Act.put], .inl ⟨_, _, rfl, run_takeDeferred hWD2, ?_⟩⟩
          refine ⟨by simp [Act.put], .inl ⟨_, _, rfl, run_takeDeferred hWD', ?_⟩⟩
          exact ⟨.agg (cels (sumL zs)).toArray, (by simp [results, Tryd.results8, asAddr, Act.put, run_res hX7 24 _ Tryd.underlying24 rfl (by rw [show (cels (sumL zs)).toArray.size = 16 by simp [sumL_length]]; exact info24)]), rfl, hb6⟩
    case stop2 =>
      rintro D c pre W _ _ h _
      exact h.elim
  case stop =>
    rintro D c pre W _ _ h _
    exact h.elim

end Go.Proofs.YtaedkofljmonjaaDoor
