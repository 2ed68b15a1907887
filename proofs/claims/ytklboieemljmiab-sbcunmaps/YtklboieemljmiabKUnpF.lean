/-
  The contract of unpack, of a whole block.
-/
import Derived.Test.YtklboieemljmiabKUnpk
import Derived.Deep.DeepMust
namespace Go.Proofs.Ytklboieemljmiab
open Go.RowKit
set_option linter.unusedVariables false
set_option linter.unusedSimpArgs false

theorem heap_last (W : World) (o : Obj) : (W.alloc o).heap[W.heap.size]? = some o := by unfold World.alloc; simp
theorem bx_of_heap {w : World} {g : Nat} {cs : Array Value} {t : TypeId} (h : w.heap[g]? = some (.cells cs t (0, 0))) : Bx w g cs := by
  refine ⟨(Array.getElem?_eq_some_iff.1 h).1, fun j hj => ?_, fun j => ?_⟩
  · simp [World.cell?, h]
  · simp [World.frozen?, h]

/-- copy into the first 16 cells of a block. -/
theorem wp_copy_blk {w : World} {o : Oper} {a : Act} {K : Act → World → Prop} {Q : Exit → Act → World → Prop} (d s : Operand)
    (ho : o.op = .call { callee := .builtin .copy, args := #[d, s], argTypes := #[22, 22] })
    (g : Nat) (cur : Array Value) (t : TypeId) (b off sLen sCap : Nat) (ds : List Int) (hd : a.eval d = .slice (some ⟨g, 0, none⟩) 16 16) (hs : a.eval s = .slice (some ⟨b, off, none⟩) sLen sCap)
    (hg : w.heap[g]? = some (.cells cur t (0, 0))) (hds : ds.length = 16) (hsl : 16 ≤ sLen) (hsrc : ∀ j u, (cels ds)[j]? = some u → w.cell? ⟨b, off + j, none⟩ = some u) (hcur : 16 ≤ cur.size)
    (h : ∀ w', w'.heap[g]? = some (.cells (cels ds ++ cur.toList.drop 16).toArray t (0, 0)) → w.grownBy w' (some g) → K (a.put o.dst (goInt 16)) w') : o.wp Try.prog a w K Q := by
  have hl : (cels ds).length = 16 := by simp [hds]
  have hrun := run_copy_row (P := Try.prog) w 22 22 o.type 5 g 0 16 16 ⟨b, off, none⟩ sLen sCap cur t (cels ds) Try.underlying22 B.Try.size5 hg
    (by rw [hl]; exact (Nat.min_eq_right hsl).symm) (fun j u hu => by rw [Go.WideShapes.add_plain]; exact hsrc j u hu) (by omega) (cels_one _)
  rw [hl] at hrun
  unfold Oper.wp
  simp [execOp, ho, resolve, invoke, builtin, hd, hs, hrun, Result.andThen]
  refine h _ ?_ ⟨rfl, rfl, rfl, by simp, fun j _ hk => setRow_other w g j _ (fun e => hk (by rw [e]))⟩
  have := setRow_heap w g cur ((cels ds ++ cur.toList.drop 16).toArray) t (0, 0) hg
  simpa using this

theorem bx_tup {w : World} {b : Nat} {ds : List Int} {x y z x' y' z' : Value} (h : Bx w b (cels ds ++ [x, y, z]).toArray) (hd : ds.length = 16) : Bx (w.setCells b 16 [x', y', z']) b (cels ds ++ [x', y', z']).toArray := by
  have hl : (cels ds).length = 16 := by simp [hd]
  have hg := grown_setCells b [x', y', z'] 16 w
  refine ⟨Nat.lt_of_lt_of_le h.lt hg.size, fun j hj => ?_, fun j => ?_⟩
  · have hj19 : j < 19 := by simpa [hl] using hj
    by_cases h16 : j < 16
    · rw [World.cell?_setCells_out b [x', y', z'] 16 w ⟨b, j, none⟩ (fun _ _ => .inl h16), h.cells j (by simp [hl]; omega), List.getElem?_toArray, List.getElem?_toArray, List.getElem?_append_left (by omega), List.getElem?_append_left (by omega)]
    · have hin := World.cell?_setCells_in b [x', y', z'] 16 w (fun i hi => by
        have hi3 : i < 3 := by simpa using hi
        rw [h.cells (16 + i) (by simp [hl]; omega), List.getElem?_toArray, List.getElem?_append_right (by omega), hl, List.getElem?_eq_getElem (by simp; omega)]
        rfl) (j - 16) (by simp; omega)
      rw [show 16 + (j - 16) = j from by omega] at hin
      rw [hin, List.getElem?_toArray, List.getElem?_append_right (by omega), hl, List.getElem?_eq_getElem (by simp; omega)]
  · rw [World.frozen?_setCells]; exact h.free j

theorem infoT : (Try.prog.info? 79).map (·.size) = some 3 := by kernel_rfl

set_option maxRecDepth 100000 in
set_option maxHeartbeats 2000000 in
theorem unpack_full (b off c : Nat) (zs : List Int) (w : World) (hz : zs.length = 25) (hcc : 25 ≤ c) (hb : B.Bytes zs) (hblt : b < w.heap.size) (hc : ∀ j, j < 25 → w.cell? ⟨b, off + j, none⟩ = some (.int .u8 (zs.getD j 0))) (h0 : zs.getD 0 0 = 1) :
    Calls Try.prog 40 #[.slice (some ⟨b, off, none⟩) 25 c] w fun e w' => e = .returned (.agg (⟨(zs.drop 1).take 16, B.num zs 17 2, B.num zs 19 2, B.num zs 21 4⟩ : Bk).vals) ∧ Below w.heap.size w w' := by
  have p0 := hc 0 (by decide)
  rw [h0, Nat.add_zero] at p0
  have HG : ∀ i n : Nat, 1 ≤ n → n ≤ 8 → i + n ≤ 25 → ∀ W, Below w.heap.size w W → Calls Try.prog 57 #[.slice (some ⟨b, off, none⟩) 25 c, .int .i64 i, .int .i64 n] W fun e w' => e = .returned (.tuple #[.int .u64 (B.num zs i n), .int .i64 0]) ∧ w' = W :=
    fun i n h1 h2 h3 W hW => B.get_ok b off 25 c i n zs W (by decide) h1 h2 h3 hb (fun j hj => (hW.cell (p := ⟨b, off + j, none⟩) hblt).trans (hc j hj))
  have G1 : Kpt (∀ W, Below w.heap.size w W → Calls Try.prog 57 #[.slice (some ⟨b, off, none⟩) 25 c, .int .i64 17, .int .i64 2] W fun e w' => e = .returned (.tuple #[.int .u64 (B.num zs 17 2), .int .i64 0]) ∧ w' = W) := ⟨HG 17 2 (by decide) (by decide) (by decide)⟩
  have G2 : Kpt (∀ W, Below w.heap.size w W → Calls Try.prog 57 #[.slice (some ⟨b, off, none⟩) 25 c, .int .i64 19, .int .i64 2] W fun e w' => e = .returned (.tuple #[.int .u64 (B.num zs 19 2), .int .i64 0]) ∧ w' = W) := ⟨HG 19 2 (by decide) (by decide) (by decide)⟩
  have G3 : Kpt (∀ W, Below w.heap.size w W → Calls Try.prog 57 #[.slice (some ⟨b, off, none⟩) 25 c, .int .i64 21, .int .i64 4] W fun e w' => e = .returned (.tuple #[.int .u64 (B.num zs 21 4), .int .i64 0]) ∧ w' = W) := ⟨HG 21 4 (by decide) (by decide) (by decide)⟩
  have b1 := B.num_bd zs 17 hb 2
  have b2 := B.num_bd zs 19 hb 2
  have b3 := B.num_bd zs 21 hb 4
  simp at b1 b2 b3
  obtain ⟨n1, e1⟩ : ∃ n, n = B.num zs 17 2 := ⟨_, rfl⟩
  obtain ⟨n2, e2⟩ : ∃ n, n = B.num zs 19 2 := ⟨_, rfl⟩
  obtain ⟨n3, e3⟩ : ∃ n, n = B.num zs 21 4 := ⟨_, rfl⟩
  obtain ⟨ds, eds⟩ : ∃ ds, ds = (zs.drop 1).take 16 := ⟨_, rfl⟩
  have hds : Kpt (ds.length = 16) := ⟨by rw [eds, List.length_take, List.length_drop, hz]; rfl⟩
  have hsrc : Kpt (∀ W, Below w.heap.size w W → ∀ j u, (cels ds)[j]? = some u → W.cell? ⟨b, off + 1 + j, none⟩ = some u) := ⟨fun W hW j u hu => by
    have hj : j < 16 := by have := (List.getElem?_eq_some_iff.1 hu).1; rw [cels_length, hds.out] at this; exact this
    rw [hW.cell (p := ⟨b, off + 1 + j, none⟩) hblt, show off + 1 + j = off + (1 + j) from by omega, hc (1 + j) (by omega), ← hu, eds]
    unfold cels
    rw [List.getElem?_map, List.getElem?_take, if_pos hj, List.getElem?_drop, List.getD_eq_getElem?_getD, List.getElem?_eq_getElem (by omega)]
    rfl⟩
  rw [← e1] at G1 b1
  rw [← e2] at G2 b2
  rw [← e3] at G3 b3
  rw [← e1, ← e2, ← e3, ← eds]
  clear HG hc h0 hz hb e1 e2 e3 eds
  obtain ⟨V, hV⟩ : ∃ V : Array Value, V = (cels ds ++ [Value.int .u16 n1, Value.int .u16 n2, Value.int .u32 n3]).toArray := ⟨_, rfl⟩
  have hVs : Kpt (V.size = 19) := ⟨by rw [hV]; simp [hds.out]⟩
  have hV1 : Kpt (V.all (·.oneCell') = true) := ⟨by rw [hV]; exact Bk.one ⟨ds, n1, n2, n3⟩⟩
  rw [show (⟨ds, n1, n2, n3⟩ : Bk).vals = V from by rw [hV]; rfl]
  replace hV := Kpt.mk hV
  have hc1 : ¬ c = 1 := by omega
  have hB0 := bx_new w zeroB 81
  unfold zeroB at hB0
  replace hB0 := Kpt.mk hB0
  go_enter Try.func40, Try.ntmps40
  go_wp2_with fail
  obtain ⟨w1, hw1⟩ : ∃ w1, w1 = (w.alloc (.cells zeroB 81)).alloc (.cells zeroB 81) := ⟨_, rfl⟩
  have hw1' := hw1
  unfold zeroB at hw1
  rw [← hw1]
  have hbe1 : Kpt (Below w.heap.size w w1) := ⟨by rw [hw1]; exact ((Below.refl _ _).alloc (Nat.le_refl _) _).alloc (by simp) _⟩
  have hR1 : Kpt (Bx w1 w.heap.size zeroB) := ⟨by rw [hw1]; exact hB0.out.alloc _⟩
  have hh1 : Kpt (w1.heap[w.heap.size + 1]? = some (.cells zeroB 81 (0, 0))) := ⟨by rw [hw1']; have := heap_last (w.alloc (.cells zeroB 81)) (.cells zeroB 81); rw [World.size_alloc] at this; exact this⟩
  clear hw1 hB0 hw1'
  refine wp_region_any (by kernel_rfl) ?_
  refine wpAny_of_C (C := fun _ => True) _ _ _ _ ?_
  refine wpAnyC_take 0 (.pointer (some ⟨w.heap.size + 1, 0, none⟩)) rfl (by kernel_rfl) (by kernel_rfl) (by kernel_rfl) (fun _ _ _ h => h) (wanted_free rfl _) (fun W hW => by go_simp) ?_
  simp only [Act.put, List.getElem_toArray, List.getElem_cons_succ, List.getElem_cons_zero, List.setIfInBounds_toArray, List.set_cons_succ, List.set_cons_zero]
  refine wpAnyC_take 1 (.slice (some ⟨w.heap.size + 1, 0, none⟩) 16 16) rfl (by kernel_rfl) (by kernel_rfl) (by kernel_rfl) (fun _ _ _ h => h) (wanted_free rfl _) (fun W hW => by go_simp) ?_
  simp only [Act.put, List.getElem_toArray, List.getElem_cons_succ, List.getElem_cons_zero, List.setIfInBounds_toArray, List.set_cons_succ, List.set_cons_zero]
  refine wpAnyC_take 2 (.slice (some ⟨b, off, none⟩) 25 c) rfl (by kernel_rfl) (by kernel_rfl) (by kernel_rfl) (fun _ _ _ h => h) (wanted_free rfl _) (fun W hW => by go_simp) ?_
  simp only [Act.put, List.getElem_toArray, List.getElem_cons_succ, List.getElem_cons_zero, List.setIfInBounds_toArray, List.set_cons_succ, List.set_cons_zero]
  refine wpAnyC_take 3 (.slice (some ⟨b, off + 1, none⟩) 24 (c - 1)) rfl (by kernel_rfl) (by kernel_rfl) (by kernel_rfl) (fun _ _ _ h => h) (wanted_free rfl _) (fun W hW => by go_simp) ?_
  simp only [Act.put, List.getElem_toArray, List.getElem_cons_succ, List.getElem_cons_zero, List.setIfInBounds_toArray, List.set_cons_succ, List.set_cons_zero]
  refine wpAnyC_one 4 trivial rfl (by kernel_rfl) (wanted_free rfl _) (fun KA hKA => ?_)
  refine wp_copy_blk (.tmp 21) (.tmp 23) rfl (w.heap.size + 1) zeroB 81 b (off + 1) 24 (c - 1) ds rfl rfl hh1.out hds.out (by decide) (hsrc.out _ (below_drewN hbe1.out 1)) (by decide) ?_
  intro w2 hh2 hg2
  refine hKA _ _ ?_
  simp only [Act.put, List.getElem_toArray, List.getElem_cons_succ, List.getElem_cons_zero, List.setIfInBounds_toArray, List.set_cons_succ, List.set_cons_zero]
  clear hKA KA
  refine wpAnyC_done trivial (by kernel_rfl) ?_
  have hS2 := bx_of_heap hh2
  rw [show zeroB.toList.drop 16 = [.int .u16 0, .int .u16 0, .int .u32 0] from rfl] at hS2
  have hbe2 : Kpt (Below w.heap.size w w2) := ⟨(below_drewN hbe1.out 1).grown hg2 hbe1.out.size (fun k hk => by cases hk; simp)⟩
  have hR2 : Kpt (Bx w2 w.heap.size zeroB) := ⟨(show Bx (w1.drewN 1) w.heap.size zeroB from ⟨hR1.out.lt, hR1.out.cells, hR1.out.free⟩).grown hg2 (fun e => by simp at e)⟩
  have hthere : w2.there (w.heap.size + 1) 16 3 := fun j hj => by
    have := hS2.there (16 + j) (by simp [hds.out]; omega)
    simpa using this
  have hS3 := Kpt.mk (bx_tup (x' := .int .u16 n1) (y' := .int .u16 n2) (z' := .int .u32 n3) hS2 hds.out)
  rw [← hV.out] at hS3
  replace hthere := Kpt.mk hthere
  replace hS2 := Kpt.mk hS2
  have hlt2 : w.heap.size + 1 < w2.heap.size := hS2.out.lt
  clear hh1 hh2 hg2 hR1 hbe1 hS2
  go_wp2_with (first
    | (go_at_call 57; have hm := m2; refine (G3.out _ hbe2.out).mono ?_; rintro e wN ⟨rfl, hw⟩; subst hw; clear hm)
    | (go_at_call 57; have hm := m1; refine (G2.out _ hbe2.out).mono ?_; rintro e wN ⟨rfl, hw⟩; subst hw; clear hm; have m2 : Kpt True := ⟨trivial⟩)
    | (go_at_call 57; refine (G1.out _ hbe2.out).mono ?_; rintro e wN ⟨rfl, hw⟩; subst hw; have m1 : Kpt True := ⟨trivial⟩)
    | (refine wpList_store_bx rfl 81 (.tmp 2) (.tmp 48) rfl w.heap.size zeroB V rfl rfl hR3.out (by rw [hVs.out]; rfl) (by rw [hVs.out]; exact infoB) hV1.out rfl ?_; intro w4 hR4 hg4; have hbe4 : Kpt (Below w.heap.size w w4) := ⟨hbe3.out.grown hg4 hbe3.out.size (fun k hk => by cases hk; exact Nat.le_refl _)⟩; replace hR4 := Kpt.mk hR4; clear hg4)
    | (refine wpList_load_bx rfl 81 (.tmp 3) rfl (w.heap.size + 1) V rfl hS4.out _ Try.underlying81 rfl (by rw [hVs.out]; exact infoB) ?_)
    | (refine (?_ : wpList Try.prog _ _ (Oper.mk none (Op.store 79 (.tmp 47) (.tmp 46)) _ _ _ _ :: _) _ _); go_must (refine wpList_store_mid rfl 79 (.tmp 47) (.tmp 46) rfl (w.heap.size + 1) 16 #[.int .u16 n1, .int .u16 n2, .int .u32 n3] rfl rfl hthere.out infoT (by simp [Value.oneCell']) ?_; (obtain ⟨w3, hw3⟩ : ∃ w3, w3 = wN.setCells (w.heap.size + 1) 16 [.int .u16 n1, .int .u16 n2, .int .u32 n3] := ⟨_, rfl⟩; have hg3 := grown_setCells (w.heap.size + 1) [.int .u16 n1, .int .u16 n2, .int .u32 n3] 16 wN; rw [← hw3] at hg3; have hS4 : Kpt (Bx w3 (w.heap.size + 1) V) := ⟨by rw [hw3]; exact hS3.out⟩; have hR3 : Kpt (Bx w3 w.heap.size zeroB) := ⟨hR2.out.grown hg3 (fun e => by simp at e)⟩; have hbe3 : Kpt (Below w.heap.size w w3) := ⟨hbe2.out.grown hg3 hbe2.out.size (fun k hk => by cases hk; simp)⟩; rw [show wN.setCells (w.heap.size + 1) 16 (#[Value.int .u16 n1, .int .u16 n2, .int .u32 n3] : Array Value).toList = w3 from hw3.symm]; clear hw3 hg3)))
    | fail)
  refine bodyPost_ret (v := .agg V) (by simp [results, Try.results40, asAddr, Act.put, run_res hR4.out 81 _ Try.underlying81 rfl (by rw [hVs.out]; exact infoB)]) rfl ⟨rfl, hbe4.out⟩
end Go.Proofs.Ytklboieemljmiab
