/-
  pdu: a PDU in a block, takeApart.
-/
import Derived.Test.YtigfoldobkigeaaUDat
namespace Go.Proofs.Ytigfoldobkigeaa
open Go.RowKit
set_option linter.unusedVariables false
set_option linter.unusedSimpArgs false


theorem run_storeVar_one {P : Program} (w : World) (b o : Nat) (ty : TypeId) (v : Value) (hc : (w.cell? ⟨b, o, none⟩).isSome = true) (hf : w.frozen? ⟨b, o, none⟩ = false) (hi : (P.info? ty).map (·.size) = some 1) (h1 : v.oneCell' = true) :
    (storeVar ty ⟨b, o, none⟩ v).run P w = .ok () (w.setCell ⟨b, o, none⟩ v) := by
  have hv : v.cells = #[v] := by cases v <;> first | rfl | (simp [Value.oneCell'] at h1)
  have := run_storeCells_cells (P := P) b o [v] 0 w (fun j hj => by simp at hj; subst hj; simpa using hc) (fun j hj => by simp at hj; subst hj; simpa using hf) (fun u hu => by simp at hu; subst hu; exact h1)
  cases hq : P.info? ty with
  | none => simp [hq] at hi
  | some i =>
    have hs : 1 = i.size := by simp [hq] at hi; omega
    simp only [Nat.add_zero] at this
    simp [storeVar, sizeOf, typeInfo, hq, hv, ← hs, this]
    rfl

theorem bx_setCell {w : World} {b j : Nat} {cs : Array Value} (v : Value) (h : Bx w b cs) (hj : j < cs.size) : Bx (w.setCell ⟨b, j, none⟩ v) b (cs.setIfInBounds j v) := by
  have hg := grown_setCellK w ⟨b, j, none⟩ v
  refine ⟨Nat.lt_of_lt_of_le h.lt hg.size, fun i hi => ?_, fun i => ?_⟩
  · simp only [Array.size_setIfInBounds] at hi
    by_cases e : i = j
    · subst e
      have hs : (w.cell? ⟨b, i, none⟩).isSome = true := by rw [h.cells i hj, Array.getElem?_eq_getElem hj]; rfl
      rw [Array.getElem?_setIfInBounds_self_of_lt hj]
      exact World.cell?_setCell_same' w _ v hs
    · rw [Array.getElem?_setIfInBounds_ne (fun h => e h.symm), ← h.cells i hi]
      exact World.cell?_setCell_other _ _ _ _ (fun h => e (by cases h; rfl))
  · rw [← h.free i]; exact World.frozen?_setCells b [v] j w _

/-- A cell of a struct is stored. -/
theorem wp_store_cell {w : World} {o : Oper} {a : Act} {K : Act → World → Prop} {Q : Exit → Act → World → Prop} {ty : TypeId} {x y : Operand}
    (ho : o.op = .store ty x y) {b j : Nat} {cs : Array Value} {v : Value} (hx : a.eval x = .pointer (some ⟨b, j, none⟩)) (hy : a.eval y = v) (h1 : v.oneCell' = true) (hB : Bx w b cs) (hj : j < cs.size)
    (hi : (Try.prog.info? ty).map (·.size) = some 1)
    (h : ∀ w', Bx w' b (cs.setIfInBounds j v) → w.grownBy w' (some b) → K (a.put o.dst undef) w') : o.wp Try.prog a w K Q := by
  have hs : (w.cell? ⟨b, j, none⟩).isSome = true := by rw [hB.cells j hj, Array.getElem?_eq_getElem hj]; rfl
  unfold Oper.wp execOp
  simp only [ho, hx, hy, Instr.storeAt, Instr.sureAddr, Sem.run_bind, Sem.run_pure, Result.andThen_ok, run_storeVar_one w b j ty v hs (hB.free j) hi h1]
  exact h _ (bx_setCell v hB hj) (grown_setCellK w _ v)
theorem wpList_store_cell {w : World} {ops : Array Oper} {rest : List Oper} {o : Oper} {a : Act} {Q : Exit → Act → World → Prop} (hgd : o.guard = none) {ty : TypeId} {x y : Operand}
    (ho : o.op = .store ty x y) (b j : Nat) (cs : Array Value) (v : Value) (hx : a.eval x = .pointer (some ⟨b, j, none⟩)) (hy : a.eval y = v) (h1 : v.oneCell' = true) (hB : Bx w b cs) (hj : j < cs.size)
    (hi : (Try.prog.info? ty).map (·.size) = some 1) (hdst : o.dst = none)
    (h : ∀ w', Bx w' b (cs.setIfInBounds j v) → w.grownBy w' (some b) → wpList Try.prog ops Q rest a w') : wpList Try.prog ops Q (o :: rest) a w :=
  wpList_plain hgd fun K hK => wp_store_cell ho hx hy h1 hB hj hi (fun w' h1 h2 => hK _ _ (by rw [hdst]; exact h w' h1 h2))


theorem wp_var {w : World} {o : Oper} {a : Act} {K : Act → World → Prop} {Q : Exit → Act → World → Prop} (ty : TypeId) (ho : o.op = .alloc ty) (Z : Array Value) (hz : (Try.prog.info? ty).map (fun i => i.zero) = some (some (.agg Z)))
    (h : ∀ b w', w.heap.size ≤ b → Bx w' b Z → Below w.heap.size w w' → K (a.put o.dst (.pointer (some ⟨b, 0, none⟩))) w') : o.wp Try.prog a w K Q := by
  unfold Oper.wp
  rw [info_zero hz o a w ho]
  exact h _ _ (Nat.le_refl _) (bx_new w Z ty) ((Below.refl _ _).alloc (Nat.le_refl _) _)

theorem row_sl {w : World} {v : Value} {zs : List Int} (h : Row w v zs) : ∃ a n c, v = .slice a n c := by
  obtain ⟨a, c, e⟩ := rd_len h.rd
  exact ⟨a, _, c, e⟩

/-- A PDU. -/
structure Pd where
  op : Int
  fl : Int
  rs : Int
  st : Int
  lun : Int
  tag : Int
  ws : List Int
  d : List Int
structure Pd.ok (p : Pd) : Prop where
  op : 0 ≤ p.op ∧ p.op ≤ 255
  fl : 0 ≤ p.fl ∧ p.fl ≤ 255
  rs : 0 ≤ p.rs ∧ p.rs ≤ 255
  st : 0 ≤ p.st ∧ p.st ≤ 255
  lun : 0 ≤ p.lun ∧ p.lun ≤ 255
  tag : 0 ≤ p.tag ∧ p.tag ≤ 4294967295
  len : p.ws.length = 7
  ws : ∀ x ∈ p.ws, 0 ≤ x ∧ x ≤ 4294967295
  d : Bytes p.d
def Pd.cs (p : Pd) (dv : Value) : List Value := [.int .u8 p.op, .int .u8 p.fl, .int .u8 p.rs, .int .u8 p.st, .int .u8 p.lun, .int .u32 p.tag] ++ (p.ws.map (Value.int .u32) ++ [dv])
def Pd.vals (p : Pd) (dv : Value) : Array Value := (p.cs dv).toArray
theorem Pd.size {p : Pd} (h : p.ws.length = 7) (dv : Value) : (p.vals dv).size = 14 := by simp [Pd.vals, Pd.cs, h]
theorem Pd.one (p : Pd) (a : Option Addr) (n c : Nat) : (p.vals (.slice a n c)).all (·.oneCell') = true := by
  simp only [Pd.vals, List.all_toArray, List.all_eq_true, Pd.cs]
  intro v hv
  simp only [List.mem_append, List.mem_cons, List.mem_map, List.not_mem_nil, or_false] at hv
  rcases hv with (rfl | rfl | rfl | rfl | rfl | rfl) | ⟨x, _, rfl⟩ | rfl <;> rfl
def noP : Pd := ⟨0, 0, 0, 0, 0, 0, List.replicate 7 0, []⟩
theorem zeroPi : (Try.prog.info? 26).map (fun i => i.zero) = some (some (.agg (noP.vals (.slice none 0 0)))) := by kernel_rfl
theorem sizeP : (Try.prog.info? 26).map (·.size) = some 14 := by kernel_rfl
theorem size22 : (Try.prog.info? 22).map (·.size) = some 1 := by kernel_rfl

/-- The words that a head has, the first k of them. -/
def wsK (zs : List Int) (k : Nat) : List Int := (List.range 7).map (fun i => if i < k then B.num zs (20 + 4 * i) 4 else 0)
/-- The PDU of a head and of data, with the first k words. -/
def headK (zs d : List Int) (k : Nat) : Pd := ⟨zs.getD 0 0, zs.getD 1 0, zs.getD 2 0, zs.getD 3 0, zs.getD 9 0, B.num zs 16 4, wsK zs k, d⟩
theorem headK_len (zs d : List Int) (k : Nat) : (headK zs d k).ws.length = 7 := by simp [headK, wsK]
theorem headK_step (zs d : List Int) (dv : Value) (k : Nat) (hk : k < 7) : ((headK zs d k).vals dv).setIfInBounds (6 + k) (.int .u32 (B.num zs (20 + 4 * k) 4)) = (headK zs d (k + 1)).vals dv := by
  rcases k with _ | _ | _ | _ | _ | _ | _ | k
  all_goals first | omega | simp [headK, wsK, Pd.vals, Pd.cs, List.range, List.range.loop]

set_option maxRecDepth 100000 in
set_option maxHeartbeats 4000000 in
theorem apart_any (b off c : Nat) (dv : Value) (zs ds : List Int) (w : World) (hr : RdAt w (.slice (some ⟨b, off, none⟩) 48 c) zs) (hd : RdAt w dv ds) (hc : c ≤ maxLen) (hb : Bytes zs) (hdl : ds.length ≤ 100000) :
    Calls Try.prog 29 #[.slice (some ⟨b, off, none⟩) 48 c, dv] w fun e w' => ∃ v, e = .returned (.agg ((headK zs ds 7).vals v)) ∧ Row w' v ds ∧ (∀ g, v.ownBlock = some g → w.heap.size ≤ g) ∧ Below w.heap.size w w' := by
  have hzl := (rd_row hr).1
  have hcn : 48 ≤ c := by obtain ⟨a', c', hv, h1, h2, h3⟩ := hr; simp only [Value.slice.injEq] at hv; omega
  have hrB : ∀ W, Below w.heap.size w W → RdAt W (.slice (some ⟨b, off, none⟩) 48 c) zs := fun W h => hr.bel h
  have hdB : ∀ W, Below w.heap.size w W → RdAt W dv ds := fun W h => hd.bel h
  have hcl : Kpt (∀ W, Below w.heap.size w W → W.cell? ⟨b, off, none⟩ = some (.int .u8 (zs.getD 0 0)) ∧ W.cell? ⟨b, off + 1, none⟩ = some (.int .u8 (zs.getD 1 0)) ∧ W.cell? ⟨b, off + 2, none⟩ = some (.int .u8 (zs.getD 2 0)) ∧ W.cell? ⟨b, off + 3, none⟩ = some (.int .u8 (zs.getD 3 0)) ∧ W.cell? ⟨b, off + 9, none⟩ = some (.int .u8 (zs.getD 9 0))) := ⟨fun W h => by
    have hq := (rd_cells (hrB W h)).2
    exact ⟨hq 0 (by decide), hq 1 (by decide), hq 2 (by decide), hq 3 (by decide), hq 9 (by decide)⟩⟩
  have hR : Kpt (∀ W, Below w.heap.size w W → ∀ i : Nat, i + 4 ≤ 48 → Calls Try.prog 34 #[.slice (some ⟨b, off, none⟩) 48 c, .int .i64 i, .int .i64 4] W fun e w' => e = .returned (.int .u32 (B.num zs i 4)) ∧ w' = W) := ⟨fun W h i hi => read4 _ zs i W (hrB W h) (by unfold maxLen; omega) hb (by omega)⟩
  have hR16 : Kpt (∀ W, Below w.heap.size w W → Calls Try.prog 34 #[.slice (some ⟨b, off, none⟩) 48 c, .int .i64 16, .int .i64 4] W fun e w' => e = .returned (.int .u32 (B.num zs 16 4)) ∧ w' = W) := ⟨fun W h => hR.out W h 16 (by decide)⟩
  have hRk : Kpt (∀ W, Below w.heap.size w W → ∀ k : Nat, k < 7 → Calls Try.prog 34 #[.slice (some ⟨b, off, none⟩) 48 c, .int .i64 (20 + (k : Int) * 4), .int .i64 4] W fun e w' => e = .returned (.int .u32 (B.num zs (20 + 4 * k) 4)) ∧ w' = W) := ⟨fun W h k hk => by
    have e : (20 + (k : Int) * 4) = ((20 + 4 * k : Nat) : Int) := by omega
    rw [e]
    exact hR.out W h (20 + 4 * k) (by omega)⟩
  have hC : Kpt (∀ W, Below w.heap.size w W → Calls Try.prog 36 #[dv] W fun e w' => ∃ v', e = .returned v' ∧ Row w' v' ds ∧ W.grownBy w' none ∧ ∀ g, v'.ownBlock = some g → W.heap.size ≤ g) := ⟨fun W h => clone_any W dv ds (hdB W h) (by omega)⟩
  unfold maxLen at hc
  replace hrB := Kpt.mk hrB
  obtain ⟨da, dc, rfl⟩ := rd_len hd
  obtain ⟨dn, hdn⟩ : ∃ n, n = ds.length := ⟨_, rfl⟩
  rw [← hdn] at hC ⊢
  replace hdn := Kpt.mk hdn
  obtain ⟨P0, hP0⟩ : ∃ P, P = headK zs ds 0 := ⟨_, rfl⟩
  obtain ⟨x0, hx0⟩ : ∃ x, x = zs.getD 0 0 := ⟨_, rfl⟩
  obtain ⟨x1, hx1⟩ : ∃ x, x = zs.getD 1 0 := ⟨_, rfl⟩
  obtain ⟨x2, hx2⟩ : ∃ x, x = zs.getD 2 0 := ⟨_, rfl⟩
  obtain ⟨x3, hx3⟩ : ∃ x, x = zs.getD 3 0 := ⟨_, rfl⟩
  obtain ⟨x9, hx9⟩ : ∃ x, x = zs.getD 9 0 := ⟨_, rfl⟩
  obtain ⟨tg, htg⟩ : ∃ x, x = B.num zs 16 4 := ⟨_, rfl⟩
  rw [← hx0, ← hx1, ← hx2, ← hx3, ← hx9] at hcl
  rw [← htg] at hR16
  have hPe : Kpt (∀ v, P0.vals v = #[.int .u8 x0, .int .u8 x1, .int .u8 x2, .int .u8 x3, .int .u8 x9, .int .u32 tg, .int .u32 0, .int .u32 0, .int .u32 0, .int .u32 0, .int .u32 0, .int .u32 0, .int .u32 0, v]) := ⟨fun v => by rw [hP0, hx0, hx1, hx2, hx3, hx9, htg]; rfl⟩
  replace hP0 := Kpt.mk hP0
  clear hx0 hx1 hx2 hx3 hx9 htg
  clear hr hd hdB hzl
  have hbuild : Kpt (∀ (v : Value) (W : World), True) := ⟨fun _ _ => trivial⟩
  go_enter Try.func29, Try.ntmps29
  go_wp2_with (refine wpList_var rfl 26 rfl (noP.vals (.slice none 0 0)) zeroPi ?_; intro B0 w0 hB0 hX0 hb0; replace hX0 := Kpt.mk hX0; replace hB0 := Kpt.mk hB0; replace hb0 := Kpt.mk hb0)
  refine wp_region_any (by kernel_rfl) ?_
  refine wpAny_of_C (C := fun W => Below w.heap.size w W) _ _ _ _ ?_
  refine wpAnyC_take 0 (.slice (some ⟨b, off, none⟩) 48 c) rfl (by kernel_rfl) (by kernel_rfl) (by kernel_rfl) (fun _ _ _ h => h) (wanted_free rfl _) (fun W hW => by go_simp) ?_
  try simp only [Act.put, List.getElem_toArray, List.getElem_cons_succ, List.getElem_cons_zero, List.setIfInBounds_toArray, List.set_cons_succ, List.set_cons_zero]
  refine wpAnyC_take 1 (.pointer (some ⟨b, off, none⟩)) rfl (by kernel_rfl) (by kernel_rfl) (by kernel_rfl) (fun _ _ _ h => h) (wanted_free rfl _) (fun W hW => by go_simp) ?_
  try simp only [Act.put, List.getElem_toArray, List.getElem_cons_succ, List.getElem_cons_zero, List.setIfInBounds_toArray, List.set_cons_succ, List.set_cons_zero]
  refine wpAnyC_take 2 (.int .u8 x0) rfl (by kernel_rfl) (by kernel_rfl) (by kernel_rfl) (fun _ _ _ h => h) (wanted_free rfl _) (fun W hW => by have hq0 := (hcl.out W hW).1; go_simp) ?_
  try simp only [Act.put, List.getElem_toArray, List.getElem_cons_succ, List.getElem_cons_zero, List.setIfInBounds_toArray, List.set_cons_succ, List.set_cons_zero]
  refine wpAnyC_take 3 (.slice (some ⟨b, off, none⟩) 48 c) rfl (by kernel_rfl) (by kernel_rfl) (by kernel_rfl) (fun _ _ _ h => h) (wanted_free rfl _) (fun W hW => by go_simp) ?_
  try simp only [Act.put, List.getElem_toArray, List.getElem_cons_succ, List.getElem_cons_zero, List.setIfInBounds_toArray, List.set_cons_succ, List.set_cons_zero]
  refine wpAnyC_take 4 (.pointer (some ⟨b, off + 1, none⟩)) rfl (by kernel_rfl) (by kernel_rfl) (by kernel_rfl) (fun _ _ _ h => h) (wanted_free rfl _) (fun W hW => by go_simp) ?_
  try simp only [Act.put, List.getElem_toArray, List.getElem_cons_succ, List.getElem_cons_zero, List.setIfInBounds_toArray, List.set_cons_succ, List.set_cons_zero]
  refine wpAnyC_take 5 (.int .u8 x1) rfl (by kernel_rfl) (by kernel_rfl) (by kernel_rfl) (fun _ _ _ h => h) (wanted_free rfl _) (fun W hW => by have hq1 := (hcl.out W hW).2.1; go_simp) ?_
  try simp only [Act.put, List.getElem_toArray, List.getElem_cons_succ, List.getElem_cons_zero, List.setIfInBounds_toArray, List.set_cons_succ, List.set_cons_zero]
  refine wpAnyC_take 6 (.slice (some ⟨b, off, none⟩) 48 c) rfl (by kernel_rfl) (by kernel_rfl) (by kernel_rfl) (fun _ _ _ h => h) (wanted_free rfl _) (fun W hW => by go_simp) ?_
  try simp only [Act.put, List.getElem_toArray, List.getElem_cons_succ, List.getElem_cons_zero, List.setIfInBounds_toArray, List.set_cons_succ, List.set_cons_zero]
  refine wpAnyC_take 7 (.pointer (some ⟨b, off + 2, none⟩)) rfl (by kernel_rfl) (by kernel_rfl) (by kernel_rfl) (fun _ _ _ h => h) (wanted_free rfl _) (fun W hW => by go_simp) ?_
  try simp only [Act.put, List.getElem_toArray, List.getElem_cons_succ, List.getElem_cons_zero, List.setIfInBounds_toArray, List.set_cons_succ, List.set_cons_zero]
  refine wpAnyC_take 8 (.int .u8 x2) rfl (by kernel_rfl) (by kernel_rfl) (by kernel_rfl) (fun _ _ _ h => h) (wanted_free rfl _) (fun W hW => by have hq2 := (hcl.out W hW).2.2.1; go_simp) ?_
  try simp only [Act.put, List.getElem_toArray, List.getElem_cons_succ, List.getElem_cons_zero, List.setIfInBounds_toArray, List.set_cons_succ, List.set_cons_zero]
  refine wpAnyC_take 9 (.slice (some ⟨b, off, none⟩) 48 c) rfl (by kernel_rfl) (by kernel_rfl) (by kernel_rfl) (fun _ _ _ h => h) (wanted_free rfl _) (fun W hW => by go_simp) ?_
  try simp only [Act.put, List.getElem_toArray, List.getElem_cons_succ, List.getElem_cons_zero, List.setIfInBounds_toArray, List.set_cons_succ, List.set_cons_zero]
  refine wpAnyC_take 10 (.pointer (some ⟨b, off + 3, none⟩)) rfl (by kernel_rfl) (by kernel_rfl) (by kernel_rfl) (fun _ _ _ h => h) (wanted_free rfl _) (fun W hW => by go_simp) ?_
  try simp only [Act.put, List.getElem_toArray, List.getElem_cons_succ, List.getElem_cons_zero, List.setIfInBounds_toArray, List.set_cons_succ, List.set_cons_zero]
  refine wpAnyC_take 11 (.int .u8 x3) rfl (by kernel_rfl) (by kernel_rfl) (by kernel_rfl) (fun _ _ _ h => h) (wanted_free rfl _) (fun W hW => by have hq3 := (hcl.out W hW).2.2.2.1; go_simp) ?_
  try simp only [Act.put, List.getElem_toArray, List.getElem_cons_succ, List.getElem_cons_zero, List.setIfInBounds_toArray, List.set_cons_succ, List.set_cons_zero]
  refine wpAnyC_take 12 (.slice (some ⟨b, off, none⟩) 48 c) rfl (by kernel_rfl) (by kernel_rfl) (by kernel_rfl) (fun _ _ _ h => h) (wanted_free rfl _) (fun W hW => by go_simp) ?_
  try simp only [Act.put, List.getElem_toArray, List.getElem_cons_succ, List.getElem_cons_zero, List.setIfInBounds_toArray, List.set_cons_succ, List.set_cons_zero]
  refine wpAnyC_take 13 (.pointer (some ⟨b, off + 9, none⟩)) rfl (by kernel_rfl) (by kernel_rfl) (by kernel_rfl) (fun _ _ _ h => h) (wanted_free rfl _) (fun W hW => by go_simp) ?_
  try simp only [Act.put, List.getElem_toArray, List.getElem_cons_succ, List.getElem_cons_zero, List.setIfInBounds_toArray, List.set_cons_succ, List.set_cons_zero]
  refine wpAnyC_take 14 (.int .u8 x9) rfl (by kernel_rfl) (by kernel_rfl) (by kernel_rfl) (fun _ _ _ h => h) (wanted_free rfl _) (fun W hW => by have hq9 := (hcl.out W hW).2.2.2.2; go_simp) ?_
  try simp only [Act.put, List.getElem_toArray, List.getElem_cons_succ, List.getElem_cons_zero, List.setIfInBounds_toArray, List.set_cons_succ, List.set_cons_zero]
  refine wpAnyC_take 15 (.slice (some ⟨b, off, none⟩) 48 c) rfl (by kernel_rfl) (by kernel_rfl) (by kernel_rfl) (fun _ _ _ h => h) (wanted_free rfl _) (fun W hW => by go_simp) ?_
  try simp only [Act.put, List.getElem_toArray, List.getElem_cons_succ, List.getElem_cons_zero, List.setIfInBounds_toArray, List.set_cons_succ, List.set_cons_zero]
  refine wpAnyC_take 17 (.slice da dn dc) rfl (by kernel_rfl) (by kernel_rfl) (by kernel_rfl) (fun _ _ _ h => h) (wanted_free rfl _) (fun W hW => by go_simp) ?_
  try simp only [Act.put, List.getElem_toArray, List.getElem_cons_succ, List.getElem_cons_zero, List.setIfInBounds_toArray, List.set_cons_succ, List.set_cons_zero]
  refine wpAnyC_two 16 20 (hb0.out.drew) rfl rfl (by kernel_rfl) (wanted_free rfl _) (wanted_free rfl _) (fun KA hKA => ?_) (fun KA hKA => ?_)
  · go_simp
    refine (hR16.out _ hb0.out.drew).mono ?_
    rintro e w1 ⟨rfl, rfl⟩
    refine hKA _ _ ?_
    clear hKA KA
    try simp only [Act.put, List.getElem_toArray, List.getElem_cons_succ, List.getElem_cons_zero, List.setIfInBounds_toArray, List.set_cons_succ, List.set_cons_zero]
    refine wpAnyC_two 18 20 (hb0.out.drew) rfl rfl (by kernel_rfl) (wanted_free rfl _) (wanted_free rfl _) (fun KA hKA => ?_) (fun KA hKA => ?_)
    · go_simp
      refine (hC.out _ hb0.out.drew).mono ?_
      rintro e w1 ⟨v, rfl, hrow, hgr, hvg⟩
      obtain ⟨va, vn, vc, rfl⟩ := row_sl hrow
      replace hrow := Kpt.mk hrow
      replace hgr := Kpt.mk hgr
      replace hvg := Kpt.mk hvg
      refine hKA _ _ ?_
      clear hKA KA
      try simp only [Act.put, List.getElem_toArray, List.getElem_cons_succ, List.getElem_cons_zero, List.setIfInBounds_toArray, List.set_cons_succ, List.set_cons_zero]
      have hbw : Kpt (Below w.heap.size w w1) := ⟨hb0.out.drew.grown hgr.out hb0.out.drew.size (fun k h => by cases h)⟩
      refine wpAnyC_take 19 (.agg (P0.vals (.slice va vn vc))) rfl (by kernel_rfl) (by kernel_rfl) (by kernel_rfl) (fun _ _ _ h => h) (wanted_free rfl _) (fun W hW => by rw [hPe.out]; kernel_rfl) ?_
      try simp only [Act.put, List.getElem_toArray, List.getElem_cons_succ, List.getElem_cons_zero, List.setIfInBounds_toArray, List.set_cons_succ, List.set_cons_zero]
      refine wpAnyC_one 20 (hbw.out) rfl (by kernel_rfl) (wanted_free rfl _) (fun KA hKA => ?_)
      refine wp_var 26 rfl (noP.vals (.slice none 0 0)) zeroPi ?_
      intro B1 w2 hB1 hX1 hb1
      replace hX1 := Kpt.mk hX1
      replace hB1 := Kpt.mk hB1
      replace hb1 := Kpt.mk hb1
      refine hKA _ _ ?_
      clear hKA KA
      try simp only [Act.put, List.getElem_toArray, List.getElem_cons_succ, List.getElem_cons_zero, List.setIfInBounds_toArray, List.set_cons_succ, List.set_cons_zero]
      have hbx : Kpt (Below w.heap.size w w2) := ⟨hbw.out.trans (hb1.out.mono hbw.out.size)⟩
      have hXw : Kpt (Bx w2 B1 (noP.vals (.slice none 0 0))) := ⟨hX1.out⟩
      have hX0w : Kpt (Bx w2 B0 (noP.vals (.slice none 0 0))) := ⟨(hX0.out.drew.grown hgr.out (by simp)).below hb1.out (Nat.lt_of_lt_of_le hX0.out.lt hgr.out.size)⟩
      have hBw : Kpt (w.heap.size ≤ B0 ∧ w.heap.size ≤ B1) := ⟨hB0.out, Nat.le_trans hbw.out.size hB1.out⟩
      have hBB : Kpt (B0 ≠ B1) := ⟨Nat.ne_of_lt (Nat.lt_of_lt_of_le (Nat.lt_of_lt_of_le hX0.out.lt hgr.out.size) hB1.out)⟩
      have hroww : Kpt (Row w2 (.slice va vn vc) ds) := ⟨hrow.out.of_block fun g hg => hb1.out.block g (Row.lt hrow.out hg)⟩
      have hBr : Kpt (∀ g, (Value.slice va vn vc).ownBlock = some g → g ≠ B1) := ⟨fun g hg => Nat.ne_of_lt (Nat.lt_of_lt_of_le (Row.lt hrow.out hg) hB1.out)⟩
      have hvw : Kpt (∀ g, (Value.slice va vn vc).ownBlock = some g → w.heap.size ≤ g ∧ B0 ≠ g) := ⟨fun g hg => ⟨Nat.le_trans hb0.out.size (hvg.out g hg), Nat.ne_of_lt (Nat.lt_of_lt_of_le hX0.out.lt (hvg.out g hg))⟩⟩
      refine wpAnyC_one 21 (hbx.out) rfl (by kernel_rfl) (wanted_free rfl _) (fun KA hKA => ?_)
      refine wp_store_bx 26 (.tmp 5) (.tmp 26) rfl B1 (noP.vals (.slice none 0 0)) (P0.vals (.slice va vn vc)) rfl rfl hXw.out (by rw [hP0.out, Pd.size (headK_len _ _ _)]; rfl) (by rw [hP0.out, Pd.size (headK_len _ _ _)]; exact sizeP) (Pd.one _ _ _ _) ?_
      intro w3 hX3 hg3
      refine hKA _ _ ?_
      clear hKA KA
      have hb3 : Kpt (Below w.heap.size w w3) := ⟨hbx.out.grown hg3 hbx.out.size (fun k h => by cases h; exact hBw.out.2)⟩
      have hX03 : Kpt (Bx w3 B0 (noP.vals (.slice none 0 0))) := ⟨hX0w.out.grown hg3 (fun e => hBB.out (Option.some.inj e).symm)⟩
      have hrow3 : Kpt (Row w3 (.slice va vn vc) ds) := ⟨hroww.out.of_block fun g hg => hg3.block g (Row.lt hroww.out hg) (fun e => hBr.out g hg (Option.some.inj e))⟩
      rw [hP0.out] at hX3
      replace hX3 := Kpt.mk hX3
      clear hg3 hXw hX0w hbx hroww
      try simp only [Act.put, List.getElem_toArray, List.getElem_cons_succ, List.getElem_cons_zero, List.setIfInBounds_toArray, List.set_cons_succ, List.set_cons_zero]
      refine wpAnyC_done hb3.out (by kernel_rfl) ?_
      clear hb0 hX0 hB0
      go_wp2_with fail
      go_loopw [27] (fun t wr => ∃ k : Nat, k ≤ 7 ∧ t = .int .i64 k ∧ Kpt (Bx wr B1 ((headK zs ds k).vals (.slice va vn vc))) ∧ Kpt (Bx wr B0 (noP.vals (.slice none 0 0))) ∧ Kpt (Below w.heap.size w wr) ∧ Kpt (Row wr (.slice va vn vc) ds)) (fun t _ => 7 - (intOf t).toNat)
      case atStart => exact ⟨0, by omega, rfl, hX3, hX03, hb3, hrow3⟩
      case round =>
        obtain ⟨k, hk, rfl, hXk, hX0k, hbk, hrk⟩ := hrel
        by_cases hlt : k < 7
        · have hxk := Kpt.mk (headK_step zs ds (.slice va vn vc) k hlt)
          have hsz : Kpt (6 + k < ((headK zs ds k).vals (.slice va vn vc)).size) := ⟨by rw [Pd.size (headK_len _ _ _)]; omega⟩
          go_wp2_with (first
            | (refine wpList_store_cell rfl rfl B1 (6 + k) _ (.int .u32 (B.num zs (20 + 4 * k) 4)) rfl rfl rfl hXk.out hsz.out size22 rfl ?_; intro wq hXq hgq; rw [hxk.out] at hXq; have hX0q : Kpt (Bx wq B0 (noP.vals (.slice none 0 0))) := ⟨hX0k.out.grown hgq (fun e => hBB.out (Option.some.inj e).symm)⟩; have hbq : Kpt (Below w.heap.size w wq) := ⟨hbk.out.grown hgq hbk.out.size (fun k h => by cases h; exact hBw.out.2)⟩; have hrq : Kpt (Row wq (.slice va vn vc) ds) := ⟨hrk.out.of_block fun g hg => hgq.block g (Row.lt hrk.out hg) (fun e => hBr.out g hg (Option.some.inj e))⟩; replace hXq := Kpt.mk hXq; clear hgq)
            | (go_at_call 34; go_must (refine (hRk.out _ hbk.out k hlt).mono ?_; rintro e wr ⟨rfl, rfl⟩)))
          go_roundw
          case rel => exact ⟨k + 1, by omega, by go_num, hXq, hX0q, hbq, hrq⟩
          case measure => simp [intOf]; omega
        · obtain rfl : k = 7 := by omega
          have hs7 := Kpt.mk (Pd.size (headK_len zs ds 7) (.slice va vn vc))
          go_wp2_with (first
            | (have hm := m1; refine wpList_store_bx rfl 26 (.tmp 4) (.tmp 39) rfl B0 (noP.vals (.slice none 0 0)) ((headK zs ds 7).vals (.slice va vn vc)) rfl rfl hX0k.out (by rw [hs7.out]; rfl) (by rw [hs7.out]; exact sizeP) (Pd.one _ _ _ _) rfl ?_; intro wq hXq hgq; have hbq : Kpt (Below w.heap.size w wq) := ⟨hbk.out.grown hgq hbk.out.size (fun k h => by cases h; exact hBw.out.1)⟩; have hrq : Kpt (Row wq (.slice va vn vc) ds) := ⟨hrk.out.of_block fun g hg => hgq.block g (Row.lt hrk.out hg) (fun e => (hvw.out g hg).2 (Option.some.inj e).symm)⟩; replace hXq := Kpt.mk hXq; clear hgq)
            | (refine wpList_load_bx rfl 26 (.tmp 5) rfl B1 ((headK zs ds 7).vals (.slice va vn vc)) rfl hXk.out _ Try.underlying26 rfl (by rw [hs7.out]; exact sizeP) ?_; have m1 : Kpt True := ⟨trivial⟩))
          refine bodyPost_ret (v := .agg ((headK zs ds 7).vals (.slice va vn vc))) (by simp [results, Try.results29, asAddr, Act.put, run_res hXq.out 26 _ Try.underlying26 rfl (by rw [hs7.out]; exact sizeP)]) rfl ⟨_, rfl, hrq.out, fun g hg => (hvw.out g hg).1, hbq.out⟩
    · refine wp_var 26 rfl (noP.vals (.slice none 0 0)) zeroPi ?_
      intro B1 w2 hB1 hX1 hb1
      replace hX1 := Kpt.mk hX1
      replace hB1 := Kpt.mk hB1
      replace hb1 := Kpt.mk hb1
      refine hKA _ _ ?_
      clear hKA KA
      try simp only [Act.put, List.getElem_toArray, List.getElem_cons_succ, List.getElem_cons_zero, List.setIfInBounds_toArray, List.set_cons_succ, List.set_cons_zero]
      have hbw : Kpt (Below w.heap.size w w2) := ⟨hb0.out.drew.trans (hb1.out.mono hb0.out.drew.size)⟩
      refine wpAnyC_one 18 (hbw.out) rfl (by kernel_rfl) (wanted_free rfl _) (fun KA hKA => ?_)
      go_simp
      refine (hC.out _ hbw.out).mono ?_
      rintro e w1 ⟨v, rfl, hrow, hgr, hvg⟩
      obtain ⟨va, vn, vc, rfl⟩ := row_sl hrow
      replace hrow := Kpt.mk hrow
      replace hgr := Kpt.mk hgr
      replace hvg := Kpt.mk hvg
      refine hKA _ _ ?_
      clear hKA KA
      try simp only [Act.put, List.getElem_toArray, List.getElem_cons_succ, List.getElem_cons_zero, List.setIfInBounds_toArray, List.set_cons_succ, List.set_cons_zero]
      refine wpAnyC_take 19 (.agg (P0.vals (.slice va vn vc))) rfl (by kernel_rfl) (by kernel_rfl) (by kernel_rfl) (fun _ _ _ h => h) (wanted_free rfl _) (fun W hW => by rw [hPe.out]; kernel_rfl) ?_
      try simp only [Act.put, List.getElem_toArray, List.getElem_cons_succ, List.getElem_cons_zero, List.setIfInBounds_toArray, List.set_cons_succ, List.set_cons_zero]
      have hbx : Kpt (Below w.heap.size w w1) := ⟨hbw.out.grown hgr.out hbw.out.size (fun k h => by cases h)⟩
      have hXw : Kpt (Bx w1 B1 (noP.vals (.slice none 0 0))) := ⟨hX1.out.grown hgr.out (by simp)⟩
      have hX0w : Kpt (Bx w1 B0 (noP.vals (.slice none 0 0))) := ⟨(hX0.out.drew.below hb1.out hX0.out.lt).grown hgr.out (by simp)⟩
      have hBw : Kpt (w.heap.size ≤ B0 ∧ w.heap.size ≤ B1) := ⟨hB0.out, Nat.le_trans hb0.out.drew.size hB1.out⟩
      have hBB : Kpt (B0 ≠ B1) := ⟨Nat.ne_of_lt (Nat.lt_of_lt_of_le hX0.out.lt hB1.out)⟩
      have hroww : Kpt (Row w1 (.slice va vn vc) ds) := ⟨hrow.out⟩
      have hBr : Kpt (∀ g, (Value.slice va vn vc).ownBlock = some g → g ≠ B1) := ⟨fun g hg => (Nat.ne_of_lt (Nat.lt_of_lt_of_le hX1.out.lt (hvg.out g hg))).symm⟩
      have hvw : Kpt (∀ g, (Value.slice va vn vc).ownBlock = some g → w.heap.size ≤ g ∧ B0 ≠ g) := ⟨fun g hg => ⟨Nat.le_trans hbw.out.size (hvg.out g hg), Nat.ne_of_lt (Nat.lt_of_lt_of_le (Nat.lt_of_lt_of_le hX0.out.lt hb1.out.size) (hvg.out g hg))⟩⟩
      refine wpAnyC_one 21 (hbx.out) rfl (by kernel_rfl) (wanted_free rfl _) (fun KA hKA => ?_)
      refine wp_store_bx 26 (.tmp 5) (.tmp 26) rfl B1 (noP.vals (.slice none 0 0)) (P0.vals (.slice va vn vc)) rfl rfl hXw.out (by rw [hP0.out, Pd.size (headK_len _ _ _)]; rfl) (by rw [hP0.out, Pd.size (headK_len _ _ _)]; exact sizeP) (Pd.one _ _ _ _) ?_
      intro w3 hX3 hg3
      refine hKA _ _ ?_
      clear hKA KA
      have hb3 : Kpt (Below w.heap.size w w3) := ⟨hbx.out.grown hg3 hbx.out.size (fun k h => by cases h; exact hBw.out.2)⟩
      have hX03 : Kpt (Bx w3 B0 (noP.vals (.slice none 0 0))) := ⟨hX0w.out.grown hg3 (fun e => hBB.out (Option.some.inj e).symm)⟩
      have hrow3 : Kpt (Row w3 (.slice va vn vc) ds) := ⟨hroww.out.of_block fun g hg => hg3.block g (Row.lt hroww.out hg) (fun e => hBr.out g hg (Option.some.inj e))⟩
      rw [hP0.out] at hX3
      replace hX3 := Kpt.mk hX3
      clear hg3 hXw hX0w hbx hroww
      try simp only [Act.put, List.getElem_toArray, List.getElem_cons_succ, List.getElem_cons_zero, List.setIfInBounds_toArray, List.set_cons_succ, List.set_cons_zero]
      refine wpAnyC_done hb3.out (by kernel_rfl) ?_
      clear hb0 hX0 hB0
      go_wp2_with fail
      go_loopw [27] (fun t wr => ∃ k : Nat, k ≤ 7 ∧ t = .int .i64 k ∧ Kpt (Bx wr B1 ((headK zs ds k).vals (.slice va vn vc))) ∧ Kpt (Bx wr B0 (noP.vals (.slice none 0 0))) ∧ Kpt (Below w.heap.size w wr) ∧ Kpt (Row wr (.slice va vn vc) ds)) (fun t _ => 7 - (intOf t).toNat)
      case atStart => exact ⟨0, by omega, rfl, hX3, hX03, hb3, hrow3⟩
      case round =>
        obtain ⟨k, hk, rfl, hXk, hX0k, hbk, hrk⟩ := hrel
        by_cases hlt : k < 7
        · have hxk := Kpt.mk (headK_step zs ds (.slice va vn vc) k hlt)
          have hsz : Kpt (6 + k < ((headK zs ds k).vals (.slice va vn vc)).size) := ⟨by rw [Pd.size (headK_len _ _ _)]; omega⟩
          go_wp2_with (first
            | (refine wpList_store_cell rfl rfl B1 (6 + k) _ (.int .u32 (B.num zs (20 + 4 * k) 4)) rfl rfl rfl hXk.out hsz.out size22 rfl ?_; intro wq hXq hgq; rw [hxk.out] at hXq; have hX0q : Kpt (Bx wq B0 (noP.vals (.slice none 0 0))) := ⟨hX0k.out.grown hgq (fun e => hBB.out (Option.some.inj e).symm)⟩; have hbq : Kpt (Below w.heap.size w wq) := ⟨hbk.out.grown hgq hbk.out.size (fun k h => by cases h; exact hBw.out.2)⟩; have hrq : Kpt (Row wq (.slice va vn vc) ds) := ⟨hrk.out.of_block fun g hg => hgq.block g (Row.lt hrk.out hg) (fun e => hBr.out g hg (Option.some.inj e))⟩; replace hXq := Kpt.mk hXq; clear hgq)
            | (go_at_call 34; go_must (refine (hRk.out _ hbk.out k hlt).mono ?_; rintro e wr ⟨rfl, rfl⟩)))
          go_roundw
          case rel => exact ⟨k + 1, by omega, by go_num, hXq, hX0q, hbq, hrq⟩
          case measure => simp [intOf]; omega
        · obtain rfl : k = 7 := by omega
          have hs7 := Kpt.mk (Pd.size (headK_len zs ds 7) (.slice va vn vc))
          go_wp2_with (first
            | (have hm := m1; refine wpList_store_bx rfl 26 (.tmp 4) (.tmp 39) rfl B0 (noP.vals (.slice none 0 0)) ((headK zs ds 7).vals (.slice va vn vc)) rfl rfl hX0k.out (by rw [hs7.out]; rfl) (by rw [hs7.out]; exact sizeP) (Pd.one _ _ _ _) rfl ?_; intro wq hXq hgq; have hbq : Kpt (Below w.heap.size w wq) := ⟨hbk.out.grown hgq hbk.out.size (fun k h => by cases h; exact hBw.out.1)⟩; have hrq : Kpt (Row wq (.slice va vn vc) ds) := ⟨hrk.out.of_block fun g hg => hgq.block g (Row.lt hrk.out hg) (fun e => (hvw.out g hg).2 (Option.some.inj e).symm)⟩; replace hXq := Kpt.mk hXq; clear hgq)
            | (refine wpList_load_bx rfl 26 (.tmp 5) rfl B1 ((headK zs ds 7).vals (.slice va vn vc)) rfl hXk.out _ Try.underlying26 rfl (by rw [hs7.out]; exact sizeP) ?_; have m1 : Kpt True := ⟨trivial⟩))
          refine bodyPost_ret (v := .agg ((headK zs ds 7).vals (.slice va vn vc))) (by simp [results, Try.results29, asAddr, Act.put, run_res hXq.out 26 _ Try.underlying26 rfl (by rw [hs7.out]; exact sizeP)]) rfl ⟨_, rfl, hrq.out, fun g hg => (hvw.out g hg).1, hbq.out⟩
  · refine wp_var 26 rfl (noP.vals (.slice none 0 0)) zeroPi ?_
    intro B1 w2 hB1 hX1 hb1
    replace hX1 := Kpt.mk hX1
    replace hB1 := Kpt.mk hB1
    replace hb1 := Kpt.mk hb1
    refine hKA _ _ ?_
    clear hKA KA
    try simp only [Act.put, List.getElem_toArray, List.getElem_cons_succ, List.getElem_cons_zero, List.setIfInBounds_toArray, List.set_cons_succ, List.set_cons_zero]
    have hbw : Kpt (Below w.heap.size w w2) := ⟨hb0.out.drew.trans (hb1.out.mono hb0.out.drew.size)⟩
    refine wpAnyC_one 16 (hbw.out) rfl (by kernel_rfl) (wanted_free rfl _) (fun KA hKA => ?_)
    go_simp
    refine (hR16.out _ hbw.out).mono ?_
    rintro e w2 ⟨rfl, rfl⟩
    refine hKA _ _ ?_
    clear hKA KA
    try simp only [Act.put, List.getElem_toArray, List.getElem_cons_succ, List.getElem_cons_zero, List.setIfInBounds_toArray, List.set_cons_succ, List.set_cons_zero]
    refine wpAnyC_one 18 (hbw.out) rfl (by kernel_rfl) (wanted_free rfl _) (fun KA hKA => ?_)
    go_simp
    refine (hC.out _ hbw.out).mono ?_
    rintro e w1 ⟨v, rfl, hrow, hgr, hvg⟩
    obtain ⟨va, vn, vc, rfl⟩ := row_sl hrow
    replace hrow := Kpt.mk hrow
    replace hgr := Kpt.mk hgr
    replace hvg := Kpt.mk hvg
    refine hKA _ _ ?_
    clear hKA KA
    try simp only [Act.put, List.getElem_toArray, List.getElem_cons_succ, List.getElem_cons_zero, List.setIfInBounds_toArray, List.set_cons_succ, List.set_cons_zero]
    refine wpAnyC_take 19 (.agg (P0.vals (.slice va vn vc))) rfl (by kernel_rfl) (by kernel_rfl) (by kernel_rfl) (fun _ _ _ h => h) (wanted_free rfl _) (fun W hW => by rw [hPe.out]; kernel_rfl) ?_
    try simp only [Act.put, List.getElem_toArray, List.getElem_cons_succ, List.getElem_cons_zero, List.setIfInBounds_toArray, List.set_cons_succ, List.set_cons_zero]
    have hbx : Kpt (Below w.heap.size w w1) := ⟨hbw.out.grown hgr.out hbw.out.size (fun k h => by cases h)⟩
    have hXw : Kpt (Bx w1 B1 (noP.vals (.slice none 0 0))) := ⟨hX1.out.grown hgr.out (by simp)⟩
    have hX0w : Kpt (Bx w1 B0 (noP.vals (.slice none 0 0))) := ⟨(hX0.out.drew.below hb1.out hX0.out.lt).grown hgr.out (by simp)⟩
    have hBw : Kpt (w.heap.size ≤ B0 ∧ w.heap.size ≤ B1) := ⟨hB0.out, Nat.le_trans hb0.out.drew.size hB1.out⟩
    have hBB : Kpt (B0 ≠ B1) := ⟨Nat.ne_of_lt (Nat.lt_of_lt_of_le hX0.out.lt hB1.out)⟩
    have hroww : Kpt (Row w1 (.slice va vn vc) ds) := ⟨hrow.out⟩
    have hBr : Kpt (∀ g, (Value.slice va vn vc).ownBlock = some g → g ≠ B1) := ⟨fun g hg => (Nat.ne_of_lt (Nat.lt_of_lt_of_le hX1.out.lt (hvg.out g hg))).symm⟩
    have hvw : Kpt (∀ g, (Value.slice va vn vc).ownBlock = some g → w.heap.size ≤ g ∧ B0 ≠ g) := ⟨fun g hg => ⟨Nat.le_trans hbw.out.size (hvg.out g hg), Nat.ne_of_lt (Nat.lt_of_lt_of_le (Nat.lt_of_lt_of_le hX0.out.lt hb1.out.size) (hvg.out g hg))⟩⟩
    refine wpAnyC_one 21 (hbx.out) rfl (by kernel_rfl) (wanted_free rfl _) (fun KA hKA => ?_)
    refine wp_store_bx 26 (.tmp 5) (.tmp 26) rfl B1 (noP.vals (.slice none 0 0)) (P0.vals (.slice va vn vc)) rfl rfl hXw.out (by rw [hP0.out, Pd.size (headK_len _ _ _)]; rfl) (by rw [hP0.out, Pd.size (headK_len _ _ _)]; exact sizeP) (Pd.one _ _ _ _) ?_
    intro w3 hX3 hg3
    refine hKA _ _ ?_
    clear hKA KA
    have hb3 : Kpt (Below w.heap.size w w3) := ⟨hbx.out.grown hg3 hbx.out.size (fun k h => by cases h; exact hBw.out.2)⟩
    have hX03 : Kpt (Bx w3 B0 (noP.vals (.slice none 0 0))) := ⟨hX0w.out.grown hg3 (fun e => hBB.out (Option.some.inj e).symm)⟩
    have hrow3 : Kpt (Row w3 (.slice va vn vc) ds) := ⟨hroww.out.of_block fun g hg => hg3.block g (Row.lt hroww.out hg) (fun e => hBr.out g hg (Option.some.inj e))⟩
    rw [hP0.out] at hX3
    replace hX3 := Kpt.mk hX3
    clear hg3 hXw hX0w hbx hroww
    try simp only [Act.put, List.getElem_toArray, List.getElem_cons_succ, List.getElem_cons_zero, List.setIfInBounds_toArray, List.set_cons_succ, List.set_cons_zero]
    refine wpAnyC_done hb3.out (by kernel_rfl) ?_
    clear hb0 hX0 hB0
    go_wp2_with fail
    go_loopw [27] (fun t wr => ∃ k : Nat, k ≤ 7 ∧ t = .int .i64 k ∧ Kpt (Bx wr B1 ((headK zs ds k).vals (.slice va vn vc))) ∧ Kpt (Bx wr B0 (noP.vals (.slice none 0 0))) ∧ Kpt (Below w.heap.size w wr) ∧ Kpt (Row wr (.slice va vn vc) ds)) (fun t _ => 7 - (intOf t).toNat)
    case atStart => exact ⟨0, by omega, rfl, hX3, hX03, hb3, hrow3⟩
    case round =>
      obtain ⟨k, hk, rfl, hXk, hX0k, hbk, hrk⟩ := hrel
      by_cases hlt : k < 7
      · have hxk := Kpt.mk (headK_step zs ds (.slice va vn vc) k hlt)
        have hsz : Kpt (6 + k < ((headK zs ds k).vals (.slice va vn vc)).size) := ⟨by rw [Pd.size (headK_len _ _ _)]; omega⟩
        go_wp2_with (first
          | (refine wpList_store_cell rfl rfl B1 (6 + k) _ (.int .u32 (B.num zs (20 + 4 * k) 4)) rfl rfl rfl hXk.out hsz.out size22 rfl ?_; intro wq hXq hgq; rw [hxk.out] at hXq; have hX0q : Kpt (Bx wq B0 (noP.vals (.slice none 0 0))) := ⟨hX0k.out.grown hgq (fun e => hBB.out (Option.some.inj e).symm)⟩; have hbq : Kpt (Below w.heap.size w wq) := ⟨hbk.out.grown hgq hbk.out.size (fun k h => by cases h; exact hBw.out.2)⟩; have hrq : Kpt (Row wq (.slice va vn vc) ds) := ⟨hrk.out.of_block fun g hg => hgq.block g (Row.lt hrk.out hg) (fun e => hBr.out g hg (Option.some.inj e))⟩; replace hXq := Kpt.mk hXq; clear hgq)
          | (go_at_call 34; go_must (refine (hRk.out _ hbk.out k hlt).mono ?_; rintro e wr ⟨rfl, rfl⟩)))
        go_roundw
        case rel => exact ⟨k + 1, by omega, by go_num, hXq, hX0q, hbq, hrq⟩
        case measure => simp [intOf]; omega
      · obtain rfl : k = 7 := by omega
        have hs7 := Kpt.mk (Pd.size (headK_len zs ds 7) (.slice va vn vc))
        go_wp2_with (first
          | (have hm := m1; refine wpList_store_bx rfl 26 (.tmp 4) (.tmp 39) rfl B0 (noP.vals (.slice none 0 0)) ((headK zs ds 7).vals (.slice va vn vc)) rfl rfl hX0k.out (by rw [hs7.out]; rfl) (by rw [hs7.out]; exact sizeP) (Pd.one _ _ _ _) rfl ?_; intro wq hXq hgq; have hbq : Kpt (Below w.heap.size w wq) := ⟨hbk.out.grown hgq hbk.out.size (fun k h => by cases h; exact hBw.out.1)⟩; have hrq : Kpt (Row wq (.slice va vn vc) ds) := ⟨hrk.out.of_block fun g hg => hgq.block g (Row.lt hrk.out hg) (fun e => (hvw.out g hg).2 (Option.some.inj e).symm)⟩; replace hXq := Kpt.mk hXq; clear hgq)
          | (refine wpList_load_bx rfl 26 (.tmp 5) rfl B1 ((headK zs ds 7).vals (.slice va vn vc)) rfl hXk.out _ Try.underlying26 rfl (by rw [hs7.out]; exact sizeP) ?_; have m1 : Kpt True := ⟨trivial⟩))
        refine bodyPost_ret (v := .agg ((headK zs ds 7).vals (.slice va vn vc))) (by simp [results, Try.results29, asAddr, Act.put, run_res hXq.out 26 _ Try.underlying26 rfl (by rw [hs7.out]; exact sizeP)]) rfl ⟨_, rfl, hrq.out, fun g hg => (hvw.out g hg).1, hbq.out⟩
end Go.Proofs.Ytigfoldobkigeaa
