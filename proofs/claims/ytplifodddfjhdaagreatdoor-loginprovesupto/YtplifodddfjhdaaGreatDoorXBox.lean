/-
  Bytes, structs in blocks of their own, rows that are read.
-/
import Derived.Test.YtplifodddfjhdaaGreatDoorGOwn
import Derived.Deep.MidRow
import Derived.Lib.BufferWrite
import Derived.Lib.Bytes
namespace Go.Proofs.YtplifodddfjhdaaGreatDoor
open Go.RowKit
set_option linter.unusedVariables false
set_option linter.unusedSimpArgs false

/-- All are bytes. -/
def Bytes (zs : List Int) : Prop := ∀ j, 0 ≤ zs.getD j 0 ∧ zs.getD j 0 ≤ 255
theorem Bytes.take {zs : List Int} (h : Bytes zs) (n : Nat) : Bytes (zs.take n) := by
  intro j
  have := h j
  rw [List.getD_eq_getElem?_getD] at this ⊢
  rw [List.getElem?_take]
  by_cases hj : j < n
  · rw [if_pos hj]; exact this
  · rw [if_neg hj]; simp

theorem Bytes.mem {zs : List Int} (h : Bytes zs) : ∀ z ∈ zs, 0 ≤ z ∧ z ≤ 255 := by
  intro z hz
  obtain ⟨j, hj, rfl⟩ := List.getElem_of_mem hz
  have := h j
  rw [List.getD_eq_getElem?_getD, List.getElem?_eq_getElem hj] at this
  exact this


/-- A block that holds these cells, and may be written. -/
structure Bx (w : World) (b : Nat) (cs : Array Value) : Prop where
  lt : b < w.heap.size
  cells : ∀ j, j < cs.size → w.cell? ⟨b, j, none⟩ = cs[j]?
  free : ∀ j, w.frozen? ⟨b, j, none⟩ = false

theorem Bx.of_block {w w' : World} {b : Nat} {cs : Array Value} (h : Bx w b cs) (hlt : b < w'.heap.size) (hb : w'.heap[b]? = w.heap[b]?) : Bx w' b cs :=
  ⟨hlt, fun j hj => (World.cell?_of_block (w := w) (a := ⟨b, j, none⟩) hb).trans (h.cells j hj), fun j => (World.frozen?_of_block (w := w) (a := ⟨b, j, none⟩) hb).trans (h.free j)⟩
theorem Bx.below {w w' : World} {b n : Nat} {cs : Array Value} (h : Bx w b cs) (hb : Below n w w') (hn : b < n) : Bx w' b cs :=
  h.of_block (Nat.lt_of_lt_of_le h.lt hb.size) (hb.block b hn)
theorem Bx.alloc {w : World} {b : Nat} {cs : Array Value} (h : Bx w b cs) (o : Obj) : Bx (w.alloc o) b cs :=
  h.of_block (by have := h.lt; simp; omega) (Below.heap_alloc w o b h.lt)
theorem Bx.grown {w w' : World} {b : Nat} {row : Option Nat} {cs : Array Value} (h : Bx w b cs) (hg : w.grownBy w' row) (hn : row ≠ some b) : Bx w' b cs :=
  h.of_block (Nat.lt_of_lt_of_le h.lt hg.size) (hg.block b h.lt (fun e => hn e.symm))
theorem Bx.drew {w : World} {b : Nat} {cs : Array Value} (h : Bx w b cs) : Bx w.drew b cs := ⟨h.lt, h.cells, h.free⟩
theorem bx_new (w : World) (cs : Array Value) (t : TypeId) : Bx (w.alloc (.cells cs t)) w.heap.size cs := ⟨by simp, fun j hj => by simp, fun j => by simp⟩

theorem Bx.range {w : World} {b : Nat} {cs : Array Value} (h : Bx w b cs) : w.rangeAt b 0 cs.toList := fun j v hv => by
  have hj : j < cs.size := by have := (List.getElem?_eq_some_iff.1 hv).1; simpa using this
  rw [Nat.zero_add, h.cells j hj, ← hv, Array.getElem?_toList]
theorem Bx.there {w : World} {b : Nat} {cs : Array Value} (h : Bx w b cs) : w.there b 0 cs.size := fun j hj => by
  rw [Nat.zero_add, h.cells j hj, Array.getElem?_eq_getElem hj]
  exact ⟨rfl, h.free j⟩

theorem grown_setCellK (w : World) (a : Addr) (u : Value) : w.grownBy (w.setCell a u) (some a.block) :=
  ⟨rfl, rfl, rfl, by simp, fun j _ hk => Below.heap_setCell w a u j (fun e => hk (by rw [e]))⟩
theorem grown_setCells (b : Nat) : ∀ (vs : List Value) (o : Nat) (w : World), w.grownBy (w.setCells b o vs) (some b)
  | [], _, w => ⟨rfl, rfl, rfl, Nat.le_refl _, fun _ _ _ => rfl⟩
  | v :: r, o, w => by
    have h1 := grown_setCellK w ⟨b, o, none⟩ v
    have h2 := grown_setCells b r (o + 1) (w.setCell ⟨b, o, none⟩ v)
    exact ⟨h2.os.trans h1.os, h2.tape.trans h1.tape, h2.output.trans h1.output, Nat.le_trans h1.size h2.size, fun j hj hk => (h2.block j (Nat.lt_of_lt_of_le hj h1.size) hk).trans (h1.block j hj hk)⟩

theorem bx_set {w : World} {b : Nat} {cs ds : Array Value} (h : Bx w b cs) (hl : ds.size = cs.size) : Bx (w.setCells b 0 ds.toList) b ds := by
  have hg := grown_setCells b ds.toList 0 w
  refine ⟨Nat.lt_of_lt_of_le h.lt hg.size, fun j hj => ?_, fun j => ?_⟩
  · have := World.rangeAt_setCells_same w b 0 ds.toList (by have := h.there; rw [← hl] at this; simpa using this) j ds[j] (by simp [hj])
    rw [Nat.zero_add] at this
    rw [this, Array.getElem?_eq_getElem hj]
  · rw [World.frozen?_setCells]; exact h.free j

/-- A whole struct is stored. -/
theorem wp_store_bx {w : World} {o : Oper} {a : Act} {K : Act → World → Prop} {Q : Exit → Act → World → Prop} (ty : TypeId) (x y : Operand)
    (ho : o.op = .store ty x y) (b : Nat) (cs ds : Array Value) (hx : a.eval x = .pointer (some ⟨b, 0, none⟩)) (hy : a.eval y = .agg ds) (hB : Bx w b cs) (hl : ds.size = cs.size)
    (hi : (Tryz.prog.info? ty).map (·.size) = some ds.size) (h1 : ds.all (·.oneCell') = true)
    (h : ∀ w', Bx w' b ds → w.grownBy w' (some b) → K (a.put o.dst undef) w') : o.wp Tryz.prog a w K Q :=
  wp_store_mid ty x y ho b 0 ds hx hy (by rw [hl]; exact hB.there) hi h1 (h _ (bx_set hB hl) (grown_setCells b ds.toList 0 w))
theorem wpList_store_bx {w : World} {ops : Array Oper} {rest : List Oper} {o : Oper} {a : Act} {Q : Exit → Act → World → Prop} (hgd : o.guard = none) (ty : TypeId) (x y : Operand)
    (ho : o.op = .store ty x y) (b : Nat) (cs ds : Array Value) (hx : a.eval x = .pointer (some ⟨b, 0, none⟩)) (hy : a.eval y = .agg ds) (hB : Bx w b cs) (hl : ds.size = cs.size)
    (hi : (Tryz.prog.info? ty).map (·.size) = some ds.size) (h1 : ds.all (·.oneCell') = true) (hdst : o.dst = none)
    (h : ∀ w', Bx w' b ds → w.grownBy w' (some b) → wpList Tryz.prog ops Q rest a w') : wpList Tryz.prog ops Q (o :: rest) a w :=
  wpList_plain hgd fun K hK => wp_store_bx ty x y ho b cs ds hx hy hB hl hi h1 (fun w' h1 h2 => hK _ _ (by rw [hdst]; exact h w' h1 h2))

/-- A whole struct is loaded. -/
theorem wpList_load_bx {w : World} {ops : Array Oper} {rest : List Oper} {o : Oper} {a : Act} {Q : Exit → Act → World → Prop} (hgd : o.guard = none) (ty : TypeId) (x : Operand)
    (ho : o.op = .load ty x) (b : Nat) (cs : Array Value) (hx : a.eval x = .pointer (some ⟨b, 0, none⟩)) (hB : Bx w b cs) (d : TypeDesc)
    (hu : Tryz.prog.underlying ty = some d) (hd : d.isRow = true) (hi : (Tryz.prog.info? ty).map (·.size) = some cs.size)
    (h : wpList Tryz.prog ops Q rest (a.put o.dst (.agg cs)) w) : wpList Tryz.prog ops Q (o :: rest) a w :=
  wpList_load_mid hgd ty x ho b 0 hx cs.toList d hB.range hu hd (by rw [Array.length_toList]; exact hi) (by simpa using h)

theorem run_res {w : World} {b : Nat} {cs : Array Value} (hB : Bx w b cs) (ty : TypeId) (d : TypeDesc)
    (hu : Tryz.prog.underlying ty = some d) (hd : d.isRow = true) (hi : (Tryz.prog.info? ty).map (·.size) = some cs.size) : (loadVar ty ⟨b, 0, none⟩).run Tryz.prog w = .ok (.agg cs) w := by
  have := run_loadVar_mid (P := Tryz.prog) w b 0 ty cs.toList d hB.range hu hd (by rw [Array.length_toList]; exact hi)
  simpa using this

theorem wp_copy_at {w : World} {o : Oper} {a : Act} {K : Act → World → Prop} {Q : Exit → Act → World → Prop} (d s : Operand)
    (ho : o.op = .call { callee := .builtin .copy, args := #[d, s], argTypes := #[26, 26] })
    (base g off n dLen dCap : Nat) (zs ds : List Int) (sv : Value) (hd : a.eval d = .slice (some ⟨g, off, none⟩) dLen dCap) (hs : a.eval s = sv)
    (hown : w.ownsRow base 5 1 (.slice (some ⟨g, 0, none⟩) n n) n (cels zs)) (hrd : RdAt w sv ds) (hdl : ds.length ≤ dLen) (hfit : off + ds.length ≤ n) (hpos : 0 < ds.length)
    (h : ∀ w', w'.ownsRow base 5 1 (.slice (some ⟨g, 0, none⟩) n n) n (cels (over zs off ds)) → w.grownBy w' (some g) → K (a.put o.dst (goInt ds.length)) w') : o.wp Tryz.prog a w K Q := by
  obtain ⟨sa, sc, rfl, hsn, hsl, hsr⟩ := hrd
  rcases hsr with h1 | ⟨b, soff, rfl, hc⟩
  · omega
  have hz : zs.length = n := by have := hown.1; simpa using this
  rcases hown.2 with ⟨hx, _⟩ | ⟨g', cap', cur, hx, hbg, hg, hnc, hcm, hcs, htake⟩
  · cases hx
  simp only [Value.slice.injEq, Option.some.injEq, Addr.mk.injEq, and_true, true_and] at hx
  obtain ⟨rfl, rfl⟩ := hx
  have hrun := run_copy_row (P := Tryz.prog) w 26 26 o.type 5 g off dLen dCap ⟨b, soff, none⟩ ds.length sc cur 5 (cels ds) Tryz.underlying26 Tryz.size5 hg
    (by simp only [cels_length]; exact (Nat.min_eq_left hdl).symm) (fun j u hu => by rw [Go.WideShapes.add_plain]; exact hc j u hu) (by simp; omega) (cels_one _)
  unfold Oper.wp
  simp [execOp, ho, resolve, invoke, builtin, hd, hs, hrun, Result.andThen]
  rw [cels_length] at *
  refine h _ ⟨?_, .inr ⟨g, n, _, rfl, hbg, setRow_heap w g cur _ 5 _ hg, Nat.le_refl _, hcm, ?_, ?_⟩⟩ ⟨rfl, rfl, rfl, by simp, fun j _ hk => setRow_other w g j _ (fun e => hk (by rw [e]))⟩
  · simp [over_length zs ds off (by omega), hz]
  · simp; omega
  · simp only [Nat.mul_one] at htake ⊢
    obtain ⟨R, hl⟩ : ∃ R, cur.toList = cels zs ++ R := ⟨cur.toList.drop n, by rw [← htake, List.take_append_drop]⟩
    have e1 : (cels zs ++ R).take off = (cels zs).take off := List.take_append_of_le_length (by simp; omega)
    have e2 : (cels zs ++ R).drop (off + ds.length) = (cels zs).drop (off + ds.length) ++ R := List.drop_append_of_le_length (by simp; omega)
    rw [hl, e1, e2]
    simp only [← List.append_assoc]
    rw [List.take_append_of_le_length (by simp; omega), List.take_of_length_le (by simp; omega)]
    simp [over, cels, List.map_take, List.map_drop]


theorem wpAnyC_mono {P : Program} {md : Region.Mode} {ops : Array Oper} {C C' : World → Prop} {Q : Exit → Act → World → Prop} (hC : ∀ w, C' w → C w) : ∀ (fuel : Nat) (listed : Array Bool) (a : Act) (w : World), wpAnyC P md ops C' Q fuel listed a w → wpAnyC P md ops C Q fuel listed a w
  | 0, _, _, _, h => ⟨hC _ h.1, h.2⟩
  | fuel + 1, _, _, _, h => ⟨hC _ h.1, h.2.1, fun i hi => wpOp_mono (fun a' w' h' => wpAnyC_mono hC fuel _ a' w' h') (h.2.2 i hi)⟩
theorem wpAnyC_skip {P : Program} {md : Region.Mode} {ops : Array Oper} {C : World → Prop} {Q : Exit → Act → World → Prop} (i : Nat) {oi : Oper} {fuel : Nat} {listed : Array Bool} {a : Act} {w : World} (hi : ops[i]? = some oi)
    (hs : Region.noSelect ops = true) (hf : Region.free md ops listed i = true) (hr : (Region.ready md ops listed).contains i = true)
    (hQ : ∀ c a w, Q (.panic c) (a.put oi.dst undef) w → Q (.panic c) a w) (hw : Region.wanted oi (yielded ops a.tmps) = false)
    (h : wpAnyC P md ops C Q fuel (listed.setIfInBounds i true) (a.put oi.dst undef) w) : wpAnyC P md ops C Q (fuel + 1) listed a w :=
  wpAnyC_first hi (Region.noSelect_spec hs) hQ fuel listed a w (Region.free_spec hi hf) (by simpa using hr) (.inr ⟨hw, rfl⟩) h
theorem wanted_at (b : Bool) {o oj : Oper} {ops : Array Oper} {tmps : Array Value} {j d : Nat} (hg : o.guard = some (j, b)) (hj : ops[j]? = some oj) (hd : oj.dst = some d) (ht : tmps[d]? = some (.bool b)) : Region.wanted o (yielded ops tmps) = true := by
  unfold Region.wanted yielded
  rw [hg]
  simp [hj, hd, ht]
theorem wanted_no (b : Bool) {o oj : Oper} {ops : Array Oper} {tmps : Array Value} {j d : Nat} (hg : o.guard = some (j, b)) (hj : ops[j]? = some oj) (hd : oj.dst = some d) (ht : tmps[d]? = some (.bool !b)) : Region.wanted o (yielded ops tmps) = false := by
  unfold Region.wanted yielded
  rw [hg]
  cases b <;> simp [hj, hd, ht]
theorem wanted_undef (b : Bool) {o oj : Oper} {ops : Array Oper} {tmps : Array Value} {j d : Nat} (hg : o.guard = some (j, b)) (hj : ops[j]? = some oj) (hd : oj.dst = some d) (ht : tmps[d]? = some undef) : Region.wanted o (yielded ops tmps) = false := by
  unfold Region.wanted yielded
  rw [hg]
  simp [hj, hd, ht, undef]
/-- A whole struct or array is loaded, as an operation of a region. -/
theorem exec_load_bx {W : World} {o : Oper} {a : Act} (ty : TypeId) (x : Operand) (ho : o.op = .load ty x) (b : Nat) (cs : Array Value) (hx : a.eval x = .pointer (some ⟨b, 0, none⟩)) (hB : Bx W b cs) (d : TypeDesc)
    (hu : Tryz.prog.underlying ty = some d) (hd : d.isRow = true) (hi : (Tryz.prog.info? ty).map (·.size) = some cs.size) :
    (execOp a.eval o).run Tryz.prog W = .ok (.value (.agg cs)) W := by
  have := run_loadAt_mid (P := Tryz.prog) W b 0 ty cs.toList d hB.range hu hd (by rw [Array.length_toList]; exact hi)
  unfold execOp
  simp only [ho, hx]
  simp [this]
theorem info_zero {ty : TypeId} {Z : Array Value} (h : (Tryz.prog.info? ty).map (fun i => i.zero) = some (some (.agg Z))) : ∀ (o : Oper) (a : Act) (w : World), o.op = .alloc ty → (execOp a.eval o).run Tryz.prog w = .ok (.value (.pointer (some ⟨w.heap.size, 0, none⟩))) (w.alloc (.cells Z ty)) := by
  cases hi : Tryz.prog.info? ty with
  | none => rw [hi] at h; simp at h
  | some i =>
    rw [hi] at h
    simp only [Option.map_some, Option.some.injEq] at h
    intro o a w ho
    unfold execOp
    simp only [ho]
    simp [Instr.alloc, zeroValue, typeInfo, hi, h, newVar, newRow, newObj, Value.cells]
    rfl
theorem exec_box {o : Oper} {a : Act} {w : World} (ty : TypeId) (x : Operand) (ho : o.op = .box ty x) (V : Array Value) (hx : a.eval x = .agg V) : (execOp a.eval o).run Tryz.prog w = .ok (.value (.pointer (some ⟨w.heap.size, 0, none⟩))) (w.alloc (.cells V ty)) := by
  unfold execOp
  simp only [ho]
  simp [hx, Instr.box, newVar, newRow, newObj, Value.cells]
  rfl
theorem wpList_of_exec {w w1 : World} {v : Value} {ops : Array Oper} {rest : List Oper} {o : Oper} {a : Act} {Q : Exit → Act → World → Prop} (hgd : o.guard = none) (he : (execOp a.eval o).run Tryz.prog w = .ok (.value v) w1)
    (h : wpList Tryz.prog ops Q rest (a.put o.dst v) w1) : wpList Tryz.prog ops Q (o :: rest) a w :=
  wpList_plain hgd fun K hK => by
    unfold Oper.wp
    rw [he]
    exact hK _ _ h
theorem wpList_box {w : World} {ops : Array Oper} {rest : List Oper} {o : Oper} {a : Act} {Q : Exit → Act → World → Prop} (hgd : o.guard = none) (ty : TypeId) (x : Operand) (ho : o.op = .box ty x) (V : Array Value) (hx : a.eval x = .agg V)
    (h : ∀ b w', w.heap.size ≤ b → Bx w' b V → Below w.heap.size w w' → w'.heap[b]? = some (.cells V ty (0, 0)) → wpList Tryz.prog ops Q rest (a.put o.dst (.pointer (some ⟨b, 0, none⟩))) w') : wpList Tryz.prog ops Q (o :: rest) a w :=
  wpList_of_exec hgd (exec_box ty x ho V hx) (h _ _ (Nat.le_refl _) (bx_new w V ty) ((Below.refl _ _).alloc (Nat.le_refl _) _) (by show (w.heap.push _)[w.heap.size]? = _; simp))
theorem wpList_var {w : World} {ops : Array Oper} {rest : List Oper} {o : Oper} {a : Act} {Q : Exit → Act → World → Prop} (hgd : o.guard = none) (ty : TypeId) (ho : o.op = .alloc ty) (Z : Array Value) (hz : (Tryz.prog.info? ty).map (fun i => i.zero) = some (some (.agg Z)))
    (h : ∀ b w', w.heap.size ≤ b → Bx w' b Z → Below w.heap.size w w' → wpList Tryz.prog ops Q rest (a.put o.dst (.pointer (some ⟨b, 0, none⟩))) w') : wpList Tryz.prog ops Q (o :: rest) a w :=
  wpList_of_exec hgd (info_zero hz o a w ho) (h _ _ (Nat.le_refl _) (bx_new w Z ty) ((Below.refl _ _).alloc (Nat.le_refl _) _))
theorem RdAt.bel {w w' : World} {v : Value} {zs : List Int} (h : RdAt w v zs) (hb : Below w.heap.size w w') : RdAt w' v zs := by
  obtain ⟨a, c, rfl, h1, h2, h3⟩ := h
  refine ⟨a, c, rfl, h1, h2, ?_⟩
  rcases h3 with h3 | ⟨b, off, rfl, hc⟩
  · exact .inl h3
  · refine .inr ⟨b, off, rfl, fun j u hu => ?_⟩
    have h1 := hc j u hu
    rw [hb.cell (p := ⟨b, off + j, none⟩) (World.block_lt_of_cell? w ⟨b, off + j, none⟩ h1)]
    exact h1

theorem rd_len {w : World} {v : Value} {zs : List Int} (h : RdAt w v zs) : ∃ a c, v = .slice a zs.length c := by
  obtain ⟨a, c, rfl, _⟩ := h
  exact ⟨a, c, rfl⟩

theorem rd_cells {w : World} {b off len c : Nat} {zs : List Int} (h : RdAt w (.slice (some ⟨b, off, none⟩) len c) zs) : zs.length = len ∧ ∀ j, j < len → w.cell? ⟨b, off + j, none⟩ = some (.int .u8 (zs.getD j 0)) := by
  obtain ⟨a, c', hv, _, _, h⟩ := h
  simp only [Value.slice.injEq] at hv
  obtain ⟨ha, hl, _⟩ := hv
  refine ⟨hl.symm, fun j hj => ?_⟩
  rcases h with h | ⟨b', off', hb, hc⟩
  · omega
  · rw [← ha] at hb
    simp only [Option.some.injEq, Addr.mk.injEq, and_true] at hb
    obtain ⟨rfl, rfl⟩ := hb
    refine hc j _ ?_
    unfold cels
    rw [List.getElem?_map, List.getElem?_eq_getElem (by omega), List.getD_eq_getElem?_getD, List.getElem?_eq_getElem (by omega)]
    rfl

theorem str_inj {A C : List Int} (hA : Bytes A) (hC : Bytes C) (h : strOfNums A = strOfNums C) : A = C := by
  have h1 := congrArg (fun s => s.data.toList) h
  simp only [strOfNums_data] at h1
  have hl : A.length = C.length := by have := congrArg List.length h1; simpa using this
  refine List.ext_getElem hl (fun i h2 h3 => ?_)
  have h4 := congrArg (fun l => l[i]?) h1
  simp [h2, h3] at h4
  have a := hA i
  have c := hC i
  rw [List.getD_eq_getElem?_getD, List.getElem?_eq_getElem h2] at a
  rw [List.getD_eq_getElem?_getD, List.getElem?_eq_getElem h3] at c
  simp at a c
  have h5 := congrArg UInt8.toNat h4
  simp at h5
  omega

theorem rd_take {w : World} {a : Option Addr} {n c : Nat} {zs : List Int} (h : RdAt w (.slice a n c) zs) (m : Nat) (hm : m ≤ zs.length) : RdAt w (.slice a m c) (zs.take m) := by
  obtain ⟨a', c', hv, h1, h2, h3⟩ := h
  simp only [Value.slice.injEq] at hv
  obtain ⟨rfl, rfl, rfl⟩ := hv
  have hl : (zs.take m).length = m := by rw [List.length_take]; omega
  refine ⟨a, c, by rw [hl], fun e => ?_, by rw [hl]; omega, ?_⟩
  · have := h1 e; rw [hl]; omega
  · rcases h3 with h3 | ⟨b, off, rfl, hc⟩
    · exact .inl (by rw [hl]; omega)
    · refine .inr ⟨b, off, rfl, fun j u hu => hc j u ?_⟩
      unfold cels at hu ⊢
      rw [List.map_take, List.getElem?_take] at hu
      split at hu
      · exact hu
      · cases hu

/-- Where p[k:] begins. -/
def offK (c off k : Nat) : Nat := if c = k then off else off + k

theorem rd_drop {w : World} {b off n c : Nat} {zs : List Int} (h : RdAt w (.slice (some ⟨b, off, none⟩) n c) zs) (k : Nat) (hk : k ≤ n) : RdAt w (.slice (some ⟨b, offK c off k, none⟩) (n - k) (c - k)) (zs.drop k) := by
  obtain ⟨a', c', hv, h1, h2, h3⟩ := id h
  simp only [Value.slice.injEq] at hv
  obtain ⟨rfl, rfl, rfl⟩ := hv
  refine ⟨some ⟨b, offK c off k, none⟩, c - k, by simp, by simp, by simp; omega, ?_⟩
  by_cases h0 : (zs.drop k).length = 0
  · exact .inl h0
  · have h0' : k < zs.length := by simp at h0; omega
    refine .inr ⟨b, off + k, by simp [offK]; omega, fun j u hu => ?_⟩
    rcases h3 with h3 | ⟨b', off', e, hc⟩
    · omega
    · simp only [Option.some.injEq, Addr.mk.injEq, and_true] at e
      obtain ⟨rfl, rfl⟩ := e
      rw [Nat.add_assoc]
      refine hc (k + j) u ?_
      rw [cels, List.map_drop, List.getElem?_drop] at hu
      exact hu

/-- Nothing has turned. -/
structure Sm (w W : World) : Prop where
  heap : W.heap = w.heap
  bel : Below w.heap.size w W
theorem Sm.rd {w W : World} {v : Value} {zs : List Int} (h : Sm w W) (hr : RdAt w v zs) : RdAt W v zs := hr.of_block fun g _ => by rw [h.heap]
theorem Sm.refl (w : World) : Sm w w := ⟨rfl, Below.refl _ _⟩
theorem Sm.trans {a b c : World} (h : Sm a b) (k : Sm b c) : Sm a c := ⟨k.heap.trans h.heap, h.bel.trans (k.bel.mono (Nat.le_of_eq (by rw [h.heap])))⟩

theorem Bytes.drop {zs : List Int} (h : Bytes zs) (n : Nat) : Bytes (zs.drop n) := by
  intro j
  rw [List.getD_eq_getElem?_getD, List.getElem?_drop, ← List.getD_eq_getElem?_getD]
  exact h _

theorem Bytes.append {a b : List Int} (h1 : Bytes a) (h2 : Bytes b) : Bytes (a ++ b) := by
  intro j
  rw [List.getD_eq_getElem?_getD, List.getElem?_append]
  split
  · rw [← List.getD_eq_getElem?_getD]; exact h1 j
  · rw [← List.getD_eq_getElem?_getD]; exact h2 _
theorem Bytes.nil : Bytes [] := fun j => by simp
theorem Bytes.cons {x : Int} {l : List Int} (h0 : 0 ≤ x ∧ x ≤ 255) (h : Bytes l) : Bytes (x :: l) := by
  intro j
  rcases j with _ | j
  · simpa using h0
  · simpa using h j
theorem wpList_built {w : World} {ops : Array Oper} {rest : List Oper} {o : Oper} {a : Act} {Q : Exit → Act → World → Prop} (hgd : o.guard = none) (n : Nat) (zs : List Int)
    (he : (execOp a.eval o).run Tryz.prog w = .ok (.value (.slice (some ⟨w.heap.size, 0, none⟩) n n)) (w.alloc (.cells (cels zs).toArray 5))) (hn : n = zs.length) (hm : n ≤ 1000)
    (h : ∀ g w', w.heap.size ≤ g → w'.ownsRow w.heap.size 5 1 (.slice (some ⟨g, 0, none⟩) n n) n (cels zs) → Below w.heap.size w w' → wpList Tryz.prog ops Q rest (a.put o.dst (.slice (some ⟨g, 0, none⟩) n n)) w') : wpList Tryz.prog ops Q (o :: rest) a w :=
  wpList_of_exec hgd he (h _ _ (Nat.le_refl _) (own_alloc w _ n _ zs rfl hn hm (Nat.le_refl _)) ((Below.refl _ _).alloc (Nat.le_refl _) _))

theorem take_getD (zs : List Int) (m j : Nat) (h : j < m) : (zs.take m).getD j 0 = zs.getD j 0 := by
  rw [List.getD_eq_getElem?_getD, List.getElem?_take_of_lt h, ← List.getD_eq_getElem?_getD]
theorem drop_getD (zs : List Int) (m j : Nat) : (zs.drop m).getD j 0 = zs.getD (m + j) 0 := by
  rw [List.getD_eq_getElem?_getD, List.getElem?_drop, ← List.getD_eq_getElem?_getD]
end Go.Proofs.YtplifodddfjhdaaGreatDoor
