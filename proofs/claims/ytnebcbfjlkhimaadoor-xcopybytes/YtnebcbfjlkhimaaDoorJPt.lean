/-
  Lists that grow: a box and its two rows.
-/
import Derived.Test.YtnebcbfjlkhimaaDoorJSeg
import Derived.Great.BuildSlice
namespace Go.Proofs.YtnebcbfjlkhimaaDoor
open Go.RowKit
set_option linter.unusedVariables false
set_option linter.unusedSimpArgs false
theorem exec_build1 {o : Oper} {a : Act} {w : World} (sl ty k by' : Nat) (Z : Value) (hu : Tryd.prog.underlying sl = some (.slice ty)) (hinf : (Tryd.prog.info? ty).map (fun i => (i.zero, i.size, i.bytes)) = some (some Z, k, by')) (hk0 : 0 < k) (hk : k ≤ 1000)
    (x : Operand) (ho : o.op = .buildSlice sl 1 #[(0, x)]) (u : Value) (z : Array Value) (hz : z.size = k) (hx : a.eval x = u) (hc : u.cells = z) :
    (execOp a.eval o).run Tryd.prog w = .ok (.value (.slice (some ⟨w.heap.size, 0, none⟩) 1 1)) (w.alloc (.cells z ty)) := by
  obtain ⟨i0, hi0, hz0, hz1, hz2⟩ := info_parts hinf
  have hf := Great.fill_whole hk0 [u] ((Array.range (1 * i0.size)).map (Z.cells[· % Z.cells.size]!)) (by intro v hv; simp at hv; subst hv; rw [hc]; exact hz) (by simp [hz1])
  have he : ([u].flatMap fun v => v.cells.toList).toArray = z := by simp [hc]
  rw [he, show (([u].zipIdx 0).map fun x => (x.2, x.1)) = [(0, u)] from rfl] at hf
  have := run_buildSlice (P := Tryd.prog) w sl ty 1 #[(0, u)] z i0 _ hu hi0 hz0 (by rw [hz1]; omega) (by rw [hz1]; omega) (by rw [hz1] at hf ⊢; exact hf)
  unfold execOp
  simp only [ho]
  simp [hx, this]
theorem wpList_build1 {w : World} {ops : Array Oper} {rest : List Oper} {o : Oper} {a : Act} {Q : Exit → Act → World → Prop} (hgd : o.guard = none) (sl ty k by' : Nat) (Z : Value) (hu : Tryd.prog.underlying sl = some (.slice ty)) (hinf : (Tryd.prog.info? ty).map (fun i => (i.zero, i.size, i.bytes)) = some (some Z, k, by')) (hk0 : 0 < k) (hk : k ≤ 1000)
    (x : Operand) (ho : o.op = .buildSlice sl 1 #[(0, x)]) (u : Value) (z : Array Value) (hz : z.size = k) (hx : a.eval x = u) (hc : u.cells = z)
    (h : ∀ b w', w.heap.size ≤ b → Bx w' b z → Below w.heap.size w w' → w'.heap[b]? = some (.cells z ty (0, 0)) → wpList Tryd.prog ops Q rest (a.put o.dst (.slice (some ⟨b, 0, none⟩) 1 1)) w') : wpList Tryd.prog ops Q (o :: rest) a w :=
  wpList_of_exec hgd (exec_build1 sl ty k by' Z hu hinf hk0 hk x ho u z hz hx hc) (h _ _ (Nat.le_refl _) (bx_new w z ty) ((Below.refl _ _).alloc (Nat.le_refl _) _) (by show (w.heap.push _)[w.heap.size]? = _; simp))
theorem run_storeVar_one {P : Program} (w : World) (b o : Nat) (ty : TypeId) (v : Value) (hc : (w.cell? ⟨b, o, none⟩).isSome = true) (hf : w.frozen? ⟨b, o, none⟩ = false) (hi : (P.info? ty).map (·.size) = some 1) (h1 : v.oneCell' = true) :
    (storeVar ty ⟨b, o, none⟩ v).run P w = .ok () (w.setCell ⟨b, o, none⟩ v) := by
  have hv : v.cells = #[v] := by cases v <;> first | rfl | (simp [Value.oneCell'] at h1)
  have := run_storeCells_cells (P := P) b o [v] 0 w (fun j hj => by simp at hj; subst hj; simpa using hc) (fun j hj => by simp at hj; subst hj; simpa using hf) (fun u hu => by simp at hu; subst hu; exact h1)
  cases hq : P.info? ty with
  | none => simp [hq] at hi
  | some i =>
    have hs : 1 = i.size := by simp [hq] at hi; omega
    simp only [Nat.add_zero] at this
    simp [storeVar, sizeOf, typeInfo, hq, hv, ← hs, this]
    rfl
theorem bx_setCell {w : World} {b j : Nat} {cs : Array Value} (v : Value) (h : Bx w b cs) (hj : j < cs.size) : Bx (w.setCell ⟨b, j, none⟩ v) b (cs.setIfInBounds j v) := by
  have hg := grown_setCellK w ⟨b, j, none⟩ v
  refine ⟨Nat.lt_of_lt_of_le h.lt hg.size, fun i hi => ?_, fun i => ?_⟩
  · simp only [Array.size_setIfInBounds] at hi
    by_cases e : i = j
    · subst e
      have hs : (w.cell? ⟨b, i, none⟩).isSome = true := by rw [h.cells i hj, Array.getElem?_eq_getElem hj]; rfl
      rw [Array.getElem?_setIfInBounds_self_of_lt hj]
      exact World.cell?_setCell_same' w _ v hs
    · rw [Array.getElem?_setIfInBounds_ne (fun h => e h.symm), ← h.cells i hi]
      exact World.cell?_setCell_other _ _ _ _ (fun h => e (by cases h; rfl))
  · rw [← h.free i]; exact World.frozen?_setCells b [v] j w _

/-- A cell of a struct is stored. -/
theorem wp_store_cell {w : World} {o : Oper} {a : Act} {K : Act → World → Prop} {Q : Exit → Act → World → Prop} {ty : TypeId} {x y : Operand}
    (ho : o.op = .store ty x y) {b j : Nat} {cs : Array Value} {v : Value} (hx : a.eval x = .pointer (some ⟨b, j, none⟩)) (hy : a.eval y = v) (h1 : v.oneCell' = true) (hB : Bx w b cs) (hj : j < cs.size)
    (hi : (Tryd.prog.info? ty).map (·.size) = some 1)
    (h : ∀ w', Bx w' b (cs.setIfInBounds j v) → w.grownBy w' (some b) → K (a.put o.dst undef) w') : o.wp Tryd.prog a w K Q := by
  have hs : (w.cell? ⟨b, j, none⟩).isSome = true := by rw [hB.cells j hj, Array.getElem?_eq_getElem hj]; rfl
  unfold Oper.wp execOp
  simp only [ho, hx, hy, Instr.storeAt, Instr.sureAddr, Sem.run_bind, Sem.run_pure, Result.andThen_ok, run_storeVar_one w b j ty v hs (hB.free j) hi h1]
  exact h _ (bx_setCell v hB hj) (grown_setCellK w _ v)
theorem wpList_store_cell {w : World} {ops : Array Oper} {rest : List Oper} {o : Oper} {a : Act} {Q : Exit → Act → World → Prop} (hgd : o.guard = none) {ty : TypeId} {x y : Operand}
    (ho : o.op = .store ty x y) (b j : Nat) (cs : Array Value) (v : Value) (hx : a.eval x = .pointer (some ⟨b, j, none⟩)) (hy : a.eval y = v) (h1 : v.oneCell' = true) (hB : Bx w b cs) (hj : j < cs.size)
    (hi : (Tryd.prog.info? ty).map (·.size) = some 1) (hdst : o.dst = none)
    (h : ∀ w', Bx w' b (cs.setIfInBounds j v) → w.grownBy w' (some b) → wpList Tryd.prog ops Q rest a w') : wpList Tryd.prog ops Q (o :: rest) a w :=
  wpList_plain hgd fun K hK => wp_store_cell ho hx hy h1 hB hj hi (fun w' h1 h2 => hK _ _ (by rw [hdst]; exact h w' h1 h2))
/-- A list in a box, with its rows, all of the call's own. -/
structure Pt (T : Nat) (w W : World) (l : Nat) (c0 c1 u s : Value) (us ss : List (Array Value)) : Prop where
  bel : Below w.heap.size w W
  ll : w.heap.size ≤ l
  bx : Bx W l (lsV c0 c1)
  ur : OwnR 9 1 W u us
  sr : OwnR T 5 W s ss
  nu : ∀ g, u.ownBlock = some g → l < g
  ns : ∀ g, s.ownBlock = some g → l < g
  ne : ∀ g, u.ownBlock = some g → ¬ s.ownBlock = some g
theorem Pt.below {T : Nat} {w W W' : World} {l : Nat} {c0 c1 u s : Value} {us ss : List (Array Value)} (h : Pt T w W l c0 c1 u s us ss) (hb : Below W.heap.size W W') : Pt T w W' l c0 c1 u s us ss :=
  ⟨h.bel.trans (hb.mono h.bel.size), h.ll, h.bx.below hb h.bx.lt, h.ur.of_block (fun g hg => hb.block g (h.ur.lt hg)), h.sr.of_block (fun g hg => hb.block g (h.sr.lt hg)), h.nu, h.ns, h.ne⟩
theorem Pt.drew {T : Nat} {w W : World} {l : Nat} {c0 c1 u s : Value} {us ss : List (Array Value)} (h : Pt T w W l c0 c1 u s us ss) : Pt T w W.drew l c0 c1 u s us ss := h.below (below_drew W)
theorem Pt.appU {T : Nat} {w W W' : World} {l : Nat} {c0 c1 u s v : Value} {us ss us' : List (Array Value)} (h : Pt T w W l c0 c1 u s us ss) (ho : OwnR 9 1 W' v us') (hg : W.grownBy W' u.ownBlock) (hor : v.ownBlock = u.ownBlock ∨ v.ownBlock = some W.heap.size) : Pt T w W' l c0 c1 v s us' ss := by
  refine ⟨h.bel.grown hg h.bel.size (fun k e => Nat.le_trans h.ll (Nat.le_of_lt (h.nu k e))), h.ll, h.bx.grown hg (fun e => Nat.lt_irrefl _ (h.nu _ e)), ho, h.sr.of_block (fun g hg' => hg.block g (h.sr.lt hg') (fun e => h.ne g e.symm hg')), fun g hv => ?_, h.ns, fun g hv hs => ?_⟩
  · rcases hor with e | e
    · exact h.nu g (e ▸ hv)
    · rw [e] at hv; injection hv with hv; rw [← hv]; exact h.bx.lt
  · rcases hor with e | e
    · exact h.ne g (e ▸ hv) hs
    · rw [e] at hv; injection hv with hv; have := h.sr.lt hs; omega
theorem Pt.appS {T : Nat} {w W W' : World} {l : Nat} {c0 c1 u s v : Value} {us ss ss' : List (Array Value)} (h : Pt T w W l c0 c1 u s us ss) (ho : OwnR T 5 W' v ss') (hg : W.grownBy W' s.ownBlock) (hor : v.ownBlock = s.ownBlock ∨ v.ownBlock = some W.heap.size) : Pt T w W' l c0 c1 u v us ss' := by
  refine ⟨h.bel.grown hg h.bel.size (fun k e => Nat.le_trans h.ll (Nat.le_of_lt (h.ns k e))), h.ll, h.bx.grown hg (fun e => Nat.lt_irrefl _ (h.ns _ e)), h.ur.of_block (fun g hg' => hg.block g (h.ur.lt hg') (fun e => h.ne g hg' e.symm)), ho, h.nu, fun g hv => ?_, fun g hu hv => ?_⟩
  · rcases hor with e | e
    · exact h.ns g (e ▸ hv)
    · rw [e] at hv; injection hv with hv; rw [← hv]; exact h.bx.lt
  · rcases hor with e | e
    · exact h.ne g hu (e ▸ hv)
    · rw [e] at hv; injection hv with hv; have := h.ur.lt hu; omega
theorem Pt.st {T : Nat} {w W W' : World} {l : Nat} {c0 c1 d0 d1 u s : Value} {us ss : List (Array Value)} (h : Pt T w W l c0 c1 u s us ss) (hX : Bx W' l (lsV d0 d1)) (hg : W.grownBy W' (some l)) : Pt T w W' l d0 d1 u s us ss :=
  ⟨h.bel.grown hg h.bel.size (fun k e => by injection e with e; rw [← e]; exact h.ll), h.ll, hX, h.ur.of_block (fun g hg' => hg.block g (h.ur.lt hg') (fun e => by injection e with e; have := h.nu g hg'; omega)), h.sr.of_block (fun g hg' => hg.block g (h.sr.lt hg') (fun e => by injection e with e; have := h.ns g hg'; omega)), h.nu, h.ns, h.ne⟩
theorem Pt.start {T : Nat} {w W : World} {l : Nat} (hb : Below w.heap.size w W) (hl : w.heap.size ≤ l) (hX : Bx W l zeroL) : Pt T w W l (.slice none 0 0) (.slice none 0 0) (.slice none 0 0) (.slice none 0 0) [] [] :=
  ⟨hb, hl, hX, OwnR.nil _ _ _, OwnR.nil _ _ _, fun g e => (by cases e), fun g e => (by cases e), fun g e => (by cases e)⟩
/-- A serial as a row's element. -/
def uZ (s : List Int) : Array Value := #[.string (strOfNums s)]
theorem infoU : (Tryd.prog.info? 9).map (fun i => (i.zero, i.size, i.bytes)) = some (some (.string ⟨#[]⟩), 1, 16) := by kernel_rfl
theorem infoGb : (Tryd.prog.info? 50).map (fun i => (i.zero, i.size, i.bytes)) = some (some (.agg zeroG), 5, 40) := by kernel_rfl
theorem infoRGb : (Tryd.prog.info? 61).map (fun i => (i.zero, i.size, i.bytes)) = some (some (.agg zeroG), 5, 40) := by kernel_rfl
theorem one24 : (Tryd.prog.info? 24).map (·.size) = some 1 := by kernel_rfl
theorem oneG : (Tryd.prog.info? 25).map (·.size) = some 1 := by kernel_rfl
theorem oneRG : (Tryd.prog.info? 34).map (·.size) = some 1 := by kernel_rfl
theorem resL_run {w : World} {b : Nat} {u s : Value} (hB : Bx w b (lsV u s)) : (loadVar 27 ⟨b, 0, none⟩).run Tryd.prog w = .ok (.agg (lsV u s)) w := run_res hB 27 _ Tryd.underlying27 rfl infoL
theorem resRL_run {w : World} {b : Nat} {u s : Value} (hB : Bx w b (lsV u s)) : (loadVar 36 ⟨b, 0, none⟩).run Tryd.prog w = .ok (.agg (lsV u s)) w := run_res hB 36 _ Tryd.underlying36 rfl infoRL
theorem zeroL_one : zeroL.all (·.oneCell') = true := by simp [zeroL, Value.oneCell']
theorem wpAnyC_world {P : Program} {md : Region.Mode} {ops : Array Oper} {C : World → Prop} {Q : Exit → Act → World → Prop} {fuel : Nat} {listed : Array Bool} {a : Act} {w W : World} (h : W = w) (k : wpAnyC P md ops C Q fuel listed a W) : wpAnyC P md ops C Q fuel listed a w := h ▸ k
theorem zL_eq : zeroL = lsV (.slice none 0 0) (.slice none 0 0) := rfl
theorem unitsX_succ (zs : List Int) (k : Nat) : unitsX zs (k + 1) = unitsX zs k ++ [ser zs (16 + 32 * k)] := by simp [unitsX, List.range_succ]
theorem segsX_succ (zs : List Int) (m k : Nat) : segsX zs m (k + 1) = segsX zs m k ++ [sg zs (m + 28 * k)] := by simp [segsX, List.range_succ]
theorem unitsX_len (zs : List Int) (k : Nat) : (unitsX zs k).length = k := by simp [unitsX]
theorem segsX_len (zs : List Int) (m k : Nat) : (segsX zs m k).length = k := by simp [segsX]
theorem unit_bad (b off len cap at_ : Nat) (zs : List Int) (w : World) (hl : len ≤ 140737488351232) (hcap : len ≤ cap) (hz : zs.length = len) (hb_ : Bytes zs) (hc : Cs w b off len zs) (hat : at_ + 32 ≤ len) (f : Nat) (hf : unitF zs at_ = some f) :
    Calls Tryd.prog 15 #[.slice (some ⟨b, off, none⟩) len cap, .int .i64 at_] w fun e w' => e = .returned (.tuple #[.string ⟨#[]⟩, .agg (paS (f : Int)).vals, .bool false]) ∧ Below w.heap.size w w' :=
  (unit_any b off len cap at_ zs w hl hcap hz hb_ hc hat).mono fun e w' ⟨h, hb⟩ => by
    rcases h with ⟨g, h1, h2⟩ | ⟨h1, _⟩
    · rw [hf] at h1; injection h1 with h1; subst h1; exact ⟨h2, hb⟩
    · rw [hf] at h1; cases h1
theorem unit_good (b off len cap at_ : Nat) (zs : List Int) (w : World) (hl : len ≤ 140737488351232) (hcap : len ≤ cap) (hz : zs.length = len) (hb_ : Bytes zs) (hc : Cs w b off len zs) (hat : at_ + 32 ≤ len) (hf : unitF zs at_ = none) :
    Calls Tryd.prog 15 #[.slice (some ⟨b, off, none⟩) len cap, .int .i64 at_] w fun e w' => e = .returned (.tuple #[.string (strOfNums (ser zs at_)), .agg noS.vals, .bool true]) ∧ Below w.heap.size w w' :=
  (unit_any b off len cap at_ zs w hl hcap hz hb_ hc hat).mono fun e w' ⟨h, hb⟩ => by
    rcases h with ⟨g, h1, h2⟩ | ⟨h1, h2⟩
    · rw [hf] at h1; cases h1
    · exact ⟨h2, hb⟩
theorem sgf_bad (b off len cap at_ : Nat) (zs : List Int) (ua : Option Addr) (n uc : Nat) (s : Value) (w : World) (hl : len ≤ 140737488351232) (hcap : len ≤ cap) (hz : zs.length = len) (hb_ : Bytes zs) (hc : Cs w b off len zs) (hat : at_ + 28 ≤ len) (hn : n ≤ maxLen) (f : Nat) (hf : segF zs n at_ = some f) :
    Calls Tryd.prog 16 #[.agg (lsV (.slice ua n uc) s), .slice (some ⟨b, off, none⟩) len cap, .int .i64 at_] w fun e w' => e = .returned (.tuple #[.agg zeroG, .agg (paS (f : Int)).vals, .bool false]) ∧ Below w.heap.size w w' :=
  (segr_any b off len cap at_ zs ua n uc s w hl hcap hz hb_ hc hat hn).mono fun e w' ⟨h, hb⟩ => by
    rcases h with ⟨g, h1, h2⟩ | ⟨h1, _⟩
    · rw [hf] at h1; injection h1 with h1; subst h1; exact ⟨h2, hb⟩
    · rw [hf] at h1; cases h1
theorem sgf_good (b off len cap at_ : Nat) (zs : List Int) (ua : Option Addr) (n uc : Nat) (s : Value) (w : World) (hl : len ≤ 140737488351232) (hcap : len ≤ cap) (hz : zs.length = len) (hb_ : Bytes zs) (hc : Cs w b off len zs) (hat : at_ + 28 ≤ len) (hn : n ≤ maxLen) (hf : segF zs n at_ = none) :
    Calls Tryd.prog 16 #[.agg (lsV (.slice ua n uc) s), .slice (some ⟨b, off, none⟩) len cap, .int .i64 at_] w fun e w' => e = .returned (.tuple #[.agg (sg zs at_).vals, .agg noS.vals, .bool true]) ∧ Below w.heap.size w w' :=
  (segr_any b off len cap at_ zs ua n uc s w hl hcap hz hb_ hc hat hn).mono fun e w' ⟨h, hb⟩ => by
    rcases h with ⟨g, h1, h2⟩ | ⟨h1, h2⟩
    · rw [hf] at h1; cases h1
    · exact ⟨h2, hb⟩
/-- What Parse has told. -/
structure Prd (T : Nat) (w w' : World) (u s : Value) (X : Rx) : Prop where
  bel : Below w.heap.size w w'
  ur : OwnR 9 1 w' u (X.us.map uZ)
  sr : OwnR T 5 w' s (X.ss.map Sg.vals)
  nu : ∀ g, u.ownBlock = some g → w.heap.size ≤ g
  ns : ∀ g, s.ownBlock = some g → w.heap.size ≤ g
theorem Prd.none {T : Nat} {w w' : World} (hb : Below w.heap.size w w') (x : Sn) (o : Bool) : Prd T w w' (.slice .none 0 0) (.slice .none 0 0) ⟨[], [], x, o⟩ := ⟨hb, OwnR.nil _ _ _, OwnR.nil _ _ _, fun g e => (by cases e), fun g e => (by cases e)⟩
theorem Pt.oth {T : Nat} {w W W' : World} {l : Nat} {c0 c1 u s : Value} {us ss : List (Array Value)} (h : Pt T w W l c0 c1 u s us ss) {g : Nat} (hg : W.grownBy W' (some g)) (h1 : w.heap.size ≤ g) (h2 : g < l) : Pt T w W' l c0 c1 u s us ss :=
  ⟨h.bel.grown hg h.bel.size (fun k e => by injection e with e; rw [← e]; exact h1), h.ll, h.bx.grown hg (fun e => by injection e with e; omega), h.ur.of_block (fun g hg' => hg.block g (h.ur.lt hg') (fun e => by injection e with e; have := h.nu g hg'; omega)), h.sr.of_block (fun g hg' => hg.block g (h.sr.lt hg') (fun e => by injection e with e; have := h.ns g hg'; omega)), h.nu, h.ns, h.ne⟩
theorem Pt.prd {T : Nat} {w W : World} {l : Nat} {c0 c1 u s : Value} {us ss : List (Array Value)} (h : Pt T w W l c0 c1 u s us ss) {X : Rx} (hu : us = X.us.map uZ) (hs : ss = X.ss.map Sg.vals) : Prd T w W u s X :=
  ⟨h.bel, hu ▸ h.ur, hs ▸ h.sr, fun g e => Nat.le_trans h.ll (Nat.le_of_lt (h.nu g e)), fun g e => Nat.le_trans h.ll (Nat.le_of_lt (h.ns g e))⟩
theorem Pt.ulen {T : Nat} {w W : World} {l : Nat} {c0 c1 s : Value} {a : Option Addr} {n c : Nat} {us ss : List (Array Value)} (h : Pt T w W l c0 c1 (.slice a n c) s us ss) : n = us.length := by
  obtain ⟨a', c', e, _⟩ := h.ur.shape
  injection e
theorem Pt.slen {T : Nat} {w W : World} {l : Nat} {c0 c1 u : Value} {a : Option Addr} {n c : Nat} {us ss : List (Array Value)} (h : Pt T w W l c0 c1 u (.slice a n c) us ss) : n = ss.length := by
  obtain ⟨a', c', e, _⟩ := h.sr.shape
  injection e
theorem parse_hd {zs : List Int} {s : Sn} (hz : zs.length ≠ 0) (h : headX zs = some s) : parseX zs = ⟨[], [], s, false⟩ := by unfold parseX; rw [if_neg hz, h]
theorem parse_uf {zs : List Int} (h : headX zs = none) {k f : Nat} (hk : k < units zs) (hn : ∀ j, j < k → unitF zs (16 + 32 * j) = none) (hf : unitF zs (16 + 32 * k) = some f) : parseX zs = ⟨[], [], paS f, false⟩ := by
  have hz := (head_none h).1
  unfold parseX
  rw [if_neg (by omega), h]
  simp only
  rw [firstF_some (f := fun j => unitF zs (16 + 32 * j)) hk hn hf _ (by omega) (Nat.le_refl _)]
theorem parse_sf {zs : List Int} (h : headX zs = none) (hu : ∀ j, j < units zs → unitF zs (16 + 32 * j) = none) {k f : Nat} (hk : k < segs zs) (hn : ∀ j, j < k → segF zs (units zs) (16 + 32 * units zs + 28 * j) = none) (hf : segF zs (units zs) (16 + 32 * units zs + 28 * k) = some f) : parseX zs = ⟨[], [], paS f, false⟩ := by
  have hz := (head_none h).1
  unfold parseX
  rw [if_neg (by omega), h]
  simp only
  rw [firstF_none hu _ (Nat.le_refl _)]
  simp only
  rw [firstF_some (f := fun j => segF zs (units zs) (16 + 32 * units zs + 28 * j)) hk hn hf _ (by omega) (Nat.le_refl _)]
theorem parse_yes {zs : List Int} (h : headX zs = none) (hu : ∀ j, j < units zs → unitF zs (16 + 32 * j) = none) (hs : ∀ j, j < segs zs → segF zs (units zs) (16 + 32 * units zs + 28 * j) = none) : parseX zs = ⟨unitsX zs (units zs), segsX zs (16 + 32 * units zs) (segs zs), noS, true⟩ := by
  have hz := (head_none h).1
  unfold parseX
  rw [if_neg (by omega), h]
  simp only
  rw [firstF_none hu _ (Nat.le_refl _)]
  simp only
  rw [firstF_none hs _ (Nat.le_refl _)]
theorem head_sz {zs : List Int} (hb : Bytes zs) (h : headX zs = none) : ((units zs : Nat) : Int) * 32 = num zs 2 2 ∧ ((segs zs : Nat) : Int) * 28 = num zs 8 4 ∧ units zs ≤ 8 ∧ segs zs ≤ 8 ∧ zs.length = 16 + 32 * units zs + 28 * segs zs := by
  obtain ⟨a1, a2, a3, a4, a5, a6, a7, a8⟩ := head_none h
  have b2 := num2_bd zs hb 2
  have b8 := num4_bd zs hb 8
  unfold units segs
  omega
end Go.Proofs.YtnebcbfjlkhimaaDoor
