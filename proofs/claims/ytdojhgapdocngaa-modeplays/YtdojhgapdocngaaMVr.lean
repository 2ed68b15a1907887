/-
  Boxes of one's own, with what stands below.
-/
import Derived.Test.YtdojhgapdocngaaMRSen
import Derived.Outline
import Derived.Deep.DeepMust
import Derived.Deep.Cut
import Derived.Deep.RegionWith
import Derived.Deep.QuietTactic
import Derived.BigQuiet
namespace Go.Proofs.Ytdojhgapdocngaa
open Go.RowKit
set_option linter.unusedVariables false
set_option linter.unusedSimpArgs false
theorem info_zero {ty : TypeId} {Z : Array Value} (h : (Try.prog.info? ty).map (fun i => i.zero) = some (some (.agg Z))) : ∀ (o : Oper) (a : Act) (w : World), o.op = .alloc ty → (execOp a.eval o).run Try.prog w = .ok (.value (.pointer (some ⟨w.heap.size, 0, none⟩))) (w.alloc (.cells Z ty)) := by
  cases hi : Try.prog.info? ty with
  | none => rw [hi] at h; simp at h
  | some i =>
    rw [hi] at h
    simp only [Option.map_some, Option.some.injEq] at h
    intro o a w ho
    unfold execOp
    simp only [ho]
    simp [Instr.alloc, zeroValue, typeInfo, hi, h, newVar, newRow, newObj, Value.cells]
    rfl
theorem exec_box {o : Oper} {a : Act} {w : World} (ty : TypeId) (x : Operand) (ho : o.op = .box ty x) (V : Array Value) (hx : a.eval x = .agg V) : (execOp a.eval o).run Try.prog w = .ok (.value (.pointer (some ⟨w.heap.size, 0, none⟩))) (w.alloc (.cells V ty)) := by
  unfold execOp
  simp only [ho]
  simp [hx, Instr.box, newVar, newRow, newObj, Value.cells]
  rfl
theorem wpList_of_exec {w w1 : World} {v : Value} {ops : Array Oper} {rest : List Oper} {o : Oper} {a : Act} {Q : Exit → Act → World → Prop} (hgd : o.guard = none) (he : (execOp a.eval o).run Try.prog w = .ok (.value v) w1)
    (h : wpList Try.prog ops Q rest (a.put o.dst v) w1) : wpList Try.prog ops Q (o :: rest) a w :=
  wpList_plain hgd fun K hK => by
    unfold Oper.wp
    rw [he]
    exact hK _ _ h
theorem wpList_box {w : World} {ops : Array Oper} {rest : List Oper} {o : Oper} {a : Act} {Q : Exit → Act → World → Prop} (hgd : o.guard = none) (ty : TypeId) (x : Operand) (ho : o.op = .box ty x) (V : Array Value) (hx : a.eval x = .agg V)
    (h : ∀ b w', w.heap.size ≤ b → Bx w' b V → Below w.heap.size w w' → w'.heap[b]? = some (.cells V ty (0, 0)) → wpList Try.prog ops Q rest (a.put o.dst (.pointer (some ⟨b, 0, none⟩))) w') : wpList Try.prog ops Q (o :: rest) a w :=
  wpList_of_exec hgd (exec_box ty x ho V hx) (h _ _ (Nat.le_refl _) (bx_new w V ty) ((Below.refl _ _).alloc (Nat.le_refl _) _) (by show (w.heap.push _)[w.heap.size]? = _; simp))
theorem wpList_var {w : World} {ops : Array Oper} {rest : List Oper} {o : Oper} {a : Act} {Q : Exit → Act → World → Prop} (hgd : o.guard = none) (ty : TypeId) (ho : o.op = .alloc ty) (Z : Array Value) (hz : (Try.prog.info? ty).map (fun i => i.zero) = some (some (.agg Z)))
    (h : ∀ b w', w.heap.size ≤ b → Bx w' b Z → Below w.heap.size w w' → wpList Try.prog ops Q rest (a.put o.dst (.pointer (some ⟨b, 0, none⟩))) w') : wpList Try.prog ops Q (o :: rest) a w :=
  wpList_of_exec hgd (info_zero hz o a w ho) (h _ _ (Nat.le_refl _) (bx_new w Z ty) ((Below.refl _ _).alloc (Nat.le_refl _) _))
theorem RdAt.bel {w w' : World} {v : Value} {zs : List Int} (h : RdAt w v zs) (hb : Below w.heap.size w w') : RdAt w' v zs := by
  obtain ⟨a, c, rfl, h1, h2, h3⟩ := h
  refine ⟨a, c, rfl, h1, h2, ?_⟩
  rcases h3 with h3 | ⟨b, off, rfl, hc⟩
  · exact .inl h3
  · refine .inr ⟨b, off, rfl, fun j u hu => ?_⟩
    have h1 := hc j u hu
    rw [hb.cell (p := ⟨b, off + j, none⟩) (World.block_lt_of_cell? w ⟨b, off + j, none⟩ h1)]
    exact h1

theorem wpList_built {w : World} {ops : Array Oper} {rest : List Oper} {o : Oper} {a : Act} {Q : Exit → Act → World → Prop} (hgd : o.guard = none) (n : Nat) (zs : List Int)
    (he : (execOp a.eval o).run Try.prog w = .ok (.value (.slice (some ⟨w.heap.size, 0, none⟩) n n)) (w.alloc (.cells (cels zs).toArray 5))) (hn : n = zs.length) (hm : n ≤ 1000)
    (h : ∀ g w', w.heap.size ≤ g → w'.ownsRow w.heap.size 5 1 (.slice (some ⟨g, 0, none⟩) n n) n (cels zs) → Below w.heap.size w w' → wpList Try.prog ops Q rest (a.put o.dst (.slice (some ⟨g, 0, none⟩) n n)) w') : wpList Try.prog ops Q (o :: rest) a w :=
  wpList_of_exec hgd he (h _ _ (Nat.le_refl _) (own_alloc w _ n _ zs rfl hn hm (Nat.le_refl _)) ((Below.refl _ _).alloc (Nat.le_refl _) _))

theorem exec_load_bx {W : World} {o : Oper} {a : Act} (ty : TypeId) (x : Operand) (ho : o.op = .load ty x) (b : Nat) (cs : Array Value) (hx : a.eval x = .pointer (some ⟨b, 0, none⟩)) (hB : Bx W b cs) (d : TypeDesc)
    (hu : Try.prog.underlying ty = some d) (hd : d.isRow = true) (hi : (Try.prog.info? ty).map (·.size) = some cs.size) : (execOp a.eval o).run Try.prog W = .ok (.value (.agg cs)) W := by
  have := run_loadAt_mid (P := Try.prog) W b 0 ty cs.toList d hB.range hu hd (by rw [Array.length_toList]; exact hi)
  unfold execOp
  simp only [ho, hx]
  simp [this]
theorem bel_own {n b : Nat} {w w' : World} (hg : w.grownBy w' (some b)) (hn : n ≤ w.heap.size) (hb : n ≤ b) : Below n w w' := (Below.refl n w).grown hg hn (fun k hk => by injection hk with hk; omega)
theorem bel_drw {n : Nat} {a b : World} (h : Below n a b) : Below n a b.drew := ⟨h.os, h.tape, h.output, h.size, h.block⟩
theorem bel_drwN {n q : Nat} {a b : World} (h : Below n a b) : Below n a (b.drewN q) := ⟨h.os, h.tape, h.output, h.size, h.block⟩
theorem Bx.drewN {w : World} {b : Nat} {cs : Array Value} (h : Bx w b cs) (q : Nat) : Bx (w.drewN q) b cs := ⟨h.lt, h.cells, h.free⟩
theorem wpAnyC_world {P : Program} {md : Region.Mode} {ops : Array Oper} {C : World → Prop} {Q : Exit → Act → World → Prop} {fuel : Nat} {listed : Array Bool} {a : Act} {w W : World} (h : W = w) (k : wpAnyC P md ops C Q fuel listed a W) : wpAnyC P md ops C Q fuel listed a w := h ▸ k
theorem zeroSi : (Try.prog.info? 42).map (fun i => i.zero) = some (some (.agg zeroS)) := by kernel_rfl
theorem cm_c1 {w : World} {b : Nat} {c : Cm} (h : Bx w b c.vals) : w.cell? ⟨b, 1, none⟩ = some (.bool c.lg) := h.cells 1 (show 1 < 15 by decide)
theorem cm_c9 {w : World} {b : Nat} {c : Cm} (h : Bx w b c.vals) : w.cell? ⟨b, 9, none⟩ = some (.int .u8 c.pg) := h.cells 9 (show 9 < 15 by decide)
theorem cm_c10 {w : World} {b : Nat} {c : Cm} (h : Bx w b c.vals) : w.cell? ⟨b, 10, none⟩ = some (.int .u8 c.ct) := h.cells 10 (show 10 < 15 by decide)
theorem cm_c11 {w : World} {b : Nat} {c : Cm} (h : Bx w b c.vals) : w.cell? ⟨b, 11, none⟩ = some (.bool c.sv) := h.cells 11 (show 11 < 15 by decide)
theorem resS_run {w : World} {b : Nat} {s : Sn} (hB : Bx w b s.vals) : (loadVar 42 ⟨b, 0, none⟩).run Try.prog w = .ok (.agg s.vals) w := run_res hB 42 _ Try.underlying42 rfl infoS
theorem own_sl {w : World} {base g n c : Nat} {zs : List Int} (h : w.ownsRow base 5 1 (.slice (some ⟨g, 0, none⟩) n c) n (cels zs)) (hn : 0 < n) : base ≤ g ∧ g < w.heap.size := by
  obtain ⟨g', cap, he, hb, hlt⟩ := own_shape h hn
  simp only [Value.slice.injEq, Option.some.injEq, Addr.mk.injEq, and_true] at he
  omega
theorem own_bel {w W : World} {base g n c : Nat} {zs : List Int} (h : w.ownsRow base 5 1 (.slice (some ⟨g, 0, none⟩) n c) n (cels zs)) (hn : 0 < n) (hB : Below w.heap.size w W) : W.ownsRow base 5 1 (.slice (some ⟨g, 0, none⟩) n c) n (cels zs) := by
  refine own_of_block h (fun q hq => hB.block q ?_)
  obtain rfl : g = q := Option.some.inj hq
  exact (own_sl h hn).2
theorem own_gr {w W : World} {base g n c : Nat} {r : Option Nat} {zs : List Int} (h : w.ownsRow base 5 1 (.slice (some ⟨g, 0, none⟩) n c) n (cels zs)) (hn : 0 < n) (hB : w.grownBy W r) (hr : r ≠ some g) : W.ownsRow base 5 1 (.slice (some ⟨g, 0, none⟩) n c) n (cels zs) := by
  refine own_of_block h (fun q hq => ?_)
  obtain rfl : g = q := Option.some.inj hq
  exact hB.block _ (own_sl h hn).2 (fun e => hr e.symm)
theorem vB_dv (v : Vs) : (vB v).tdiv 4 = if v.c then 1 else 0 := by
  obtain ⟨a, b, c⟩ := v
  cases a <;> cases b <;> cases c <;> rfl
theorem vB_q (v : Vs) : ((vB v).tdiv 4 == 1) = v.c := by
  obtain ⟨a, b, c⟩ := v
  cases a <;> cases b <;> cases c <;> rfl
theorem vB_bd (v : Vs) : 0 ≤ vB v ∧ vB v ≤ 7 := by
  obtain ⟨a, b, c⟩ := v
  cases a <;> cases b <;> cases c <;> exact ⟨by decide, by decide⟩
end Go.Proofs.Ytdojhgapdocngaa
