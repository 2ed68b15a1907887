/-
  pdu: all PDUs that bytes hold, as the document tells them.
-/
import Derived.Test.YtigfoldobkigeaaURow
import Derived.Test.YtigfoldobkigeaaURd5
import Derived.Great.BuildSlice
namespace Go.Proofs.Ytigfoldobkigeaa
open Go.RowKit
set_option linter.unusedVariables false
set_option linter.unusedSimpArgs false

theorem exec_build1 {o : Oper} {a : Act} {w : World} (sl ty k by' : Nat) (Z : Value) (hu : Try.prog.underlying sl = some (.slice ty)) (hinf : (Try.prog.info? ty).map (fun i => (i.zero, i.size, i.bytes)) = some (some Z, k, by')) (hk0 : 0 < k) (hk : k ≤ 1000)
    (x : Operand) (ho : o.op = .buildSlice sl 1 #[(0, x)]) (z : Array Value) (hz : z.size = k) (hx : a.eval x = .agg z) :
    (execOp a.eval o).run Try.prog w = .ok (.value (.slice (some ⟨w.heap.size, 0, none⟩) 1 1)) (w.alloc (.cells z ty)) := by
  obtain ⟨i0, hi0, hz0, hz1, hz2⟩ := info_parts hinf
  have hf := Great.fill_whole hk0 [.agg z] ((Array.range (1 * i0.size)).map (Z.cells[· % Z.cells.size]!)) (by intro v hv; simp at hv; subst hv; exact hz) (by simp [hz1])
  have he : ([Value.agg z].flatMap fun v => v.cells.toList).toArray = z := by simp [Value.cells]
  rw [he, show (([Value.agg z].zipIdx 0).map fun x => (x.2, x.1)) = [(0, .agg z)] from rfl] at hf
  have := run_buildSlice (P := Try.prog) w sl ty 1 #[(0, .agg z)] z i0 _ hu hi0 hz0 (by rw [hz1]; omega) (by rw [hz1]; omega) (by rw [hz1] at hf ⊢; exact hf)
  unfold execOp
  simp only [ho]
  simp [hx, this]
theorem wpList_build1 {w : World} {ops : Array Oper} {rest : List Oper} {o : Oper} {a : Act} {Q : Exit → Act → World → Prop} (hgd : o.guard = none) (sl ty k by' : Nat) (Z : Value) (hu : Try.prog.underlying sl = some (.slice ty)) (hinf : (Try.prog.info? ty).map (fun i => (i.zero, i.size, i.bytes)) = some (some Z, k, by')) (hk0 : 0 < k) (hk : k ≤ 1000)
    (x : Operand) (ho : o.op = .buildSlice sl 1 #[(0, x)]) (z : Array Value) (hz : z.size = k) (hx : a.eval x = .agg z)
    (h : ∀ b w', w.heap.size ≤ b → Bx w' b z → Below w.heap.size w w' → w'.heap[b]? = some (.cells z ty (0, 0)) → wpList Try.prog ops Q rest (a.put o.dst (.slice (some ⟨b, 0, none⟩) 1 1)) w') : wpList Try.prog ops Q (o :: rest) a w :=
  wpList_of_exec hgd (exec_build1 sl ty k by' Z hu hinf hk0 hk x ho z hz hx) (h _ _ (Nat.le_refl _) (bx_new w z ty) ((Below.refl _ _).alloc (Nat.le_refl _) _) (by show (w.heap.push _)[w.heap.size]? = _; simp))


theorem infoPd : (Try.prog.info? 26).map (fun i => (i.zero, i.size, i.bytes)) = some (some (.agg (noP.vals (.slice none 0 0))), 14, 64) := by kernel_rfl
/-- A PDU that was told. -/
def PEl (base : Nat) (W : World) (p : Pd) (z : Array Value) : Prop := p.ws.length = 7 ∧ ∃ dv, z = p.vals dv ∧ Row W dv p.d ∧ ∀ g, dv.ownBlock = some g → base ≤ g
theorem PEl.keep {base : Nat} {W W' : World} {p : Pd} {z : Array Value} (h : PEl base W p z) (hb : ∀ g cur, base ≤ g → W.heap[g]? = some (.cells cur 5 (0, 0)) → W'.heap[g]? = W.heap[g]?) : PEl base W' p z := by
  obtain ⟨h7, dv, h1, h2, h3⟩ := h
  refine ⟨h7, dv, h1, row_keep h2 (fun g hg => ?_), h3⟩
  rcases h2.2 with ⟨rfl, _⟩ | ⟨g', cap, cur, rfl, h0, hc, _⟩
  · simp [Value.ownBlock] at hg
  · simp only [Value.ownBlock, Option.some.injEq] at hg
    subst hg
    exact hb g' cur (h3 g' rfl) hc
theorem PEl.below {base : Nat} {W W' : World} {p : Pd} {z : Array Value} (h : PEl base W p z) (hb : Below W.heap.size W W') : PEl base W' p z :=
  h.keep fun g cur _ hc => hb.block g (Array.getElem?_eq_some_iff.1 hc).1
/-- Such PDUs, in a row of one's own. -/
structure Rows' (base : Nat) (W : World) (v : Value) (A : List Int) (h d : Bool) (k : Nat) : Prop where
  own : ∃ zs : List (Array Value), zs.length = k ∧ OwnR 26 14 W v zs ∧ ∀ j z, zs[j]? = some z → PEl base W (decP (A.drop (posL A h d j)) h) z
  ge : ∀ g, v.ownBlock = some g → base ≤ g
theorem Rows'.nil (base : Nat) (W : World) (A : List Int) (h d : Bool) : Rows' base W (.slice none 0 0) A h d 0 := ⟨⟨[], rfl, OwnR.nil _ _ _, fun j z e => by simp at e⟩, fun g e => by simp [Value.ownBlock] at e⟩
theorem Rows'.below {base : Nat} {W W' : World} {v : Value} {A : List Int} {h d : Bool} {k : Nat} (r : Rows' base W v A h d k) (hb : Below W.heap.size W W') : Rows' base W' v A h d k := by
  obtain ⟨zs, h1, h2, h3⟩ := r.own
  exact ⟨⟨zs, h1, h2.of_block (fun g hg => hb.block g (h2.lt hg)), fun j z e => (h3 j z e).below hb⟩, r.ge⟩
theorem Rows'.sl {base : Nat} {W : World} {v : Value} {A : List Int} {h d : Bool} {k : Nat} (r : Rows' base W v A h d k) : ∃ va vc, v = .slice va k vc ∧ k ≤ vc ∧ (vc : Int) ≤ 9223372036854775807 := by
  obtain ⟨zs, h1, h2, _⟩ := r.own
  obtain ⟨a, c, hv, hs⟩ := h2.shape
  rw [h1] at hv hs
  refine ⟨a, c, hv, ?_, ?_⟩
  · rcases hs with ⟨_, _, h9⟩ | ⟨_, _, _, h9, _⟩
    · omega
    · exact h9
  · rcases hs with ⟨_, h9, _⟩ | ⟨_, _, _, _, h9, _⟩
    · omega
    · unfold maxLen at h9; omega
end Go.Proofs.Ytigfoldobkigeaa
