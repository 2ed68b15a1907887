/-
  sess: a session, and boxes of one's own beside it.
-/
import Derived.Test.YtdplndlmdhpfaabEAns
import Derived.Great.BuildSlice
namespace Go.Proofs.Ytdplndlmdhpfaab
open Go.RowKit
set_option linter.unusedVariables false
set_option linter.unusedSimpArgs false

structure Lo (w W : World) (S : Nat) (s0 s : Se) (H O T : List (Array Value)) (L : List (Nat × Array Value)) : Prop where
  ss : Ss W S s H O T
  st : St S w W s0 s
  bx : ∀ x ∈ L, Bx W x.1 x.2 ∧ ¬ s.X S x.1 ∧ w.heap.size ≤ x.1
  nd : (L.map Prod.fst).Nodup
theorem Lo.start {w : World} {S : Nat} {s : Se} {H O T : List (Array Value)} (h : Ss w S s H O T) : Lo w w S s s H O T [] := ⟨h, St.refl _ _ _, fun x hx => by simp at hx, List.nodup_nil⟩
theorem Lo.turn {w W W' : World} {S : Nat} {s0 s s' : Se} {H O T H' O' T' : List (Array Value)} {L : List (Nat × Array Value)} (k : Lo w W S s0 s H O T L) (h : Ss W' S s' H' O' T') (t : St S W W' s s') : Lo w W' S s0 s' H' O' T' L :=
  ⟨h, k.st.trans t, fun x hx => by
    obtain ⟨h1, h2, h3⟩ := k.bx x hx
    exact ⟨t.fr.bx h1 h2, fun e => by rcases t.new _ e with e | e; exact h2 e; have := h1.lt; omega, h3⟩, k.nd⟩
theorem Lo.below {w W W' : World} {S : Nat} {s0 s : Se} {H O T : List (Array Value)} {L : List (Nat × Array Value)} (k : Lo w W S s0 s H O T L) (hb : Below W.heap.size W W') : Lo w W' S s0 s H O T L := k.turn (k.ss.below hb) (St.of_below s hb)
theorem Lo.drew {w W : World} {S : Nat} {s0 s : Se} {H O T : List (Array Value)} {L : List (Nat × Array Value)} (k : Lo w W S s0 s H O T L) : Lo w W.drew S s0 s H O T L := k.below (below_drew W)
theorem Lo.add {w W W' : World} {S b : Nat} {s0 s : Se} {H O T : List (Array Value)} {L : List (Nat × Array Value)} {pv : Array Value} (k : Lo w W S s0 s H O T L) (hb : Below W.heap.size W W') (hn : W.heap.size ≤ b) (hB : Bx W' b pv) : Lo w W' S s0 s H O T ((b, pv) :: L) := by
  have k' := k.below hb
  refine ⟨k'.ss, k'.st, fun x hx => ?_, ?_⟩
  · rcases List.mem_cons.1 hx with rfl | hx
    · exact ⟨hB, fun e => by have := k.ss.lt _ e; simp at this; omega, Nat.le_trans k.st.fr.size hn⟩
    · exact k'.bx x hx
  · simp only [List.map_cons, List.nodup_cons]
    refine ⟨fun h => ?_, k.nd⟩
    obtain ⟨x, hx, rfl⟩ := List.mem_map.1 h
    have := (k.bx x hx).1.lt
    omega
theorem Lo.put {w W W' : World} {S b : Nat} {s0 s : Se} {H O T : List (Array Value)} {A B : List (Nat × Array Value)} {pv pv' : Array Value} (k : Lo w W S s0 s H O T (A ++ (b, pv) :: B)) (hB : Bx W' b pv') (hg : W.grownBy W' (some b)) : Lo w W' S s0 s H O T (A ++ (b, pv') :: B) := by
  obtain ⟨h1, h2, h3⟩ := k.bx (b, pv) (by simp)
  have hf : Fr (fun x => x = b) W W' := Fr.of_grown hg (fun x e => by injection e with e; exact e.symm)
  refine ⟨k.ss.frame hf (fun x hx e => h2 (by rw [← e]; exact hx)), ⟨k.st.fr.trans hf (fun n e => .inr (by rw [e]; exact h3)), k.st.new⟩, fun x hx => ?_, by have := k.nd; simp only [List.map_append, List.map_cons] at this ⊢; exact this⟩
  have hnd := k.nd
  simp only [List.map_append, List.map_cons] at hnd
  have hne : ∀ x ∈ A ++ B, x.1 ≠ b := fun x hx e => by
    rw [List.nodup_append] at hnd
    obtain ⟨n1, n2, n3⟩ := hnd
    rcases List.mem_append.1 hx with hx | hx
    · exact n3 x.1 (List.mem_map_of_mem hx) b (by simp) e
    · rw [List.nodup_cons] at n2
      exact n2.1 (by rw [← e]; exact List.mem_map_of_mem hx)
  have hcase : x = (b, pv') ∨ (x ∈ A ++ B) := by
    rcases List.mem_append.1 hx with hx | hx
    · exact .inr (List.mem_append_left _ hx)
    · rcases List.mem_cons.1 hx with hx | hx
      · exact .inl hx
      · exact .inr (List.mem_append_right _ hx)
  rcases hcase with rfl | hx
  · exact ⟨hB, h2, h3⟩
  · obtain ⟨g1, g2, g3⟩ := k.bx x (by rcases List.mem_append.1 hx with hx | hx; exact List.mem_append_left _ hx; exact List.mem_append_right _ (List.mem_cons_of_mem _ hx))
    exact ⟨g1.grown hg (fun e => hne x hx (by injection e with e; exact e.symm)), g2, g3⟩
theorem Lo.b0 {w W : World} {S b : Nat} {s0 s : Se} {H O T : List (Array Value)} {B : List (Nat × Array Value)} {pv : Array Value} (k : Lo w W S s0 s H O T ((b, pv) :: B)) : Bx W b pv := (k.bx (b, pv) (by simp)).1
theorem Lo.b1 {w W : World} {S b : Nat} {s0 s : Se} {H O T : List (Array Value)} {x : Nat × Array Value} {B : List (Nat × Array Value)} {pv : Array Value} (k : Lo w W S s0 s H O T (x :: (b, pv) :: B)) : Bx W b pv := (k.bx (b, pv) (by simp)).1
theorem Lo.b2 {w W : World} {S b : Nat} {s0 s : Se} {H O T : List (Array Value)} {x y : Nat × Array Value} {B : List (Nat × Array Value)} {pv : Array Value} (k : Lo w W S s0 s H O T (x :: y :: (b, pv) :: B)) : Bx W b pv := (k.bx (b, pv) (by simp)).1
theorem Lo.put0 {w W W' : World} {S b : Nat} {s0 s : Se} {H O T : List (Array Value)} {B : List (Nat × Array Value)} {pv pv' : Array Value} (k : Lo w W S s0 s H O T ((b, pv) :: B)) (hB : Bx W' b pv') (hg : W.grownBy W' (some b)) : Lo w W' S s0 s H O T ((b, pv') :: B) := Lo.put (A := []) k hB hg
theorem Lo.put1 {w W W' : World} {S b : Nat} {s0 s : Se} {H O T : List (Array Value)} {x : Nat × Array Value} {B : List (Nat × Array Value)} {pv pv' : Array Value} (k : Lo w W S s0 s H O T (x :: (b, pv) :: B)) (hB : Bx W' b pv') (hg : W.grownBy W' (some b)) : Lo w W' S s0 s H O T (x :: (b, pv') :: B) := Lo.put (A := [x]) k hB hg
theorem Lo.put2 {w W W' : World} {S b : Nat} {s0 s : Se} {H O T : List (Array Value)} {x y : Nat × Array Value} {B : List (Nat × Array Value)} {pv pv' : Array Value} (k : Lo w W S s0 s H O T (x :: y :: (b, pv) :: B)) (hB : Bx W' b pv') (hg : W.grownBy W' (some b)) : Lo w W' S s0 s H O T (x :: y :: (b, pv') :: B) := Lo.put (A := [x, y]) k hB hg
theorem Lo.set {w W : World} {S : Nat} {s0 s s' : Se} {H O T : List (Array Value)} {L : List (Nat × Array Value)} (k : Lo w W S s0 s H O T L) (j : Nat) (v : Value) (hj : j < 18) (he : s.v.setIfInBounds j v = s'.v) (h1 : s'.held = s.held) (h2 : s'.opn = s.opn) (h3 : s'.wts = s.wts) : Lo w (W.setCell ⟨S, j, none⟩ v) S s0 s' H O T L := by
  obtain ⟨a, b⟩ := k.ss.set j v hj he h1 h2 h3
  exact k.turn a b

/-- Bytes that a session does not turn. -/
structure Dt (X : Nat → Prop) (w : World) (v : Value) (ds : List Int) : Prop where
  rd : RdAt w v ds
  off : 0 < ds.length → ∀ g, v.ownBlock = some g → g < w.heap.size ∧ ¬ X g
theorem RdAt.void {w w' : World} {v : Value} {ds : List Int} (h : RdAt w v ds) (h0 : ¬ 0 < ds.length) : RdAt w' v ds := by
  obtain ⟨a, c, rfl, h1, h2, _⟩ := h
  exact ⟨a, c, rfl, h1, h2, .inl (by omega)⟩
theorem Dt.fr {X Y : Nat → Prop} {w w' : World} {v : Value} {ds : List Int} (h : Dt X w v ds) (hf : Fr X w w') (hY : ∀ b, Y b → X b ∨ w.heap.size ≤ b) : Dt Y w' v ds := by
  by_cases h0 : 0 < ds.length
  · have ho := h.off h0
    exact ⟨h.rd.of_block (fun g hg => hf.block g (ho g hg).1 (ho g hg).2), fun _ g hg => ⟨Nat.lt_of_lt_of_le (ho g hg).1 hf.size, fun hy => by rcases hY g hy with e | e; exact (ho g hg).2 e; have := (ho g hg).1; omega⟩⟩
  · exact ⟨h.rd.void h0, fun h1 => absurd h1 h0⟩
theorem Dt.st {S : Nat} {s s' : Se} {w w' : World} {v : Value} {ds : List Int} (h : Dt (s.X S) w v ds) (t : St S w w' s s') : Dt (s'.X S) w' v ds := h.fr t.fr t.new

/-- A row of one PDU that goes out. -/
structure Ou (w w' : World) (S : Nat) (s' : Se) (v : Value) (ty : Nat) (z : Array Value) : Prop where
  at_ : ∃ b, v = .slice (some ⟨b, 0, none⟩) 1 1 ∧ w.heap.size ≤ b ∧ w'.heap[b]? = some (.cells z ty (0, 0)) ∧ ¬ s'.X S b

set_option maxRecDepth 100000 in
set_option maxHeartbeats 4000000 in
theorem counted_any (S : Nat) (s : Se) (H O T : List (Array Value)) (p : Pd) (a : Option Addr) (n c : Nat) (w : World) (h : Ss w S s H O T) (hda : p.da = .slice a n c) (hn : 0 ≤ s.next ∧ s.next < 4294967296) (s' : Se) (hs' : s' = { s with stat := (s.stat + 1) % 4294967296 }) :
    Calls Try.prog 32 #[.pointer (some ⟨S, 0, none⟩), .agg p.v] w fun e w' => e = .returned (.agg (p.num s).v) ∧ Ss w' S s' H O T ∧ St S w w' s s' := by
  have hone2 := Kpt.mk (Pd.one (p := p.num s) hda).2
  have hN : Kpt (∀ W, Ss W S s H O T → Calls Try.prog 50 #[.pointer (some ⟨S, 0, none⟩), .agg p.v] W fun e w' => e = .returned (.agg (p.num s).v) ∧ Below W.heap.size W w') := ⟨fun W h => numbered_any S s H O T p a n c W h hda hn⟩
  have k0 := Kpt.mk (Lo.start h)
  have hw12 : IntKind.u32.wrap (s.stat + 1) = (s.stat + 1) % 4294967296 := IntKind.wrap_u32 _
  have hset : Kpt (∀ (W : World) (L : List (Nat × Array Value)), Lo w W S s s H O T L → Lo w (W.setCell ⟨S, 12, none⟩ (.int .u32 ((s.stat + 1) % 4294967296))) S s s' H O T L) := ⟨fun W L k => k.set 12 _ (by omega) (by rw [hs']; simp [Se.v]) (by rw [hs']) (by rw [hs']) (by rw [hs'])⟩
  clear h hda hs'
  go_enter Try.func32, Try.ntmps32
  go_wp2_with (first
    | (go_at_call 50; go_must (refine (hN.out _ k2.out.ss).mono ?_; rintro e w3 ⟨rfl, hb3⟩; have k3 := Kpt.mk (k2.out.below hb3); clear hb3))
    | (refine (?_ : wpList _ _ _ (Oper.mk _ (Op.box 42 _) _ _ _ _ :: _) _ _); go_must (refine wpList_box rfl 42 _ rfl p.v rfl ?_; intro P w1 hP hB hb _; have k1 := Kpt.mk (k0.out.add hb hP hB); clear hb hP hB))
    | (refine (?_ : wpList _ _ _ (Oper.mk _ (Op.alloc 42) _ _ _ _ :: _) _ _); go_must (refine wpList_var rfl 42 rfl _ zPdu ?_; intro R w2 hR hB hb; have k2 := Kpt.mk (k1.out.add hb hR hB); clear hb hR hB))
    | (refine (?_ : wpList _ _ _ (Oper.mk _ (Op.store 42 _ _) _ _ _ _ :: _) _ _); have m := k5; go_must (refine wpList_store_bx rfl 42 _ _ rfl R zP.v (p.num s).v rfl rfl k5.out.b0 rfl szPdu hone2.out rfl ?_; intro w6 hB6 hg6; have k6 := Kpt.mk (k5.out.put0 hB6 hg6); clear hB6 hg6 m))
    | (refine (?_ : wpList _ _ _ (Oper.mk _ (Op.store 42 _ _) _ _ _ _ :: _) _ _); go_must (refine wpList_store_bx rfl 42 _ _ rfl P p.v (p.num s).v rfl rfl k3.out.b1 rfl szPdu hone2.out rfl ?_; intro w4 hB4 hg4; have k4 := Kpt.mk (k3.out.put1 hB4 hg4); obtain ⟨c4, f4⟩ := k4.out.ss.cell 12 (by omega); simp [Se.v] at c4; have k5 := Kpt.mk (hset.out _ _ k4.out); clear hB4 hg4))
    | (refine (?_ : wpList _ _ _ (Oper.mk _ (Op.load 42 _) _ _ _ _ :: _) _ _); have m := k5; go_must (refine wpList_load_bx rfl 42 _ rfl P (p.num s).v rfl k5.out.b1 _ Try.underlying42 rfl szPdu ?_; clear m))
    | (refine (?_ : wpList _ _ _ (Oper.mk _ (Op.load 42 _) _ _ _ _ :: _) _ _); go_must (refine wpList_load_bx rfl 42 _ rfl P p.v rfl k2.out.b1 _ Try.underlying42 rfl szPdu ?_; have hm := hone2)))
  refine bodyPost_ret (v := .agg (p.num s).v) (by simp [results, Try.results32, asAddr, Act.put, run_res k6.out.b0 42 _ Try.underlying42 rfl szPdu]) rfl ⟨rfl, k6.out.ss, k6.out.st⟩

theorem infoPdu : (Try.prog.info? 42).map (fun i => (i.zero, i.size, i.bytes)) = some (some (.agg zP.v), 14, 64) := by kernel_rfl
theorem exec_build1 {o : Oper} {a : Act} {w : World} (sl ty k by' : Nat) (Z : Value) (hu : Try.prog.underlying sl = some (.slice ty)) (hinf : (Try.prog.info? ty).map (fun i => (i.zero, i.size, i.bytes)) = some (some Z, k, by')) (hk0 : 0 < k) (hk : k ≤ 1000)
    (x : Operand) (ho : o.op = .buildSlice sl 1 #[(0, x)]) (z : Array Value) (hz : z.size = k) (hx : a.eval x = .agg z) :
    (execOp a.eval o).run Try.prog w = .ok (.value (.slice (some ⟨w.heap.size, 0, none⟩) 1 1)) (w.alloc (.cells z ty)) := by
  obtain ⟨i0, hi0, hz0, hz1, hz2⟩ := info_parts hinf
  have hf := Great.fill_whole hk0 [.agg z] ((Array.range (1 * i0.size)).map (Z.cells[· % Z.cells.size]!)) (by intro v hv; simp at hv; subst hv; exact hz) (by simp [hz1])
  have he : ([Value.agg z].flatMap fun v => v.cells.toList).toArray = z := by simp [Value.cells]
  rw [he, show (([Value.agg z].zipIdx 0).map fun x => (x.2, x.1)) = [(0, .agg z)] from rfl] at hf
  have := run_buildSlice (P := Try.prog) w sl ty 1 #[(0, .agg z)] z i0 _ hu hi0 hz0 (by rw [hz1]; omega) (by rw [hz1]; omega) (by rw [hz1] at hf ⊢; exact hf)
  unfold execOp
  simp only [ho]
  simp [hx, this]
theorem wpList_build1 {w : World} {ops : Array Oper} {rest : List Oper} {o : Oper} {a : Act} {Q : Exit → Act → World → Prop} (hgd : o.guard = none) (sl ty k by' : Nat) (Z : Value) (hu : Try.prog.underlying sl = some (.slice ty)) (hinf : (Try.prog.info? ty).map (fun i => (i.zero, i.size, i.bytes)) = some (some Z, k, by')) (hk0 : 0 < k) (hk : k ≤ 1000)
    (x : Operand) (ho : o.op = .buildSlice sl 1 #[(0, x)]) (z : Array Value) (hz : z.size = k) (hx : a.eval x = .agg z)
    (h : ∀ b w', w.heap.size ≤ b → Bx w' b z → Below w.heap.size w w' → w'.heap[b]? = some (.cells z ty (0, 0)) → wpList Try.prog ops Q rest (a.put o.dst (.slice (some ⟨b, 0, none⟩) 1 1)) w') : wpList Try.prog ops Q (o :: rest) a w :=
  wpList_of_exec hgd (exec_build1 sl ty k by' Z hu hinf hk0 hk x ho z hz hx) (h _ _ (Nat.le_refl _) (bx_new w z ty) ((Below.refl _ _).alloc (Nat.le_refl _) _) (by show (w.heap.push _)[w.heap.size]? = _; simp))

set_option maxRecDepth 100000 in
set_option maxHeartbeats 4000000 in
theorem answer_any (S : Nat) (s : Se) (H O T : List (Array Value)) (p : Pd) (a : Option Addr) (n c : Nat) (w : World) (h : Ss w S s H O T) (hda : p.da = .slice a n c) (hn : 0 ≤ s.next ∧ s.next < 4294967296) (s' : Se) (hs' : s' = { s with stat := (s.stat + 1) % 4294967296 }) :
    Calls Try.prog 38 #[.pointer (some ⟨S, 0, none⟩), .agg p.v] w fun e w' => ∃ v, e = .returned v ∧ Ss w' S s' H O T ∧ St S w w' s s' ∧ Ou w w' S s' v 42 (p.num s).v := by
  have hN : Kpt (∀ W, Ss W S s H O T → Calls Try.prog 32 #[.pointer (some ⟨S, 0, none⟩), .agg p.v] W fun e w' => e = .returned (.agg (p.num s).v) ∧ Ss w' S s' H O T ∧ St S W w' s s') := ⟨fun W h => counted_any S s H O T p a n c W h hda hn s' hs'⟩
  have k0 := Kpt.mk (Lo.start h)
  clear h hda hs'
  go_enter Try.func38, Try.ntmps38
  go_wp2_with (first
    | (go_at_call 32; go_must (refine (hN.out _ k1.out.ss).mono ?_; rintro e w3 ⟨rfl, hs3, ht3⟩; have k3 := Kpt.mk (k1.out.turn hs3 ht3); clear hs3 ht3))
    | (refine (?_ : wpList _ _ _ (Oper.mk _ (Op.box 42 _) _ _ _ _ :: _) _ _); go_must (refine wpList_box rfl 42 _ rfl p.v rfl ?_; intro P w1 hP hB hb _; have k1 := Kpt.mk (k0.out.add hb hP hB); clear hb hP hB))
    | (refine (?_ : wpList _ _ _ (Oper.mk _ (Op.buildSlice 36 _ _) _ _ _ _ :: _) _ _); go_must (refine wpList_build1 rfl 36 42 14 64 _ Try.underlying36 infoPdu (by decide) (by decide) _ rfl (p.num s).v rfl rfl ?_; intro b w4 hb4 _ hbe4 hh4; have k4 := Kpt.mk (k3.out.below hbe4); replace hb4 := Kpt.mk hb4; replace hh4 := Kpt.mk hh4; clear hbe4))
    | (refine (?_ : wpList _ _ _ (Oper.mk _ (Op.load 42 _) _ _ _ _ :: _) _ _); go_must (refine wpList_load_bx rfl 42 _ rfl P p.v rfl k1.out.b0 _ Try.underlying42 rfl szPdu ?_; have hm := hn)))
  go_ret
  exact ⟨_, rfl, k4.out.ss, k4.out.st, ⟨b, rfl, Nat.le_trans k3.out.st.fr.size hb4.out, hh4.out, fun e => by have := k3.out.ss.lt _ e; have := hb4.out; omega⟩⟩
end Go.Proofs.Ytdplndlmdhpfaab
