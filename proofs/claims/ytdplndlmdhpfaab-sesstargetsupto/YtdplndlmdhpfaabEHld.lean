/-
  sess: doHeld, where one is held, and it is the next one.
-/
import Derived.Test.YtdplndlmdhpfaabEDo
import Derived.Deep.LoopGhost
import Derived.Laws.AppendOwnNone
namespace Go.Proofs.Ytdplndlmdhpfaab
open Go.RowKit
set_option linter.unusedVariables false
set_option linter.unusedSimpArgs false

def Got (w' : World) (S : Nat) (s : Se) (ty k : Nat) (v : Value) (zs : List (Array Value)) : Prop := (v = .slice none 0 0 ∧ zs = []) ∨ ∃ z b, zs = [z] ∧ v = .slice (some ⟨b, 0, none⟩) 1 1 ∧ RdR k w' v [z] ∧ ¬ s.X S b
structure Gots (w w' : World) (S : Nat) (s : Se) (ty k : Nat) (v : Value) (zs : List (Array Value)) : Prop where
  own : OwnR ty k w' v zs
  off : ∀ b, v.ownBlock = some b → ¬ s.X S b ∧ w.heap.size ≤ b
theorem Gots.below {w W W' : World} {S : Nat} {s : Se} {ty k : Nat} {v : Value} {zs : List (Array Value)} (h : Gots w W S s ty k v zs) (hb : Below W.heap.size W W') : Gots w W' S s ty k v zs := ⟨h.own.of_block (fun g hg => hb.block g (h.own.lt hg)), h.off⟩
theorem Got.below {W W' : World} {S : Nat} {s : Se} {ty k : Nat} {v : Value} {zs : List (Array Value)} (h : Got W S s ty k v zs) (hb : Below W.heap.size W W') : Got W' S s ty k v zs := by
  rcases h with h | ⟨z, b, h1, h2, h3, h4⟩
  · exact .inl h
  · exact .inr ⟨z, b, h1, h2, h3.below hb, h4⟩
theorem Ou.got {w w' : World} {S : Nat} {s : Se} {v : Value} {ty k : Nat} {z : Array Value} (h : Ou w w' S s v ty z) (hz : z.size = k ∧ z.all (·.oneCell') = true) : Got w' S s ty k v [z] := by
  obtain ⟨b, rfl, _, hh, hx⟩ := h.at_
  exact .inr ⟨z, b, rfl, rfl, (Bx.oneOwn hh hz).rd, hx⟩
/-- append of what was got to nothing. -/
theorem wpList_append_got {w W : World} {ops : Array Oper} {rest : List Oper} {o : Oper} {a : Act} {Q : Exit → Act → World → Prop} (hgd : o.guard = none) (sl ty k by' : Nat) (Z : Value) (hu : Try.prog.underlying sl = some (.slice ty)) (hinf : (Try.prog.info? ty).map (fun i => (i.zero, i.size, i.bytes)) = some (some Z, k, by')) (hzl : Z.cells.size = k) (hk0 : 0 < k) (hby : by' ≤ 1000)
    (d s : Operand) (ho : o.op = .call { callee := .builtin .append, args := #[d, s], argTypes := #[sl, sl] })
    (S : Nat) (ss : Se) (H O T : List (Array Value)) (sv : Value) (ds : List (Array Value)) (hd : a.eval d = .slice none 0 0) (hs : a.eval s = sv) (hS : Ss w S ss H O T) (hW : W.heap.size ≤ w.heap.size) (hgot : Got w S ss ty k sv ds)
    (h : ∀ v' w', Gots W w' S ss ty k v' ds → Below w.heap.size w w' → wpList Try.prog ops Q rest (a.put o.dst v') w') : wpList Try.prog ops Q (o :: rest) a w := by
  rcases hgot with ⟨rfl, rfl⟩ | ⟨z, b, rfl, rfl, hr, hx⟩
  · obtain ⟨i0, hi0, hz0, hz1, hz2⟩ := info_parts hinf
    exact wpList_append_own_none hgd d s sl ho 0 ty i0 k hu hi0 (.slice none 0 0) 0 [] hd (World.ownsRow_nil _ _ _ _) hs (h _ _ ⟨OwnR.nil _ _ _, fun b hb => by simp [Value.ownBlock] at hb⟩ (Below.refl _ _))
  · refine wpList_append_row hgd sl ty k by' Z hu hinf hzl hk0 hby d s ho (.slice none 0 0) (.slice (some ⟨b, 0, none⟩) 1 1) [] [z] hd hs (OwnR.nil _ _ _) hr (by simp) (by simp) ?_
    intro v' w' h1 h2 h3
    have hb : Below w.heap.size w w' := below_none h2.out
    refine h v' w' ⟨h1.out, fun q hq => ?_⟩ hb
    rcases h3.out with e | e
    · rw [e] at hq; simp [Value.ownBlock] at hq
    · rw [e] at hq; injection hq with hq; subst hq; exact ⟨fun e => by have := hS.lt _ e; omega, hW⟩

theorem Lo.setHeldP {w W W1 : World} {S P : Nat} {s0 s : Se} {H O T H' : List (Array Value)} {pv pv' : Array Value} {v' : Value} (k : Lo w W S s0 s H O T [(P, pv)]) (hf : Fr (fun b => s.held.ownBlock = some b ∨ b = P) W W1) (hB : Bx W1 P pv') (hv : OwnR 42 14 W1 v' H') (hn : v'.ownBlock = s.held.ownBlock) :
    Lo w (W1.setCell ⟨S, 14, none⟩ v') S s0 { s with held := v' } H' O T [(P, pv')] ∧ W1.cell? ⟨S, 14, none⟩ = some s.held ∧ W1.frozen? ⟨S, 14, none⟩ = false := by
  obtain ⟨b1, b2, b3⟩ := k.bx (P, pv) (by simp)
  have h := k.ss
  have hSP : ¬ S = P := fun e => b2 (.inl e.symm)
  have hbx : Bx W1 S s.v := h.bx.of_block (Nat.lt_of_lt_of_le h.bx.lt hf.size) (hf.block S h.bx.lt (fun e => by rcases e with e | e; exact h.nh e; exact hSP e))
  have hs := grown_setCellK W1 ⟨S, 14, none⟩ v'
  have hX : ∀ b, ({ s with held := v' } : Se).X S b → s.X S b := fun b hb => by
    rcases hb with hb | hb | hb | hb
    · exact .inl hb
    · exact .inr (.inl (by rw [← hn]; exact hb))
    · exact .inr (.inr (.inl hb))
    · exact .inr (.inr (.inr hb))
  refine ⟨⟨⟨?_, ?_, ?_, ?_, by rw [hn]; exact h.nh, h.no, h.nw, by rw [hn]; exact h.ho, by rw [hn]; exact h.hw, h.ow⟩, ⟨⟨?_, ?_, ?_, ?_, ?_⟩, fun b hb => k.st.new b (hX b hb)⟩, fun x hx => ?_, by simp⟩, hbx.cells 14 (by rw [Se.v_size]; omega), hbx.free 14⟩
  · exact bx_setC v' hbx (by rw [Se.v_size]; omega)
  · exact hv.of_block (fun g hgg => hs.block g (hv.lt hgg) (fun e => h.nh (by rw [← hn, hgg]; exact e)))
  · exact h.opn.of_block (fun g hgg => (hs.block g (Nat.lt_of_lt_of_le (h.opn.lt hgg) hf.size) (fun e => h.no (by rw [hgg]; exact e))).trans (hf.block g (h.opn.lt hgg) (fun e => by rcases e with e | e; exact h.ho g e hgg; subst e; exact b2 (.inr (.inr (.inl hgg))))))
  · exact h.wts.of_block (fun g hgg => (hs.block g (Nat.lt_of_lt_of_le (h.wts.lt hgg) hf.size) (fun e => h.nw (by rw [hgg]; exact e))).trans (hf.block g (h.wts.lt hgg) (fun e => by rcases e with e | e; exact h.hw g e hgg; subst e; exact b2 (.inr (.inr (.inr hgg))))))
  · exact hs.os.trans (hf.os.trans k.st.fr.os)
  · exact hs.tape.trans (hf.tape.trans k.st.fr.tape)
  · exact hs.output.trans (hf.output.trans k.st.fr.output)
  · exact Nat.le_trans k.st.fr.size (Nat.le_trans hf.size hs.size)
  · intro b hb hx
    have hbW := Nat.lt_of_lt_of_le hb k.st.fr.size
    have hnx : ¬ s.X S b := fun e => by rcases k.st.new b e with e | e; exact hx e; omega
    exact ((hs.block b (Nat.lt_of_lt_of_le hbW hf.size) (fun e => hnx (.inl (by injection e)))).trans (hf.block b hbW (fun e => by rcases e with e | e; exact hnx (.inr (.inl e)); simp only at b3; omega))).trans (k.st.fr.block b hb hx)
  · simp only [List.mem_singleton] at hx
    subst hx
    exact ⟨hB.grown hs (fun e => hSP (by injection e)), fun e => b2 (hX _ e), b3⟩

def Se.step (s : Se) (v : Value) : Se := { s with held := v, next := (s.next + 1) % 4294967296 }

set_option maxRecDepth 100000 in
set_option maxHeartbeats 8000000 in
theorem doHeld_one (S : Nat) (s : Se) (O T : List (Array Value)) (p : Pd) (R : World → Se → List (Array Value) → List (Array Value) → Prop) (w : World) (h : Ss w S s [p.v] O T) (hw1 : p.w1 = s.next) (hov : s.over = false)
    (hRb : ∀ W W' s3 gs ts, Below W.heap.size W W' → R W s3 gs ts → R W' s3 gs ts)
    (hRs : ∀ W s3 gs ts, R W s3 gs ts → s3.over = false ∧ ∃ O3 T3, Ss W S s3 [] O3 T3)
    (HD : ∀ W v', Ss W S (s.step v') [] O T → St S w W s (s.step v') → Calls Try.prog 24 #[.pointer (some ⟨S, 0, none⟩), .agg p.v] W fun e w' => ∃ gv tv gs ts s3, e = .returned (.tuple #[gv, tv]) ∧ R w' s3 gs ts ∧ St S W w' (s.step v') s3 ∧ Got w' S s3 42 14 gv gs ∧ Got w' S s3 60 8 tv ts) :
    Calls Try.prog 27 #[.pointer (some ⟨S, 0, none⟩)] w fun e w' => ∃ gv tv gs ts s3, e = .returned (.tuple #[gv, tv]) ∧ R w' s3 gs ts ∧ St S w w' s s3 ∧ Gots w w' S s3 42 14 gv gs ∧ Gots w w' S s3 60 8 tv ts := by
  have k0 := Kpt.mk (Lo.start h)
  obtain ⟨ha, hc, hhv, hsh⟩ := h.held.shape
  obtain ⟨g, hg1, hg2, hg3⟩ : ∃ g, ha = some ⟨g, 0, none⟩ ∧ 1 ≤ hc ∧ hc ≤ maxLen := by
    rcases hsh with ⟨_, _, hx⟩ | ⟨g, hx, _, h1, h2, _⟩
    · simp at hx
    · exact ⟨g, hx, by simpa using h1, h2⟩
  subst hg1
  simp only [List.length_cons, List.length_nil, Nat.zero_add] at hhv
  replace hhv := Kpt.mk hhv
  replace HD := Kpt.mk HD
  replace hRb := Kpt.mk hRb
  replace hRs := Kpt.mk hRs
  replace hov := Kpt.mk hov
  replace hw1 := Kpt.mk hw1
  have hcm : hc ≤ 9223372036854775807 := by unfold maxLen at hg3; omega
  clear h hsh hg3
  go_enter Try.func27, Try.ntmps27
  go_wp2
  go_step3
  go_wp2
  go_step3
  go_wp2
  go_loopg [4, 5] 1 (fun k r4 r5 wr => (k = 1 ∧ r4 = .slice none 0 0 ∧ r5 = .slice none 0 0 ∧ Kpt (Lo w wr S s s [p.v] O T [])) ∨ (k = 0 ∧ ∃ gs ts s3, Kpt (R wr s3 gs ts ∧ St S w wr s s3 ∧ Gots w wr S s3 42 14 r4 gs ∧ Gots w wr S s3 60 8 r5 ts)))
  case atStart => exact .inl ⟨rfl, rfl, rfl, k0⟩
  case round =>
    rcases hrel with ⟨hk1, rfl, rfl, k1⟩ | ⟨hk0, gs, ts, s3, hfin⟩
    · have c17 := (k1.out.ss.cell 17 (by omega)).1
      have c14 := (k1.out.ss.cell 14 (by omega)).1
      have c11 := (k1.out.ss.cell 11 (by omega)).1
      have f11 := (k1.out.ss.cell 11 (by omega)).2
      simp only [Se.v, List.getElem?_toArray, List.getElem?_cons_succ, List.getElem?_cons_zero] at c17 c14 c11
      rw [hov.out] at c17
      rw [hhv.out] at c14
      have hrow : Kpt (wr.rangeAt g 0 p.v.toList ∧ g < wr.heap.size) := ⟨by
        have hO := k1.out.ss.held
        rw [hhv.out] at hO
        obtain ⟨a', c', hv', hsh⟩ := hO.shape
        simp only [Value.slice.injEq] at hv'
        obtain ⟨rfl, _, rfl⟩ := hv'
        rcases hsh with ⟨hx, _⟩ | ⟨g', hx, hgl, _, _, _, hr⟩
        · cases hx
        · simp only [Option.some.injEq, Addr.mk.injEq, and_true] at hx
          subst hx
          exact ⟨by simpa using hr 0 p.v rfl, hgl⟩⟩
      have cg7 : wr.cell? ⟨g, 7, none⟩ = some (.int .u32 s.next) := by have := hrow.out.1 7 (.int .u32 p.w1) (by simp [Pd.v]); rw [hw1.out] at this; simpa using this
      go_wp2_with fail
      go_loopg [4, 5, 20] 1 (fun k r4 r5 t wx => r4 = .slice none 0 0 ∧ r5 = .slice none 0 0 ∧ t = .int .i64 0 ∧ wx = wr)
      case atStart => exact ⟨rfl, rfl, rfl, rfl⟩
      case round =>
        obtain ⟨rfl, rfl, rfl, rfl⟩ := hrel
        go_upto_region 7 with fail
        refine wp_region_any (by kernel_rfl) ?_
        refine wpAny_of_C (C := fun W => W.cell? ⟨S, 14, none⟩ = some (.slice (some ⟨g, 0, none⟩) 1 hc) ∧ W.cell? ⟨S, 11, none⟩ = some (.int .u32 s.next) ∧ W.cell? ⟨g, 7, none⟩ = some (.int .u32 s.next)) _ _ _ _ ?_
        refine wpAnyC_take 0 (.pointer (some ⟨S, 0, none⟩)) rfl (by kernel_rfl) (by kernel_rfl) (by kernel_rfl) (fun _ _ _ h => h) (wanted_free rfl _) (fun W hW => by go_simp) ?_
        try simp only [Act.put, List.getElem_toArray, List.getElem_cons_succ, List.getElem_cons_zero, List.setIfInBounds_toArray, List.set_cons_succ, List.set_cons_zero]
        refine wpAnyC_take 1 (.pointer (some ⟨S, 0, none⟩)) rfl (by kernel_rfl) (by kernel_rfl) (by kernel_rfl) (fun _ _ _ h => h) (wanted_free rfl _) (fun W hW => by go_simp) ?_
        try simp only [Act.put, List.getElem_toArray, List.getElem_cons_succ, List.getElem_cons_zero, List.setIfInBounds_toArray, List.set_cons_succ, List.set_cons_zero]
        refine wpAnyC_take 2 (.pointer (some ⟨S, 14, none⟩)) rfl (by kernel_rfl) (by kernel_rfl) (by kernel_rfl) (fun _ _ _ h => h) (wanted_free rfl _) (fun W hW => by go_simp) ?_
        try simp only [Act.put, List.getElem_toArray, List.getElem_cons_succ, List.getElem_cons_zero, List.setIfInBounds_toArray, List.set_cons_succ, List.set_cons_zero]
        refine wpAnyC_take 3 (.slice (some ⟨g, 0, none⟩) 1 hc) rfl (by kernel_rfl) (by kernel_rfl) (by kernel_rfl) (fun _ _ _ h => h) (wanted_free rfl _) (fun W hW => by obtain ⟨q1, q2, q3⟩ := hW; go_simp) ?_
        try simp only [Act.put, List.getElem_toArray, List.getElem_cons_succ, List.getElem_cons_zero, List.setIfInBounds_toArray, List.set_cons_succ, List.set_cons_zero]
        refine wpAnyC_take 4 (.int .i64 0) rfl (by kernel_rfl) (by kernel_rfl) (by kernel_rfl) (fun _ _ _ h => h) (wanted_free rfl _) (fun W hW => by go_simp) ?_
        try simp only [Act.put, List.getElem_toArray, List.getElem_cons_succ, List.getElem_cons_zero, List.setIfInBounds_toArray, List.set_cons_succ, List.set_cons_zero]
        refine wpAnyC_take 5 (.pointer (some ⟨g, 0, none⟩)) rfl (by kernel_rfl) (by kernel_rfl) (by kernel_rfl) (fun _ _ _ h => h) (wanted_free rfl _) (fun W hW => by go_simp) ?_
        try simp only [Act.put, List.getElem_toArray, List.getElem_cons_succ, List.getElem_cons_zero, List.setIfInBounds_toArray, List.set_cons_succ, List.set_cons_zero]
        refine wpAnyC_take 6 (.pointer (some ⟨g, 6, none⟩)) rfl (by kernel_rfl) (by kernel_rfl) (by kernel_rfl) (fun _ _ _ h => h) (wanted_free rfl _) (fun W hW => by go_simp) ?_
        try simp only [Act.put, List.getElem_toArray, List.getElem_cons_succ, List.getElem_cons_zero, List.setIfInBounds_toArray, List.set_cons_succ, List.set_cons_zero]
        refine wpAnyC_take 7 (.pointer (some ⟨g, 7, none⟩)) rfl (by kernel_rfl) (by kernel_rfl) (by kernel_rfl) (fun _ _ _ h => h) (wanted_free rfl _) (fun W hW => by go_simp) ?_
        try simp only [Act.put, List.getElem_toArray, List.getElem_cons_succ, List.getElem_cons_zero, List.setIfInBounds_toArray, List.set_cons_succ, List.set_cons_zero]
        refine wpAnyC_take 8 (.int .u32 s.next) rfl (by kernel_rfl) (by kernel_rfl) (by kernel_rfl) (fun _ _ _ h => h) (wanted_free rfl _) (fun W hW => by obtain ⟨q1, q2, q3⟩ := hW; go_simp) ?_
        try simp only [Act.put, List.getElem_toArray, List.getElem_cons_succ, List.getElem_cons_zero, List.setIfInBounds_toArray, List.set_cons_succ, List.set_cons_zero]
        refine wpAnyC_take 9 (.pointer (some ⟨S, 0, none⟩)) rfl (by kernel_rfl) (by kernel_rfl) (by kernel_rfl) (fun _ _ _ h => h) (wanted_free rfl _) (fun W hW => by go_simp) ?_
        try simp only [Act.put, List.getElem_toArray, List.getElem_cons_succ, List.getElem_cons_zero, List.setIfInBounds_toArray, List.set_cons_succ, List.set_cons_zero]
        refine wpAnyC_take 10 (.pointer (some ⟨S, 0, none⟩)) rfl (by kernel_rfl) (by kernel_rfl) (by kernel_rfl) (fun _ _ _ h => h) (wanted_free rfl _) (fun W hW => by go_simp) ?_
        try simp only [Act.put, List.getElem_toArray, List.getElem_cons_succ, List.getElem_cons_zero, List.setIfInBounds_toArray, List.set_cons_succ, List.set_cons_zero]
        refine wpAnyC_take 11 (.pointer (some ⟨S, 11, none⟩)) rfl (by kernel_rfl) (by kernel_rfl) (by kernel_rfl) (fun _ _ _ h => h) (wanted_free rfl _) (fun W hW => by go_simp) ?_
        try simp only [Act.put, List.getElem_toArray, List.getElem_cons_succ, List.getElem_cons_zero, List.setIfInBounds_toArray, List.set_cons_succ, List.set_cons_zero]
        refine wpAnyC_take 12 (.int .u32 s.next) rfl (by kernel_rfl) (by kernel_rfl) (by kernel_rfl) (fun _ _ _ h => h) (wanted_free rfl _) (fun W hW => by obtain ⟨q1, q2, q3⟩ := hW; go_simp) ?_
        try simp only [Act.put, List.getElem_toArray, List.getElem_cons_succ, List.getElem_cons_zero, List.setIfInBounds_toArray, List.set_cons_succ, List.set_cons_zero]
        refine wpAnyC_take 13 (.bool false) rfl (by kernel_rfl) (by kernel_rfl) (by kernel_rfl) (fun _ _ _ h => h) (wanted_free rfl _) (fun W hW => by go_simp) ?_
        try simp only [Act.put, List.getElem_toArray, List.getElem_cons_succ, List.getElem_cons_zero, List.setIfInBounds_toArray, List.set_cons_succ, List.set_cons_zero]
        have k2 := Kpt.mk k1.out.drew
        obtain ⟨wd, hwd⟩ : ∃ x, x = wr.drew := ⟨_, rfl⟩
        rw [← hwd] at k2
        have d14 := (k2.out.ss.cell 14 (by omega)).1
        have d11 := (k2.out.ss.cell 11 (by omega)).1
        simp only [Se.v, List.getElem?_toArray, List.getElem?_cons_succ, List.getElem?_cons_zero] at d14 d11
        rw [hhv.out] at d14
        have dg7 : wd.cell? ⟨g, 7, none⟩ = some (.int .u32 s.next) := by rw [hwd]; exact cg7
        refine wpAnyC_world hwd ?_
        clear hwd c14 c11 cg7 f11 c17
        refine wpAnyC_done (⟨d14, d11, dg7⟩) (by kernel_rfl) ?_
        have hone : Kpt (p.v.all (·.oneCell') = true) := ⟨(k2.out.ss.held.wide p.v (by simp)).2⟩
        have hfr : Kpt (∀ (W W4 W5 : World) (P : Nat), W.grownBy W4 (some g) → W4.grownBy W5 (some P) → Fr (fun b => s.held.ownBlock = some b ∨ b = P) W W5) := ⟨fun W W4 W5 P h1 h2 => ⟨h2.os.trans h1.os, h2.tape.trans h1.tape, h2.output.trans h1.output, Nat.le_trans h1.size h2.size, fun b hb hx => (h2.block b (Nat.lt_of_lt_of_le hb h1.size) (fun e => hx (.inr (by injection e)))).trans (h1.block b hb (fun e => hx (.inl (by rw [hhv.out]; exact e.symm))))⟩⟩
        have hown5 : Kpt (∀ (W4 W5 : World) (P : Nat), OwnR 42 14 W4 (.slice (some ⟨g, 0, none⟩) 0 hc) [] → W4.grownBy W5 (some P) → ¬ s.X S P → OwnR 42 14 W5 (.slice (some ⟨g, 0, none⟩) 0 hc) []) := ⟨fun W4 W5 P h1 h2 h3 => h1.of_block (fun q hq => h2.block q (h1.lt hq) (fun e => h3 (by injection e with e; subst e; exact .inr (.inl (by rw [hhv.out]; exact hq)))))⟩
        have hTk : Kpt (∀ W L, Lo w W S s s [p.v] O T L → Calls Try.prog 46 #[.slice (some ⟨g, 0, none⟩) 1 hc, .int .i64 0] W fun e w' => e = .returned (.tuple #[.agg p.v, .slice (some ⟨g, 0, none⟩) 0 hc]) ∧ OwnR 42 14 w' (.slice (some ⟨g, 0, none⟩) 0 hc) [] ∧ W.grownBy w' (some g)) := ⟨fun W L k => takeP_any g hc 0 1 [p.v] p.v W (by have := k.ss.held; rw [hhv.out] at this; exact this) rfl rfl (by omega) hg2 hcm⟩
        have hwn : IntKind.u32.wrap (s.next + 1) = (s.next + 1) % 4294967296 := IntKind.wrap_u32 _
        have hzp : Kpt (zP.v.size = 14) := ⟨rfl⟩
        go_wp2_with (first
          | (go_at_call 46; go_must (refine (hTk.out _ _ k3.out).mono ?_; rintro e w4 ⟨rfl, ho4, hg4⟩; have hP4 := Kpt.mk (k3.out.b0.grown hg4 (fun e => (k3.out.bx (P, zP.v) (by simp)).2.1 (.inr (.inl (by rw [hhv.out]; injection e with e; rw [e]; rfl))))); replace ho4 := Kpt.mk ho4; replace hg4 := Kpt.mk hg4))
          | (go_at_call 24; go_must (refine (HD.out _ _ k7.out.ss k7.out.st).mono ?_; rintro e w8 ⟨gv, tv, gs, ts, s3, rfl, hR8, ht8, hG8, hT8⟩; have st8 := Kpt.mk (k7.out.st.trans ht8); obtain ⟨ho3, O3, T3, hS3⟩ := hRs.out _ _ _ _ hR8; replace hS3 := Kpt.mk hS3; replace hR8 := Kpt.mk hR8; replace hG8 := Kpt.mk hG8; replace hT8 := Kpt.mk hT8; clear ht8 ho3))
          | (refine (?_ : wpList _ _ _ (Oper.mk _ (Op.alloc 42) _ _ _ _ :: _) _ _); go_must (refine wpList_var rfl 42 rfl _ zPdu ?_; intro P w3 hP hB3 hb3; have k3 := Kpt.mk (k2.out.add hb3 hP hB3); obtain ⟨c14, f14⟩ := k3.out.ss.cell 14 (by omega); simp only [Se.v, List.getElem?_toArray, List.getElem?_cons_succ, List.getElem?_cons_zero] at c14; rw [hhv.out] at c14; clear hP hB3 hb3))
          | (refine (?_ : wpList _ _ _ (Oper.mk _ (Op.store 42 _ _) _ _ _ _ :: _) _ _); go_must (refine wpList_store_bx rfl 42 _ _ rfl P zP.v p.v rfl rfl hP4.out rfl szPdu hone.out rfl ?_; intro w5 hB5 hg5; obtain ⟨k6, c5, f5⟩ := k3.out.setHeldP (W1 := w5) (v' := .slice (some ⟨g, 0, none⟩) 0 hc) (H' := []) (hfr.out _ _ _ P hg4.out hg5) hB5 (hown5.out _ _ P ho4.out hg5 (k3.out.bx (P, zP.v) (by simp)).2.1) (by rw [hhv.out]; rfl); rw [hhv.out] at c5; replace k6 := Kpt.mk k6; obtain ⟨c11, f11⟩ := k6.out.ss.cell 11 (by omega); simp only [Se.v, List.getElem?_toArray, List.getElem?_cons_succ, List.getElem?_cons_zero] at c11; have k7 : Kpt (Lo w ((w5.setCell ⟨S, 14, none⟩ (.slice (some ⟨g, 0, none⟩) 0 hc)).setCell ⟨S, 11, none⟩ (.int .u32 ((s.next + 1) % 4294967296))) S s (s.step (.slice (some ⟨g, 0, none⟩) 0 hc)) [] O T [(P, p.v)]) := ⟨k6.out.set 11 _ (by omega) (by simp [Se.v, Se.step]) rfl rfl rfl⟩; clear hB5 hg5))
          | (refine (?_ : wpList _ _ _ (Oper.mk _ (Op.load 42 _) _ _ _ _ :: _) _ _); go_must (refine wpList_load_bx rfl 42 _ rfl P p.v rfl k7.out.b0 _ Try.underlying42 rfl szPdu ?_; have hm := hzp))
          | (at_builtin; have mm := hA9; go_must (refine wpList_append_got (W := w) rfl 37 60 8 72 _ Try.underlying37 infoTask rfl (by decide) (by decide) _ _ rfl S s3 [] O3 T3 tv ts rfl rfl (hS3.out.below hb9.out) (Nat.le_trans st8.out.fr.size hb9.out.size) (hT8.out.below hb9.out) ?_; intro tv' w10 hA10 hb10; clear mm; replace hA10 := Kpt.mk hA10; replace hb10 := Kpt.mk hb10))
          | (at_builtin; go_must (refine wpList_append_got (W := w) rfl 36 42 14 64 _ Try.underlying36 infoPdu rfl (by decide) (by decide) _ _ rfl S s3 [] O3 T3 gv gs rfl rfl hS3.out st8.out.fr.size hG8.out ?_; intro gv' w9 hA9 hb9; replace hA9 := Kpt.mk hA9; replace hb9 := Kpt.mk hb9)))
        have hbb : Below w8.heap.size w8 w10 := hb9.out.trans (hb10.out.mono hb9.out.size)
        go_roundg 0
        case measure => omega
        case rel => exact .inr ⟨rfl, gs, ts, s3, ⟨⟨hRb.out _ _ _ _ _ hbb hR8.out, ⟨st8.out.fr.trans (Fr.of_below (X := fun _ => False) hbb) (fun _ h => h.elim), st8.out.new⟩, hA9.out.below hb10.out, hA10.out⟩⟩⟩
    · obtain ⟨hR, hSt, hG, hT⟩ := hfin.out
      obtain ⟨ho3, O3, T3, hS3⟩ := hRs.out _ _ _ _ hR
      have c17 := (hS3.cell 17 (by omega)).1
      have c14 := (hS3.cell 14 (by omega)).1
      simp only [Se.v, List.getElem?_toArray, List.getElem?_cons_succ, List.getElem?_cons_zero] at c17 c14
      rw [ho3] at c17
      obtain ⟨a3, c3, hv3, _⟩ := hS3.held.shape
      rw [hv3] at c14
      simp only [List.length_nil] at c14
      obtain ⟨a4, n4, hv4, _⟩ := hG.own.shape
      obtain ⟨a5, n5, hv5, _⟩ := hT.own.shape
      obtain ⟨n4', hn4⟩ : ∃ n, n = gs.length := ⟨_, rfl⟩
      obtain ⟨n5', hn5⟩ : ∃ n, n = ts.length := ⟨_, rfl⟩
      rw [← hn4] at hv4
      rw [← hn5] at hv5
      subst hv4
      subst hv5
      clear hR hSt hG hT hS3 hv3 hn4 hn5 ho3
      go_wp2_with fail
      go_loopg [4, 5, 20] 0 (fun k r4 r5 t wx => r4 = .slice a4 n4' n4 ∧ r5 = .slice a5 n5' n5 ∧ t = .int .i64 0 ∧ wx = wr)
      case atStart => exact ⟨rfl, rfl, rfl, rfl⟩
      case round =>
        obtain ⟨rfl, rfl, rfl, rfl⟩ := hrel
        go_wp2_with fail
        try rw [Exit.noGoto_ret]
        go_ret2
        obtain ⟨hR, hSt, hG, hT⟩ := hfin.out
        exact ⟨_, _, gs, ts, s3, rfl, hR, hSt, hG, hT⟩
end Go.Proofs.Ytdplndlmdhpfaab
