/-
  The contracts of added and Add.
-/
import Derived.Test.YtodppeldliliaaaAPeek
import Derived.Test.YtodppeldliliaaaAOrder
import Derived.Maps.AppendAt
import Derived.Deep.DeepMust
import Derived.OwnWalk
namespace Go.Proofs.Ytodppeldliliaaa
open Go.RowKit
set_option linter.unusedVariables false
set_option linter.unusedSimpArgs false

def addL (zs : List Int) (c : Int) : List Int := if c = 10496 then [c] else if 8 ≤ zs.length ∨ c ∈ zs then zs else zs ++ [c]

theorem idx_mem (c : Int) (zs : List Int) : ∀ (f i : Nat), i + f = zs.length → (0 ≤ idxFrom c zs f i ↔ c ∈ zs.drop i)
  | 0, i, h => by
    rw [List.drop_of_length_le (by omega)]
    simp [idxFrom]
  | f + 1, i, h => by
    have hi : i < zs.length := by omega
    rw [List.drop_eq_getElem_cons hi]
    unfold idxFrom
    rw [List.getD_eq_getElem?_getD, List.getElem?_eq_getElem hi]
    by_cases e : zs[i] = c
    · simp [e]
    · simp only [Option.getD_some, if_neg e, List.mem_cons]
      rw [idx_mem c zs f (i + 1) (by omega)]
      exact ⟨fun h => .inr h, fun h => h.resolve_left (fun h => e h.symm)⟩

theorem idx_dec (c : Int) (zs : List Int) : decide (0 ≤ idxFrom c zs zs.length 0) = decide (c ∈ zs) := by
  have := idx_mem c zs zs.length 0 (by omega)
  rw [List.drop_zero] at this
  exact Bool.eq_iff_iff.2 (by simpa using this)

theorem codes_alloc (w : World) (c : Int) : ∀ j u, (cels [c])[j]? = some u → (w.alloc (.cells (cels [c]).toArray 31)).cell? ((⟨w.heap.size, 0, none⟩ : Addr).add j) = some u := fun j u hu => by
  rw [Go.WideShapes.add_plain, Nat.zero_add]
  have : (w.alloc (.cells (cels [c]).toArray 31)).cell? ⟨w.heap.size, j, none⟩ = (cels [c]).toArray[j]? := by simp
  rw [this, List.getElem?_toArray]
  exact hu

/-- What added leaves: the row, and whose block it is. -/
def Gave (base : Nat) (w : World) (v : Value) (zs : List Int) (e : Ending) (w' : World) : Prop :=
  ∃ v', e = .returned v' ∧ Own base w' v' zs ∧ w.grownBy w' v.ownBlock ∧ (v'.ownBlock = v.ownBlock ∨ ∃ g, v'.ownBlock = some g ∧ w.heap.size ≤ g)

theorem Own.cut {base : Nat} {w : World} {v : Value} {zs : List Int} (h : Own base w v zs) : ∃ a c, v = .slice a zs.length c ∧ Own base w (.slice a 0 c) [] ∧ (Value.slice a 0 c).ownBlock = v.ownBlock := by
  rcases id h.2 with ⟨rfl, h0⟩ | ⟨g, cap, cur, rfl, hb, hg, hc, hm, hs, _⟩
  · exact ⟨none, 0, by rw [h0], World.ownsRow_nil _ _ _ _, rfl⟩
  · exact ⟨_, cap, rfl, ⟨rfl, .inr ⟨g, cap, cur, rfl, hb, hg, Nat.zero_le _, hm, hs, by simp [cels]⟩⟩, rfl⟩

/-- append of one code. -/
theorem wpList_append_code {w : World} {ops : Array Oper} {rest : List Oper} {o : Oper} {a : Act} {Q : Exit → Act → World → Prop} (hgd : o.guard = none) (d s : Operand)
    (ho : o.op = .call { callee := .builtin .append, args := #[d, s], argTypes := #[27, 27] })
    (base b : Nat) (v : Value) (zs : List Int) (c : Int) (hd : a.eval d = v) (hs : a.eval s = .slice (some ⟨b, 0, none⟩) 1 1) (hc : w.cell? ⟨b, 0, none⟩ = some (.int .u16 c)) (hown : Own base w v zs) (hl : zs.length ≤ 8) (hbase : base ≤ w.heap.size)
    (h : ∀ v' w', Kpt (Own base w' v' (zs ++ [c])) → Kpt (w.grownBy w' v.ownBlock) → Kpt (v'.ownBlock = v.ownBlock ∨ v'.ownBlock = some w.heap.size) → wpList Try.prog ops Q rest (a.put o.dst v') w') : wpList Try.prog ops Q (o :: rest) a w := by
  obtain ⟨i0, hi0, hz0, hz1, hz2⟩ := info_parts Try.info31
  refine wpList_append_own_at _ hgd d s 27 ho base 31 i0 (.int .u16 0) 1 2 Try.underlying27 hi0 hz0 hz1 hz2 rfl (by decide) v zs.length (cels zs) hd hown ⟨b, 0, none⟩ 1 1 (cels [c]) hs (by simp) (fun j u hu => ?_) (cels_one _) (by unfold maxLen; omega) (by omega) hbase ?_
  · have hj : j = 0 := by have := (List.getElem?_eq_some_iff.1 hu).1; simp at this; omega
    subst hj
    rw [Go.WideShapes.add_plain, Nat.zero_add, hc]
    simpa [cels] using hu
  · intro v' w' h1 h2 _ h3
    exact h v' w' ⟨by unfold Own; rw [cels_append, List.length_append]; exact h1⟩ ⟨h2⟩ ⟨h3⟩

set_option maxRecDepth 100000 in
set_option maxHeartbeats 1000000 in
theorem added_power (base : Nat) (v : Value) (zs : List Int) (w : World) (h : Own base w v zs) (hl : zs.length ≤ 8) (hb : base ≤ w.heap.size) :
    Calls Try.prog 19 #[v, .int .u16 10496] w (Gave base w v [10496]) := by
  obtain ⟨a, c, rfl, hO, hob⟩ := h.cut
  have hO2 : ∀ o, Kpt (Own base (w.alloc o) (.slice a 0 c) []) := fun o => ⟨hO.of_block (fun g hg => Below.heap_alloc _ _ _ (hO.lt hg).2)⟩
  obtain ⟨m, hm⟩ : ∃ m, m = zs.length := ⟨_, rfl⟩
  rw [← hm] at hl hob ⊢
  replace hm := Kpt.mk hm
  replace hob := Kpt.mk hob
  unfold Gave
  clear h hO
  go_enter Try.func19, Try.ntmps19
  go_wp2_with (at_builtin; go_must (refine wpList_append_code rfl (.tmp 8) (.tmp 10) rfl base w.heap.size (.slice a 0 c) [] 10496 rfl rfl (by simp) (hO2 _).out (by simp) (by simp; omega) ?_; intro v' w2 ho2 hg2 hor))
  go_ret
  refine ⟨v', rfl, ho2.out, ?_, ?_⟩
  · have := hg2.out
    rw [hob.out] at this
    exact ⟨this.os, this.tape, this.output, Nat.le_trans (by simp) this.size, fun k hk hne => (this.block k (by simp; omega) hne).trans (Below.heap_alloc _ _ _ hk)⟩
  · rcases hor.out with h | h
    · exact .inl (h.trans hob.out)
    · exact .inr ⟨_, h, by simp⟩

set_option maxRecDepth 100000 in
set_option maxHeartbeats 1000000 in
theorem added_keep (base : Nat) (v : Value) (zs : List Int) (c : Int) (w : World) (h : Own base w v zs) (hl : zs.length ≤ 8) (hb : base ≤ w.heap.size) (hc : ¬ c = 10496) (hk : 8 ≤ zs.length ∨ c ∈ zs) :
    Calls Try.prog 19 #[v, .int .u16 c] w (Gave base w v zs) := by
  have HC := Kpt.mk (contains_any v zs c base w h (by omega))
  rw [idx_dec] at HC
  have hO := Kpt.mk h
  obtain ⟨a, cp, rfl, _⟩ := h.shape
  obtain ⟨m, hm⟩ : ∃ m, m = zs.length := ⟨_, rfl⟩
  have hG : Kpt (Gave base w (.slice a m cp) zs (.returned (.slice a m cp)) w) := ⟨⟨_, rfl, by rw [hm]; exact hO.out, ⟨rfl, rfl, rfl, Nat.le_refl _, fun _ _ _ => rfl⟩, .inl rfl⟩⟩
  rw [← hm] at hl hk HC ⊢
  replace hm := Kpt.mk hm
  clear h hO
  by_cases h8 : 8 ≤ m
  · have e1 : (8 : Int) ≤ m := by omega
    clear hk
    go_enter Try.func19, Try.ntmps19
    go_wp2
    go_ret
    exact hG.out
  · have hmem : c ∈ zs := hk.resolve_left h8
    rw [decide_eq_true hmem] at HC
    have e1 : ¬ (8 : Int) ≤ m := by omega
    clear hk hmem
    go_enter Try.func19, Try.ntmps19
    go_wp2_with (go_at_call 23; refine HC.out.mono ?_; rintro e w' ⟨rfl, rfl⟩)
    go_ret
    exact hG.out

set_option maxRecDepth 100000 in
set_option maxHeartbeats 1000000 in
theorem added_more (base : Nat) (v : Value) (zs : List Int) (c : Int) (w : World) (h : Own base w v zs) (hb : base ≤ w.heap.size) (hc : ¬ c = 10496) (h8 : zs.length < 8) (hn : ¬ c ∈ zs) :
    Calls Try.prog 19 #[v, .int .u16 c] w (Gave base w v (zs ++ [c])) := by
  have HC := Kpt.mk (contains_any v zs c base w h (by omega))
  rw [idx_dec, decide_eq_false hn] at HC
  have hO2 : ∀ o, Kpt (Own base (w.alloc o) v zs) := fun o => ⟨h.of_block (fun g hg => Below.heap_alloc _ _ _ (h.lt hg).2)⟩
  obtain ⟨a, cp, rfl, _⟩ := h.shape
  have hl : zs.length ≤ 8 := by omega
  have hlK := Kpt.mk hl
  obtain ⟨m, hm⟩ : ∃ m, m = zs.length := ⟨_, rfl⟩
  rw [← hm] at h8 HC hO2 ⊢
  replace hm := Kpt.mk hm
  have e1 : ¬ (8 : Int) ≤ m := by omega
  unfold Gave
  clear h hn hl
  go_enter Try.func19, Try.ntmps19
  go_wp2_with (first
    | (go_at_call 23; refine HC.out.mono ?_; rintro e w' ⟨rfl, rfl⟩)
    | (at_builtin; go_must (refine wpList_append_code rfl (.tmp 21) (.tmp 23) rfl base w'.heap.size (.slice a m cp) zs c rfl rfl (by simp) (hO2 _).out hlK.out (by simp; omega) ?_; intro v' w2 ho2 hg2 hor)))
  go_ret
  refine ⟨v', rfl, ho2.out, ?_, ?_⟩
  · have := hg2.out
    exact ⟨this.os, this.tape, this.output, Nat.le_trans (by simp) this.size, fun k hk hne => (this.block k (by simp; omega) hne).trans (Below.heap_alloc _ _ _ hk)⟩
  · rcases hor.out with h | h
    · exact .inl h
    · exact .inr ⟨_, h, by simp⟩

theorem added_any (base : Nat) (v : Value) (zs : List Int) (c : Int) (w : World) (h : Own base w v zs) (hl : zs.length ≤ 8) (hb : base ≤ w.heap.size) :
    Calls Try.prog 19 #[v, .int .u16 c] w (Gave base w v (addL zs c)) := by
  unfold addL
  by_cases hc : c = 10496
  · rw [if_pos hc, hc]
    exact added_power base v zs w h hl hb
  · rw [if_neg hc]
    by_cases hk : 8 ≤ zs.length ∨ c ∈ zs
    · rw [if_pos hk]
      exact added_keep base v zs c w h hl hb hc hk
    · rw [if_neg hk]
      exact added_more base v zs c w h hb hc (by omega) (fun e => hk (.inr e))
end Go.Proofs.Ytodppeldliliaaa
