/-
  The contracts of Peek and List.
-/
import Derived.Test.YtodppeldliliaaaAQu
namespace Go.Proofs.Ytodppeldliliaaa
open Go.RowKit
set_option linter.unusedVariables false
set_option linter.unusedSimpArgs false

theorem Try.info31 : (Try.prog.info? 31).map (fun i => (i.zero, i.size, i.bytes)) = some (some (.int .u16 0), 1, 2) := by kernel_rfl
theorem Try.size31 : (Try.prog.info? 31).map (·.size) = some 1 := by kernel_rfl

def bestC (zs : List Int) : Int := zs.getD (bestFrom zs zs.length 0 0) 0

set_option maxHeartbeats 1000000 in
theorem peek_some (base B n : Nat) (L : Nat → List Int) (S : Nat → Value) (w : World) (h : Qu base w B L S) (hn : n < 8) (h0 : 0 < (L n).length) :
    Calls Try.prog 12 #[.pointer (some ⟨B, 0, none⟩), .int .i64 n] w fun e w' => e = .returned (.tuple #[.int .u16 (bestC (L n)), .bool true]) ∧ ∃ k, w' = w.drewN k := by
  have HC := Kpt.mk (codes_any base B n L S w h hn)
  obtain ⟨a, cap, hv, hs⟩ := (h.own n hn).shape
  obtain ⟨g, rfl, hb, hg, hc⟩ := hs h0
  rw [hv] at HC
  have HF := Kpt.mk (first_any g cap (L n) w h0 (h.few n hn) (h.good n hn) (fun j hj => (hc j hj).1))
  have hlt := best_lt (L n) (L n).length 0 0 (by omega) h0
  have hcell := (hc _ hlt).1
  have hfew := h.few n hn
  show Calls Try.prog 12 #[.pointer (some ⟨B, 0, none⟩), .int .i64 n] w fun e w' => e = .returned (.tuple #[.int .u16 ((L n).getD (bestFrom (L n) (L n).length 0 0) 0), .bool true]) ∧ ∃ k, w' = w.drewN k
  generalize bestFrom (L n) (L n).length 0 0 = p at *
  generalize (L n).getD p 0 = x at *
  generalize (L n).length = m at *
  have e1 : (p : Int) < m := by omega
  have e2 : ¬ (m : Int) = 0 := by omega
  clear h hv hs hc
  go_enter Try.func12, Try.ntmps12
  go_wp2_with (first
    | (go_at_call 20; refine HC.out.mono ?_; rintro e w' ⟨rfl, rfl⟩)
    | (go_at_call 21; refine HF.out.mono ?_; rintro e w' ⟨rfl, k, rfl⟩))
  go_ret2
  exact ⟨rfl, _, rfl⟩

theorem peek_none (base B n : Nat) (L : Nat → List Int) (S : Nat → Value) (w : World) (h : Qu base w B L S) (hn : n < 8) (h0 : L n = []) :
    Calls Try.prog 12 #[.pointer (some ⟨B, 0, none⟩), .int .i64 n] w fun e w' => e = .returned (.tuple #[.int .u16 0, .bool false]) ∧ w' = w := by
  have HC := Kpt.mk (codes_any base B n L S w h hn)
  obtain ⟨a, cap, hv, _⟩ := (h.own n hn).shape
  rw [hv, h0] at HC
  clear h hv h0
  simp only [List.length_nil] at HC
  go_enter Try.func12, Try.ntmps12
  go_wp2_with (go_at_call 20; refine HC.out.mono ?_; rintro e w' ⟨rfl, rfl⟩)
  go_ret2
  exact ⟨rfl, rfl⟩

theorem made_u16 (n : Nat) : (madeCells (Value.int .u16 0).cells (n * 1)).toList = cels (List.replicate n 0) := by
  simp [madeCells, Value.cells, cels]
  refine List.ext_getElem (by simp) (fun i h1 h2 => ?_)
  simp [Nat.mod_one]

/-- A slice of codes that can be read. -/
def RdAt (w : World) (v : Value) (zs : List Int) : Prop :=
  ∃ a c, v = .slice a zs.length c ∧ (zs.length = 0 ∨ ∃ g, a = some ⟨g, 0, none⟩ ∧ g < w.heap.size ∧ ∀ j, j < zs.length → w.cell? ⟨g, j, none⟩ = some (.int .u16 (zs.getD j 0)))
theorem Own.rd {base : Nat} {w : World} {v : Value} {zs : List Int} (h : Own base w v zs) : RdAt w v zs := by
  obtain ⟨a, c, hv, hs⟩ := h.shape
  refine ⟨a, c, hv, ?_⟩
  by_cases h0 : zs.length = 0
  · exact .inl h0
  · obtain ⟨g, ha, _, hg, hc⟩ := hs (by omega)
    exact .inr ⟨g, ha, hg, fun j hj => (hc j hj).1⟩
theorem RdAt.below {w w' : World} {v : Value} {zs : List Int} (h : RdAt w v zs) (hb : Below w.heap.size w w') : RdAt w' v zs := by
  obtain ⟨a, c, hv, h⟩ := h
  refine ⟨a, c, hv, ?_⟩
  rcases h with h | ⟨g, ha, hg, hc⟩
  · exact .inl h
  · exact .inr ⟨g, ha, Nat.lt_of_lt_of_le hg hb.size, fun j hj => (hb.cell (p := ⟨g, j, none⟩) hg).trans (hc j hj)⟩

/-- copy over a whole row of one's own. -/
theorem wpList_copy_all {w : World} {ops : Array Oper} {rest : List Oper} {o : Oper} {a : Act} {Q : Exit → Act → World → Prop} (hgd : o.guard = none) (d s : Operand)
    (ho : o.op = .call { callee := .builtin .copy, args := #[d, s], argTypes := #[27, 27] })
    (base g m : Nat) (zs ds : List Int) (sv : Value) (hd : a.eval d = .slice (some ⟨g, 0, none⟩) m m) (hs : a.eval s = sv)
    (hown : w.ownsRow base 31 1 (.slice (some ⟨g, 0, none⟩) m m) m (cels zs)) (hrd : RdAt w sv ds) (hdl : ds.length = m)
    (h : ∀ w', w'.ownsRow base 31 1 (.slice (some ⟨g, 0, none⟩) m m) m (cels ds) → w.grownBy w' (some g) → wpList Try.prog ops Q rest (a.put o.dst (goInt m)) w') : wpList Try.prog ops Q (o :: rest) a w := by
  obtain ⟨sa, sc, rfl, hsr⟩ := hrd
  have hz : zs.length = m := by have := hown.1; simpa using this
  by_cases h0 : m = 0
  · subst h0
    have e1 : ds = [] := List.eq_nil_of_length_eq_zero hdl
    have e2 : zs = [] := List.eq_nil_of_length_eq_zero hz
    subst e1 e2
    exact wpList_copy_nothing hgd d s 27 27 ho 31 Try.underlying27 Try.size31 _ _ 0 0 0 sc hd hs rfl (h w hown ⟨rfl, rfl, rfl, Nat.le_refl _, fun _ _ _ => rfl⟩)
  · rcases hsr with h1 | ⟨b, rfl, hbl, hc⟩
    · omega
    rcases hown.2 with ⟨hx, _⟩ | ⟨g', cap', cur, hx, hbg, hg, hnc, hcm, hcs, htake⟩
    · cases hx
    simp only [Value.slice.injEq, Option.some.injEq, Addr.mk.injEq, and_true, true_and] at hx
    obtain ⟨rfl, rfl⟩ := hx
    refine wpList_copy_own hgd d s 27 27 ho 31 Try.underlying27 Try.size31 g 0 m m ⟨b, 0, none⟩ ds.length sc hd hs cur 31 hg (cels ds) ?_ ?_ ?_ (cels_one _) ?_
    · simp only [cels_length]; rw [hdl]; exact (Nat.min_self m).symm
    · intro j u hu
      have hj : j < ds.length := by have := (List.getElem?_eq_some_iff.1 hu).1; simpa using this
      rw [Go.WideShapes.add_plain, Nat.zero_add, hc j hj, ← hu, cels, List.getElem?_map, List.getElem?_eq_getElem hj, List.getD_eq_getElem?_getD, List.getElem?_eq_getElem hj]
      rfl
    · simp; omega
    · rw [cels_length, hdl]
      refine h _ ⟨by simp [hdl], .inr ⟨g, m, _, rfl, hbg, setRow_heap w g cur _ 31 _ hg, Nat.le_refl _, hcm, ?_, ?_⟩⟩ ⟨rfl, rfl, rfl, by simp, fun j _ hk => setRow_other w g j _ (fun e => hk (by rw [e]))⟩
      · simp; omega
      · simp only [Nat.mul_one, List.take_zero, List.nil_append]
        rw [List.take_append_of_le_length (by simp; omega), List.take_of_length_le (by simp; omega)]

set_option maxHeartbeats 1000000 in
theorem list_any (base B n : Nat) (L : Nat → List Int) (S : Nat → Value) (w : World) (h : Qu base w B L S) (hn : n < 8) :
    Calls Try.prog 15 #[.pointer (some ⟨B, 0, none⟩), .int .i64 n] w fun e w' => ∃ v', e = .returned v' ∧ Own w.heap.size w' v' (L n) ∧ Below w.heap.size w w' := by
  have HC := Kpt.mk (codes_any base B n L S w h hn)
  have hO := Kpt.mk (h.own n hn)
  obtain ⟨a, cap, hv, hs⟩ := (h.own n hn).shape
  have hfew := h.few n hn
  rw [hv] at HC hO
  replace hs := Kpt.mk hs
  obtain ⟨i0, hi0, hz0, hz1, hz2⟩ := info_parts Try.info31
  obtain ⟨m, hm⟩ : ∃ m, m = (L n).length := ⟨_, rfl⟩
  rw [← hm] at HC hfew hO
  have hmax : m ≤ maxLen := by unfold maxLen; omega
  replace hm := Kpt.mk hm
  clear h hv
  go_enter Try.func15, Try.ntmps15
  go_wp2_with (first
    | (go_at_call 20; refine HC.out.mono ?_; rintro e w' ⟨rfl, rfl⟩)
    | (at_make; refine wpList_make_full _ rfl _ _ 27 rfl w'.heap.size 31 i0 (.int .u16 0) 1 Try.underlying27 hi0 hz0 hz1 .i64 .i64 _ _ m rfl rfl rfl rfl (by rw [hz2]; omega) hmax (Nat.le_refl _) ?_; intro w1 hown1 hg1; have hb1 : Kpt (Below w'.heap.size w' w1) := ⟨(Below.refl _ _).grown hg1 (Nat.le_refl _) (fun k h => by cases h)⟩; rw [made_u16] at hown1; replace hown1 := Kpt.mk hown1; clear hg1)
    | (refine wpList_copy_all rfl (.tmp 13) (.tmp 14) rfl w'.heap.size w'.heap.size m (List.replicate m 0) (L n) (.slice a m cap) rfl rfl hown1.out (hO.out.rd.below hb1.out) hm.out.symm ?_; intro w2 hown2 hg2; have hb2 : Kpt (Below w'.heap.size w' w2) := ⟨hb1.out.grown hg2 hb1.out.size (fun k h => by cases h; exact Nat.le_refl _)⟩; replace hown2 := Kpt.mk hown2; clear hg2))
  go_ret
  exact ⟨_, rfl, by unfold Own; rw [← hm.out]; exact hown2.out, hb2.out⟩
end Go.Proofs.Ytodppeldliliaaa
