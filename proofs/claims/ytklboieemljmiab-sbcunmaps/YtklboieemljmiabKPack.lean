/-
  The contract of pack.
-/
import Derived.Test.YtklboieemljmiabKBox
namespace Go.Proofs.Ytklboieemljmiab
open Go.RowKit
set_option linter.unusedVariables false
set_option linter.unusedSimpArgs false

theorem own_facts {w : World} {base g : Nat} {zs : List Int} {n c : Nat} (h : w.ownsRow base 5 1 (.slice (some ⟨g, 0, none⟩) n c) n (cels zs)) (i : Nat) (hi : i < n) :
    w.cell? ⟨g, i, none⟩ = some (.int .u8 (zs.getD i 0)) := by
  have hl : zs.length = n := by have := h.1; simpa using this
  rw [h.cellAt i (by omega)]
  unfold cels
  rw [List.getElem?_map, List.getElem?_eq_getElem (by omega), List.getD_eq_getElem?_getD, List.getElem?_eq_getElem (by omega)]
  rfl

theorem own_set {w : World} {base g : Nat} {zs : List Int} {n c : Nat} (h : w.ownsRow base 5 1 (.slice (some ⟨g, 0, none⟩) n c) n (cels zs)) (i : Nat) (x : Int) :
    (w.setCell ⟨g, i, none⟩ (.int .u8 x)).ownsRow base 5 1 (.slice (some ⟨g, 0, none⟩) n c) n (cels (zs.set i x)) := by
  have := (h.stored i (.int .u8 x)).1
  unfold cels at *
  rw [List.map_set]
  exact this

theorem box_keep {w w1 : World} {cs : Array Value} {t : TypeId} {row : Option Nat} (hg : (w.alloc (.cells cs t)).grownBy w1 row) (hr : row ≠ some w.heap.size) (i : Nat) : w1.cell? ⟨w.heap.size, i, none⟩ = cs[i]? := by
  have hb : w1.heap[w.heap.size]? = (w.alloc (.cells cs t)).heap[w.heap.size]? := hg.block w.heap.size (by simp) (fun e => hr e.symm)
  rw [World.cell?_of_block (w := w.alloc (.cells cs t)) (a := ⟨w.heap.size, i, none⟩) hb]
  simp

/-- make behind the box of a struct. -/
theorem wpList_make_box (w : World) {cs : Array Value} {t0 : TypeId} {ops : Array Oper} {rest : List Oper} {o : Oper} {a : Act} {Q : Exit → Act → World → Prop}
    (hg : o.guard = none) (l c : Operand) (hop : o.op = Op.makeSlice 22 l c) (n : Nat) (hl : a.eval l = .int .i64 n) (hc : a.eval c = .int .i64 n) (hn : n ≤ 1000)
    (hK : ∀ w1, Kpt (∀ i, w1.cell? ⟨w.heap.size, i, none⟩ = cs[i]?) → Kpt (w1.ownsRow w.heap.size 5 1 (.slice (some ⟨w.heap.size + 1, 0, none⟩) n n) n (cels (List.replicate n 0))) → Kpt (Below w.heap.size w w1) →
      wpList Try.prog ops Q rest (a.put o.dst (.slice (some ⟨w.heap.size + 1, 0, none⟩) n n)) w1) :
    wpList Try.prog ops Q (o :: rest) a (w.alloc (.cells cs t0)) := by
  obtain ⟨i0, hi0, hz0, hz1, hz2⟩ := info_parts Try.info5
  have hsz : (w.alloc (.cells cs t0)).heap.size = w.heap.size + 1 := by simp
  refine wpList_make_full _ hg l c 22 hop w.heap.size 5 i0 (.int .u8 0) 1 Try.underlying22 hi0 hz0 hz1 .i64 .i64 n n n hl hc rfl rfl (by rw [hz2]; omega) (by unfold maxLen; omega) (by omega) ?_
  intro w1 hown hgr
  rw [hsz] at hown ⊢
  rw [made_u8] at hown
  refine hK w1 ⟨box_keep hgr (by simp)⟩ ⟨hown⟩ ⟨?_⟩
  exact ((Below.refl _ _).alloc (Nat.le_refl _) _).grown hgr (by omega) (fun k h => by cases h)


theorem wanted_free {o : Oper} (h : o.guard = none) (y : Nat → Option Bool) : Region.wanted o y = true := by unfold Region.wanted; rw [h]
theorem wanted_at (b : Bool) {o oj : Oper} {ops : Array Oper} {tmps : Array Value} {j d : Nat} (hg : o.guard = some (j, b)) (hj : ops[j]? = some oj) (hd : oj.dst = some d) (ht : tmps[d]? = some (.bool b)) : Region.wanted o (yielded ops tmps) = true := by
  unfold Region.wanted yielded
  rw [hg]
  simp [hj, hd, ht]
theorem below_drewN {B : Nat} {a w : World} (h : Below B a w) (n : Nat) : Below B a (w.drewN n) := ⟨h.os, h.tape, h.output, h.size, h.block⟩

/-- Put into a row of one's own. -/
theorem put_row (base g i n : Nat) (zs : List Int) (x : Int) (w : World) (hz : zs.length = 25) (ho : w.ownsRow base 5 1 (.slice (some ⟨g, 0, none⟩) 25 25) 25 (cels zs)) (hn1 : 1 ≤ n) (hn2 : n ≤ 8) (hi : i + n ≤ 25) (hx : 0 ≤ x) (hx2 : x < 2 ^ (8 * n)) :
    Calls Try.prog 42 #[.slice (some ⟨g, 0, none⟩) 25 25, .int .i64 i, .int .i64 n, .int .u64 x] w fun e w' => ∃ g', e = .returned (.tuple #[.slice (some ⟨g', 0, none⟩) 25 25, .int .i64 0]) ∧
      w'.ownsRow w.heap.size 5 1 (.slice (some ⟨g', 0, none⟩) 25 25) 25 (cels (B.asc zs i n x n)) ∧ Below w.heap.size w w' := by
  have := B.put_ok g 0 25 25 i n x zs w hz (by decide) hn1 hn2 hi hx (by simp; rw [Int.ediv_eq_zero_of_lt hx hx2]) (fun j hj => by rw [Nat.zero_add]; exact own_facts ho j hj)
  exact this

theorem cs_data (b : Bk) (h : b.ok) (j : Nat) (hj : j < 16) : b.vals[j]? = (cels b.d)[j]? := by
  unfold Bk.vals Bk.cs
  rw [List.getElem?_toArray, List.getElem?_append_left (by simp [h.len]; exact hj)]
theorem cs_tup (b : Bk) (h : b.ok) : b.vals[16]? = some (.int .u16 b.g) ∧ b.vals[17]? = some (.int .u16 b.a) ∧ b.vals[18]? = some (.int .u32 b.r) := by
  have hl : (cels b.d).length = 16 := by simp [h.len]
  refine ⟨?_, ?_, ?_⟩ <;> (unfold Bk.vals Bk.cs; rw [List.getElem?_toArray, List.getElem?_append_right (by omega), hl]; rfl)

set_option maxRecDepth 100000 in
set_option maxHeartbeats 1000000 in
theorem pack_any (b : Bk) (h : b.ok) (w : World) :
    Calls Try.prog 74 #[.agg b.vals] w fun e w' => ∃ g, e = .returned (.slice (some ⟨g, 0, none⟩) 25 25) ∧ w'.ownsRow w.heap.size 5 1 (.slice (some ⟨g, 0, none⟩) 25 25) 25 (cels (pkB b)) ∧ Below w.heap.size w w' := by
  have hdat := Kpt.mk (cs_data b h)
  obtain ⟨t0, t1, t2⟩ := cs_tup b h
  obtain ⟨V, hV⟩ : ∃ V, V = b.vals := ⟨_, rfl⟩
  rw [← hV] at hdat t0 t1 t2 ⊢
  have hlen := Kpt.mk (over_len b h)
  have hd16 := Kpt.mk h.len
  have hg := h.g
  have ha := h.a
  have hr := h.r
  clear h hV
  go_enter Try.func74, Try.ntmps74
  go_wp2_with (at_make; refine wpList_make_box w rfl _ _ rfl 25 rfl rfl (by decide) ?_; intro w1 hbox hown hbel; have p0 := own_facts hown.out 0 (by decide); have f0 := hown.out.frozenAt 0; simp at p0)
  obtain ⟨w2, hw2⟩ : ∃ w2, w2 = w1.setCell ⟨w.heap.size + 1, 0, none⟩ (.int .u8 1) := ⟨_, rfl⟩
  have ho2 : Kpt (w2.ownsRow w.heap.size 5 1 (.slice (some ⟨w.heap.size + 1, 0, none⟩) 25 25) 25 (cels ((List.replicate 25 0).set 0 1))) := ⟨by rw [hw2]; exact own_set hown.out 0 1⟩
  have hblk : w2.heap[w.heap.size]? = w1.heap[w.heap.size]? := by rw [hw2]; exact Below.heap_setCell _ _ _ _ (fun e => by simp at e)
  have hbx2 : Kpt (∀ i, w2.cell? ⟨w.heap.size, i, none⟩ = V[i]?) := ⟨fun i => (World.cell?_of_block (w := w1) (a := ⟨w.heap.size, i, none⟩) hblk).trans (hbox.out i)⟩
  have hbe2 : Kpt (Below w.heap.size w w2) := ⟨by rw [hw2]; exact hbel.out.setCell (p := ⟨w.heap.size + 1, 0, none⟩) (by simp) _⟩
  rw [← hw2]
  clear hw2 hblk p0 f0 hown hbox hbel
  refine wp_region_any (by kernel_rfl) ?_
  refine wpAny_of_C (C := fun _ => True) _ _ _ _ ?_
  refine wpAnyC_take 0 (.slice (some ⟨w.heap.size + 1, 0, none⟩) 25 25) rfl (by kernel_rfl) (by kernel_rfl) (by kernel_rfl) (fun _ _ _ h => h) (wanted_free rfl _) (fun W hW => by go_simp) ?_
  simp only [Act.put, List.getElem_toArray, List.getElem_cons_succ, List.getElem_cons_zero, List.setIfInBounds_toArray, List.set_cons_succ, List.set_cons_zero]
  refine wpAnyC_take 1 (.slice (some ⟨w.heap.size + 1, 1, none⟩) 24 24) rfl (by kernel_rfl) (by kernel_rfl) (by kernel_rfl) (fun _ _ _ h => h) (wanted_free rfl _) (fun W hW => by go_simp) ?_
  simp only [Act.put, List.getElem_toArray, List.getElem_cons_succ, List.getElem_cons_zero, List.setIfInBounds_toArray, List.set_cons_succ, List.set_cons_zero]
  refine wpAnyC_take 2 (.pointer (some ⟨w.heap.size, 0, none⟩)) rfl (by kernel_rfl) (by kernel_rfl) (by kernel_rfl) (fun _ _ _ h => h) (wanted_free rfl _) (fun W hW => by go_simp) ?_
  simp only [Act.put, List.getElem_toArray, List.getElem_cons_succ, List.getElem_cons_zero, List.setIfInBounds_toArray, List.set_cons_succ, List.set_cons_zero]
  refine wpAnyC_take 3 (.slice (some ⟨w.heap.size, 0, none⟩) 16 16) rfl (by kernel_rfl) (by kernel_rfl) (by kernel_rfl) (fun _ _ _ h => h) (wanted_free rfl _) (fun W hW => by go_simp) ?_
  simp only [Act.put, List.getElem_toArray, List.getElem_cons_succ, List.getElem_cons_zero, List.setIfInBounds_toArray, List.set_cons_succ, List.set_cons_zero]
  refine wpAnyC_one 4 trivial rfl (by kernel_rfl) (wanted_free rfl _) (fun KA hKA => ?_)
  have hrd : RdAt (w2.drewN 1) (.slice (some ⟨w.heap.size, 0, none⟩) 16 16) b.d := ⟨some ⟨w.heap.size, 0, none⟩, 16, (by rw [hd16.out]), (fun e => by cases e), (by rw [hd16.out]; exact Nat.le_refl _), .inr ⟨_, 0, rfl, fun j u hu => by
    have hj : j < 16 := by have := (List.getElem?_eq_some_iff.1 hu).1; rw [cels_length, hd16.out] at this; exact this
    rw [Nat.zero_add, ← hu, ← hdat.out j hj]
    exact hbx2.out j⟩⟩
  refine wp_copy_at (.tmp 8) (.tmp 10) rfl w.heap.size (w.heap.size + 1) 1 25 24 24 ((List.replicate 25 0).set 0 1) b.d _ rfl rfl ho2.out hrd (by rw [hd16.out]; decide) (by rw [hd16.out]; decide) (by rw [hd16.out]; decide) ?_
  intro w3 ho3 hg3
  refine hKA _ _ ?_
  simp only [Act.put, List.getElem_toArray, List.getElem_cons_succ, List.getElem_cons_zero, List.setIfInBounds_toArray, List.set_cons_succ, List.set_cons_zero]
  clear hKA KA
  refine wpAnyC_done trivial (by kernel_rfl) ?_
  have hbe3 : Kpt (Below w.heap.size w w3) := ⟨(below_drewN hbe2.out 1).grown hg3 hbe2.out.size (fun k hk => by cases hk; simp)⟩
  have hlt2 : w.heap.size < w2.heap.size := by have := (World.ownsRow.lt ho2.out (w.heap.size + 1) rfl).2; omega
  have hbx3 : Kpt (∀ i, w3.cell? ⟨w.heap.size, i, none⟩ = V[i]?) := ⟨fun i => (World.cell?_of_block (w := w2.drewN 1) (a := ⟨w.heap.size, i, none⟩) (hg3.block w.heap.size hlt2 (fun e => by simp at e))).trans (hbx2.out i)⟩
  have hlt3 : w.heap.size < w3.heap.size := Nat.lt_of_lt_of_le hlt2 hg3.size
  obtain ⟨Z3, hZ3⟩ : ∃ Z, Z = over ((List.replicate 25 (0 : Int)).set 0 1) 1 b.d := ⟨_, rfl⟩
  rw [← hZ3] at ho3 hlen
  have H1 := Kpt.mk (put_row w.heap.size (w.heap.size + 1) 17 2 Z3 b.g w3 hlen.out ho3 (by decide) (by decide) (by decide) hg.1 (by simp; omega))
  have q16 := (hbx3.out 16).trans t0
  clear ho2 hbx2 hbe2 hrd hg3 ho3
  go_wp2_with fail
  refine H1.out.mono ?_
  rintro e w4 ⟨g4, rfl, ho4, hb4⟩
  have hbe4 : Kpt (Below w.heap.size w w4) := ⟨hbe3.out.trans (hb4.mono hbe3.out.size)⟩
  have hlt4 : w.heap.size < w4.heap.size := Nat.lt_of_lt_of_le hlt3 hb4.size
  have hbx4 : Kpt (∀ i, w4.cell? ⟨w.heap.size, i, none⟩ = V[i]?) := ⟨fun i => (hb4.cell (p := ⟨w.heap.size, i, none⟩) hlt3).trans (hbx3.out i)⟩
  have H2 := Kpt.mk (put_row _ g4 19 2 (B.asc Z3 17 2 b.g 2) b.a w4 (by rw [asc_len]; exact hlen.out) ho4 (by decide) (by decide) (by decide) ha.1 (by simp; omega))
  have q17 := (hbx4.out 17).trans t1
  clear H1 hbe3 hbx3 q16 ho4 hb4
  go_wp2_with fail
  refine H2.out.mono ?_
  rintro e w5 ⟨g5, rfl, ho5, hb5⟩
  have hbe5 : Kpt (Below w.heap.size w w5) := ⟨hbe4.out.trans (hb5.mono hbe4.out.size)⟩
  have hlt5 : w.heap.size < w5.heap.size := Nat.lt_of_lt_of_le hlt4 hb5.size
  have hbx5 : Kpt (∀ i, w5.cell? ⟨w.heap.size, i, none⟩ = V[i]?) := ⟨fun i => (hb5.cell (p := ⟨w.heap.size, i, none⟩) hlt4).trans (hbx4.out i)⟩
  have H3 := Kpt.mk (put_row _ g5 21 4 (B.asc (B.asc Z3 17 2 b.g 2) 19 2 b.a 2) b.r w5 (by rw [asc_len, asc_len]; exact hlen.out) ho5 (by decide) (by decide) (by decide) hr.1 (by simp; omega))
  have q18 := (hbx5.out 18).trans t2
  clear H2 hbe4 hbx4 q17 ho5 hb5
  go_wp2_with fail
  refine H3.out.mono ?_
  rintro e w6 ⟨g6, rfl, ho6, hb6⟩
  have hbe6 : Kpt (Below w.heap.size w w6) := ⟨hbe5.out.trans (hb6.mono hbe5.out.size)⟩
  have ho : Kpt (w6.ownsRow w.heap.size 5 1 (.slice (some ⟨g6, 0, none⟩) 25 25) 25 (cels (pkB b))) := ⟨by
    unfold pkB
    rw [← hZ3]
    refine ⟨ho6.1, ?_⟩
    rcases ho6.2 with h | ⟨g', cap, cur, h0, h1, h2⟩
    · exact .inl h
    · exact .inr ⟨g', cap, cur, h0, Nat.le_trans hbe5.out.size h1, h2⟩⟩
  clear H3 hbe5 hbx5 q18 ho6 hb6
  go_wp2
  go_ret
  exact ⟨g6, rfl, ho.out, hbe6.out⟩
end Go.Proofs.Ytklboieemljmiab
