/-
  The contract of repeat.
-/
import Derived.Test.YtklboieemljmiaaMX
namespace Go.Proofs.Ytklboieemljmiaa
open Go.RowKit
set_option linter.unusedVariables false
set_option linter.unusedSimpArgs false
theorem setN_heap (g : Nat) (t : TypeId) (C : List Value) : ∀ (vs M A : List Value) (w : World) (p : Nat), vs.length = M.length → A.length = p → w.heap[g]? = some (.cells (A ++ (M ++ C)).toArray t (0, 0)) → (w.setCells g p vs).heap[g]? = some (.cells (A ++ (vs ++ C)).toArray t (0, 0))
  | [], [], A, w, p, _, _, h => by simpa [World.setCells] using h
  | [], m :: M, A, w, p, hl, _, _ => by simp at hl
  | v :: vs, [], A, w, p, hl, _, _ => by simp at hl
  | v :: vs, m :: M, A, w, p, hl, hp, h => by
    subst hp
    have h1 : (w.setCell ⟨g, A.length, none⟩ v).heap[g]? = some (.cells ((A ++ [v]) ++ (M ++ C)).toArray t (0, 0)) := by
      rw [setCell_eq_setRow w g A.length _ t (0, 0) v h, setRow_heap w g _ _ t (0, 0) h]
      simp
    have := setN_heap g t C vs M (A ++ [v]) (w.setCell ⟨g, A.length, none⟩ v) (A.length + 1) (by simpa using hl) (by simp) h1
    simpa [World.setCells] using this
/-- A block for another place. -/
def rpB (k : Int) (i : Nat) (b : Bk) : Bk := ⟨b.d, b.g, b.a, if hasB k = true then (i : Int) % 4294967296 else b.r⟩
def rpL (k : Int) (l : Nat) (b : Bk) (n : Nat) : List Bk := (List.range n).map (fun i => rpB k (l + i) b)
theorem rpL_len (k : Int) (l : Nat) (b : Bk) (n : Nat) : (rpL k l b n).length = n := by simp [rpL]
theorem rpL_succ (k : Int) (l : Nat) (b : Bk) (n : Nat) : rpL k l b (n + 1) = rpL k l b n ++ [rpB k (l + n) b] := by simp [rpL, List.range_succ]
theorem rpB_ok (k : Int) (i : Nat) (b : Bk) (h : b.ok) : (rpB k i b).ok := ⟨h.len, h.byte, h.g, h.a, by
  simp only [rpB]
  split
  · omega
  · exact h.r⟩
theorem rpL_ok (k : Int) (l : Nat) (b : Bk) (n : Nat) (h : b.ok) : ∀ x ∈ rpL k l b n, x.ok := fun x hx => by
  simp only [rpL, List.mem_map] at hx
  obtain ⟨i, _, rfl⟩ := hx
  exact rpB_ok k _ b h
theorem flat_rp (k : Int) (l : Nat) (b : Bk) (h : b.ok) (n : Nat) : (flat (rpL k l b n)).length = n * 19 := by rw [flat_len _ (rpL_ok k l b n h), rpL_len]

set_option maxRecDepth 100000 in
set_option maxHeartbeats 4000000 in
theorem repeat_any (D S l n : Nat) (k : Int) (b : Bk) (w : World) (hD : Bx w D (devV S k)) (hb : b.ok) (hn1 : 1 ≤ n) (hin : l + n ≤ 1000000) :
    Calls Try.prog 63 #[.pointer (some ⟨D, 0, none⟩), .agg b.vals, .int .u64 l, .int .i64 n] w fun e w' => ∃ g, e = .returned (.slice (some ⟨g, 0, none⟩) n n) ∧ w'.heap[g]? = some (.cells (flat (rpL k l b n)).toArray 76 (0, 0)) ∧ w.heap.size ≤ g ∧ Below w.heap.size w w' := by
  obtain ⟨i0, hi0, hz0, hz1, hz2⟩ := info_parts infoB3
  have hone := Kpt.mk b.one
  have hbs := Kpt.mk (Bk.size hb)
  have hfl := Kpt.mk (flat_rp k l b hb)
  have hVl : b.vals.toList = b.cs := rfl
  obtain ⟨V, hV⟩ : ∃ V, V = b.vals := ⟨_, rfl⟩
  rw [← hV] at hone hbs hVl ⊢
  replace hVl := Kpt.mk hVl
  have hDl := hD.lt
  have hcl : Kpt (b.cs.length = 19) := ⟨cs_len b hb⟩
  have hDK := Kpt.mk hD
  replace hz2 := Kpt.mk hz2
  have hb16 : Kpt (b.d.length = 16) := ⟨hb.len⟩
  clear hV hD hb
  go_enter Try.func63, Try.ntmps63
  go_wp2_with (first
      | (at_make; go_must (refine wpList_make_full _ rfl _ _ 46 rfl w1.heap.size 76 i0 (.agg zeroB) 19 Try.underlying46 hi0 hz0 hz1 .i64 .i64 _ _ n rfl rfl rfl rfl (by rw [hz2.out]; omega) (by unfold maxLen; omega) (Nat.le_refl _) ?_; intro w2 hown2 hg2; rw [made_zrow] at hown2; replace hown2 := Kpt.mk hown2; have hb2 : Kpt (Below w1.heap.size w1 w2) := ⟨(Below.refl _ _).grown hg2 (Nat.le_refl _) (fun k h => by cases h)⟩; clear hg2))
      | (refine wpList_box rfl 76 _ rfl V rfl ?_; intro bb w1 hl1 hX1 h1 _; have hB1 := Kpt.mk hX1; have hb1 := Kpt.mk h1; clear hX1 h1)
      | fail)
  have hh2 : Kpt (w2.heap[w1.heap.size]? = some (.cells (flat (rpL k l b 0) ++ zrow (n - 0)).toArray 76 (0, 0))) := ⟨by
    rcases hown2.out.2 with ⟨h0, _⟩ | ⟨g, cap, cur, h1, h2, h3, h4, h5, h6, h7⟩
    · cases h0
    · simp only [Value.slice.injEq, Option.some.injEq, Addr.mk.injEq, and_true, true_and] at h1
      obtain ⟨rfl, rfl⟩ := h1
      rw [h3, show flat (rpL k l b 0) = [] from rfl, List.nil_append, Nat.sub_zero, ← h7, List.take_of_length_le (by simp; omega)]⟩
  clear hown2
  obtain ⟨G, hG⟩ : ∃ G, G = w1.heap.size := ⟨_, rfl⟩
  rw [← hG] at hh2 ⊢
  have hGw : w.heap.size ≤ G := by rw [hG]; exact hb1.out.size
  have hbG : bb < G := by rw [hG]; exact hB1.out.lt
  have hDG : D < G := by omega
  have hB2 := Kpt.mk (hB1.out.below hb2.out hB1.out.lt)
  have hD2 := Kpt.mk ((hDK.out.below hb1.out hDK.out.lt).below hb2.out (by show D < w1.heap.size; rw [← hG]; exact hDG))
  have hbw : Kpt (Below w.heap.size w w2) := ⟨hb1.out.trans (hb2.out.mono hb1.out.size)⟩
  clear hG hB1 hDK hb1 hb2
  go_loopw [15] (fun t wr => ∃ j : Nat, j ≤ n ∧ t = .int .i64 j ∧ Kpt (wr.heap[G]? = some (.cells (flat (rpL k l b j) ++ zrow (n - j)).toArray 76 (0, 0))) ∧ Kpt (w2.grownBy wr (some G))) (fun t _ => n - (intOf t).toNat)
  case atStart => exact ⟨0, Nat.zero_le _, rfl, hh2, ⟨⟨rfl, rfl, rfl, Nat.le_refl _, fun _ _ _ => rfl⟩⟩⟩
  case round =>
    obtain ⟨j, hj, rfl, hh, hgr⟩ := hrel
    clear hh2
    have hBw := Kpt.mk (hB2.out.grown hgr.out (by simp; omega))
    have hDw := hD2.out.grown hgr.out (by simp; omega)
    obtain ⟨-, d1, dlt⟩ := dev_at hDw
    have hGl : G < wr.heap.size := heap_lt hh.out
    clear hDw
    by_cases hlt : j < n
    · have e1 : (j : Int) < n := by omega
      have hsp : flat (rpL k l b j) ++ zrow (n - j) = flat (rpL k l b j) ++ (zeroB.toList ++ zrow (n - (j + 1))) := by rw [show n - j = (n - (j + 1)) + 1 by omega, zrow]
      rw [hsp] at hh
      have hal : (flat (rpL k l b j)).length = j * 19 := hfl.out j
      have hth : wr.there G (j * 19) V.size := by rw [hbs.out]; exact there_of_heap hh.out _ _ (by simp [hal, zeroB])
      obtain ⟨w5, hw5⟩ : ∃ w5, w5 = wr.setCells G (j * 19) V.toList := ⟨_, rfl⟩
      have hh5 : w5.heap[G]? = some (.cells (flat (rpL k l b j) ++ (b.cs ++ zrow (n - (j + 1)))).toArray 76 (0, 0)) := by
        rw [hw5, hVl.out]
        exact setN_heap G 76 (zrow (n - (j + 1))) b.cs zeroB.toList (flat (rpL k l b j)) wr (j * 19) (by rw [hcl.out]; rfl) hal hh.out
      have hg5 : wr.grownBy w5 (some G) := by rw [hw5]; exact grown_setCells G _ _ wr
      have d5 := (far_cell hg5 ⟨D, 1, none⟩ dlt (by simp; omega)).trans d1
      have dlt5 : D < w5.heap.size := Nat.lt_of_lt_of_le dlt hg5.size
      have hgr5 : Kpt (w2.grownBy w5 (some G)) := ⟨grown_trans hgr.out hg5⟩
      have hsp5 : flat (rpL k l b j) ++ (b.cs ++ zrow (n - (j + 1))) = (flat (rpL k l b j) ++ (cels b.d ++ [.int .u16 b.g, .int .u16 b.a])) ++ ([.int .u32 b.r] ++ zrow (n - (j + 1))) := by simp [Bk.cs]
      have hal5 : (flat (rpL k l b j) ++ (cels b.d ++ [Value.int .u16 b.g, Value.int .u16 b.a])).length = j * 19 + 16 + 2 := by simp [hal, hb16.out]
      have c18 : w5.cell? ⟨G, j * 19 + 16 + 2, none⟩ = some (.int .u32 b.r) := by
        have := range_of (A := flat (rpL k l b j) ++ (cels b.d ++ [Value.int .u16 b.g, Value.int .u16 b.a])) (M := [.int .u32 b.r]) (C := zrow (n - (j + 1))) (o := j * 19 + 16 + 2) (by rw [← hsp5]; exact hh5) hal5
        have := this 0 _ rfl
        simpa using this
      have f18 : w5.frozen? ⟨G, j * 19 + 16 + 2, none⟩ = false := by
        have := there_of_heap hh5 (j * 19 + 16 + 2) 1 (by simp [hal, Bk.cs, hb16.out]; omega) 0 (by decide)
        simpa using this.2
      have hG5 : G < w5.heap.size := heap_lt hh5
      have ew : IntKind.u64.wrap ((l : Int) + j) = ((l + j : Nat) : Int) := by rw [IntKind.wrap_u64]; omega
      have ev : IntKind.u64.wrap (j : Int) = (j : Int) := by rw [IntKind.wrap_u64]; omega
      have eu : IntKind.u32.wrap ((l + j : Nat) : Int) = ((l + j : Nat) : Int) := by rw [IntKind.wrap_u32]; omega
      have hnx1 : hasB k = true → (w5.setCell ⟨G, j * 19 + 16 + 2, none⟩ (.int .u32 ((l + j : Nat) : Int))).heap[G]? = some (.cells (flat (rpL k l b (j + 1)) ++ zrow (n - (j + 1))).toArray 76 (0, 0)) := fun hk => by
        have := setN_heap G 76 (zrow (n - (j + 1))) [.int .u32 ((l + j : Nat) : Int)] [.int .u32 b.r] _ w5 (j * 19 + 16 + 2) rfl hal5 (by rw [← hsp5]; exact hh5)
        rw [show (w5.setCells G (j * 19 + 16 + 2) [.int .u32 ((l + j : Nat) : Int)]) = w5.setCell ⟨G, j * 19 + 16 + 2, none⟩ (.int .u32 ((l + j : Nat) : Int)) from rfl] at this
        rw [this, rpL_succ, flat_append, show flat [rpB k (l + j) b] = (rpB k (l + j) b).cs from by simp [flat]]
        have e32 : ((l + j : Nat) : Int) % 4294967296 = ((l + j : Nat) : Int) := by omega
        simp only [Bk.cs, rpB, hk, if_true, e32]
        simp
      have hnx0 : hasB k = false → w5.heap[G]? = some (.cells (flat (rpL k l b (j + 1)) ++ zrow (n - (j + 1))).toArray 76 (0, 0)) := fun hk => by
        rw [hh5, rpL_succ, flat_append, show flat [rpB k (l + j) b] = (rpB k (l + j) b).cs from by simp [flat]]
        simp only [Bk.cs, rpB, hk]
        simp
      obtain ⟨x, hx⟩ : ∃ x : Int, x = ((l + j : Nat) : Int) := ⟨_, rfl⟩
      rw [← hx] at ew eu hnx1
      replace hnx1 := Kpt.mk hnx1
      replace hnx0 := Kpt.mk hnx0
      replace hth := Kpt.mk hth
      have hw5K := Kpt.mk hw5
      clear hsp hal hh5 hg5 hsp5 hal5 hx hw5 hh hfl
      have mm : Kpt True := ⟨trivial⟩
      by_cases k1 : k = 1
      · subst k1
        go_wp2_with (first
          | (have hm := mm; refine wpList_load_bx rfl 76 _ rfl bb V rfl hBw.out _ Try.underlying76 rfl (by rw [hbs.out]; exact infoB) ?_)
          | (have hm := mm; refine (?_ : wpList _ _ _ (Oper.mk none (Op.store 76 _ _) _ _ _ _ :: _) _ _); go_must (refine wpList_plain rfl fun K hK => wp_store_mid 76 (.tmp 21) (.tmp 20) rfl G (j * 19) V rfl rfl hth.out (by rw [hbs.out]; exact infoB) hone.out (hK _ _ ?_); rw [← hw5K.out]; clear mm))
          | fail)
        go_roundw
        case rel => exact ⟨j + 1, by omega, by go_num, ⟨hnx1.out (by decide)⟩, ⟨grown_trans hgr5.out (grown_setCellK _ _ _)⟩⟩
        case measure => simp [intOf]; omega
      · have bk1 : (k == 1) = false := beq_eq_false_iff_ne.mpr k1
        by_cases k2 : k = 2
        · subst k2
          go_wp2_with (first
            | (have hm := mm; refine wpList_load_bx rfl 76 _ rfl bb V rfl hBw.out _ Try.underlying76 rfl (by rw [hbs.out]; exact infoB) ?_)
            | (have hm := mm; refine (?_ : wpList _ _ _ (Oper.mk none (Op.store 76 _ _) _ _ _ _ :: _) _ _); go_must (refine wpList_plain rfl fun K hK => wp_store_mid 76 (.tmp 21) (.tmp 20) rfl G (j * 19) V rfl rfl hth.out (by rw [hbs.out]; exact infoB) hone.out (hK _ _ ?_); rw [← hw5K.out]; clear mm))
            | fail)
          go_roundw
          case rel => exact ⟨j + 1, by omega, by go_num, ⟨hnx1.out (by decide)⟩, ⟨grown_trans hgr5.out (grown_setCellK _ _ _)⟩⟩
          case measure => simp [intOf]; omega
        · have bk2 : (k == 2) = false := beq_eq_false_iff_ne.mpr k2
          have hk0 : hasB k = false := by unfold hasB; exact decide_eq_false (by omega)
          go_wp2_with (first
            | (have hm := mm; refine wpList_load_bx rfl 76 _ rfl bb V rfl hBw.out _ Try.underlying76 rfl (by rw [hbs.out]; exact infoB) ?_)
            | (have hm := mm; refine (?_ : wpList _ _ _ (Oper.mk none (Op.store 76 _ _) _ _ _ _ :: _) _ _); go_must (refine wpList_plain rfl fun K hK => wp_store_mid 76 (.tmp 21) (.tmp 20) rfl G (j * 19) V rfl rfl hth.out (by rw [hbs.out]; exact infoB) hone.out (hK _ _ ?_); rw [← hw5K.out]; clear mm))
            | fail)
          go_roundw
          case rel => exact ⟨j + 1, by omega, by go_num, ⟨hnx0.out hk0⟩, hgr5⟩
          case measure => simp [intOf]; omega
    · have e1 : ¬ (j : Int) < n := by omega
      have ej : j = n := by omega
      subst ej
      go_wp2
      go_ret
      exact ⟨G, rfl, by rw [hh.out, Nat.sub_self, zrow, List.append_nil], hGw, hbw.out.grown hgr.out hbw.out.size (fun q hq => by cases hq; exact hGw)⟩
end Go.Proofs.Ytklboieemljmiaa
