/-
  The contracts of protect with tuples, unpack, come.
-/
import Derived.Test.YtklboieemljmiabVArm
namespace Go.Proofs.Ytklboieemljmiab
open Go.RowKit
set_option linter.unusedVariables false
set_option linter.unusedSimpArgs false
theorem Bks.below {w w' : World} {v : Value} {bs : List Bk} (h : Bks w v bs) (hb : Below w.heap.size w w') : Bks w' v bs := by
  obtain ⟨a, c, e, hm, h⟩ := h
  refine ⟨a, c, e, hm, fun j b hj => ?_⟩
  obtain ⟨hok, g, o, ha, hg, hr⟩ := h j b hj
  exact ⟨hok, g, o, ha, Nat.lt_of_lt_of_le hg hb.size, rangeAt_keep hr (hb.block g hg)⟩
/-- The blocks that bytes are. -/
def unBs (tb : Bool) (zs : List Int) (m : Nat) : List Bk := (List.range m).map (unB tb zs)
theorem unBs_len (tb : Bool) (zs : List Int) (m : Nat) : (unBs tb zs m).length = m := by simp [unBs]
theorem unBs_at (tb : Bool) (zs : List Int) (m j : Nat) (hj : j < m) : (unBs tb zs m)[j]? = some (unB tb zs j) := by simp [unBs, hj]
theorem unL_flat (tb : Bool) (zs : List Int) : ∀ m, unL tb zs m = flat (unBs tb zs m)
  | 0 => rfl
  | m + 1 => by
    show _ = flat ((List.range (m + 1)).map (unB tb zs))
    rw [List.range_succ, List.map_append, flat_append, unL, unL_flat tb zs m]
    simp [flat, unBs]
theorem unBs_ok (tb : Bool) (zs : List Int) (m : Nat) (hb : Bytes zs) (hl : zs.length = m * sz tb) : ∀ b ∈ unBs tb zs m, b.ok := fun b hb' => by
  simp only [unBs, List.mem_map, List.mem_range] at hb'
  obtain ⟨j, hj, rfl⟩ := hb'
  exact unB_ok tb zs j m hb hl hj
theorem rd_below {w w' : World} {v : Value} {zs : List Int} (h : RdAt w v zs) (hb : Below w.heap.size w w') : RdAt w' v zs := by
  obtain ⟨sa, sc, e, h1, h2, h3⟩ := h
  refine ⟨sa, sc, e, h1, h2, ?_⟩
  rcases h3 with h3 | ⟨b, off, ha, hc⟩
  · exact .inl h3
  · refine .inr ⟨b, off, ha, fun j u hu => ?_⟩
    have h4 := hc j u hu
    exact (hb.cell (p := ⟨b, off + j, none⟩) (World.block_lt_of_cell? w _ h4)).trans h4
/-- Unpack of any bytes. -/
theorem upk_any (tb : Bool) (a : Option Addr) (n cp : Nat) (zs : List Int) (w : World) (hr : RdAt w (.slice a n cp) zs) (hl : zs.length = n) (hb : Bytes zs) (hn : n ≤ 140737488355328) :
    Calls Try.prog 65 #[.slice a n cp, .bool tb] w fun e w' => Below w.heap.size w w' ∧ if n % sz tb = 0 then ∃ g, e = .returned (.tuple #[.slice (some ⟨g, 0, none⟩) (n / sz tb) (n / sz tb), .bool true]) ∧ w'.heap[g]? = some (.cells (flat (unBs tb zs (n / sz tb))).toArray 81 (0, 0)) ∧ w.heap.size ≤ g else e = .returned (.tuple #[.slice none 0 0, .bool false]) := by
  cases tb with
  | false =>
    by_cases hm : n % 16 = 0
    · refine (unpack_false a n cp (n / 16) zs w hr hl (by omega) hb hn).mono ?_
      rintro e w' ⟨g, h1, h2, h3, h4⟩
      refine ⟨h4, ?_⟩
      rw [if_pos (show n % sz false = 0 from hm)]
      exact ⟨g, h1, by rw [← unL_flat]; exact h2, h3⟩
    · refine (unpack_no_false a n cp w (by unfold maxLen; omega) hm).mono ?_
      rintro e w' ⟨h1, rfl⟩
      refine ⟨Below.refl _ _, ?_⟩
      rw [if_neg (show ¬ n % sz false = 0 from hm)]
      exact h1
  | true =>
    by_cases hm : n % 24 = 0
    · refine (unpack_true a n cp (n / 24) zs w hr hl (by omega) hb hn).mono ?_
      rintro e w' ⟨g, h1, h2, h3, h4⟩
      refine ⟨h4, ?_⟩
      rw [if_pos (show n % sz true = 0 from hm)]
      exact ⟨g, h1, by rw [← unL_flat]; exact h2, h3⟩
    · refine (unpack_no_true a n cp w (by unfold maxLen; omega) hm).mono ?_
      rintro e w' ⟨h1, rfl⟩
      refine ⟨Below.refl _ _, ?_⟩
      rw [if_neg (show ¬ n % sz true = 0 from hm)]
      exact h1
set_option maxRecDepth 100000 in
set_option maxHeartbeats 4000000 in
theorem protect_t (D S l : Nat) (k : Int) (c : Cm) (a : Option Addr) (n cp : Nat) (bs : List Bk) (w : World) (hD : Bx w D (devV S k)) (h0 : 0 ≤ k) (h1 : k ≤ 255) (p0 : 0 ≤ c.pr) (p1 : c.pr ≤ 255) (hpr : c.pr ≠ 0) (hl : c.lba = l) (hin : l + n ≤ 1000000) (hv : Bks w (.slice a n cp) bs) (hn : bs.length = n) :
    Calls Try.prog 53 #[.pointer (some ⟨D, 0, none⟩), .agg c.vals, .slice a n cp] w fun e w' => e = .returned (.agg (lookS k c.pr l bs).vals) ∧ Below w.heap.size w w' := by
  have HT := withT_any c
  rw [show (c.pr != 0) = true from by simpa using hpr] at HT
  have HL := fun W (h : Below w.heap.size w W) => look_any D S l k c a n cp bs W (hD.below h hD.lt) h0 h1 p0 p1 hl hin (hv.below h) hn
  obtain ⟨s, hs⟩ : ∃ s, s = lookS k c.pr l bs := ⟨_, rfl⟩
  rw [← hs] at HL ⊢
  have hCs : c.vals.size = 15 := rfl
  obtain ⟨CV, hCV⟩ : ∃ CV, CV = c.vals := ⟨_, rfl⟩
  rw [← hCV] at hCs  HT HL ⊢
  replace hCs := Kpt.mk hCs
  clear hCV
  replace HT := Kpt.mk HT
  replace HL := Kpt.mk HL
  clear hD hv hl hpr hs p0 p1
  go_enter Try.func53, Try.ntmps53
  go_wp2_with (first
      | (refine wpList_sen s br zeroS _ _ rfl rfl rfl rfl hRr.out rfl rfl w.heap.size hb.out (Nat.le_refl _) hrl.out ?_; intro w9 hB9 hb9 _; have m9 : Kpt True := ⟨trivial⟩)
      | (go_at_call 24; have hm := m3; refine (HL.out _ hb.out).mono ?_; rintro e w4 ⟨rfl, h4⟩; replace hRr := Kpt.mk (hRr.out.below h4 hRr.out.lt); replace hb := Kpt.mk (hb.out.trans (h4.mono hb.out.size)); skip)
      | (go_at_call 15; refine (HT.out _).mono ?_; rintro e w3 ⟨rfl, h3⟩; have m3 : Kpt True := ⟨trivial⟩; replace hC := Kpt.mk (hC.out.below h3 hC.out.lt); replace hRr := Kpt.mk (hRr.out.below h3 hRr.out.lt); replace hb := Kpt.mk (hb.out.trans (h3.mono hb.out.size)); skip)
      | (refine wpList_load_bx rfl 38 _ rfl bc CV rfl hC.out _ Try.underlying38 rfl (by rw [hCs.out]; exact infoC) ?_)
      | (refine wpList_var rfl 32 rfl zeroS zeroSi ?_; intro br wr hrl hRr h_; replace hRr := Kpt.mk hRr; replace hC := Kpt.mk (hC.out.below h_ hC.out.lt); replace hb := Kpt.mk (hb.out.trans (h_.mono hb.out.size)); clear h_; replace hrl : Kpt (w.heap.size ≤ br) := ⟨Nat.le_trans (hbs.out) hrl⟩; skip)
      | (refine wpList_box rfl 38 _ rfl CV rfl ?_; intro bc wC hcl hC hC_ _; replace hC := Kpt.mk hC; have hb := Kpt.mk hC_; replace hcl := Kpt.mk hcl; clear hC_; have hbs := Kpt.mk hb.out.size; skip)
      | fail)
  refine bodyPost_ret (v := .agg s.vals) (by simp [results, Try.results53, asAddr, Act.put, res_run hB9]) rfl ⟨rfl, hb9⟩

end Go.Proofs.Ytklboieemljmiab
