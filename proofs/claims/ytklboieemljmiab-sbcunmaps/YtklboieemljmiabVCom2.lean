/-
  The contract of come.
-/
import Derived.Test.YtklboieemljmiabVUnp
namespace Go.Proofs.Ytklboieemljmiab
open Go.RowKit
set_option linter.unusedVariables false
set_option linter.unusedSimpArgs false
theorem heap_keep {w w' : World} {g : Nat} {o : Obj} (h : w.heap[g]? = some o) (hb : Below w.heap.size w w') : w'.heap[g]? = some o := (hb.block g (Array.getElem?_eq_some_iff.1 h).1).trans h
theorem heap_grown {w w' : World} {g b : Nat} {o : Obj} (h : w.heap[g]? = some o) (hb : w.grownBy w' (some b)) (hne : g ≠ b) : w'.heap[g]? = some o := (hb.block g (Array.getElem?_eq_some_iff.1 h).1 (by simp; omega)).trans h
theorem heap_lt {w : World} {g : Nat} {o : Obj} (h : w.heap[g]? = some o) : g < w.heap.size := (Array.getElem?_eq_some_iff.1 h).1
/-- Blocks in a row of their own can be read. -/
theorem bks_flat {w : World} {g o : Nat} {P : List Value} {bs : List Bk} {C : List Value} (h : w.heap[g]? = some (.cells (P ++ (flat bs ++ C)).toArray 81 (0, 0))) (hP : P.length = o) (hok : ∀ b ∈ bs, b.ok) (n cp : Nat) (hn : bs.length = n) (hm : n ≤ maxLen) : Bks w (.slice (some ⟨g, o, none⟩) n cp) bs := by
  refine ⟨some ⟨g, o, none⟩, cp, by rw [hn], by rw [hn]; exact hm, fun j b hj => ⟨hok b (List.mem_of_getElem? hj), g, o, rfl, heap_lt h, ?_⟩⟩
  have hj' := (List.getElem?_eq_some_iff.1 hj).1
  have hsp : bs = bs.take j ++ (b :: bs.drop (j + 1)) := by
    have e : bs.drop j = b :: bs.drop (j + 1) := by rw [List.drop_eq_getElem_cons hj']; congr 1; exact (List.getElem?_eq_some_iff.1 hj).2
    rw [← e, List.take_append_drop]
  have hfl : (flat (bs.take j)).length = j * 19 := by rw [flat_len _ (fun x hx => hok x (List.mem_of_mem_take hx)), List.length_take, Nat.min_eq_left (by omega)]
  rw [hsp, flat_append, flat_cons] at h
  exact range_of (t := 81) (A := P ++ flat (bs.take j)) (C := flat (bs.drop (j + 1)) ++ C) (by rw [h]; simp) (by rw [List.length_append, hP, hfl])
theorem bks_row {w : World} {g : Nat} {bs : List Bk} (h : w.heap[g]? = some (.cells (flat bs).toArray 81 (0, 0))) (hok : ∀ b ∈ bs, b.ok) (n cp : Nat) (hn : bs.length = n) (hm : n ≤ maxLen) : Bks w (.slice (some ⟨g, 0, none⟩) n cp) bs :=
  bks_flat (P := []) (C := []) (by simpa using h) rfl hok n cp hn hm
theorem Below.ofGrown {w w' : World} {n g : Nat} (h : w.grownBy w' (some g)) (hn : n ≤ w.heap.size) (hg : n ≤ g) : Below n w w' := (Below.refl _ _).grown h hn (fun q hq => by cases hq; exact hg)

set_option maxRecDepth 100000 in
set_option maxHeartbeats 400000 in
theorem come_0 (D S l : Nat) (k : Int) (c : Cm) (a : Option Addr) (n cp m : Nat) (zs : List Int) (w : World) (hD : Bx w D (devV S k)) (h0 : 0 ≤ k) (h1 : k ≤ 255) (hl : c.lba = l) (hin : l + m ≤ 1000000) (hr : RdAt w (.slice a n cp) zs) (hlz : zs.length = n) (hby : Bytes zs) (hpr : c.pr = 0) (hm : n = m * 16) :
    Calls Try.prog 43 #[.pointer (some ⟨D, 0, none⟩), .agg c.vals, .slice a n cp, .int .i64 m] w fun e w' => ∃ g, e = .returned (.tuple #[.slice (some ⟨g, 0, none⟩) m m, .agg (noS).vals]) ∧ w'.heap[g]? = some (.cells (flat (prL k l (unBs false zs m))).toArray 81 (0, 0)) ∧ w.heap.size ≤ g ∧ Below w.heap.size w w' := by
  have etb : (c.pr != 0) = false := by rw [hpr]; rfl
  have HU := fun W (h : Below w.heap.size w W) => dunpack_yes c a n cp m zs W (rd_below hr h) hlz hby (by omega) (by omega) (by rw [etb]; exact hm)
  simp only [etb] at HU
  have hbo : ∀ b ∈ unBs false zs m, b.ok := unBs_ok false zs m hby (by rw [hlz, hm]; rfl)
  have HP := fun W g (hD : Bx W D (devV S k)) (hg : W.heap[g]? = some (.cells (flat (unBs false zs m)).toArray 81 (0, 0))) (hne : g ≠ D) => protect_0 D S l g 0 k c m m [] (unBs false zs m) W hD h0 h1 hpr hl hin (by simpa using hg) rfl (unBs_len _ _ _) (Nat.le_refl _) hbo hne
  simp only [List.nil_append] at HP
  have HE := Kpt.mk (fun W => ended_any noS W)
  rw [show (noS.key != 0) = false from rfl] at HE
  have hCs : c.vals.size = 15 := rfl
  obtain ⟨CV, hCV⟩ : ∃ CV, CV = c.vals := ⟨_, rfl⟩
  rw [← hCV] at hCs  HU HP ⊢
  replace hCs := Kpt.mk hCs
  clear hCV
  have hDl := hD.lt
  replace hD := Kpt.mk hD
  replace HU := Kpt.mk HU
  replace HP := Kpt.mk HP
  replace hm := Kpt.mk hm
  clear hr hbo etb hl hlz hpr
  obtain ⟨X, hX⟩ : ∃ X, X = (flat (prL k l (unBs false zs m))).toArray := ⟨_, rfl⟩
  rw [← hX] at HP ⊢
  obtain ⟨Y, hY⟩ : ∃ Y, Y = (flat (unBs false zs m)).toArray := ⟨_, rfl⟩
  rw [← hY] at HU HP
  clear hX hY
  go_enter Try.func43, Try.ntmps43
  go_wp2_with (first
      | (refine wpList_sen (noS) br zeroS _ _ rfl rfl rfl rfl hRr.out rfl rfl w.heap.size hb.out (Nat.le_refl _) hrl.out ?_; intro w9 hB9 hb9 hg9; replace hg6 := Kpt.mk (heap_grown hg6.out hg9 (by omega)))
      | (go_at_call 53; have hm := m5; go_must (refine (HP.out _ g hD.out hg.out (by omega)).mono ?_; rintro e w6 ⟨rfl, hg6, hgr6⟩; replace hg6 := Kpt.mk hg6; replace hRr := Kpt.mk (hRr.out.grown hgr6 (by simp; omega)); replace hb := Kpt.mk (hb.out.trans (Below.ofGrown hgr6 hb.out.size (by omega)))))
      | (go_at_call 11; go_must (refine (HE.out _).mono ?_; rintro e w5 ⟨rfl, h5⟩; have m5 : Kpt True := ⟨trivial⟩; replace hg := Kpt.mk (heap_keep hg.out h5); replace hC := Kpt.mk (hC.out.below h5 hC.out.lt); replace hRr := Kpt.mk (hRr.out.below h5 hRr.out.lt); replace hD := Kpt.mk (hD.out.below h5 hD.out.lt); replace hb := Kpt.mk (hb.out.trans (h5.mono hb.out.size)); skip))
      | (refine wpList_load_bx rfl 32 _ rfl by_ noS.vals rfl hRy.out _ Try.underlying32 rfl infoS ?_)
      | (refine wpList_sen (noS) by_ zeroS _ _ rfl rfl rfl rfl hRy.out rfl rfl w.heap.size hb.out (Nat.le_refl _) hyl.out ?_; intro w8 hB8 hb8 hg8; replace hRy := Kpt.mk hB8; replace hg := Kpt.mk (heap_grown hg.out hg8 (by omega)); replace hC := Kpt.mk (hC.out.grown hg8 (by simp; omega)); replace hRr := Kpt.mk (hRr.out.grown hg8 (by simp; omega)); replace hD := Kpt.mk (hD.out.grown hg8 (by simp; omega)); replace hb := Kpt.mk hb8)
      | (have hm := m3; refine wpList_var rfl 32 rfl zeroS zeroSi ?_; intro by_ wy hyl hRy h_; have hy4_ := hyl; replace hRy := Kpt.mk hRy; have hb0 := Kpt.mk hb.out.size; replace hC := Kpt.mk (hC.out.below h_ hC.out.lt); replace hRr := Kpt.mk (hRr.out.below h_ hRr.out.lt); replace hD := Kpt.mk (hD.out.below h_ hD.out.lt); replace hb := Kpt.mk (hb.out.trans (h_.mono hb.out.size)); replace hyl : Kpt (w.heap.size ≤ by_) := ⟨Nat.le_trans (hb0.out) hyl⟩; have hy4 : w4.heap.size ≤ by_ := hy4_; have hgy : g < by_ := Nat.lt_of_lt_of_le (heap_lt hg.out) hy4_; replace hg := Kpt.mk (heap_keep hg.out h_); clear h_)
      | (go_at_call 45; go_must (refine (HU.out _ hb.out).mono ?_; rintro e w4 ⟨g, rfl, hg, hgl, h4⟩; have m3 : Kpt True := ⟨trivial⟩; have hrlt := hRr.out.lt; have hclt := hC.out.lt; have hdlt := hD.out.lt; have hsz4 := hb.out.size; have hs4 := h4.size; replace hg := Kpt.mk hg; replace hC := Kpt.mk (hC.out.below h4 hC.out.lt); replace hRr := Kpt.mk (hRr.out.below h4 hRr.out.lt); replace hD := Kpt.mk (hD.out.below h4 hD.out.lt); replace hb := Kpt.mk (hb.out.trans (h4.mono hb.out.size)); skip))
      | (refine wpList_load_bx rfl 38 _ rfl bc CV rfl hC.out _ Try.underlying38 rfl (by rw [hCs.out]; exact infoC) ?_)
      | (refine wpList_var rfl 32 rfl zeroS zeroSi ?_; intro br wr hrl hRr h_; replace hRr := Kpt.mk hRr; replace hC := Kpt.mk (hC.out.below h_ hC.out.lt); replace hD := Kpt.mk (hD.out.below h_ hD.out.lt); replace hb := Kpt.mk (hb.out.trans (h_.mono hb.out.size)); replace hrl : Kpt (w.heap.size ≤ br) := ⟨Nat.le_trans (hbs.out) hrl⟩; clear h_)
      | (refine wpList_box rfl 38 _ rfl CV rfl ?_; intro bc wC hcl hC hC_ _; replace hC := Kpt.mk hC; replace hD := Kpt.mk (hD.out.below hC_ hD.out.lt); have hb := Kpt.mk hC_; replace hcl := Kpt.mk hcl; clear hC_; have hbs := Kpt.mk hb.out.size; skip)
      | fail)
  refine bodyPost_ret (v := .tuple #[.slice (some ⟨g, 0, none⟩) m m, .agg (noS).vals]) (by simp [results, Try.results43, asAddr, Act.put, res_run hB9]) rfl ⟨g, rfl, hg6.out, by omega, hb9⟩

set_option maxRecDepth 100000 in
set_option maxHeartbeats 400000 in
theorem come_t (D S l : Nat) (k : Int) (c : Cm) (a : Option Addr) (n cp m : Nat) (zs : List Int) (w : World) (hD : Bx w D (devV S k)) (h0 : 0 ≤ k) (h1 : k ≤ 255) (hl : c.lba = l) (hin : l + m ≤ 1000000) (hr : RdAt w (.slice a n cp) zs) (hlz : zs.length = n) (hby : Bytes zs) (p0 : 0 ≤ c.pr) (p1 : c.pr ≤ 255) (hpr : c.pr ≠ 0) (hm : n = m * 24) :
    Calls Try.prog 43 #[.pointer (some ⟨D, 0, none⟩), .agg c.vals, .slice a n cp, .int .i64 m] w fun e w' => ∃ g, e = .returned (.tuple #[.slice (some ⟨g, 0, none⟩) m m, .agg (lookS k c.pr l (unBs true zs m)).vals]) ∧ w'.heap[g]? = some (.cells (flat (unBs true zs m)).toArray 81 (0, 0)) ∧ w.heap.size ≤ g ∧ Below w.heap.size w w' := by
  have etb : (c.pr != 0) = true := by simpa using hpr
  have HU := fun W (h : Below w.heap.size w W) => dunpack_yes c a n cp m zs W (rd_below hr h) hlz hby (by omega) (by omega) (by rw [etb]; exact hm)
  simp only [etb] at HU
  have hbo : ∀ b ∈ unBs true zs m, b.ok := unBs_ok true zs m hby (by rw [hlz, hm]; rfl)
  have HP := fun W g (hD : Bx W D (devV S k)) (hg : W.heap[g]? = some (.cells (flat (unBs true zs m)).toArray 81 (0, 0))) => protect_t D S l k c (some ⟨g, 0, none⟩) m m (unBs true zs m) W hD h0 h1 p0 p1 hpr hl hin (bks_row hg hbo m m (unBs_len _ _ _) (by unfold maxLen; omega)) (unBs_len _ _ _)
  obtain ⟨s, hs⟩ : ∃ s, s = lookS k c.pr l (unBs true zs m) := ⟨_, rfl⟩
  rw [← hs] at HP ⊢
  have HE := Kpt.mk (fun W => ended_any noS W)
  rw [show (noS.key != 0) = false from rfl] at HE
  have hCs : c.vals.size = 15 := rfl
  obtain ⟨CV, hCV⟩ : ∃ CV, CV = c.vals := ⟨_, rfl⟩
  rw [← hCV] at hCs  HU HP ⊢
  replace hCs := Kpt.mk hCs
  clear hCV
  have hDl := hD.lt
  replace hD := Kpt.mk hD
  replace HU := Kpt.mk HU
  replace HP := Kpt.mk HP
  replace hm := Kpt.mk hm
  clear hr hbo etb hl hlz hpr
  obtain ⟨X, hX⟩ : ∃ X, X = (flat (unBs true zs m)).toArray := ⟨_, rfl⟩
  rw [← hX] at HP ⊢
  rw [← hX] at HU
  clear hX hs
  go_enter Try.func43, Try.ntmps43
  go_wp2_with (first
      | (refine wpList_sen (s) br zeroS _ _ rfl rfl rfl rfl hRr.out rfl rfl w.heap.size hb.out (Nat.le_refl _) hrl.out ?_; intro w9 hB9 hb9 hg9; replace hg6 := Kpt.mk (heap_grown hg6.out hg9 (by omega)))
      | (go_at_call 53; have hm := m5; go_must (refine (HP.out _ g hD.out hg.out).mono ?_; rintro e w6 ⟨rfl, h6⟩; have hg6 := Kpt.mk (heap_keep hg.out h6); replace hRr := Kpt.mk (hRr.out.below h6 hRr.out.lt); replace hb := Kpt.mk (hb.out.trans (h6.mono hb.out.size)); skip))
      | (go_at_call 11; go_must (refine (HE.out _).mono ?_; rintro e w5 ⟨rfl, h5⟩; have m5 : Kpt True := ⟨trivial⟩; replace hg := Kpt.mk (heap_keep hg.out h5); replace hC := Kpt.mk (hC.out.below h5 hC.out.lt); replace hRr := Kpt.mk (hRr.out.below h5 hRr.out.lt); replace hD := Kpt.mk (hD.out.below h5 hD.out.lt); replace hb := Kpt.mk (hb.out.trans (h5.mono hb.out.size)); skip))
      | (refine wpList_load_bx rfl 32 _ rfl by_ noS.vals rfl hRy.out _ Try.underlying32 rfl infoS ?_)
      | (refine wpList_sen (noS) by_ zeroS _ _ rfl rfl rfl rfl hRy.out rfl rfl w.heap.size hb.out (Nat.le_refl _) hyl.out ?_; intro w8 hB8 hb8 hg8; replace hRy := Kpt.mk hB8; replace hg := Kpt.mk (heap_grown hg.out hg8 (by omega)); replace hC := Kpt.mk (hC.out.grown hg8 (by simp; omega)); replace hRr := Kpt.mk (hRr.out.grown hg8 (by simp; omega)); replace hD := Kpt.mk (hD.out.grown hg8 (by simp; omega)); replace hb := Kpt.mk hb8)
      | (have hm := m3; refine wpList_var rfl 32 rfl zeroS zeroSi ?_; intro by_ wy hyl hRy h_; have hy4_ := hyl; replace hRy := Kpt.mk hRy; have hb0 := Kpt.mk hb.out.size; replace hC := Kpt.mk (hC.out.below h_ hC.out.lt); replace hRr := Kpt.mk (hRr.out.below h_ hRr.out.lt); replace hD := Kpt.mk (hD.out.below h_ hD.out.lt); replace hb := Kpt.mk (hb.out.trans (h_.mono hb.out.size)); replace hyl : Kpt (w.heap.size ≤ by_) := ⟨Nat.le_trans (hb0.out) hyl⟩; have hy4 : w4.heap.size ≤ by_ := hy4_; have hgy : g < by_ := Nat.lt_of_lt_of_le (heap_lt hg.out) hy4_; replace hg := Kpt.mk (heap_keep hg.out h_); clear h_)
      | (go_at_call 45; go_must (refine (HU.out _ hb.out).mono ?_; rintro e w4 ⟨g, rfl, hg, hgl, h4⟩; have m3 : Kpt True := ⟨trivial⟩; have hrlt := hRr.out.lt; have hclt := hC.out.lt; have hdlt := hD.out.lt; have hsz4 := hb.out.size; have hs4 := h4.size; replace hg := Kpt.mk hg; replace hC := Kpt.mk (hC.out.below h4 hC.out.lt); replace hRr := Kpt.mk (hRr.out.below h4 hRr.out.lt); replace hD := Kpt.mk (hD.out.below h4 hD.out.lt); replace hb := Kpt.mk (hb.out.trans (h4.mono hb.out.size)); skip))
      | (refine wpList_load_bx rfl 38 _ rfl bc CV rfl hC.out _ Try.underlying38 rfl (by rw [hCs.out]; exact infoC) ?_)
      | (refine wpList_var rfl 32 rfl zeroS zeroSi ?_; intro br wr hrl hRr h_; replace hRr := Kpt.mk hRr; replace hC := Kpt.mk (hC.out.below h_ hC.out.lt); replace hD := Kpt.mk (hD.out.below h_ hD.out.lt); replace hb := Kpt.mk (hb.out.trans (h_.mono hb.out.size)); replace hrl : Kpt (w.heap.size ≤ br) := ⟨Nat.le_trans (hbs.out) hrl⟩; clear h_)
      | (refine wpList_box rfl 38 _ rfl CV rfl ?_; intro bc wC hcl hC hC_ _; replace hC := Kpt.mk hC; replace hD := Kpt.mk (hD.out.below hC_ hD.out.lt); have hb := Kpt.mk hC_; replace hcl := Kpt.mk hcl; clear hC_; have hbs := Kpt.mk hb.out.size; skip)
      | fail)
  refine bodyPost_ret (v := .tuple #[.slice (some ⟨g, 0, none⟩) m m, .agg (s).vals]) (by simp [results, Try.results43, asAddr, Act.put, res_run hB9]) rfl ⟨g, rfl, hg6.out, by omega, hb9⟩

end Go.Proofs.Ytklboieemljmiab
