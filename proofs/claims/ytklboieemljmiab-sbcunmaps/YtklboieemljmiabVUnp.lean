/-
  The contracts of unpack, come.
-/
import Derived.Test.YtklboieemljmiabVCome
namespace Go.Proofs.Ytklboieemljmiab
open Go.RowKit
set_option linter.unusedVariables false
set_option linter.unusedSimpArgs false
set_option maxRecDepth 100000 in
set_option maxHeartbeats 4000000 in
theorem dunpack_yes (c : Cm) (a : Option Addr) (n cp m : Nat) (zs : List Int) (w : World) (hr : RdAt w (.slice a n cp) zs) (hl : zs.length = n) (hby : Bytes zs) (hn : n ≤ 140737488355328) (hmb : m < 9223372036854775808) (hm : n = m * sz (c.pr != 0)) :
    Calls Try.prog 45 #[.agg c.vals, .slice a n cp, .int .i64 m] w fun e w' => ∃ g, e = .returned (.tuple #[.slice (some ⟨g, 0, none⟩) m m, .agg noS.vals]) ∧ w'.heap[g]? = some (.cells (flat (unBs (c.pr != 0) zs m)).toArray 81 (0, 0)) ∧ w.heap.size ≤ g ∧ Below w.heap.size w w' := by
  have HT := withT_any c
  obtain ⟨tb, htb⟩ : ∃ tb, tb = (c.pr != 0) := ⟨_, rfl⟩
  rw [← htb] at HT hm ⊢
  have HU := fun W (h : Below w.heap.size w W) => upk_any tb a n cp zs W (rd_below hr h) hl hby hn
  have hs0 : 0 < sz tb := by cases tb <;> decide
  have e1 : n % sz tb = 0 := by rw [hm]; exact Nat.mul_mod_left _ _
  have e2 : n / sz tb = m := by rw [hm]; exact Nat.mul_div_cancel _ hs0
  simp only [if_pos e1, e2] at HU
  have hCs : c.vals.size = 15 := rfl
  obtain ⟨CV, hCV⟩ : ∃ CV, CV = c.vals := ⟨_, rfl⟩
  rw [← hCV] at hCs  HT ⊢
  replace hCs := Kpt.mk hCs
  clear hCV
  replace HT := Kpt.mk HT
  replace HU := Kpt.mk HU
  replace hm := Kpt.mk hm
  have em : ((m : Int) != m) = false := by simp
  clear hr htb e1 e2 hl hs0
  go_enter Try.func45, Try.ntmps45
  go_wp2_with (first
      | (refine wpList_sen (noS) br zeroS _ _ rfl rfl rfl rfl hRr.out rfl rfl w.heap.size hb.out (Nat.le_refl _) hrl.out ?_; intro w9 hB9 hb9 hg9; skip)
      | (go_at_call 65; have hm3 := m3; refine (HU.out _ hb.out).mono ?_; rintro e w4 ⟨h4, g, rfl, hg4, hgl⟩; have hrlt := hRr.out.lt; replace hg4 := Kpt.mk hg4; replace hRr := Kpt.mk (hRr.out.below h4 hRr.out.lt); replace hb := Kpt.mk (hb.out.trans (h4.mono hb.out.size)); skip)
      | (go_at_call 15; refine (HT.out _).mono ?_; rintro e w3 ⟨rfl, h3⟩; have m3 : Kpt True := ⟨trivial⟩; replace hC := Kpt.mk (hC.out.below h3 hC.out.lt); replace hRr := Kpt.mk (hRr.out.below h3 hRr.out.lt); replace hb := Kpt.mk (hb.out.trans (h3.mono hb.out.size)); have hbs3 := hb.out.size; skip)
      | (refine wpList_load_bx rfl 38 _ rfl bc CV rfl hC.out _ Try.underlying38 rfl (by rw [hCs.out]; exact infoC) ?_)
      | (refine wpList_var rfl 32 rfl zeroS zeroSi ?_; intro br wr hrl hRr h_; replace hRr := Kpt.mk hRr; replace hC := Kpt.mk (hC.out.below h_ hC.out.lt); replace hb := Kpt.mk (hb.out.trans (h_.mono hb.out.size)); clear h_; replace hrl : Kpt (w.heap.size ≤ br) := ⟨Nat.le_trans (hbs.out) hrl⟩; skip)
      | (refine wpList_box rfl 38 _ rfl CV rfl ?_; intro bc wC hcl hC hC_ _; replace hC := Kpt.mk hC; have hb := Kpt.mk hC_; replace hcl := Kpt.mk hcl; clear hC_; have hbs := Kpt.mk hb.out.size; skip)
      | fail)
  refine bodyPost_ret (v := .tuple #[.slice (some ⟨g, 0, none⟩) m m, .agg noS.vals]) (by simp [results, Try.results45, asAddr, Act.put, res_run hB9]) rfl ⟨g, rfl, ?_, ?_, hb9⟩
  · rw [hg9.block g (Array.getElem?_eq_some_iff.1 hg4.out).1 (by simp; omega)]; exact hg4.out
  · omega

set_option maxRecDepth 100000 in
set_option maxHeartbeats 4000000 in
theorem dunpack_no (c : Cm) (a : Option Addr) (n cp m : Nat) (zs : List Int) (w : World) (hr : RdAt w (.slice a n cp) zs) (hl : zs.length = n) (hby : Bytes zs) (hn : n ≤ 140737488355328) (hmb : m < 9223372036854775808) (hm : n ≠ m * sz (c.pr != 0)) :
    Calls Try.prog 45 #[.agg c.vals, .slice a n cp, .int .i64 m] w fun e w' => e = .returned (.tuple #[.slice none 0 0, .agg (plS 5 6656).vals]) ∧ Below w.heap.size w w' := by
  have HT := withT_any c
  obtain ⟨tb, htb⟩ : ∃ tb, tb = (c.pr != 0) := ⟨_, rfl⟩
  rw [← htb] at HT hm 
  have HU := fun W (h : Below w.heap.size w W) => upk_any tb a n cp zs W (rd_below hr h) hl hby hn
  by_cases e1 : n % sz tb = 0
  · have e2 : n / sz tb ≠ m := by
      intro e
      apply hm
      have := Nat.div_add_mod n (sz tb)
      rw [e1, e, Nat.mul_comm] at this
      omega
    simp only [if_pos e1] at HU
    obtain ⟨q, hq⟩ : ∃ q, q = n / sz tb := ⟨_, rfl⟩
    simp only [← hq] at HU e2
    have eq : ((q : Int) != m) = true := by simp; omega
    have HW := Kpt.mk (fun W => wrong_any W)
    have hCs : c.vals.size = 15 := rfl
    obtain ⟨CV, hCV⟩ : ∃ CV, CV = c.vals := ⟨_, rfl⟩
    rw [← hCV] at hCs  HT ⊢
    replace hCs := Kpt.mk hCs
    clear hCV
    replace HT := Kpt.mk HT
    replace HU := Kpt.mk HU
    clear hr htb e1 e2 hl hm hq
    go_enter Try.func45, Try.ntmps45
    go_wp2_with (first
      | (refine wpList_sen (plS 5 6656) br zeroS _ _ rfl rfl rfl rfl hRr.out rfl rfl w.heap.size hb.out (Nat.le_refl _) hrl.out ?_; intro w9 hB9 hb9 hg9; skip)
      | (go_at_call 51; have hm3 := m4; refine (HW.out _).mono ?_; rintro e w5 ⟨rfl, h5⟩; replace hRr := Kpt.mk (hRr.out.below h5 hRr.out.lt); replace hb := Kpt.mk (hb.out.trans (h5.mono hb.out.size)); skip)
      | (go_at_call 65; have hm3 := m3; refine (HU.out _ hb.out).mono ?_; rintro e w4 ⟨h4, g, rfl, hg4, hgl⟩; have m4 : Kpt True := ⟨trivial⟩; clear hg4; replace hRr := Kpt.mk (hRr.out.below h4 hRr.out.lt); replace hb := Kpt.mk (hb.out.trans (h4.mono hb.out.size)); skip)
      | (go_at_call 15; refine (HT.out _).mono ?_; rintro e w3 ⟨rfl, h3⟩; have m3 : Kpt True := ⟨trivial⟩; replace hC := Kpt.mk (hC.out.below h3 hC.out.lt); replace hRr := Kpt.mk (hRr.out.below h3 hRr.out.lt); replace hb := Kpt.mk (hb.out.trans (h3.mono hb.out.size)); skip)
      | (refine wpList_load_bx rfl 38 _ rfl bc CV rfl hC.out _ Try.underlying38 rfl (by rw [hCs.out]; exact infoC) ?_)
      | (refine wpList_var rfl 32 rfl zeroS zeroSi ?_; intro br wr hrl hRr h_; replace hRr := Kpt.mk hRr; replace hC := Kpt.mk (hC.out.below h_ hC.out.lt); replace hb := Kpt.mk (hb.out.trans (h_.mono hb.out.size)); clear h_; replace hrl : Kpt (w.heap.size ≤ br) := ⟨Nat.le_trans (hbs.out) hrl⟩; skip)
      | (refine wpList_box rfl 38 _ rfl CV rfl ?_; intro bc wC hcl hC hC_ _; replace hC := Kpt.mk hC; have hb := Kpt.mk hC_; replace hcl := Kpt.mk hcl; clear hC_; have hbs := Kpt.mk hb.out.size; skip)
      | fail)
    refine bodyPost_ret (v := .tuple #[.slice none 0 0, .agg (plS 5 6656).vals]) (by simp [results, Try.results45, asAddr, Act.put, res_run hB9]) rfl ⟨rfl, hb9⟩
  · simp only [if_neg e1] at HU
    have HW := Kpt.mk (fun W => wrong_any W)
    have hCs : c.vals.size = 15 := rfl
    obtain ⟨CV, hCV⟩ : ∃ CV, CV = c.vals := ⟨_, rfl⟩
    rw [← hCV] at hCs  HT ⊢
    replace hCs := Kpt.mk hCs
    clear hCV
    replace HT := Kpt.mk HT
    replace HU := Kpt.mk HU
    clear hr htb e1 hl hm
    go_enter Try.func45, Try.ntmps45
    go_wp2_with (first
      | (refine wpList_sen (plS 5 6656) br zeroS _ _ rfl rfl rfl rfl hRr.out rfl rfl w.heap.size hb.out (Nat.le_refl _) hrl.out ?_; intro w9 hB9 hb9 hg9; skip)
      | (go_at_call 51; have hm3 := m4; refine (HW.out _).mono ?_; rintro e w5 ⟨rfl, h5⟩; replace hRr := Kpt.mk (hRr.out.below h5 hRr.out.lt); replace hb := Kpt.mk (hb.out.trans (h5.mono hb.out.size)); skip)
      | (go_at_call 65; have hm3 := m3; refine (HU.out _ hb.out).mono ?_; rintro e w4 ⟨h4, rfl⟩; have m4 : Kpt True := ⟨trivial⟩; replace hRr := Kpt.mk (hRr.out.below h4 hRr.out.lt); replace hb := Kpt.mk (hb.out.trans (h4.mono hb.out.size)); skip)
      | (go_at_call 15; refine (HT.out _).mono ?_; rintro e w3 ⟨rfl, h3⟩; have m3 : Kpt True := ⟨trivial⟩; replace hC := Kpt.mk (hC.out.below h3 hC.out.lt); replace hRr := Kpt.mk (hRr.out.below h3 hRr.out.lt); replace hb := Kpt.mk (hb.out.trans (h3.mono hb.out.size)); skip)
      | (refine wpList_load_bx rfl 38 _ rfl bc CV rfl hC.out _ Try.underlying38 rfl (by rw [hCs.out]; exact infoC) ?_)
      | (refine wpList_var rfl 32 rfl zeroS zeroSi ?_; intro br wr hrl hRr h_; replace hRr := Kpt.mk hRr; replace hC := Kpt.mk (hC.out.below h_ hC.out.lt); replace hb := Kpt.mk (hb.out.trans (h_.mono hb.out.size)); clear h_; replace hrl : Kpt (w.heap.size ≤ br) := ⟨Nat.le_trans (hbs.out) hrl⟩; skip)
      | (refine wpList_box rfl 38 _ rfl CV rfl ?_; intro bc wC hcl hC hC_ _; replace hC := Kpt.mk hC; have hb := Kpt.mk hC_; replace hcl := Kpt.mk hcl; clear hC_; have hbs := Kpt.mk hb.out.size; skip)
      | fail)
    refine bodyPost_ret (v := .tuple #[.slice none 0 0, .agg (plS 5 6656).vals]) (by simp [results, Try.results45, asAddr, Act.put, res_run hB9]) rfl ⟨rfl, hb9⟩

end Go.Proofs.Ytklboieemljmiab
