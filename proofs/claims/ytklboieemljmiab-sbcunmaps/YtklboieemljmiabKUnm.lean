/-
  The contract of Unmap of a store; what a block's place holds then.
-/
import Derived.Test.YtklboieemljmiabKCont
namespace Go.Proofs.Ytklboieemljmiab
open Go.RowKit
set_option linter.unusedVariables false
set_option linter.unusedSimpArgs false

theorem own_alloc (W : World) (b n base : Nat) (zs : List Int) (hb : b = W.heap.size) (hn : n = zs.length) (hm : n ≤ 1000) (hbase : base ≤ b) :
    (W.alloc (.cells (cels zs).toArray 5)).ownsRow base 5 1 (.slice (some ⟨b, 0, none⟩) n n) n (cels zs) := by
  subst hb hn
  refine ⟨by simp, .inr ⟨W.heap.size, zs.length, (cels zs).toArray, rfl, hbase, (MapKept.heap_alloc W _).1, Nat.le_refl _, by unfold maxLen; omega, by simp, List.take_of_length_le (by simp)⟩⟩
/-- The state behind k blocks that were emptied. -/
def unSt (st : St) (f : ByteArray) (lba : Nat) : Nat → St
  | 0 => st
  | k + 1 => { unSt st f lba k with seen := (Chg.wr f ((lba + k) * 25) [0]).run (unSt st f lba k).seen, waits := (unSt st f lba k).waits ++ [.wr f ((lba + k) * 25) [0]], ops := (unSt st f lba k).ops + 1, cnt := (unSt st f lba k).cnt + 2 }
theorem un_ops (st : St) (f : ByteArray) (lba : Nat) : ∀ k, (unSt st f lba k).ops = st.ops + k ∧ (unSt st f lba k).cnt = st.cnt + 2 * k ∧ (unSt st f lba k).fails = st.fails ∧ (unSt st f lba k).waits.length = st.waits.length + k
  | 0 => by simp [unSt]
  | k + 1 => by
    obtain ⟨h1, h2, h3, h4⟩ := un_ops st f lba k
    unfold unSt
    simp only [List.length_append, h1, h2, h3, h4]
    refine ⟨by omega, by omega, trivial, by simp; omega⟩
theorem un_wrs (st : St) (f : ByteArray) (lba : Nat) (h : Wrs st.waits) : ∀ k, Wrs (unSt st f lba k).waits
  | 0 => h
  | k + 1 => by
    unfold unSt
    intro c hc
    simp only [List.mem_append, List.mem_singleton] at hc
    rcases hc with hc | hc
    · exact un_wrs st f lba h k c hc
    · exact ⟨_, _, _, hc⟩
theorem byts0 : Byts [0] := fun j => by cases j <;> simp
theorem good_un {F : Option (List Int)} (h : Good F) (i : Nat) : Good (some (laidL (F.getD []) (i * 25) [0])) := by
  intro zs hz
  simp only [Option.some.injEq] at hz
  subst hz
  have hF : Byts (F.getD []) ∧ ∀ j, (bytesAt (some (F.getD [])) j).length < 25 → (F.getD []).getD (j * 25) 0 ≠ 1 := by
    cases F with
    | none => exact ⟨fun j => by simp, fun j _ => by simp⟩
    | some zs => exact h zs rfl
  refine ⟨laid_bytes hF.1 byts0, fun j hj => ?_⟩
  rw [at_len, laid_len] at hj
  rw [laid_getD]
  by_cases hji : i * 25 ≤ j * 25 ∧ j * 25 < i * 25 + [(0 : Int)].length
  · rw [if_pos hji]
    have : j * 25 - i * 25 = 0 := by simp at hji; omega
    rw [this]
    simp
  · rw [if_neg hji]
    refine hF.2 j ?_
    rw [at_len]
    simp at hji hj
    omega
theorem blk_un {F : Option (List Int)} (h : Good F) (i j : Nat) : blkAt (some (laidL (F.getD []) (i * 25) [0])) j = if j = i then emptyB else blkAt F j := by
  rw [blk_pad (good_un h i)]
  by_cases hji : j = i
  · subst hji
    rw [if_pos rfl]
    unfold upB
    rw [if_pos (.inr (by rw [pad_at _ _ 0 (by decide), laid_getD, if_pos (by simp)]; simp))]
  · rw [if_neg hji]
    cases F with
    | none =>
      rw [blk_none]
      unfold upB
      rw [if_pos (.inr (by rw [pad_at _ _ 0 (by decide), laid_getD, if_neg (by simp; omega)]; simp))]
    | some zs =>
      rw [blk_pad h]
      congr 1
      exact pad_ext (fun k hk => by rw [pad_at _ _ _ hk, laid_getD, if_neg (by simp; omega)]; rfl) (pad_len _ _)
theorem un_view (st : St) (f : ByteArray) (lba : Nat) (hG : Good (st.seen f)) : ∀ k, Good ((unSt st f lba k).seen f) ∧ ∀ i, blkAt ((unSt st f lba k).seen f) i = if lba ≤ i ∧ i < lba + k then emptyB else blkAt (st.seen f) i
  | 0 => ⟨hG, fun i => by rw [if_neg (by omega)]; rfl⟩
  | k + 1 => by
    obtain ⟨h1, h2⟩ := un_view st f lba hG k
    have hs : (unSt st f lba (k + 1)).seen f = some (laidL (((unSt st f lba k).seen f).getD []) ((lba + k) * 25) [0]) := by simp [unSt, Chg.run, updF]
    rw [hs]
    refine ⟨good_un h1 _, fun i => ?_⟩
    rw [blk_un h1, h2 i]
    by_cases e : i = lba + k
    · subst e
      rw [if_pos rfl, if_pos (by omega)]
    · rw [if_neg e]
      by_cases e2 : lba ≤ i ∧ i < lba + k
      · rw [if_pos e2, if_pos (by omega)]
      · rw [if_neg e2, if_neg (by omega)]

set_option maxRecDepth 100000 in
set_option maxHeartbeats 4000000 in
theorem kunmap_any (w : World) (B : Nat) (tag : Tags) (st : St) (S N lba n : Nat) (f : ByteArray) (ca : Bool) (h : Wd w B tag st) (hs : Sto w tag S B f N ca) (hf1 : 1 ≤ f.size) (hf2 : f.size ≤ 32) (hN : N ≤ 4096)
    (hc : st.cnt < 500000000000) (hcw : st.waits.length < 1000000) (hf : ∀ i, st.fails i = false) (hw : Wrs st.waits) (hin : lba + n ≤ N) :
    Calls Try.prog 68 #[.pointer (some ⟨S, 0, none⟩), .int .i64 lba, .int .i64 n] w fun e w' => e = .returned (.tuple #[.int .i64 n, .int .i64 0]) ∧ ∃ tag', Wd w' B tag' (if settled ca false n then unSt st f lba n else syncSt (unSt st f lba n)) ∧ Step w w' tag tag' (fun _ => True) := by
  have HH := Kpt.mk (has_any w tag S B N f ca lba n hs hN (by omega) (by omega))
  rw [decide_eq_true (show 0 ≤ (lba : Int) ∧ 0 ≤ (n : Int) ∧ (lba : Int) + n ≤ N from by omega)] at HH
  obtain ⟨st2, hst2⟩ : ∃ s, s = (if settled ca false n then unSt st f lba n else syncSt (unSt st f lba n)) := ⟨_, rfl⟩
  rw [← hst2]
  replace hst2 := Kpt.mk hst2
  have hK : Kpt (Wd w B tag (unSt st f lba 0)) := ⟨h⟩
  have hsK := Kpt.mk hs
  replace hf := Kpt.mk hf
  replace hw := Kpt.mk hw
  clear h hs
  go_enter Try.func68, Try.ntmps68
  go_wp2_with (go_at_call 37; refine HH.out.mono ?_; rintro e w ⟨rfl, hw'⟩; subst hw')
  go_loopw [18] (fun t wr => ∃ (k : Nat) (tag1 : Tags), k ≤ n ∧ t = .int .i64 k ∧ Kpt (Wd wr B tag1 (unSt st f lba k)) ∧ Kpt (Step w wr tag tag1 (fun _ => True))) (fun t _ => n - (intOf t).toNat)
  case atStart => exact ⟨0, tag, Nat.zero_le _, rfl, hK, ⟨Step.refl _ _ _⟩⟩
  case round =>
    obtain ⟨k, tag1, hk, rfl, hW, hSt⟩ := hrel
    clear hK HH
    have hsK1 := Kpt.mk (hsK.out.step hSt.out)
    obtain ⟨hops, hcnt, hfl, hwl⟩ := un_ops st f lba k
    replace hops := Kpt.mk hops
    replace hcnt := Kpt.mk hcnt
    replace hfl := Kpt.mk hfl
    replace hwl := Kpt.mk hwl
    by_cases hlt : k < n
    · have e1 : (k : Int) < n := by omega
      have hS1 := hsK1.out
      have hC1 : wr.cell? ⟨S, 0, none⟩ = some (.pointer (some ⟨B, 0, none⟩)) ∧ wr.cell? ⟨S, 1, none⟩ = some (.string f) ∧ S < wr.heap.size := ⟨hS1.c0, hS1.c1, hS1.lt⟩
      have HPl : Kpt (∀ W, Calls Try.prog 39 #[.int .i64 ((lba : Int) + k)] W fun e w' => e = .returned (.int .i64 (((lba + k) * 25 : Nat) : Int)) ∧ w' = W) := ⟨fun W => by have := place_any (lba + k) W (by omega); rw [Int.natCast_add] at this; exact this⟩
      replace hC1 := Kpt.mk hC1
      clear hS1
      go_wp2_with fail
      refine wp_region_any (by kernel_rfl) ?_
      refine wpAny_of_C (C := fun W => W.cell? ⟨S, 0, none⟩ = some (.pointer (some ⟨B, 0, none⟩)) ∧ W.cell? ⟨S, 1, none⟩ = some (.string f) ∧ S < W.heap.size) _ _ _ _ ?_
      refine wpAnyC_take 0 (.pointer (some ⟨S, 0, none⟩)) rfl (by kernel_rfl) (by kernel_rfl) (by kernel_rfl) (fun _ _ _ h => h) (wanted_free rfl _) (fun W hW => by have h0 := hW.1; have h1 := hW.2.1; have h2 := hW.2.2; go_simp) ?_
      try simp only [Act.put, List.getElem_toArray, List.getElem_cons_succ, List.getElem_cons_zero, List.setIfInBounds_toArray, List.set_cons_succ, List.set_cons_zero]
      refine wpAnyC_take 1 (.pointer (some ⟨S, 0, none⟩)) rfl (by kernel_rfl) (by kernel_rfl) (by kernel_rfl) (fun _ _ _ h => h) (wanted_free rfl _) (fun W hW => by have h0 := hW.1; have h1 := hW.2.1; have h2 := hW.2.2; go_simp) ?_
      try simp only [Act.put, List.getElem_toArray, List.getElem_cons_succ, List.getElem_cons_zero, List.setIfInBounds_toArray, List.set_cons_succ, List.set_cons_zero]
      refine wpAnyC_take 2 (.pointer (some ⟨S, 0, none⟩)) rfl (by kernel_rfl) (by kernel_rfl) (by kernel_rfl) (fun _ _ _ h => h) (wanted_free rfl _) (fun W hW => by have h0 := hW.1; have h1 := hW.2.1; have h2 := hW.2.2; go_simp) ?_
      try simp only [Act.put, List.getElem_toArray, List.getElem_cons_succ, List.getElem_cons_zero, List.setIfInBounds_toArray, List.set_cons_succ, List.set_cons_zero]
      refine wpAnyC_take 3 (.pointer (some ⟨B, 0, none⟩)) rfl (by kernel_rfl) (by kernel_rfl) (by kernel_rfl) (fun _ _ _ h => h) (wanted_free rfl _) (fun W hW => by have h0 := hW.1; have h1 := hW.2.1; have h2 := hW.2.2; go_simp) ?_
      try simp only [Act.put, List.getElem_toArray, List.getElem_cons_succ, List.getElem_cons_zero, List.setIfInBounds_toArray, List.set_cons_succ, List.set_cons_zero]
      refine wpAnyC_take 4 (.pointer (some ⟨S, 0, none⟩)) rfl (by kernel_rfl) (by kernel_rfl) (by kernel_rfl) (fun _ _ _ h => h) (wanted_free rfl _) (fun W hW => by have h0 := hW.1; have h1 := hW.2.1; have h2 := hW.2.2; go_simp) ?_
      try simp only [Act.put, List.getElem_toArray, List.getElem_cons_succ, List.getElem_cons_zero, List.setIfInBounds_toArray, List.set_cons_succ, List.set_cons_zero]
      refine wpAnyC_take 5 (.pointer (some ⟨S, 0, none⟩)) rfl (by kernel_rfl) (by kernel_rfl) (by kernel_rfl) (fun _ _ _ h => h) (wanted_free rfl _) (fun W hW => by have h0 := hW.1; have h1 := hW.2.1; have h2 := hW.2.2; go_simp) ?_
      try simp only [Act.put, List.getElem_toArray, List.getElem_cons_succ, List.getElem_cons_zero, List.setIfInBounds_toArray, List.set_cons_succ, List.set_cons_zero]
      refine wpAnyC_take 6 (.pointer (some ⟨S, 1, none⟩)) rfl (by kernel_rfl) (by kernel_rfl) (by kernel_rfl) (fun _ _ _ h => h) (wanted_free rfl _) (fun W hW => by have h0 := hW.1; have h1 := hW.2.1; have h2 := hW.2.2; go_simp) ?_
      try simp only [Act.put, List.getElem_toArray, List.getElem_cons_succ, List.getElem_cons_zero, List.setIfInBounds_toArray, List.set_cons_succ, List.set_cons_zero]
      refine wpAnyC_take 7 (.string f) rfl (by kernel_rfl) (by kernel_rfl) (by kernel_rfl) (fun _ _ _ h => h) (wanted_free rfl _) (fun W hW => by have h0 := hW.1; have h1 := hW.2.1; have h2 := hW.2.2; go_simp) ?_
      try simp only [Act.put, List.getElem_toArray, List.getElem_cons_succ, List.getElem_cons_zero, List.setIfInBounds_toArray, List.set_cons_succ, List.set_cons_zero]
      refine wpAnyC_take 8 (.int .i64 lba) rfl (by kernel_rfl) (by kernel_rfl) (by kernel_rfl) (fun _ _ _ h => h) (wanted_free rfl _) (fun W hW => by have h0 := hW.1; have h1 := hW.2.1; have h2 := hW.2.2; go_simp) ?_
      try simp only [Act.put, List.getElem_toArray, List.getElem_cons_succ, List.getElem_cons_zero, List.setIfInBounds_toArray, List.set_cons_succ, List.set_cons_zero]
      refine wpAnyC_take 9 (.int .i64 k) rfl (by kernel_rfl) (by kernel_rfl) (by kernel_rfl) (fun _ _ _ h => h) (wanted_free rfl _) (fun W hW => by have h0 := hW.1; have h1 := hW.2.1; have h2 := hW.2.2; go_simp) ?_
      try simp only [Act.put, List.getElem_toArray, List.getElem_cons_succ, List.getElem_cons_zero, List.setIfInBounds_toArray, List.set_cons_succ, List.set_cons_zero]
      refine wpAnyC_take 10 (.int .i64 ((lba : Int) + k)) rfl (by kernel_rfl) (by kernel_rfl) (by kernel_rfl) (fun _ _ _ h => h) (wanted_free rfl _) (fun W hW => by first | (go_simp; done) | (go_simp; rw [IntKind.wrap_i64]; omega)) ?_
      try simp only [Act.put, List.getElem_toArray, List.getElem_cons_succ, List.getElem_cons_zero, List.setIfInBounds_toArray, List.set_cons_succ, List.set_cons_zero]
      refine wpAnyC_two 11 12 hC1.out rfl rfl (by kernel_rfl) (wanted_free rfl _) (wanted_free rfl _) (fun KA hKA => ?_) (fun KA hKA => ?_)
      · go_simp
        refine (HPl.out _).mono ?_
        rintro e wA ⟨rfl, rfl⟩
        refine hKA _ _ ?_
        clear hKA KA
        try simp only [Act.put, List.getElem_toArray, List.getElem_cons_succ, List.getElem_cons_zero, List.setIfInBounds_toArray, List.set_cons_succ, List.set_cons_zero]
        refine wpAnyC_one 12 hC1.out rfl (by kernel_rfl) (wanted_free rfl _) (fun KA hKA => ?_)
        go_simp
        refine hKA _ _ ?_
        clear hKA KA
        try simp only [Act.put, List.getElem_toArray, List.getElem_cons_succ, List.getElem_cons_zero, List.setIfInBounds_toArray, List.set_cons_succ, List.set_cons_zero]
        have hb2' : Kpt (Below wr.heap.size wr (wr.drew.alloc (.cells #[.int .u8 0] 5))) := ⟨(below_drewN (Below.refl _ wr) 1).alloc (by simp) _⟩
        have ho2 := own_alloc wr.drew wr.heap.size 1 wr.heap.size [0] rfl rfl (by decide) (Nat.le_refl _)
        have hS2 := hsK1.out.below hb2'.out
        have hWd2 := hW.out.step (step_below hb2'.out tag1 (fun _ => False))
        have hg2n : tag1 wr.heap.size = none := by
          cases ht : tag1 wr.heap.size with
          | none => rfl
          | some t =>
            have h1 := hW.out.lt wr.heap.size (by rw [ht]; simp)
            omega
        have HWr := write_any _ B tag1 (unSt st f lba k) hWd2 (by rw [hcnt.out]; omega) f hf1 hf2 ((lba + k) * 25) (.slice (some ⟨wr.heap.size, 0, none⟩) 1 1) [0] (own_rd ho2) (fun _ g hg => by simp [Value.ownBlock] at hg; rw [← hg]; exact hg2n) (by simp; omega)
        rw [show (unSt st f lba k).fails (unSt st f lba k).ops = false from by rw [hfl.out]; exact hf.out _] at HWr
        replace HWr := Kpt.mk HWr
        refine wpAnyC_one 13 ⟨hS2.c0, hS2.c1, hS2.lt⟩ rfl (by kernel_rfl) (wanted_free rfl _) (fun KA hKA => ?_)
        go_simp
        refine HWr.out.mono ?_
        rintro e w3 ⟨rfl, tag2, hWd3, hSt3⟩
        refine hKA _ _ ?_
        try simp only [Act.put, List.getElem_toArray, List.getElem_cons_succ, List.getElem_cons_zero, List.setIfInBounds_toArray, List.set_cons_succ, List.set_cons_zero]
        clear hKA KA
        refine wpAnyC_take 14 (.int .i64 0) rfl (by kernel_rfl) (by kernel_rfl) (by kernel_rfl) (fun _ _ _ h => h) (wanted_free rfl _) (fun W hW => by have h0 := hW.1; have h1 := hW.2.1; have h2 := hW.2.2; go_simp) ?_
        try simp only [Act.put, List.getElem_toArray, List.getElem_cons_succ, List.getElem_cons_zero, List.setIfInBounds_toArray, List.set_cons_succ, List.set_cons_zero]
        have hS3 := hS2.step hSt3
        have hSt4 : Kpt (Step w w3 tag tag2 (fun _ => True)) := ⟨hSt.out.trans ((step_below hb2'.out tag1 (fun _ => True)).trans hSt3)⟩
        have hWd4 : Kpt (Wd w3 B tag2 (unSt st f lba (k + 1))) := ⟨by simpa [unSt] using hWd3⟩
        refine wpAnyC_done ⟨hS3.c0, hS3.c1, hS3.lt⟩ (by kernel_rfl) ?_
        clear hS3 hSt3 hWd3 HWr hWd2 hS2 hC1 hb2' ho2 HPl hg2n
        go_wp2
        go_roundw
        case rel => exact ⟨k + 1, tag2, by omega, by go_num, hWd4, hSt4⟩
        case measure => simp [intOf]; omega
      · go_simp
        refine hKA _ _ ?_
        clear hKA KA
        try simp only [Act.put, List.getElem_toArray, List.getElem_cons_succ, List.getElem_cons_zero, List.setIfInBounds_toArray, List.set_cons_succ, List.set_cons_zero]
        have hSx := hsK1.out.below ((below_drewN (Below.refl _ wr) 1).alloc (by simp) (.cells #[.int .u8 0] 5))
        refine wpAnyC_one 11 ⟨hSx.c0, hSx.c1, hSx.lt⟩ rfl (by kernel_rfl) (wanted_free rfl _) (fun KA hKA => ?_)
        go_simp
        refine (HPl.out _).mono ?_
        rintro e wA ⟨rfl, hwA⟩
        subst hwA
        refine hKA _ _ ?_
        clear hKA KA hSx
        try simp only [Act.put, List.getElem_toArray, List.getElem_cons_succ, List.getElem_cons_zero, List.setIfInBounds_toArray, List.set_cons_succ, List.set_cons_zero]
        have hb2' : Kpt (Below wr.heap.size wr (wr.drew.alloc (.cells #[.int .u8 0] 5))) := ⟨(below_drewN (Below.refl _ wr) 1).alloc (by simp) _⟩
        have ho2 := own_alloc wr.drew wr.heap.size 1 wr.heap.size [0] rfl rfl (by decide) (Nat.le_refl _)
        have hS2 := hsK1.out.below hb2'.out
        have hWd2 := hW.out.step (step_below hb2'.out tag1 (fun _ => False))
        have hg2n : tag1 wr.heap.size = none := by
          cases ht : tag1 wr.heap.size with
          | none => rfl
          | some t =>
            have h1 := hW.out.lt wr.heap.size (by rw [ht]; simp)
            omega
        have HWr := write_any _ B tag1 (unSt st f lba k) hWd2 (by rw [hcnt.out]; omega) f hf1 hf2 ((lba + k) * 25) (.slice (some ⟨wr.heap.size, 0, none⟩) 1 1) [0] (own_rd ho2) (fun _ g hg => by simp [Value.ownBlock] at hg; rw [← hg]; exact hg2n) (by simp; omega)
        rw [show (unSt st f lba k).fails (unSt st f lba k).ops = false from by rw [hfl.out]; exact hf.out _] at HWr
        replace HWr := Kpt.mk HWr
        refine wpAnyC_one 13 ⟨hS2.c0, hS2.c1, hS2.lt⟩ rfl (by kernel_rfl) (wanted_free rfl _) (fun KA hKA => ?_)
        go_simp
        refine HWr.out.mono ?_
        rintro e w3 ⟨rfl, tag2, hWd3, hSt3⟩
        refine hKA _ _ ?_
        try simp only [Act.put, List.getElem_toArray, List.getElem_cons_succ, List.getElem_cons_zero, List.setIfInBounds_toArray, List.set_cons_succ, List.set_cons_zero]
        clear hKA KA
        refine wpAnyC_take 14 (.int .i64 0) rfl (by kernel_rfl) (by kernel_rfl) (by kernel_rfl) (fun _ _ _ h => h) (wanted_free rfl _) (fun W hW => by have h0 := hW.1; have h1 := hW.2.1; have h2 := hW.2.2; go_simp) ?_
        try simp only [Act.put, List.getElem_toArray, List.getElem_cons_succ, List.getElem_cons_zero, List.setIfInBounds_toArray, List.set_cons_succ, List.set_cons_zero]
        have hS3 := hS2.step hSt3
        have hSt4 : Kpt (Step w w3 tag tag2 (fun _ => True)) := ⟨hSt.out.trans ((step_below hb2'.out tag1 (fun _ => True)).trans hSt3)⟩
        have hWd4 : Kpt (Wd w3 B tag2 (unSt st f lba (k + 1))) := ⟨by simpa [unSt] using hWd3⟩
        refine wpAnyC_done ⟨hS3.c0, hS3.c1, hS3.lt⟩ (by kernel_rfl) ?_
        clear hS3 hSt3 hWd3 HWr hWd2 hS2 hC1 hb2' ho2 HPl hg2n
        go_wp2
        go_roundw
        case rel => exact ⟨k + 1, tag2, by omega, by go_num, hWd4, hSt4⟩
        case measure => simp [intOf]; omega
    · have e1 : ¬ (k : Int) < n := by omega
      have ek : k = n := by omega
      subst ek
      have HS := Kpt.mk (settle_any wr B tag1 (unSt st f lba k) S N k f ca false hW.out hsK1.out (by rw [hcnt.out, hwl.out]; omega) (by rw [hfl.out]; exact hf.out _) (un_wrs st f lba hw.out k) (by omega))
      clear hW
      go_wp2_with (go_at_call 75; refine HS.out.mono ?_; rintro e w2 ⟨rfl, tag2, hW2, hSt2⟩; replace hW2 := Kpt.mk hW2; replace hSt2 := Kpt.mk hSt2)
      go_ret2
      exact ⟨rfl, tag2, by rw [hst2.out]; exact hW2.out, hSt.out.trans hSt2.out⟩
end Go.Proofs.Ytklboieemljmiab
