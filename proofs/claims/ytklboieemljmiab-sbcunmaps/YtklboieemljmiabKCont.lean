/-
  What a block's place holds behind writes: lists alone.
-/
import Derived.Test.YtklboieemljmiabKRead
namespace Go.Proofs.Ytklboieemljmiab
open Go.RowKit
set_option linter.unusedVariables false
set_option linter.unusedSimpArgs false

theorem pad_getD (zs : List Int) (k j : Nat) : (zs ++ List.replicate k 0).getD j 0 = zs.getD j 0 := by
  simp only [List.getD_eq_getElem?_getD, List.getElem?_append]
  split
  · rfl
  · rename_i h
    rw [List.getElem?_eq_none (l := zs) (by omega), List.getElem?_replicate]
    split <;> rfl
theorem laid_getD (zs : List Int) (off : Nat) (ds : List Int) (j : Nat) : (laidL zs off ds).getD j 0 = if off ≤ j ∧ j < off + ds.length then ds.getD (j - off) 0 else zs.getD j 0 := by
  unfold laidL
  obtain ⟨A, hA⟩ : ∃ A, A = zs ++ List.replicate (off + ds.length - zs.length) 0 := ⟨_, rfl⟩
  have hAl : off + ds.length ≤ A.length := by rw [hA]; simp; omega
  have hAg : A.getD j 0 = zs.getD j 0 := by rw [hA]; exact pad_getD zs _ j
  rw [← hA, ← hAg]
  unfold over
  have ht : (A.take off).length = off := by rw [List.length_take]; omega
  simp only [List.getD_eq_getElem?_getD]
  by_cases h1 : j < off
  · rw [if_neg (by omega), List.getElem?_append_left (by omega), List.getElem?_take, if_pos h1]
  · rw [List.getElem?_append_right (by omega), ht]
    by_cases h2 : j < off + ds.length
    · rw [if_pos (by omega), List.getElem?_append_left (by omega)]
    · rw [if_neg (by omega), List.getElem?_append_right (by omega), List.getElem?_drop]
      congr 2
      omega
theorem laid_len (zs : List Int) (off : Nat) (ds : List Int) : (laidL zs off ds).length = max zs.length (off + ds.length) := by
  unfold laidL over
  simp
  omega
theorem laid_bytes {zs : List Int} {off : Nat} {ds : List Int} (h1 : Byts zs) (h2 : Byts ds) : Byts (laidL zs off ds) := fun j => by
  rw [laid_getD]
  split
  · exact h2 _
  · exact h1 _

/-- The 25 bytes at a place, noughts where the file ends. -/
def padAt (zs : List Int) (i : Nat) : List Int := (List.range 25).map (fun j => zs.getD (i * 25 + j) 0)
theorem pad_len (zs : List Int) (i : Nat) : (padAt zs i).length = 25 := by simp [padAt]
theorem pad_at (zs : List Int) (i j : Nat) (hj : j < 25) : (padAt zs i).getD j 0 = zs.getD (i * 25 + j) 0 := by
  unfold padAt
  rw [List.getD_eq_getElem?_getD, List.getElem?_map, List.getElem?_range hj]
  rfl
theorem at_getD (zs : List Int) (i j : Nat) (hj : j < 25) : (bytesAt (some zs) i).getD j 0 = zs.getD (i * 25 + j) 0 := by
  simp only [bytesAt, List.getD_eq_getElem?_getD, List.getElem?_take, if_pos hj, List.getElem?_drop]
theorem at_len (zs : List Int) (i : Nat) : (bytesAt (some zs) i).length = min 25 (zs.length - i * 25) := by simp [bytesAt]
/-- No block that is cut looks like a whole one. -/
def Good (F : Option (List Int)) : Prop := ∀ zs, F = some zs → Byts zs ∧ ∀ j, (bytesAt (some zs) j).length < 25 → zs.getD (j * 25) 0 ≠ 1
theorem good_none : Good none := fun zs h => by cases h
/-- The block at a place. -/
def blkAt (F : Option (List Int)) (i : Nat) : Bk := upB (bytesAt F i)

theorem blk_pad {zs : List Int} (h : Good (some zs)) (i : Nat) : blkAt (some zs) i = upB (padAt zs i) := by
  unfold blkAt
  by_cases hl : (bytesAt (some zs) i).length < 25
  · have h1 := (h zs rfl).2 i hl
    unfold upB
    rw [if_pos (.inl hl), if_pos (.inr (by rw [pad_at zs i 0 (by decide), Nat.add_zero]; exact h1))]
  · have e : bytesAt (some zs) i = padAt zs i := by
      refine List.ext_getElem? (fun j => ?_)
      have hl2 : (bytesAt (some zs) i).length = 25 := by rw [at_len] at hl ⊢; omega
      by_cases hj : j < 25
      · have a1 := at_getD zs i j hj
        have a2 := pad_at zs i j hj
        rw [List.getD_eq_getElem?_getD] at a1 a2
        rw [List.getElem?_eq_getElem (by omega)] at a1 ⊢
        rw [List.getElem?_eq_getElem (by rw [pad_len]; exact hj)] at a2 ⊢
        simp only [Option.getD_some] at a1 a2
        rw [a1, a2]
      · rw [List.getElem?_eq_none (by omega), List.getElem?_eq_none (by rw [pad_len]; omega)]
    rw [e]
theorem blk_none (i : Nat) : blkAt none i = emptyB := by unfold blkAt upB bytesAt; rw [if_pos (.inl (by simp))]

theorem pad_ext {zs ys : List Int} {i : Nat} (h : ∀ j, j < 25 → zs.getD (i * 25 + j) 0 = ys.getD j 0) (hy : ys.length = 25) : padAt zs i = ys := by
  refine List.ext_getElem? (fun j => ?_)
  by_cases hj : j < 25
  · have a1 := (pad_at zs i j hj).trans (h j hj)
    rw [List.getD_eq_getElem?_getD, List.getD_eq_getElem?_getD, List.getElem?_eq_getElem (by rw [pad_len]; exact hj), List.getElem?_eq_getElem (by omega)] at a1
    rw [List.getElem?_eq_getElem (by rw [pad_len]; exact hj), List.getElem?_eq_getElem (by omega)]
    simpa using a1
  · rw [List.getElem?_eq_none (by rw [pad_len]; omega), List.getElem?_eq_none (by omega)]

/-- A whole block is written. -/
theorem good_wr {F : Option (List Int)} (h : Good F) (i : Nat) {ds : List Int} (hd : ds.length = 25) (hb : Byts ds) : Good (some (laidL (F.getD []) (i * 25) ds)) := by
  intro zs hz
  simp only [Option.some.injEq] at hz
  subst hz
  have hF : Byts (F.getD []) ∧ ∀ j, (bytesAt (some (F.getD [])) j).length < 25 → (F.getD []).getD (j * 25) 0 ≠ 1 := by
    cases F with
    | none => exact ⟨fun j => by simp, fun j _ => by simp⟩
    | some zs => exact h zs rfl
  refine ⟨laid_bytes hF.1 hb, fun j hj => ?_⟩
  rw [at_len, laid_len, hd] at hj
  rw [laid_getD, hd]
  have hji : ¬ (i * 25 ≤ j * 25 ∧ j * 25 < i * 25 + 25) := by omega
  rw [if_neg hji]
  exact hF.2 j (by rw [at_len]; omega)
theorem blk_wr {F : Option (List Int)} (h : Good F) (i j : Nat) {ds : List Int} (hd : ds.length = 25) (hb : Byts ds) : blkAt (some (laidL (F.getD []) (i * 25) ds)) j = if j = i then upB ds else blkAt F j := by
  rw [blk_pad (good_wr h i hd hb)]
  by_cases hji : j = i
  · subst hji
    rw [if_pos rfl, pad_ext (ys := ds) (fun k hk => by rw [laid_getD, hd, if_pos (by omega)]; congr 1; omega) hd]
  · rw [if_neg hji]
    cases F with
    | none =>
      rw [blk_none]
      unfold upB
      rw [if_pos (.inr (by rw [pad_at _ _ 0 (by decide), laid_getD, hd, if_neg (by omega)]; simp))]
    | some zs =>
      rw [blk_pad h]
      congr 1
      exact pad_ext (fun k hk => by rw [pad_at _ _ _ hk, laid_getD, hd, if_neg (by omega)]; rfl) (pad_len _ _)

theorem list16 (ds : List Int) (h : ds.length = 16) : ∃ d0 d1 d2 d3 d4 d5 d6 d7 d8 d9 d10 d11 d12 d13 d14 d15, ds = [d0, d1, d2, d3, d4, d5, d6, d7, d8, d9, d10, d11, d12, d13, d14, d15] := by
  match ds, h with
  | [d0, d1, d2, d3, d4, d5, d6, d7, d8, d9, d10, d11, d12, d13, d14, d15], _ => exact ⟨_, _, _, _, _, _, _, _, _, _, _, _, _, _, _, _, rfl⟩
set_option maxRecDepth 100000 in
theorem up_pk (b : Bk) (h : b.ok) : upB (pkB b) = b ∧ Byts (pkB b) := by
  obtain ⟨hl, hby, hg, ha, hr⟩ := h
  obtain ⟨ds, g, a, r⟩ := b
  simp only at hl hby hg ha hr
  obtain ⟨d0, d1, d2, d3, d4, d5, d6, d7, d8, d9, d10, d11, d12, d13, d14, d15, rfl⟩ := list16 ds hl
  have e : pkB ⟨[d0, d1, d2, d3, d4, d5, d6, d7, d8, d9, d10, d11, d12, d13, d14, d15], g, a, r⟩ = [1, d0, d1, d2, d3, d4, d5, d6, d7, d8, d9, d10, d11, d12, d13, d14, d15, g / 256 % 256, g % 256, a / 256 % 256, a % 256, r / 16777216 % 256, r / 65536 % 256, r / 256 % 256, r % 256] := by
    simp [pkB, B.asc, over, List.replicate, List.set]
  rw [e]
  constructor
  · unfold upB
    rw [if_neg (by simp)]
    simp [B.num]
    refine ⟨by omega, by omega, by omega⟩
  · refine fun j => ?_
    rw [List.getD_eq_getElem?_getD]
    cases hj : ([1, d0, d1, d2, d3, d4, d5, d6, d7, d8, d9, d10, d11, d12, d13, d14, d15, g / 256 % 256, g % 256, a / 256 % 256, a % 256, r / 16777216 % 256, r / 65536 % 256, r / 256 % 256, r % 256] : List Int)[j]? with
    | none => simp
    | some x =>
      have hm := List.mem_of_getElem? hj
      simp only [Option.getD_some]
      simp only [List.mem_cons, List.not_mem_nil, or_false] at hm
      simp only [List.mem_cons, List.not_mem_nil, or_false, forall_eq_or_imp, forall_eq] at hby
      rcases hm with h | h | h | h | h | h | h | h | h | h | h | h | h | h | h | h | h | h | h | h | h | h | h | h | h <;> omega

/-- What the places hold behind k blocks. -/
theorem wr_view (st : St) (f : ByteArray) (lba : Nat) (bs : List Bk) (hG : Good (st.seen f)) (hok : ∀ b ∈ bs, b.ok) : ∀ k, k ≤ bs.length → Good ((wrSt st f lba bs k).seen f) ∧ ∀ i, blkAt ((wrSt st f lba bs k).seen f) i = if lba ≤ i ∧ i < lba + k then bs.getD (i - lba) emptyB else blkAt (st.seen f) i
  | 0, _ => ⟨hG, fun i => by rw [if_neg (by omega)]; rfl⟩
  | k + 1, h => by
    obtain ⟨h1, h2⟩ := wr_view st f lba bs hG hok k (by omega)
    have hk : bs[k]? = some bs[k] := List.getElem?_eq_getElem (by omega)
    have hb := hok bs[k] (List.getElem_mem _)
    obtain ⟨u1, u2⟩ := up_pk bs[k] hb
    have hs : (wrSt st f lba bs (k + 1)).seen f = some (laidL (((wrSt st f lba bs k).seen f).getD []) ((lba + k) * 25) (pkB bs[k])) := by
      show (match bs[k]? with | some b => _ | none => _ : St).seen f = _
      rw [hk]
      simp [Chg.run, updF]
    rw [hs]
    refine ⟨good_wr h1 _ (pk_len _ hb) u2, fun i => ?_⟩
    rw [blk_wr h1 _ _ (pk_len _ hb) u2, u1, h2 i]
    by_cases e : i = lba + k
    · subst e
      rw [if_pos rfl, if_pos (by omega), show lba + k - lba = k from by omega, List.getD_eq_getElem?_getD, hk]
      rfl
    · rw [if_neg e]
      by_cases e2 : lba ≤ i ∧ i < lba + k
      · rw [if_pos e2, if_pos (by omega)]
      · rw [if_neg e2, if_neg (by omega)]
end Go.Proofs.Ytklboieemljmiab
