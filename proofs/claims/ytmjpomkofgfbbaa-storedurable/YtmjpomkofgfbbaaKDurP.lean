/-
  StoreDurable: what is there behind a loss of power, plainly; == of any two blocks.
-/
import Derived.Test.YtmjpomkofgfbbaaKCrash
import Derived.DeepKeys
namespace Go.Proofs.Ytmjpomkofgfbbaa
open Go.RowKit
set_option linter.unusedVariables false
set_option linter.unusedSimpArgs false

/-- The changes of k blocks that are written. -/
def chs (f : ByteArray) (lba : Nat) (bs : List Bk) : Nat → List Chg
  | 0 => []
  | k + 1 => chs f lba bs k ++ [.wr f ((lba + k) * 25) (pkB (bs.getD k emptyB))]
theorem chs_len (f : ByteArray) (lba : Nat) (bs : List Bk) : ∀ k, (chs f lba bs k).length = k
  | 0 => rfl
  | k + 1 => by rw [chs, List.length_append, chs_len f lba bs k]; rfl
theorem chs_take (f : ByteArray) (lba : Nat) (bs : List Bk) : ∀ k t, t ≤ k → (chs f lba bs k).take t = chs f lba bs t
  | 0, t, h => by obtain rfl : t = 0 := by omega
                  rfl
  | k + 1, t, h => by
    by_cases e : t = k + 1
    · subst e; rw [List.take_of_length_le (by rw [chs_len]; exact Nat.le_refl _)]
    · rw [chs, List.take_append_of_le_length (by rw [chs_len]; omega), chs_take f lba bs k t (by omega)]
theorem chs_at (f : ByteArray) (lba : Nat) (bs : List Bk) (k t : Nat) (h : t < k) : (chs f lba bs k)[t]? = some (.wr f ((lba + t) * 25) (pkB (bs.getD t emptyB))) := by
  have h1 : (chs f lba bs k)[t]? = ((chs f lba bs k).take (t + 1))[t]? := by rw [List.getElem?_take, if_pos (by omega)]
  rw [h1, chs_take f lba bs k (t + 1) (by omega), chs, List.getElem?_append_right (by rw [chs_len]; exact Nat.le_refl _), chs_len, Nat.sub_self]
  rfl
theorem wr_waits (st : St) (f : ByteArray) (lba : Nat) (bs : List Bk) : ∀ k, k ≤ bs.length → (wrSt st f lba bs k).waits = st.waits ++ chs f lba bs k ∧ (wrSt st f lba bs k).seen = runs (chs f lba bs k) st.seen ∧ (wrSt st f lba bs k).dur = st.dur
  | 0, _ => by simp [wrSt, chs, runs_nil]
  | k + 1, h => by
    obtain ⟨h1, h2, h3⟩ := wr_waits st f lba bs k (by omega)
    have hk : bs[k]? = some bs[k] := List.getElem?_eq_getElem (by omega)
    have hg : bs.getD k emptyB = bs[k] := by rw [List.getD_eq_getElem?_getD, hk]; rfl
    unfold wrSt
    rw [hk, chs, hg]
    refine ⟨?_, ?_, h3⟩
    · simp only [h1, List.append_assoc]
    · simp only [h2, runs_append, runs_one]
theorem runs_view (F : FilesF) (f : ByteArray) (lba : Nat) (bs : List Bk) (hG : Good (F f)) (hok : ∀ b ∈ bs, b.ok) (k : Nat) (hk : k ≤ bs.length) :
    Good (runs (chs f lba bs k) F f) ∧ ∀ i, blkAt (runs (chs f lba bs k) F f) i = if lba ≤ i ∧ i < lba + k then bs.getD (i - lba) emptyB else blkAt (F f) i := by
  have h := wr_view { st0 with seen := F } f lba bs hG hok k hk
  rw [(wr_waits { st0 with seen := F } f lba bs k hk).2.1] at h
  exact h
/-- A part of a block is written. -/
theorem blk_torn {F : Option (List Int)} (h : Good F) (i j : Nat) (hij : j ≠ i) {ds : List Int} (hd : ds.length ≤ 25) : blkAt (some (laidL (F.getD []) (i * 25) ds)) j = blkAt F j := by
  have hpad : padAt (laidL (F.getD []) (i * 25) ds) j = padAt (F.getD []) j := pad_ext (fun k hk => by rw [pad_at _ _ _ hk, laid_getD, if_neg (by omega)]) (pad_len _ _)
  have hold : blkAt F j = upB (padAt (F.getD []) j) := by
    cases F with
    | none =>
      rw [blk_none]
      unfold upB
      rw [if_pos (.inr (by rw [pad_at _ _ 0 (by decide)]; simp))]
    | some zs => exact blk_pad h j
  rw [hold, ← hpad]
  unfold blkAt
  by_cases hl : (bytesAt (some (laidL (F.getD []) (i * 25) ds)) j).length < 25
  · have hne : (padAt (laidL (F.getD []) (i * 25) ds) j).getD 0 0 ≠ 1 := by
      rw [hpad, pad_at _ _ 0 (by decide), Nat.add_zero]
      cases F with
      | none => simp
      | some zs =>
        refine (h zs rfl).2 j ?_
        rw [at_len, laid_len] at hl
        rw [at_len]
        simp only [Option.getD_some] at hl
        omega
    unfold upB
    rw [if_pos (.inl hl), if_pos (.inr hne)]
  · congr 1
    refine List.ext_getElem? (fun k => ?_)
    have hl2 : (bytesAt (some (laidL (F.getD []) (i * 25) ds)) j).length = 25 := by rw [at_len] at hl ⊢; omega
    by_cases hk : k < 25
    · have a1 := at_getD (laidL (F.getD []) (i * 25) ds) j k hk
      have a2 := pad_at (laidL (F.getD []) (i * 25) ds) j k hk
      rw [List.getD_eq_getElem?_getD] at a1 a2
      rw [List.getElem?_eq_getElem (by omega)] at a1 ⊢
      rw [List.getElem?_eq_getElem (by rw [pad_len]; exact hk)] at a2 ⊢
      simp only [Option.getD_some] at a1 a2
      rw [a1, a2]
    · rw [List.getElem?_eq_none (by omega), List.getElem?_eq_none (by rw [pad_len]; omega)]
theorem byts_take {ds : List Int} (h : Byts ds) (n : Nat) : Byts (ds.take n) := fun j => by
  have := h j
  rw [List.getD_eq_getElem?_getD] at this ⊢
  rw [List.getElem?_take]
  split
  · exact this
  · simp
theorem good_byts {F : Option (List Int)} (h : Good F) : ∀ zs, F = some zs → Byts zs := fun zs hz => (h zs hz).1
theorem byts_getD {F : Option (List Int)} (h : Good F) : Byts (F.getD []) := by
  cases F with
  | none => exact fun j => by simp
  | some zs => exact (h zs rfl).1
/-- Behind a loss of power, of which some changes were done and one in part. -/
theorem crash_view (D : FilesF) (l : List Chg) (t cut : Nat) (hG : Good (runs (l.take t) D nmF)) (hl : l[t]? = none ∨ ∃ j b, Bk.ok b ∧ l[t]? = some (.wr nmF (j * 25) (pkB b))) :
    (∀ zs, crashed l t cut D nmF = some zs → Byts zs) ∧ (cut = 0 → ∀ i, blkAt (crashed l t cut D nmF) i = blkAt (runs (l.take t) D nmF) i) ∧ (l[t]? = none → ∀ i, blkAt (crashed l t cut D nmF) i = blkAt (runs (l.take t) D nmF) i) ∧
      ∀ j b, l[t]? = some (.wr nmF (j * 25) (pkB b)) → ∀ i, i ≠ j → blkAt (crashed l t cut D nmF) i = blkAt (runs (l.take t) D nmF) i := by
  rcases hl with hl | ⟨j, b, hb, hl⟩
  · have e : crashed l t cut D = runs (l.take t) D := by simp [crashed, hl]
    rw [e]
    exact ⟨good_byts hG, fun _ _ => rfl, fun _ _ => rfl, fun _ _ _ _ _ => rfl⟩
  · have e : crashed l t cut D = torn nmF (j * 25) (pkB b) cut (runs (l.take t) D) := by simp [crashed, hl]
    by_cases hc : cut = 0
    · have e2 : crashed l t cut D = runs (l.take t) D := by rw [e]; simp [torn, hc]
      rw [e2]
      exact ⟨good_byts hG, fun _ _ => rfl, fun _ _ => rfl, fun _ _ _ _ _ => rfl⟩
    · have e2 : crashed l t cut D nmF = some (laidL ((runs (l.take t) D nmF).getD []) (j * 25) ((pkB b).take cut)) := by rw [e]; simp [torn, hc, Chg.run, updF]
      rw [e2]
      refine ⟨fun zs hz => ?_, fun h => absurd h hc, fun h => (by rw [h] at hl; cases hl), fun j' b' hl' i hi => ?_⟩
      · simp only [Option.some.injEq] at hz
        subst hz
        exact laid_bytes (byts_getD hG) (byts_take (up_pk b hb).2 cut)
      · rw [hl] at hl'
        simp only [Option.some.injEq, Chg.mk.injEq] at hl'
        have : j * 25 = j' * 25 := by omega
        exact blk_torn hG j i (by omega) (by rw [List.length_take, pk_len b hb]; omega)

/-- Behind a loss of power, where the first blocks were durable. -/
theorem dur_safe (D : FilesF) (us vs : List Bk) (t cut : Nat) (hG : Good (D nmF)) (hu : ∀ i, i < us.length → blkAt (D nmF) (5 + i) = us.getD i emptyB) (hok : ∀ b ∈ vs, b.ok) (ht : t ≤ vs.length) :
    (∀ zs, crashed (chs nmF 5 vs vs.length) t cut D nmF = some zs → Byts zs) ∧ ∀ i, i < us.length → (cut = 0 → blkAt (crashed (chs nmF 5 vs vs.length) t cut D nmF) (5 + i) = us.getD i emptyB ∨ (i < vs.length ∧ blkAt (crashed (chs nmF 5 vs vs.length) t cut D nmF) (5 + i) = vs.getD i emptyB)) ∧
      (vs.length ≤ i → blkAt (crashed (chs nmF 5 vs vs.length) t cut D nmF) (5 + i) = us.getD i emptyB) := by
  have hr := runs_view D nmF 5 vs hG hok t ht
  rw [← chs_take nmF 5 vs vs.length t ht] at hr
  have hl : (chs nmF 5 vs vs.length)[t]? = none ∨ ∃ j b, Bk.ok b ∧ (chs nmF 5 vs vs.length)[t]? = some (.wr nmF (j * 25) (pkB b)) := by
    by_cases h : t < vs.length
    · exact .inr ⟨5 + t, vs.getD t emptyB, hok _ (by rw [List.getD_eq_getElem?_getD, List.getElem?_eq_getElem h]; exact List.getElem_mem h), chs_at nmF 5 vs vs.length t h⟩
    · exact .inl (List.getElem?_eq_none (by rw [chs_len]; omega))
  obtain ⟨c1, c2, c3, c4⟩ := crash_view D (chs nmF 5 vs vs.length) t cut hr.1 hl
  refine ⟨c1, fun i hi => ⟨fun h0 => ?_, fun hk => ?_⟩⟩
  · rw [c2 h0, hr.2]
    by_cases hit : i < t
    · rw [if_pos (by omega), show 5 + i - 5 = i by omega]
      exact .inr ⟨by omega, rfl⟩
    · rw [if_neg (by omega), hu i hi]
      exact .inl rfl
  · by_cases h : t < vs.length
    · rw [c4 (5 + t) _ (chs_at nmF 5 vs vs.length t h) (5 + i) (by omega), hr.2, if_neg (by omega), hu i hi]
    · rw [c3 (List.getElem?_eq_none (by rw [chs_len]; omega)), hr.2, if_neg (by omega), hu i hi]
/-- Behind a loss of power, where nothing was durable. -/
theorem dur_loose (us vs : List Bk) (t cut : Nat) (hok1 : ∀ b ∈ us, b.ok) (hok : ∀ b ∈ vs, b.ok) (hvu : vs.length ≤ us.length) (ht : t ≤ us.length + vs.length) :
    (∀ zs, crashed (chs nmF 5 us us.length ++ chs nmF 5 vs vs.length) t cut (fun _ => none) nmF = some zs → Byts zs) ∧ ∀ i, i < us.length → cut = 0 → blkAt (crashed (chs nmF 5 us us.length ++ chs nmF 5 vs vs.length) t cut (fun _ => none) nmF) (5 + i) = us.getD i emptyB ∨
      (i < vs.length ∧ blkAt (crashed (chs nmF 5 us us.length ++ chs nmF 5 vs vs.length) t cut (fun _ => none) nmF) (5 + i) = vs.getD i emptyB) ∨ blkAt (crashed (chs nmF 5 us us.length ++ chs nmF 5 vs vs.length) t cut (fun _ => none) nmF) (5 + i) = emptyB := by
  obtain ⟨L, hL⟩ : ∃ L, L = chs nmF 5 us us.length ++ chs nmF 5 vs vs.length := ⟨_, rfl⟩
  rw [← hL]
  have hg0 : ∀ (bs : List Bk) (i : Nat), i < bs.length → bs.getD i emptyB ∈ bs := fun bs i hi => by rw [List.getD_eq_getElem?_getD, List.getElem?_eq_getElem hi]; exact List.getElem_mem hi
  have hl : L[t]? = none ∨ ∃ j b, Bk.ok b ∧ L[t]? = some (.wr nmF (j * 25) (pkB b)) := by
    rw [hL]
    by_cases h : t < us.length
    · rw [List.getElem?_append_left (by rw [chs_len]; exact h)]
      exact .inr ⟨5 + t, us.getD t emptyB, hok1 _ (hg0 us t h), chs_at nmF 5 us us.length t h⟩
    · rw [List.getElem?_append_right (by rw [chs_len]; omega), chs_len]
      by_cases h2 : t - us.length < vs.length
      · exact .inr ⟨5 + (t - us.length), vs.getD (t - us.length) emptyB, hok _ (hg0 vs _ h2), chs_at nmF 5 vs vs.length _ h2⟩
      · exact .inl (List.getElem?_eq_none (by rw [chs_len]; omega))
  have hview : Good (runs (L.take t) (fun _ => none) nmF) ∧ ∀ i, i < us.length → blkAt (runs (L.take t) (fun _ => none) nmF) (5 + i) = us.getD i emptyB ∨ (i < vs.length ∧ blkAt (runs (L.take t) (fun _ => none) nmF) (5 + i) = vs.getD i emptyB) ∨ blkAt (runs (L.take t) (fun _ => none) nmF) (5 + i) = emptyB := by
    by_cases h : t ≤ us.length
    · have e : L.take t = chs nmF 5 us t := by rw [hL, List.take_append_of_le_length (by rw [chs_len]; exact h), chs_take nmF 5 us us.length t h]
      rw [e]
      have hr := runs_view (fun _ => none) nmF 5 us good_none hok1 t h
      refine ⟨hr.1, fun i hi => ?_⟩
      rw [hr.2]
      by_cases hit : i < t
      · rw [if_pos (by omega), show 5 + i - 5 = i by omega]; exact .inl rfl
      · rw [if_neg (by omega), blk_none]; exact .inr (.inr rfl)
    · have e : L.take t = chs nmF 5 us us.length ++ chs nmF 5 vs (t - us.length) := by
        rw [hL, List.take_append, chs_len, List.take_of_length_le (by rw [chs_len]; omega), chs_take nmF 5 vs vs.length _ (by omega)]
      rw [e, runs_append]
      have h1 := runs_view (fun _ => none) nmF 5 us good_none hok1 us.length (Nat.le_refl _)
      have hr := runs_view (runs (chs nmF 5 us us.length) (fun _ => none)) nmF 5 vs h1.1 hok (t - us.length) (by omega)
      refine ⟨hr.1, fun i hi => ?_⟩
      rw [hr.2]
      by_cases hit : i < t - us.length
      · rw [if_pos (by omega), show 5 + i - 5 = i by omega]; exact .inr (.inl ⟨by omega, rfl⟩)
      · rw [if_neg (by omega), h1.2, if_pos (by omega), show 5 + i - 5 = i by omega]; exact .inl rfl
  obtain ⟨c1, c2, _, _⟩ := crash_view (fun _ => none) L t cut hview.1 hl
  refine ⟨c1, fun i hi h0 => ?_⟩
  rw [c2 h0]
  exact hview.2 i hi
end Go.Proofs.Ytmjpomkofgfbbaa
