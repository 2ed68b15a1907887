/-
  pdu: Decode of any bytes.
-/
import Derived.Test.YtigfoldobkigeaaUDecC
namespace Go.Proofs.Ytigfoldobkigeaa
open Go.RowKit
set_option linter.unusedVariables false
set_option linter.unusedSimpArgs false

def bodyM (zs : List Int) : Nat := lenD (zs.take 48) + padN (lenD (zs.take 48))
def s2B (d : Bool) (m : Nat) : Bool := d && decide (0 < m)
/-- The error's number. -/
def decE (zs : List Int) (h d : Bool) : Int :=
  if zs.length < 48 + sz h then 8
  else if h = true ∧ ¬ B.num zs 48 4 = (sumL (zs.take 48) : Int) then 5
  else if formB (zs.take 48) = false then 3
  else if zs.length - (48 + sz h) < bodyM zs + sz (s2B d (bodyM zs)) then 8
  else if s2B d (bodyM zs) = true ∧ ¬ B.num (zs.drop (48 + sz h)) (bodyM zs) 4 = (sumL ((zs.drop (48 + sz h)).take (bodyM zs)) : Int) then 5
  else if zeroB (((zs.drop (48 + sz h)).take (bodyM zs)).drop (lenD (zs.take 48))) = false then 3
  else 0
def decN (zs : List Int) (h d : Bool) : Nat := 48 + sz h + bodyM zs + sz (s2B d (bodyM zs))
def decP (zs : List Int) (h : Bool) : Pd := headK (zs.take 48) ((zs.drop (48 + sz h)).take (lenD (zs.take 48))) 7

/-- What Decode leaves. -/
def DecOut (zs : List Int) (h d : Bool) (w : World) (e : Ending) (w' : World) : Prop :=
  Below w.heap.size w w' ∧ ((¬ decE zs h d = 0 ∧ e = .returned (.tuple #[.agg (noP.vals (.slice none 0 0)), .int .i64 0, .int .i64 (decE zs h d)])) ∨
    (decE zs h d = 0 ∧ ∃ v, e = .returned (.tuple #[.agg ((decP zs h).vals v), .int .i64 (decN zs h d : Int), .int .i64 0]) ∧ Row w' v (decP zs h).d ∧ ∀ g, v.ownBlock = some g → w.heap.size ≤ g))

theorem decode_any (a : Option Addr) (n c : Nat) (zs : List Int) (h d : Bool) (w : World) (hr : RdAt w (.slice a n c) zs) (hn : n ≤ 140737488355328) (hc : c ≤ maxLen) (hb : Bytes zs) :
    Calls Try.prog 12 #[.slice a n c, .bool h, .bool d] w (DecOut zs h d w) := by
  have hzl := (rd_row hr).1
  by_cases c1 : zs.length < 48 + sz h
  · have e : decE zs h d = 8 := by unfold decE; rw [if_pos c1]
    refine (dec_none a n c h d w hn (by omega)).mono ?_
    rintro e' w' ⟨rfl, hb'⟩
    exact ⟨hb', .inl ⟨by rw [e]; decide, by rw [e]⟩⟩
  obtain ⟨b, off, rfl⟩ : ∃ b off, a = some ⟨b, off, none⟩ := by
    obtain ⟨a', c', hv, h1, h2, h3⟩ := id hr
    simp only [Value.slice.injEq] at hv
    obtain ⟨rfl, -, -⟩ := hv
    rcases h3 with h3 | ⟨b, off, rfl, -⟩
    · omega
    · exact ⟨b, off, rfl⟩
  by_cases c2 : h = true ∧ ¬ B.num zs 48 4 = (sumL (zs.take 48) : Int)
  · have e : decE zs h d = 5 := by unfold decE; rw [if_neg c1, if_pos c2]
    obtain ⟨rfl, hq⟩ := c2
    have hs : 52 ≤ n := by simp [sz] at c1; omega
    refine (dec_sum b off n c d zs w hr hn hc hb hs hq).mono ?_
    rintro e' w' ⟨rfl, hb'⟩
    exact ⟨hb', .inl ⟨by rw [e]; decide, by rw [e]⟩⟩
  have hq : h = true → B.num zs 48 4 = (sumL (zs.take 48) : Int) := fun h1 => Classical.byContradiction fun h2 => c2 ⟨h1, h2⟩
  by_cases c3 : formB (zs.take 48) = false
  · have e : decE zs h d = 3 := by unfold decE; rw [if_neg c1, if_neg c2, if_pos c3]
    refine (dec_form b off n c h d zs w hr hn hc hb (by omega) hq c3).mono ?_
    rintro e' w' ⟨rfl, hb'⟩
    exact ⟨hb', .inl ⟨by rw [e]; decide, by rw [e]⟩⟩
  have hf : formB (zs.take 48) = true := by cases hh : formB (zs.take 48) <;> simp_all
  by_cases c4 : zs.length - (48 + sz h) < bodyM zs + sz (s2B d (bodyM zs))
  · have e : decE zs h d = 8 := by unfold decE; rw [if_neg c1, if_neg c2, if_neg c3, if_pos c4]
    cases d with
    | false =>
      refine (dec_cutF b off n c h zs w hr hn hc hb (by omega) hq _ _ _ _ rfl rfl rfl rfl hf (by rw [← hzl]; exact c4)).mono ?_
      rintro e' w' ⟨rfl, hb'⟩
      exact ⟨hb', .inl ⟨by rw [e]; decide, by rw [e]⟩⟩
    | true =>
      refine (dec_cutT b off n c h zs w hr hn hc hb (by omega) hq _ _ _ _ rfl rfl rfl rfl hf (by rw [← hzl]; exact c4)).mono ?_
      rintro e' w' ⟨rfl, hb'⟩
      exact ⟨hb', .inl ⟨by rw [e]; decide, by rw [e]⟩⟩
  by_cases c5 : s2B d (bodyM zs) = true ∧ ¬ B.num (zs.drop (48 + sz h)) (bodyM zs) 4 = (sumL ((zs.drop (48 + sz h)).take (bodyM zs)) : Int)
  · have e : decE zs h d = 5 := by unfold decE; rw [if_neg c1, if_neg c2, if_neg c3, if_neg c4, if_pos c5]
    obtain ⟨h1, h2⟩ := c5
    have h1' := h1
    simp only [s2B, Bool.and_eq_true, decide_eq_true_eq] at h1'
    obtain ⟨rfl, h0⟩ := h1'
    have hbo : bodyM zs + 4 ≤ n - (48 + sz h) := by rw [h1] at c4; simp only [sz, if_true] at c4; rw [← hzl]; unfold sz; omega
    refine (dec_sum2 b off n c h zs w hr hn hc hb (by omega) hq _ _ _ _ rfl rfl rfl rfl hf h0 hbo h2).mono ?_
    rintro e' w' ⟨rfl, hb'⟩
    exact ⟨hb', .inl ⟨by rw [e]; decide, by rw [e]⟩⟩
  have hq2 : s2B d (bodyM zs) = true → B.num (zs.drop (48 + sz h)) (bodyM zs) 4 = (sumL ((zs.drop (48 + sz h)).take (bodyM zs)) : Int) := fun h1 => Classical.byContradiction fun h2 => c5 ⟨h1, h2⟩
  have hbo : bodyM zs + sz (s2B d (bodyM zs)) ≤ n - (48 + sz h) := by omega
  by_cases c6 : zeroB (((zs.drop (48 + sz h)).take (bodyM zs)).drop (lenD (zs.take 48))) = false
  · have e : decE zs h d = 3 := by unfold decE; rw [if_neg c1, if_neg c2, if_neg c3, if_neg c4, if_neg c5, if_pos c6]
    cases d with
    | false =>
      by_cases hcl : c - (48 + sz h) = lenD (zs.take 48)
      · refine (dec_padFe b off n c h zs w hr hn hc hb (by omega) hq _ _ _ _ rfl rfl rfl rfl hf hbo hq2 c6 hcl).mono ?_
        rintro e' w' ⟨rfl, hb'⟩
        exact ⟨hb', .inl ⟨by rw [e]; decide, by rw [e]⟩⟩
      · refine (dec_padFn b off n c h zs w hr hn hc hb (by omega) hq _ _ _ _ rfl rfl rfl rfl hf hbo hq2 c6 hcl).mono ?_
        rintro e' w' ⟨rfl, hb'⟩
        exact ⟨hb', .inl ⟨by rw [e]; decide, by rw [e]⟩⟩
    | true =>
      by_cases hcl : c - (48 + sz h) = lenD (zs.take 48)
      · refine (dec_padTe b off n c h zs w hr hn hc hb (by omega) hq _ _ _ _ rfl rfl rfl rfl hf hbo hq2 c6 hcl).mono ?_
        rintro e' w' ⟨rfl, hb'⟩
        exact ⟨hb', .inl ⟨by rw [e]; decide, by rw [e]⟩⟩
      · refine (dec_padTn b off n c h zs w hr hn hc hb (by omega) hq _ _ _ _ rfl rfl rfl rfl hf hbo hq2 c6 hcl).mono ?_
        rintro e' w' ⟨rfl, hb'⟩
        exact ⟨hb', .inl ⟨by rw [e]; decide, by rw [e]⟩⟩
  have e : decE zs h d = 0 := by unfold decE; rw [if_neg c1, if_neg c2, if_neg c3, if_neg c4, if_neg c5, if_neg c6]
  have hz : zeroB (((zs.drop (48 + sz h)).take (bodyM zs)).drop (lenD (zs.take 48))) = true := by cases hh : zeroB (((zs.drop (48 + sz h)).take (bodyM zs)).drop (lenD (zs.take 48))) <;> simp_all
  cases d with
  | false =>
    by_cases hcl : c - (48 + sz h) = lenD (zs.take 48)
    · refine (dec_okFe b off n c h zs w hr hn hc hb (by omega) hq _ _ _ _ rfl rfl rfl rfl hf hbo hq2 hz hcl).mono ?_
      rintro e' w' ⟨v, rfl, h1, h2, hb'⟩
      exact ⟨hb', .inr ⟨e, v, rfl, h1, h2⟩⟩
    · refine (dec_okFn b off n c h zs w hr hn hc hb (by omega) hq _ _ _ _ rfl rfl rfl rfl hf hbo hq2 hz hcl).mono ?_
      rintro e' w' ⟨v, rfl, h1, h2, hb'⟩
      exact ⟨hb', .inr ⟨e, v, rfl, h1, h2⟩⟩
  | true =>
    by_cases hcl : c - (48 + sz h) = lenD (zs.take 48)
    · refine (dec_okTe b off n c h zs w hr hn hc hb (by omega) hq _ _ _ _ rfl rfl rfl rfl hf hbo hq2 hz hcl).mono ?_
      rintro e' w' ⟨v, rfl, h1, h2, hb'⟩
      exact ⟨hb', .inr ⟨e, v, rfl, h1, h2⟩⟩
    · refine (dec_okTn b off n c h zs w hr hn hc hb (by omega) hq _ _ _ _ rfl rfl rfl rfl hf hbo hq2 hz hcl).mono ?_
      rintro e' w' ⟨v, rfl, h1, h2, hb'⟩
      exact ⟨hb', .inr ⟨e, v, rfl, h1, h2⟩⟩
end Go.Proofs.Ytigfoldobkigeaa
