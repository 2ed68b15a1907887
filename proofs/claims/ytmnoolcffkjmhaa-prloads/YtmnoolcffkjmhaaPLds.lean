/-
  The document's Load of any bytes; the walk of PrLoads.
-/
import Derived.Test.YtmnoolcffkjmhaaPLd1
import Derived.Test.YtmnoolcffkjmhaaPLdT
import Derived.Test.YtmnoolcffkjmhaaPLdN
import Derived.Test.YtmnoolcffkjmhaaPLdG
import Derived.Test.YtmnoolcffkjmhaaPLdH
import Derived.Test.YtmnoolcffkjmhaaPLdZe
import Derived.Test.YtmnoolcffkjmhaaPLdZn
import Derived.Test.YtmnoolcffkjmhaaPLdAe
import Derived.Test.YtmnoolcffkjmhaaPLdAn
import Derived.Test.YtmnoolcffkjmhaaPLdOe
import Derived.Test.YtmnoolcffkjmhaaPLdOn
import Derived.Test.YtmnoolcffkjmhaaPLoadC
import Derived.Test.YtmnoolcffkjmhaaPKeep
import Derived.Test.YtmnoolcffkjmhaaPLook
namespace Go.Proofs.Ytmnoolcffkjmhaa
open Go.RowKit
set_option linter.unusedVariables false
set_option linter.unusedSimpArgs false

theorem keyF_range (Z : List Int) (hb : B.Bytes Z) : ∀ k j, 0 ≤ keyF (prs Z k) j ∧ keyF (prs Z k) j < 18446744073709551616
  | 0, j => by simp [prs, keyF]
  | k + 1, j => by
    rw [prs_succ]
    unfold keyF
    rw [List.foldl_append]
    have h1 := keyF_range Z hb k j
    have h2 := num8_nonneg Z hb (9 * k + 1) 8
    simp only [List.foldl_cons, List.foldl_nil, upd]
    split
    · omega
    · exact h1
theorem regs_some (t : Tb) (h : 0 < t.regs.length) : ∃ j, j < 8 ∧ t.ks j ≠ 0 := by
  apply Classical.byContradiction
  intro hno
  have := regsTo_zero t.ks 0 8 (fun j _ h2 => Classical.byContradiction (fun hj => hno ⟨j, by omega, hj⟩))
  unfold Tb.regs at h
  rw [show (8 : Nat) = 0 + 8 from rfl, this] at h
  simp [regsTo] at h

theorem first_bad (P : Nat → Prop) [DecidablePred P] : ∀ m, (∀ k, k < m → P k) ∨ ∃ d, d < m ∧ ¬ P d ∧ ∀ k, k < d → P k
  | 0 => .inl (fun k hk => by omega)
  | m + 1 => by
    rcases first_bad P m with h | ⟨d, h1, h2, h3⟩
    · by_cases hp : P m
      · exact .inl (fun k hk => by by_cases e : k = m; exact e ▸ hp; exact h k (by omega))
      · exact .inr ⟨m, by omega, hp, h⟩
    · exact .inr ⟨d, by omega, h2, h3⟩

set_option maxRecDepth 100000 in
set_option maxHeartbeats 1000000 in
theorem rl_form (a : Option Addr) (n c : Nat) (w : World) (hn : n ≤ maxLen) (h0 : n ≠ 0) (hf : n < 5 ∨ ¬ (n - 5) % 9 = 0) :
    Calls Try.prog 13 #[.slice a n c] w fun e w' => e = .returned (.tuple #[.pointer none, .int .i64 3]) ∧ Below w.heap.size w w' := by
  unfold maxLen at hn
  have hlb : ((n : Int) == 0) = false := by simp; omega
  have hn0 : ¬ (n : Int) = 0 := by omega
  by_cases h5 : n < 5
  · have i5 : (n : Int) < 5 := by omega
    go_enter Try.func13, Try.ntmps13
    go_wp2
    go_ret2
    exact ⟨rfl, (Below.refl _ _).alloc (Nat.le_refl _) _⟩
  · have i5 : ¬ (n : Int) < 5 := by omega
    have hm : ¬ ((n : Int) - 5) % 9 = 0 := by omega
    have hmb : (((n : Int) - 5) % 9 == 0) = false := by simp; omega
    have hnm : (n : Int) - 5 ≤ 9223372036854775807 := by omega
    have hnp : (0 : Int) ≤ (n : Int) - 5 := by omega
    go_enter Try.func13, Try.ntmps13
    go_wp2
    go_ret2
    exact ⟨rfl, (Below.refl _ _).alloc (Nat.le_refl _) _⟩

theorem rl_none (g off n c : Nat) (Z : List Int) (w : World) (hcell : ∀ j, j < n → w.cell? ⟨g, off + j, none⟩ = some (.int .u8 (Z.getD j 0))) (hzl : Z.length = n) (hb : B.Bytes Z) (hgl : g < w.heap.size) (hc : n ≤ c ∧ c ≤ maxLen) (h0 : n ≠ 0) (hno : loadM n Z = none) :
    Calls Try.prog 13 #[.slice (some ⟨g, off, none⟩) n c] w fun e w' => e = .returned (.tuple #[.pointer none, .int .i64 3]) ∧ Below w.heap.size w w' := by
  by_cases hf : n < 5 ∨ ¬ (n - 5) % 9 = 0
  · exact rl_form _ n c w (Nat.le_trans hc.1 hc.2) h0 hf
  · obtain ⟨m, rfl⟩ : ∃ m, n = 5 + 9 * m := ⟨(n - 5) / 9, by omega⟩
    rcases first_bad (fun k => Z.getD (5 + 9 * k) 0 ≤ 7) m with hok | ⟨d, hd, hbad, hok⟩
    · have hgood : ∀ hg : (tbZ Z m).good, ¬ (tbZ Z m).save = Z := fun hg e => by
        have hl := load_of_save (tbZ Z m) hg
        rw [e, hzl, hno] at hl
        cases hl
      have hkr : ∀ j, j < 8 → 0 ≤ (tbZ Z m).ks j ∧ (tbZ Z m).ks j < 18446744073709551616 := fun j _ => keyF_range _ (bytes_drop hb 5) m j
      have hgn : 0 ≤ (tbZ Z m).gn ∧ (tbZ Z m).gn < 4294967296 := by show (0 : Int) ≤ 0 ∧ (0 : Int) < _; omega
      have h3b := hb 3
      by_cases k0 : Z.getD 2 0 = 0
      · have hg : (tbZ Z m).good := ⟨.inl k0, fun a => absurd k0 a, fun a => (by have a' : isAll (Z.getD 2 0) = true := a; rw [k0] at a'; simp [isAll] at a'), hgn, hkr⟩
        exact rl_Zn g off m c Z w hcell hzl hb hgl hc hok hg (hgood hg) k0
      · cases hty : isTy (Z.getD 2 0) with
        | false => exact rl_T g off m c Z w hcell hzl hb hgl hc hok k0 hty
        | true =>
          cases hal : isAll (Z.getD 2 0) with
          | true =>
            by_cases hr : (tbZ Z m).regs.length = 0
            · exact rl_N g off m c Z w hcell hzl hb hgl hc hok k0 hty hal hr
            · have hg : (tbZ Z m).good := ⟨.inr hty, fun _ a => (by have a' : isAll (Z.getD 2 0) = false := a; rw [hal] at a'; cases a'), fun _ => regs_some _ (by omega), hgn, hkr⟩
              exact rl_An g off m c Z w hcell hzl hb hgl hc hok hg (hgood hg) k0 hty hal (by omega)
          | false =>
            by_cases hbig : 7 < Z.getD 3 0
            · exact rl_G g off m c Z w hcell hzl hb hgl hc hok k0 hty hal hbig
            · by_cases hnk : (tbZ Z m).ks (Z.getD 3 0).toNat = 0
              · exact rl_H g off m c Z w hcell hzl hb hgl hc hok k0 hty hal hbig hnk
              · have hg : (tbZ Z m).good := ⟨.inr hty, fun _ _ => ⟨h3b.1, by show Z.getD 3 0 < 8; omega, hnk⟩, fun a => (by have a' : isAll (Z.getD 2 0) = true := a; rw [hal] at a'; cases a'), hgn, hkr⟩
                exact rl_On g off m c Z w hcell hzl hb hgl hc hok hg (hgood hg) k0 hty hal hbig hnk
    · exact rl_nexus g off m c Z w hcell hzl hb hgl hc d hd (by omega) hok

theorem rl_some (g off n c : Nat) (Z : List Int) (w : World) (hcell : ∀ j, j < n → w.cell? ⟨g, off + j, none⟩ = some (.int .u8 (Z.getD j 0))) (hzl : Z.length = n) (hb : B.Bytes Z) (hgl : g < w.heap.size) (hc : n ≤ c ∧ c ≤ maxLen) (h0 : n ≠ 0) (t : Tb) (ht : loadM n Z = some t) :
    t.good ∧ Calls Try.prog 13 #[.slice (some ⟨g, off, none⟩) n c] w fun e w' => ∃ C y, e = .returned (.tuple #[.pointer (some ⟨C, 0, none⟩), .int .i64 0]) ∧ w.heap.size ≤ C ∧ RTab w' C t y ∧ Below w.heap.size w w' := by
  obtain ⟨m, rfl, rfl, hg, hsv, hok⟩ := loadM_save n Z hzl hb t h0 ht
  refine ⟨hg, ?_⟩
  have h3b := hb 3
  by_cases k0 : Z.getD 2 0 = 0
  · exact rl_Ze g off m c Z w hcell hzl hb hgl hc hok hg hsv k0
  · have hty : isTy (Z.getD 2 0) = true := by
      rcases hg.ty with e | e
      · exact absurd e k0
      · exact e
    cases hal : isAll (Z.getD 2 0) with
    | true =>
      obtain ⟨j, hj, hk⟩ := hg.all hal
      have hr : 0 < (tbZ Z m).regs.length := by
        have := regsTo_at (tbZ Z m).ks j hk 8 hj
        exact Nat.lt_of_le_of_lt (Nat.zero_le _) (List.getElem?_eq_some_iff.1 this).1
      exact rl_Ae g off m c Z w hcell hzl hb hgl hc hok hg hsv k0 hty hal hr
    | false =>
      obtain ⟨a1, a2, a3⟩ := hg.one k0 hal
      have a2' : Z.getD 3 0 < 8 := a2
      exact rl_Oe g off m c Z w hcell hzl hb hgl hc hok hg hsv k0 hty hal (by omega) a3
end Go.Proofs.Ytmnoolcffkjmhaa
