/-
  A list of bytes, of whatever make, that is appended to one that the call owns.
-/
import Derived.Test.YtcgojpnjaloofaaCRes
import Derived.Laws.AppendOwnNone
namespace Go.Proofs.Ytcgojpnjaloofaa
open Go.RowKit
set_option linter.unusedVariables false

theorem wpList_append_any {w : World} {ops : Array Oper} {rest : List Oper} {o : Oper} {a : Act} {Q : Exit → Act → World → Prop} (hgd : o.guard = none) (s x : Operand)
    (ho : o.op = .call { callee := .builtin .append, args := #[s, x], argTypes := #[22, 22] })
    (base : Nat) (v sv : Value) (n k : Nat) (xs Y : List Int) (hs : a.eval s = v) (hx : a.eval x = sv) (hown : w.ownsRow base 5 1 v n (cels xs)) (hr : RdAt w sv Y) (h0 : 0 < n)
    (hk : k = n + Y.length) (hroom : k ≤ 140737488355328) (hbase : base ≤ w.heap.size)
    (h : ∀ g c w', Kpt (w'.ownsRow base 5 1 (.slice (some ⟨g, 0, none⟩) k c) k (cels (xs ++ Y))) → Kpt (base ≤ g ∧ g < w'.heap.size) → Kpt (Below base w w') → wpList Try.prog ops Q rest (a.put o.dst (.slice (some ⟨g, 0, none⟩) k c)) w') :
    wpList Try.prog ops Q (o :: rest) a w := by
  obtain ⟨i0, hi0, hz0, hz1, hz2⟩ := info_parts Try.info5
  obtain ⟨sa, c, rfl, hcz, hyc, hrd⟩ := hr
  subst hk
  cases sa with
  | none =>
    obtain ⟨hy0, rfl⟩ := hcz rfl
    have hY0 : Y = [] := List.eq_nil_of_length_eq_zero hy0
    subst hY0
    refine wpList_append_own_none hgd s x 22 ho base 5 i0 1 Try.underlying22 hi0 v n (cels xs) hs hown hx ?_
    obtain ⟨g, cap, rfl, hg, hlt⟩ := own_shape hown h0
    exact h g cap w ⟨by simpa using hown⟩ ⟨hg, hlt⟩ ⟨Below.refl _ _⟩
  | some ad =>
    have hnews : ∀ (j : Nat) (u : Value), (cels Y)[j]? = some u → w.cell? (ad.add j) = some u := by
      rcases hrd with h0 | ⟨b, off, hb, hc⟩
      · have hY0 : Y = [] := List.eq_nil_of_length_eq_zero (by omega)
        subst hY0
        intro j u hj; simp [cels] at hj
      · have hb' : ad = ⟨b, off, none⟩ := by simpa using hb
        subst hb'
        exact fun j u hu => by rw [Go.WideShapes.add_plain]; exact hc j u hu
    refine wpList_append_own w hgd s x 22 ho base 5 i0 (.int .u8 0) 1 1 Try.underlying22 hi0 hz0 hz1 hz2 rfl (by decide) v n (cels xs) hs hown ad Y.length c (cels Y) hx (by simp) hnews
      (cels_one _) (by unfold maxLen; omega) (by omega) hbase ?_
    intro v' w' hown' hg _
    obtain ⟨g, cap, rfl, hgb, hlt⟩ := own_shape hown' (by omega)
    exact h g cap w' ⟨by rw [cels_append]; exact hown'⟩ ⟨hgb, hlt⟩ ⟨(Below.refl _ _).grown hg hbase (fun k hk => (World.ownsRow.lt hown k hk).1)⟩

theorem pow_u8 (d : Nat) (hd : d < 8) : ((2 : Int) ^ d % 256).toNat = 2 ^ d ∧ 0 ≤ (2 : Int) ^ d % 256 ∧ (2 : Int) ^ d % 256 < 256 := B.pow8 d hd
theorem or_nat (z : Int) (d : Nat) (hz : 0 ≤ z ∧ z ≤ 255) (hd : d < 8) : bits .or .u8 z (2 ^ d % 256) = ((z.toNat ||| 2 ^ d : Nat) : Int) := by
  obtain ⟨h1, h2, h3⟩ := pow_u8 d hd
  rw [u8_or _ _ hz.1 (by omega) h2 h3, h1]
end Go.Proofs.Ytcgojpnjaloofaa
