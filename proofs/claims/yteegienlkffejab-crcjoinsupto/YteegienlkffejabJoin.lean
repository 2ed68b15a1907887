/-
  A list of bytes, of whatever make, that is appended to one that the call owns.
-/
import Derived.Test.YteegienlkffejabOwn
namespace Go.Proofs.Yteegienlkffejab
open Go.RowKit
set_option linter.unusedVariables false

theorem wpList_append_row {w : World} {ops : Array Oper} {rest : List Oper} {o : Oper} {a : Act} {Q : Exit → Act → World → Prop} (hgd : o.guard = none) (s x : Operand)
    (ho : o.op = .call { callee := .builtin .append, args := #[s, x], argTypes := #[22, 22] })
    (base : Nat) (v : Value) (n : Nat) (xs : List Int) (hs : a.eval s = v) (hown : w.ownsRow base 5 1 v n (xs.map (Value.int .u8)))
    (sa : Option Addr) (m c : Nat) (Y : List Int) (hx : a.eval x = .slice sa m c) (hcz : sa = none → m = 0 ∧ c = 0) (hY : Y.length = m) (hr : RowAt w sa m Y)
    (hroom : n + m ≤ 140737488355328) (hbase : base ≤ w.heap.size)
    (h : ∀ v' w', w'.ownsRow base 5 1 v' (n + m) ((xs ++ Y).map (Value.int .u8)) → Below base w w' → wpList Try.prog ops Q rest (a.put o.dst v') w') :
    wpList Try.prog ops Q (o :: rest) a w := by
  obtain ⟨i0, hi0, hz0, hz1, hz2⟩ := info_parts Try.info5
  cases sa with
  | none =>
    obtain ⟨rfl, rfl⟩ := hcz rfl
    have hY0 : Y = [] := List.eq_nil_of_length_eq_zero hY
    subst hY0
    refine wpList_append_own_none hgd s x 22 ho base 5 i0 1 Try.underlying22 hi0 v n (xs.map (Value.int .u8)) hs hown hx ?_
    exact h v w (by simpa using hown) (Below.refl _ _)
  | some ad =>
    have hnews : ∀ (j : Nat) (u : Value), (Y.map (Value.int .u8))[j]? = some u → w.cell? (ad.add j) = some u := by
      rcases hr with h0 | ⟨b, off, hb, hc⟩
      · have hY0 : Y = [] := List.eq_nil_of_length_eq_zero (by omega)
        subst hY0
        intro j u hj; simp at hj
      · have hb' : ad = ⟨b, off, none⟩ := by simpa using hb
        subst hb'
        exact src_cells hY hc
    refine wpList_append_own w hgd s x 22 ho base 5 i0 (.int .u8 0) 1 1 Try.underlying22 hi0 hz0 hz1 hz2 rfl (by decide) v n (xs.map (Value.int .u8)) hs hown ad m c (Y.map (Value.int .u8)) hx (by simp [hY]) hnews
      (ints_oneCell _ _) (by unfold maxLen; omega) (by omega) hbase ?_
    intro v' w' hown' hg _
    exact h v' w' (by rw [List.map_append]; exact hown') ((Below.refl _ _).grown hg hbase (fun k hk => (hown.lt k hk).1))

end Go.Proofs.Yteegienlkffejab
