/-
  The contract of slices.Clone on bytes.
-/
import Derived.Test.YtdplndlmdhpfaabMem
namespace Go.Proofs.Ytdplndlmdhpfaab
open Go.RowKit Go.Maps
set_option linter.unusedVariables false
set_option linter.unusedSimpArgs false

theorem Try.eqlNilSlice (w : World) : (binOp .eql 30 (.slice none 0 0) (.slice none 0 0)).run Try.prog w = .ok (.bool true) w := by kernel_rfl
theorem Try.eqlSlice (a : Addr) (n c : Nat) (w : World) : (binOp .eql 30 (.slice (some a) n c) (.slice none 0 0)).run Try.prog w = .ok (.bool false) w := by kernel_rfl

/-- append(v, p...), v owned. -/
theorem wpList_append_rd {w : World} {ops : Array Oper} {rest : List Oper} {o : Oper} {a : Act} {Q : Exit → Act → World → Prop} (hgd : o.guard = none) (s x : Operand)
    (ho : o.op = .call { callee := .builtin .append, args := #[s, x], argTypes := #[30, 30] })
    (base : Nat) (v : Value) (xs : List Int) (hs : a.eval s = v) (hown : w.ownsRow base 5 1 v xs.length (cels xs))
    (sv : Value) (ds : List Int) (hx : a.eval x = sv) (hrd : RdAt w sv ds) (hroom : xs.length + ds.length ≤ 140737488355328) (hbase : base ≤ w.heap.size)
    (h : ∀ v' w', w'.ownsRow base 5 1 v' (xs ++ ds).length (cels (xs ++ ds)) → w.grownBy w' v.ownBlock → wpList Try.prog ops Q rest (a.put o.dst v') w') :
    wpList Try.prog ops Q (o :: rest) a w := by
  obtain ⟨i0, hi0, hz0, hz1, hz2⟩ := info_parts Try.info5
  obtain ⟨sa, sc, rfl, hsn, hsl, hsr⟩ := hrd
  cases sa with
  | none =>
    obtain ⟨hl, rfl⟩ := hsn rfl
    obtain rfl : ds = [] := List.eq_nil_of_length_eq_zero hl
    refine wpList_append_own_none hgd s x 30 ho base 5 i0 1 Try.underlying30 hi0 v xs.length (cels xs) hs hown hx ?_
    exact h v w (by simpa using hown) ⟨rfl, rfl, rfl, Nat.le_refl _, fun _ _ _ => rfl⟩
  | some ad =>
    have hnews : ∀ (j : Nat) (u : Value), (cels ds)[j]? = some u → w.cell? (ad.add j) = some u := by
      intro j u hj
      rcases hsr with h0 | ⟨b, off, hb, hc⟩
      · obtain rfl : ds = [] := List.eq_nil_of_length_eq_zero h0
        simp [cels] at hj
      · have hb' : ad = ⟨b, off, none⟩ := by simpa using hb
        subst hb'
        rw [Go.WideShapes.add_plain]
        exact hc j u hj
    refine wpList_append_own w hgd s x 30 ho base 5 i0 (.int .u8 0) 1 1 Try.underlying30 hi0 hz0 hz1 hz2 rfl (by decide) v xs.length (cels xs) hs hown ad ds.length sc (cels ds) hx (by simp) hnews
      (cels_one _) (by unfold maxLen; omega) (by omega) hbase ?_
    intro v' w' hown' hg _
    exact h v' w' (by rw [List.length_append, cels_append]; exact hown') hg

/-- A row that may be read, as new memory or none. -/
theorem clone_any (w : World) (dv : Value) (ds : List Int) (hrd : RdAt w dv ds) (hl : ds.length ≤ 140737488355328) :
    Calls Try.prog 26 #[dv] w fun e w' => ∃ v', e = .returned v' ∧ Row w' v' ds ∧ w.grownBy w' none ∧ ∀ g, v'.ownBlock = some g → w.heap.size ≤ g := by
  obtain ⟨sa, sc, rfl, hsn, hsl, hsr⟩ := hrd
  cases sa with
  | none =>
    obtain ⟨hl0, rfl⟩ := hsn rfl
    obtain rfl : ds = [] := List.eq_nil_of_length_eq_zero hl0
    have h0 := Try.eqlNilSlice
    go_enter Try.func26, Try.ntmps26
    go_wp2
    go_ret
    exact ⟨_, rfl, row_nil _, ⟨rfl, rfl, rfl, Nat.le_refl _, fun _ _ _ => rfl⟩, by simp [Value.ownBlock]⟩
  | some ad =>
    have h0 := Try.eqlSlice ad ds.length sc
    have hrd' : ∀ o, RdAt (w.alloc o) (.slice (some ad) ds.length sc) ds := by
      intro o
      refine ⟨some ad, sc, rfl, hsn, hsl, ?_⟩
      rcases hsr with h | ⟨b, off, hb, hc⟩
      · exact .inl h
      · refine .inr ⟨b, off, hb, fun j u hu => ?_⟩
        have := hc j u hu
        exact (World.grownBy_alloc w o none).cell this (by simp)
    have hown0 : (w.alloc (.cells #[] 5)).ownsRow w.heap.size 5 1 (.slice (some ⟨w.heap.size, 0, none⟩) 0 0) ([] : List Int).length (cels []) := World.ownsRow_made w #[] 0 (Nat.le_refl _) (Nat.zero_le _) rfl
    replace hrd' := Kpt.mk hrd'
    replace hown0 := Kpt.mk hown0
    clear hsr hsn
    go_enter Try.func26, Try.ntmps26
    go_wp2_with (at_builtin; refine wpList_append_rd rfl _ _ rfl w.heap.size (.slice (some ⟨w.heap.size, 0, none⟩) 0 0) [] rfl hown0.out _ ds rfl (hrd'.out _) (by simpa using hl) (by simp) ?_; intro v' w' hown' hg')
    go_ret
    rw [List.nil_append] at hown'
    have hgr : w.grownBy w' none := (World.grownBy_alloc w (.cells #[] 5) none).andThen hg' (by simp [Value.ownBlock])
    refine ⟨v', rfl, ⟨hown'.1, ?_⟩, hgr, fun g hg => (hown'.lt g hg).1⟩
    rcases hown'.2 with hn | ⟨g, cap, cur, hv, hb, rest⟩
    · exact .inl hn
    · exact .inr ⟨g, cap, cur, hv, Nat.zero_le _, rest⟩
end Go.Proofs.Ytdplndlmdhpfaab
