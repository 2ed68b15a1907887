/-
  Slots: the law's own 'laid', and the document's Decode of any bytes.
-/
import Derived.Test.YtndlpmnidpandaaLRdc
namespace Go.Proofs.Ytndlpmnidpandaa
open Go.RowKit
set_option linter.unusedVariables false
set_option linter.unusedSimpArgs false

theorem laid_eq (z ds : List Int) : laidL z 0 ds = ds ++ z.drop ds.length := by
  unfold laidL over
  simp only [List.take_zero, List.nil_append, Nat.zero_add]
  congr 1
  by_cases h : z.length ≤ ds.length
  · rw [List.drop_of_length_le (by simp; omega), List.drop_of_length_le h]
  · have : ds.length - z.length = 0 := by omega
    rw [this]; simp

theorem own_any {w : World} {base n : Nat} {v : Value} {xs : List Value} (h : w.ownsRow base 5 1 v n xs) : ∃ a cap, v = .slice a n cap := by
  rcases id h.2 with ⟨e, h'⟩ | ⟨g, cap, cur, h', hb, _⟩
  · exact ⟨none, 0, by rw [e, h']⟩
  · exact ⟨_, cap, h'⟩

/-- append of bytes that can be read onto a row of one's own; also of none onto none. -/
theorem wpList_append_rdz {w : World} {ops : Array Oper} {rest : List Oper} {o : Oper} {a : Act} {Q : Exit → Act → World → Prop} (hgd : o.guard = none) (d s : Operand)
    (ho : o.op = .call { callee := .builtin .append, args := #[d, s], argTypes := #[23, 23] })
    (base : Nat) (v sv : Value) (zs ds : List Int) (m n : Nat) (hd : a.eval d = v) (hs : a.eval s = sv) (hown : w.ownsRow base 5 1 v m (cels zs)) (hrd : RdAt w sv ds) (hm : zs.length = m) (hn : m + ds.length = n) (hlen : n ≤ 140737488355328) (hb : base ≤ w.heap.size)
    (h : ∀ x cap w', Kpt (w'.ownsRow base 5 1 (.slice x n cap) n (cels (zs ++ ds))) → Kpt (w.grownBy w' v.ownBlock) →
      wpList Try.prog ops Q rest (a.put o.dst (.slice x n cap)) w') : wpList Try.prog ops Q (o :: rest) a w := by
  subst hm hn
  obtain ⟨i0, hi0, hz0, hz1, hz2⟩ := info_parts Try.info5
  obtain ⟨sa, sc, rfl, hsn, hsl, hsr⟩ := hrd
  cases sa with
  | none =>
    obtain ⟨e1, rfl⟩ := hsn rfl
    obtain rfl : ds = [] := List.eq_nil_of_length_eq_zero e1
    refine wpList_append_own_none hgd d s 23 ho base 5 i0 1 Try.underlying23 hi0 v zs.length (cels zs) hd hown hs ?_
    obtain ⟨x, cap, rfl⟩ := own_any hown
    exact h x cap w ⟨by simpa using hown⟩ ⟨rfl, rfl, rfl, Nat.le_refl _, fun _ _ _ => rfl⟩
  | some x =>
    have hcell : ∀ j u, (cels ds)[j]? = some u → w.cell? (x.add j) = some u := fun j u hu => by
      rcases hsr with h1 | ⟨b, soff, e, hc⟩
      · rw [List.getElem?_eq_none (by simp; omega)] at hu; cases hu
      · cases e; rw [Go.WideShapes.add_plain]; exact hc j u hu
    refine wpList_append_own _ hgd d s 23 ho base 5 i0 (.int .u8 0) 1 1 Try.underlying23 hi0 hz0 hz1 hz2 rfl (by decide) v zs.length (cels zs) hd hown x ds.length sc (cels ds) hs (by simp) hcell (cels_one _) (by unfold maxLen; omega) (by omega) hb ?_
    intro v1 w1 hown1 hg1 _
    obtain ⟨x, cap, rfl⟩ := own_any hown1
    exact h x cap w1 ⟨by rw [cels_append]; exact hown1⟩ ⟨hg1⟩

set_option maxRecDepth 100000 in
set_option maxHeartbeats 1000000 in
theorem llaid_any (a1 : Option Addr) (n1 c1 : Nat) (zs : List Int) (a2 : Option Addr) (n2 c2 : Nat) (ds : List Int) (w : World) (r1 : RdAt w (.slice a1 n1 c1) zs) (l1 : zs.length = n1) (r2 : RdAt w (.slice a2 n2 c2) ds) (l2 : ds.length = n2) (hs : n1 + n2 ≤ 1000000) (N : Nat) (hN : N = (laidL zs 0 ds).length) :
    Calls Try.prog 16 #[.slice a1 n1 c1, .slice a2 n2 c2] w fun e w' => ∃ a c, e = .returned (.slice a N c) ∧ w'.ownsRow w.heap.size 5 1 (.slice a N c) N (cels (laidL zs 0 ds)) ∧ Below w.heap.size w w' := by
  rw [laid_eq] at hN ⊢
  have r2' := Kpt.mk r2
  by_cases hlt : n2 < n1
  · have i1 : (n2 : Int) < n1 := by omega
    obtain ⟨hc1, b, off, rfl⟩ := rd_some r1 (by omega)
    have i2 : ¬ c1 = n2 := by omega
    have hNn : N = n1 := by rw [hN, List.length_append, List.length_drop]; omega
    have hd : ∀ W, Below w.heap.size w W → RdAt W (.slice (some ⟨b, off + n2, none⟩) (n1 - n2) (c1 - n2)) (zs.drop n2) := fun W hW => by
      have := rd_mid r1 n2 (n1 - n2) (by omega)
      rw [List.take_of_length_le (by simp; omega)] at this
      exact this.bel hW
    replace hd := Kpt.mk hd
    have e1 : ds.length + (zs.drop n2).length = N := by rw [hNn, List.length_drop]; omega
    rw [l2]
    replace hN := Kpt.mk hN
    replace hNn := Kpt.mk hNn
    replace l1 := Kpt.mk l1
    replace l2 := Kpt.mk l2
    clear r1 r2
    go_enter Try.func16, Try.ntmps16
    go_wp2_with (first
      | (at_builtin; have hmm := p1; go_must (refine wpList_append_rdz rfl (.tmp 14) (.tmp 18) rfl w.heap.size _ _ ds (zs.drop n2) n2 N rfl rfl ho6.out (hd.out _ hb6.out) l2.out (by rw [← l2.out]; rw [← l2.out] at e1; exact e1) (by have := hNn.out; omega) hb6.out.size ?_; intro x7 k7 y7 ho7 hg7; have hb7 : Kpt (Below w.heap.size w y7) := ⟨hb6.out.grown hg7.out (by have := hb6.out.size; omega) (fun k hk => (World.ownsRow.lt ho6.out k hk).1)⟩; clear ho6 hb6 hg7 hmm p1))
      | (at_builtin; go_must (refine wpList_append_rdz rfl (.tmp 6) (.tmp 7) rfl w.heap.size _ _ [] ds 0 n2 rfl rfl (World.ownsRow_nil _ _ 5 1) r2'.out rfl (by rw [l2.out]; omega) (by omega) (Nat.le_refl _) ?_; intro x6 k6 y6 ho6 hg6; have hb6 : Kpt (Below w.heap.size w y6) := ⟨(Below.refl _ _).grown hg6.out (Nat.le_refl _) (fun k h => by cases h)⟩; rw [List.nil_append] at ho6; clear hg6; have p1 : Kpt True := ⟨trivial⟩)))
    go_ret
    exact ⟨_, _, rfl, ho7.out, hb7.out⟩
  · have i1 : ¬ (n2 : Int) < n1 := by omega
    have hNn : N = n2 := by rw [hN, List.length_append, List.length_drop]; omega
    have hd : zs.drop ds.length = [] := List.drop_of_length_le (by omega)
    rw [hd, List.append_nil]
    subst hNn
    replace hN := Kpt.mk hN
    replace l1 := Kpt.mk l1
    replace l2 := Kpt.mk l2
    clear r1 r2 hd
    go_enter Try.func16, Try.ntmps16
    go_wp2_with (first
      | (at_builtin; go_must (refine wpList_append_rdz rfl (.tmp 6) (.tmp 7) rfl w.heap.size _ _ [] ds 0 N rfl rfl (World.ownsRow_nil _ _ 5 1) r2'.out rfl (by rw [l2.out]; omega) (by omega) (Nat.le_refl _) ?_; intro x6 k6 y6 ho6 hg6; have hb6 : Kpt (Below w.heap.size w y6) := ⟨(Below.refl _ _).grown hg6.out (Nat.le_refl _) (fun k h => by cases h)⟩; rw [List.nil_append] at ho6; clear hg6)))
    go_ret
    exact ⟨_, _, rfl, ho6.out, hb6.out⟩

/-- The document's Decode of any bytes. -/
theorem rdec_any (a : Option Addr) (n c : Nat) (zs : List Int) (w : World) (hr : RdAt w (.slice a n c) zs) (hl : zs.length = n) (hm : n ≤ 140737488355328) (hb : Bytes zs) :
    Calls Try.prog 10 #[.slice a n c] w fun e w' => ∃ (h : Int) (q : List Int) (x : Option Addr) (m k : Nat) (f : Int), e = .returned (.tuple #[.int .u64 h, .slice x m k, .int .i64 f]) ∧ RdAt w' (.slice x m k) q ∧ m = q.length ∧ m ≤ 4096 ∧ Bytes q ∧ Below w.heap.size w w' ∧
      ((f = 0 ∧ decO zs = some (h, q)) ∨ ((f = 3 ∨ f = 5) ∧ decO zs = none)) := by
  have no : ∀ (w' : World), RdAt w' (.slice none 0 0) [] := fun w' => rd_nil w'
  have hnb : Bytes [] := fun j => by simp
  by_cases h16 : n < 16
  · refine (rdec_short a n c w h16).mono ?_
    rintro e w' ⟨rfl, rfl⟩
    exact ⟨0, [], none, 0, 0, 3, rfl, no _, rfl, by omega, hnb, Below.refl _ _, .inr ⟨.inl rfl, by unfold decO; rw [if_neg (fun h => by have := h.1; omega)]⟩⟩
  · obtain ⟨hc, b, off, rfl⟩ := rd_some hr (by omega)
    by_cases hmk : zs.take 4 = [83, 76, 79, 84]
    · have hbd := B.num_bd zs 12 hb 4
      obtain ⟨k, hk⟩ : ∃ k : Nat, B.num zs 12 4 = (k : Int) := ⟨(B.num zs 12 4).toNat, by omega⟩
      have hkn : (B.num zs 12 4).toNat = k := by omega
      by_cases hk2 : k ≤ 4096
      · by_cases hct : 20 + k ≤ n
        · by_cases hsm : B.num zs (16 + k) 4 = (sumL (zs.take (16 + k)) : Int)
          · refine (rdec_ok b off n c zs w hr hl hm hb (by omega) hmk k hk hk2 hct hsm).mono ?_
            rintro e w' ⟨rfl, h1, h2⟩
            refine ⟨_, (zs.drop 16).take k, _, k, _, 0, rfl, h1.bel h2, by rw [List.length_take, List.length_drop]; omega, hk2, Bytes.take (bytes_mem (fun x hx => by have := hb.mem x (List.mem_of_mem_drop hx); omega)) k, h2, .inl ⟨rfl, ?_⟩⟩
            unfold decO
            rw [hkn, if_pos ⟨by omega, hmk, by omega, by omega, hsm⟩]
          · refine (rdec_sum b off n c zs w hr hl hm hb (by omega) hmk k hk hk2 hct hsm).mono ?_
            rintro e w' ⟨rfl, h2⟩
            exact ⟨0, [], none, 0, 0, 5, rfl, no _, rfl, by omega, hnb, h2, .inr ⟨.inr rfl, by unfold decO; rw [hkn, if_neg (fun h => hsm h.2.2.2.2)]⟩⟩
        · refine (rdec_cut b off n c zs w hr hl hm hb (by omega) hmk k hk hk2 (by omega)).mono ?_
          rintro e w' ⟨rfl, rfl⟩
          exact ⟨0, [], none, 0, 0, 3, rfl, no _, rfl, by omega, hnb, Below.refl _ _, .inr ⟨.inl rfl, by unfold decO; rw [hkn, if_neg (fun h => by have := h.2.2.2.1; omega)]⟩⟩
      · refine (rdec_long b off n c zs w hr hl hm hb (by omega) hmk k hk (by omega) (by omega)).mono ?_
        rintro e w' ⟨rfl, rfl⟩
        exact ⟨0, [], none, 0, 0, 3, rfl, no _, rfl, by omega, hnb, Below.refl _ _, .inr ⟨.inl rfl, by unfold decO; rw [if_neg (fun h => by have := h.2.2.1; omega)]⟩⟩
    · refine (rdec_mark b off n c zs w hr hl hb (by omega) hmk).mono ?_
      rintro e w' ⟨rfl, rfl⟩
      exact ⟨0, [], none, 0, 0, 3, rfl, no _, rfl, by omega, hnb, Below.refl _ _, .inr ⟨.inl rfl, by unfold decO; rw [if_neg (fun h => hmk h.2.1)]⟩⟩
end Go.Proofs.Ytndlpmnidpandaa
