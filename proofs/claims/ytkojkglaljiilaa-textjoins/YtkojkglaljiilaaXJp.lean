/-
  text: two texts, one behind the other: plain facts, and rows of pairs that are appended.
-/
import Derived.Test.YtkojkglaljiilaaXWs
namespace Go.Proofs.Ytkojkglaljiilaa
open Go.RowKit
set_option linter.unusedVariables false
set_option linter.unusedSimpArgs false

theorem rows_app (a b : List (ByteArray × ByteArray)) : rowsL (a ++ b) = rowsL a ++ rowsL b := by simp [rowsL]
/-- A key stands in both. -/
def bothP (l m : List (ByteArray × ByteArray)) : Bool := m.any fun q => (findP l q.1).isSome
theorem tw_ne {l : List (ByteArray × ByteArray)} (h : twP l = false) {i j : Nat} {p q : ByteArray × ByteArray} (hi : l[i]? = some p) (hj : l[j]? = some q) (hji : j < i) : ¬ q.1 = p.1 := fun e => by
  have := twP_yes (List.getElem?_eq_some_iff.1 hi).1 (tw_hit hi hj hji e.symm)
  rw [h] at this; cases this
theorem twP_app (l m : List (ByteArray × ByteArray)) (h1 : twP l = false) (h2 : twP m = false) : twP (l ++ m) = bothP l m := by
  cases hb : bothP l m with
  | true =>
    unfold bothP at hb
    obtain ⟨q, hq, hf⟩ := List.any_eq_true.1 hb
    obtain ⟨p, hp, hpq⟩ := (findP_iff l q.1).1 hf
    obtain ⟨i, hi⟩ := List.getElem?_of_mem hp
    obtain ⟨j, hj⟩ := List.getElem?_of_mem hq
    have hil := (List.getElem?_eq_some_iff.1 hi).1
    have hjl := (List.getElem?_eq_some_iff.1 hj).1
    refine twP_yes (k := l.length + j) (by simp; omega) (tw_hit (j := i) (p := q) (q := p) ?_ ?_ (by omega) hpq.symm)
    · rw [List.getElem?_append_right (by omega), Nat.add_sub_cancel_left]; exact hj
    · rw [List.getElem?_append_left hil]; exact hi
  | false =>
    refine twP_no fun i hi => ?_
    obtain ⟨p, hp⟩ : ∃ p, (l ++ m)[i]? = some p := ⟨_, List.getElem?_eq_getElem hi⟩
    refine tw_miss hp fun j q hj hq => ?_
    by_cases hil : i < l.length
    · rw [List.getElem?_append_left hil] at hp
      rw [List.getElem?_append_left (by omega)] at hq
      exact tw_ne h1 hp hq hj
    · rw [List.getElem?_append_right (by omega)] at hp
      by_cases hjl : j < l.length
      · rw [List.getElem?_append_left hjl] at hq
        intro e
        unfold bothP at hb
        have := List.any_eq_false.1 hb p (List.mem_of_getElem? hp)
        exact this ((findP_iff l p.1).2 ⟨q, List.mem_of_getElem? hq, e⟩)
      · rw [List.getElem?_append_right (by omega)] at hq
        exact tw_ne h2 hp hq (by omega)

theorem ps_src {w : World} {b off : Nat} {qs : List (ByteArray × ByteArray)} (hc : ∀ j p, qs[j]? = some p → w.rangeAt b (off + j * 2) (pcs p)) : ∀ j u, (cellsP (qs.map numP))[j]? = some u → w.cell? ⟨b, off + j, none⟩ = some u := fun j u hu => by
  have hj := (List.getElem?_eq_some_iff.1 hu).1
  rw [cellsP_len, List.length_map] at hj
  obtain ⟨i, r, hr, rfl⟩ : ∃ i r, r < 2 ∧ j = i * 2 + r := ⟨j / 2, j % 2, by omega, by omega⟩
  have hi : i < qs.length := by omega
  have hq : qs[i]? = some qs[i] := List.getElem?_eq_getElem hi
  obtain ⟨e1, e2⟩ := cellsP_at (qs.map numP) i (numP qs[i]) (by rw [List.getElem?_map, hq]; rfl)
  have hx := hc i _ hq
  simp only [numP, str_nums] at e1 e2
  rcases r with _ | _ | r
  · rw [Nat.add_zero, e1] at hu
    cases hu
    exact hx 0 _ rfl
  · rw [e2] at hu
    cases hu
    exact hx 1 _ rfl
  · omega
theorem cellsP_one : ∀ (l : List (List Int × List Int)), ∀ u ∈ cellsP l, u.oneCell' = true
  | [], u, hu => by cases hu
  | p :: l, u, hu => by
    simp only [cellsP, List.mem_cons] at hu
    rcases hu with rfl | rfl | hu
    · rfl
    · rfl
    · exact cellsP_one l u hu

theorem wpList_append_prs {w : World} {ops : Array Oper} {rest : List Oper} {o : Oper} {a : Act} {Q : Exit → Act → World → Prop} (hgd : o.guard = none) (d s : Operand)
    (ho : o.op = .call { callee := .builtin .append, args := #[d, s], argTypes := #[24, 24] })
    (base : Nat) (v : Value) (acc qs : List (ByteArray × ByteArray)) (n : Nat) (sa : Option Addr) (m sc : Nat) (hd : a.eval d = v) (hs : a.eval s = .slice sa m sc) (hown : w.ownsRow base 40 2 v n (cellsP (acc.map numP))) (hq : PsAt w (.slice sa m sc) qs) (hn : n ≤ 1000) (hm : m ≤ 1000) (hb : base ≤ w.heap.size)
    (h : ∀ v' w', Kpt (w'.ownsRow base 40 2 v' (n + m) (cellsP ((acc ++ qs).map numP))) → Kpt (w.grownBy w' v.ownBlock) → wpList Try.prog ops Q rest (a.put o.dst v') w') : wpList Try.prog ops Q (o :: rest) a w := by
  obtain ⟨i0, hi0, hz0, hz1, hz2⟩ := info_parts info40
  obtain ⟨a', c', e, h1, h2, h3⟩ := hq
  simp only [Value.slice.injEq] at e
  obtain ⟨rfl, rfl, rfl⟩ := e
  cases sa with
  | none =>
    obtain ⟨e1, rfl⟩ := h1 rfl
    obtain rfl : qs = [] := List.eq_nil_of_length_eq_zero e1
    refine wpList_append_own_none hgd d s 24 ho base 40 i0 2 Try.underlying24 hi0 v n _ hd hown hs ?_
    exact h v w ⟨by simpa using hown⟩ ⟨rfl, rfl, rfl, Nat.le_refl _, fun _ _ _ => rfl⟩
  | some x =>
    have hcell : ∀ j u, (cellsP (qs.map numP))[j]? = some u → w.cell? (x.add j) = some u := fun j u hu => by
      rcases h3 with h3 | ⟨b, soff, e, -, hc⟩
      · have := (List.getElem?_eq_some_iff.1 hu).1
        rw [cellsP_len, List.length_map] at this
        omega
      · cases e; rw [Go.WideShapes.add_plain]; exact ps_src hc j u hu
    refine wpList_append_own _ hgd d s 24 ho base 40 i0 (.agg #[.string ⟨#[]⟩, .string ⟨#[]⟩]) 2 32 Try.underlying24 hi0 hz0 hz1 hz2 rfl (by decide) v n _ hd hown x qs.length sc (cellsP (qs.map numP)) hs (by rw [cellsP_len, List.length_map]) hcell (cellsP_one _) (by unfold maxLen; omega) (by omega) hb ?_
    intro v1 w1 hown1 hg1 _
    exact h v1 w1 ⟨by rw [List.map_append, cellsP_app]; exact hown1⟩ ⟨hg1⟩

/-- Write of any pairs. -/
theorem write_all (a : Option Addr) (n c : Nat) (ps : List (ByteArray × ByteArray)) (w : World) (hr : PsAt w (.slice a n c) ps) (hc : c ≤ maxLen) (hsz : ∀ p ∈ ps, p.1.size ≤ maxLen ∧ p.2.size ≤ maxLen) :
    Calls Try.prog 10 #[.slice a n c] w fun e w' => ∃ v, e = .returned (.tuple #[v, .int .i64 (wrE ps)]) ∧ w'.ownsRow w.heap.size 5 1 v (wrO ps).length (cels (wrO ps)) ∧ Below w.heap.size w w' := by
  by_cases hn : n ≤ 64
  · exact write_any a n c ps w hr hn hc hsz
  · obtain ⟨a', c', hv, h1, h2, h3⟩ := hr
    simp only [Value.slice.injEq] at hv
    obtain ⟨rfl, rfl, rfl⟩ := hv
    have hE : wrE ps = 2 := if_pos (by omega)
    refine (write_long a ps.length c w (by omega) (by omega)).mono ?_
    rintro e w' ⟨rfl, rfl⟩
    exact ⟨.slice none 0 0, by rw [hE], by rw [wrO_no (by rw [hE]; decide)]; exact World.ownsRow_nil _ _ 5 1, Below.refl _ _⟩

theorem join_par {l m : List (ByteArray × ByteArray)} (hl : wrE l = 0) (hm : wrE m = 0) : par (rowsL l ++ rowsL m) = some ((l ++ m).map numP) := by
  rw [← rows_app]
  refine par_rows _ fun p hp => ?_
  rcases List.mem_append.1 hp with h | h
  · exact (all_ok hl).1 p h
  · exact (all_ok hm).1 p h
theorem join_tw {l m : List (ByteArray × ByteArray)} (hl : wrE l = 0) (hm : wrE m = 0) : twP (((l ++ m).map numP).map prS) = bothP l m := by
  rw [prS_num]; exact twP_app l m (all_ok hl).2.2.2 (all_ok hm).2.2.2
theorem join_bytes (l m : List (ByteArray × ByteArray)) : Bytes (rowsL l ++ rowsL m) := (rows_bytes l).append (rows_bytes m)
/-- Parse of two texts, one behind the other: too many pairs. -/
theorem join_many {l m : List (ByteArray × ByteArray)} (hl : wrE l = 0) (hm : wrE m = 0) (va : Option Addr) (N vc : Nat) (W : World) (hr : RdAt W (.slice va N vc) (rowsL l ++ rowsL m)) (hN : N ≤ 4096) (hc : vc ≤ maxLen) (h : 64 < l.length + m.length) :
    Calls Try.prog 7 #[.slice va N vc] W fun e w' => ∃ a c, e = .returned (.tuple #[.slice a 0 c, .int .i64 2]) ∧ Below W.heap.size W w' := by
  have e1 : parE (rowsL l ++ rowsL m) = 2 ∧ parO (rowsL l ++ rowsL m) = [] := by
    unfold parE parO
    rw [join_par hl hm]
    simp only
    rw [if_pos (by simp; omega), if_pos (by simp; omega)]
    exact ⟨rfl, rfl⟩
  refine (parse_any va N vc _ W hr hN hc (join_bytes l m)).mono ?_
  rintro e w' ⟨v, rfl, ho, hb⟩
  rw [e1.2] at ho
  obtain ⟨-, a, c, rfl, -, -⟩ := prs_of ho
  exact ⟨a, c, by rw [e1.1]; rfl, hb⟩
theorem join_both {l m : List (ByteArray × ByteArray)} (hl : wrE l = 0) (hm : wrE m = 0) (va : Option Addr) (N vc : Nat) (W : World) (hr : RdAt W (.slice va N vc) (rowsL l ++ rowsL m)) (hN : N ≤ 4096) (hc : vc ≤ maxLen) (h : ¬ 64 < l.length + m.length) (hb : bothP l m = true) :
    Calls Try.prog 7 #[.slice va N vc] W fun e w' => ∃ a c, e = .returned (.tuple #[.slice a 0 c, .int .i64 9]) ∧ Below W.heap.size W w' := by
  have e1 : parE (rowsL l ++ rowsL m) = 9 ∧ parO (rowsL l ++ rowsL m) = [] := by
    unfold parE parO
    rw [join_par hl hm]
    simp only
    have h64 : ¬ 64 < ((l ++ m).map numP).length := by simp; omega
    rw [if_neg h64, if_neg h64, join_tw hl hm, if_pos hb, if_pos hb]
    exact ⟨rfl, rfl⟩
  refine (parse_any va N vc _ W hr hN hc (join_bytes l m)).mono ?_
  rintro e w' ⟨v, rfl, ho, hb⟩
  rw [e1.2] at ho
  obtain ⟨-, a, c, rfl, -, -⟩ := prs_of ho
  exact ⟨a, c, by rw [e1.1]; rfl, hb⟩
theorem join_ok {l m : List (ByteArray × ByteArray)} (hl : wrE l = 0) (hm : wrE m = 0) (va : Option Addr) (N vc k : Nat) (W : World) (hr : RdAt W (.slice va N vc) (rowsL l ++ rowsL m)) (hN : N ≤ 4096) (hc : vc ≤ maxLen) (h : ¬ 64 < l.length + m.length) (hb : bothP l m = false) (hk : l.length + m.length = k) :
    Calls Try.prog 7 #[.slice va N vc] W fun e w' => ∃ a c, e = .returned (.tuple #[.slice a k c, .int .i64 0]) ∧ PsAt w' (.slice a k c) (l ++ m) ∧ Below W.heap.size W w' := by
  have e1 : parE (rowsL l ++ rowsL m) = 0 ∧ parO (rowsL l ++ rowsL m) = (l ++ m).map numP := by
    unfold parE parO
    rw [join_par hl hm]
    simp only
    have h64 : ¬ 64 < ((l ++ m).map numP).length := by simp; omega
    have hb' : ¬ bothP l m = true := by rw [hb]; simp
    rw [if_neg h64, if_neg h64, join_tw hl hm, if_neg hb', if_neg hb']
    exact ⟨rfl, rfl⟩
  refine (parse_any va N vc _ W hr hN hc (join_bytes l m)).mono ?_
  rintro e w' ⟨v, rfl, ho, hb⟩
  rw [e1.2, show ((l ++ m).map numP).length = k by simp [hk]] at ho
  obtain ⟨hp, a, c, rfl, -, -⟩ := prs_of ho
  rw [prS_num] at hp
  exact ⟨a, c, by rw [e1.1], hp, hb⟩
end Go.Proofs.Ytkojkglaljiilaa
