/-
  text: Parse.
-/
import Derived.Test.YtdplndlmdhpfaaaXTw
namespace Go.Proofs.Ytdplndlmdhpfaaa
open Go.RowKit
set_option linter.unusedVariables false
set_option linter.unusedSimpArgs false

/-- What a text says, pair by pair (none: it is no text). -/
def parF : Nat → List Int → Option (List (List Int × List Int))
  | 0, _ => some []
  | _ + 1, [] => some []
  | f + 1, z :: l => match idxL (z :: l) 0 with
    | none => none
    | some i => if cutF ((z :: l).take i) 61 && keyB (cutA ((z :: l).take i) 61) && valB (cutB ((z :: l).take i) 61) then (parF f ((z :: l).drop (i + 1))).map ((cutA ((z :: l).take i) 61, cutB ((z :: l).take i) 61) :: ·) else none
def par (zs : List Int) : Option (List (List Int × List Int)) := parF zs.length zs
theorem parF_more : ∀ f g zs, zs.length ≤ f → zs.length ≤ g → parF f zs = parF g zs
  | 0, 0, _, _, _ => rfl
  | 0, g + 1, [], _, _ => rfl
  | 0, g + 1, z :: l, h, _ => by simp at h
  | f + 1, 0, [], _, _ => rfl
  | f + 1, 0, z :: l, _, h => by simp at h
  | f + 1, g + 1, [], _, _ => rfl
  | f + 1, g + 1, z :: l, h1, h2 => by
    unfold parF
    cases hi : idxL (z :: l) 0 with
    | none => rfl
    | some i =>
      have : ((z :: l).drop (i + 1)).length ≤ f ∧ ((z :: l).drop (i + 1)).length ≤ g := by
        simp only [List.length_drop, List.length_cons] at h1 h2 ⊢
        omega
      simp only
      rw [parF_more f g _ this.1 this.2]
theorem par_nil : par [] = some [] := rfl
theorem par_cons (zs : List Int) (h : zs ≠ []) : par zs = match idxL zs 0 with
    | none => none
    | some i => if cutF (zs.take i) 61 && keyB (cutA (zs.take i) 61) && valB (cutB (zs.take i) 61) then (par (zs.drop (i + 1))).map ((cutA (zs.take i) 61, cutB (zs.take i) 61) :: ·) else none := by
  cases zs with
  | nil => exact absurd rfl h
  | cons z l =>
    unfold par
    rw [List.length_cons, parF]
    cases hi : idxL (z :: l) 0 with
    | none => rfl
    | some i =>
      simp only
      rw [parF_more l.length _ _ (by simp) (Nat.le_refl _)]

def prS (p : List Int × List Int) : ByteArray × ByteArray := (strOfNums p.1, strOfNums p.2)
def cellsP : List (List Int × List Int) → List Value
  | [] => []
  | p :: l => .string (strOfNums p.1) :: .string (strOfNums p.2) :: cellsP l
theorem cellsP_app (a b : List (List Int × List Int)) : cellsP (a ++ b) = cellsP a ++ cellsP b := by
  induction a with
  | nil => rfl
  | cons p l ih => simp [cellsP, ih]
theorem cellsP_len (a : List (List Int × List Int)) : (cellsP a).length = a.length * 2 := by
  induction a with
  | nil => rfl
  | cons p l ih => simp [cellsP, ih]; omega
theorem cellsP_at : ∀ (a : List (List Int × List Int)) (j : Nat) (p : List Int × List Int), a[j]? = some p → (cellsP a)[j * 2]? = some (.string (strOfNums p.1)) ∧ (cellsP a)[j * 2 + 1]? = some (.string (strOfNums p.2))
  | [], j, p, h => by simp at h
  | q :: l, 0, p, h => by simp at h; subst h; simp [cellsP]
  | q :: l, j + 1, p, h => by
    have ih := cellsP_at l j p (by simpa using h)
    rw [show (j + 1) * 2 = j * 2 + 1 + 1 by omega]
    simpa [cellsP] using ih
theorem prs_of {w : World} {base n : Nat} {v : Value} {acc : List (List Int × List Int)} (h : w.ownsRow base 105 2 v n (cellsP acc)) : PsAt w v (acc.map prS) ∧ ∃ a c, v = .slice a n c ∧ c ≤ maxLen ∧ acc.length = n := by
  have hl : acc.length = n := by have := h.1; rw [cellsP_len] at this; omega
  rcases id h.2 with ⟨rfl, h0⟩ | ⟨g, cap, cur, rfl, hb, hg, hnc, hcm, hcs, htake⟩
  · subst h0
    obtain rfl : acc = [] := List.eq_nil_of_length_eq_zero hl
    exact ⟨ps_nil w, none, 0, rfl, Nat.zero_le _, rfl⟩
  · refine ⟨⟨some ⟨g, 0, none⟩, cap, by rw [List.length_map, hl], (fun h => by cases h), by rw [List.length_map]; omega, ?_⟩, _, cap, rfl, hcm, hl⟩
    refine .inr ⟨g, 0, rfl, (World.ownsRow.lt h g rfl).2, fun j p hp i u hu => ?_⟩
    rw [List.getElem?_map] at hp
    cases hq : acc[j]? with
    | none => rw [hq] at hp; cases hp
    | some q =>
      rw [hq] at hp
      simp only [Option.map_some, Option.some.injEq] at hp
      subst hp
      have hjl : j < acc.length := (List.getElem?_eq_some_iff.1 hq).1
      obtain ⟨h1, h2⟩ := cellsP_at acc j q hq
      rw [Nat.zero_add]
      rcases i with _ | _ | i
      · simp [pcs, prS] at hu
        rw [h.cellAt (j * 2 + 0) (by omega), Nat.add_zero, h1, hu]
      · simp [pcs, prS] at hu
        rw [h.cellAt (j * 2 + 1) (by omega), h2, hu]
      · simp [pcs] at hu
theorem info40 : (Try.prog.info? 105).map (fun i => (i.zero, i.size, i.bytes)) = some (some (.agg #[.string ⟨#[]⟩, .string ⟨#[]⟩]), 2, 32) := by kernel_rfl
theorem wpList_append_pr {w : World} {ops : Array Oper} {rest : List Oper} {o : Oper} {a : Act} {Q : Exit → Act → World → Prop} (hgd : o.guard = none) (d s : Operand)
    (ho : o.op = .call { callee := .builtin .append, args := #[d, s], argTypes := #[101, 101] })
    (base : Nat) (v : Value) (acc : List (List Int × List Int)) (p : List Int × List Int) (n : Nat) (hd : a.eval d = v) (hown : w.ownsRow base 105 2 v n (cellsP acc)) (g : Nat) (hs : a.eval s = .slice (some ⟨g, 0, none⟩) 1 1)
    (hc0 : w.cell? ⟨g, 0, none⟩ = some (.string (strOfNums p.1))) (hc1 : w.cell? ⟨g, 1, none⟩ = some (.string (strOfNums p.2))) (hn : n ≤ 100000) (hb : base ≤ w.heap.size)
    (h : ∀ v' w', w'.ownsRow base 105 2 v' (n + 1) (cellsP (acc ++ [p])) → w.grownBy w' v.ownBlock → wpList Try.prog ops Q rest (a.put o.dst v') w') : wpList Try.prog ops Q (o :: rest) a w := by
  obtain ⟨i0, hi0, hz0, hz1, hz2⟩ := info_parts info40
  refine wpList_append_own _ hgd d s 101 ho base 105 i0 (.agg #[.string ⟨#[]⟩, .string ⟨#[]⟩]) 2 32 Try.underlying101 hi0 hz0 hz1 hz2 rfl (by decide) v n (cellsP acc) hd hown ⟨g, 0, none⟩ 1 1 [.string (strOfNums p.1), .string (strOfNums p.2)] hs rfl ?_ ?_ (by unfold maxLen; omega) (by omega) hb ?_
  · intro j u hu
    rw [Go.WideShapes.add_plain]
    rcases j with _ | _ | j
    · simp at hu; rw [← hu]; exact hc0
    · simp at hu; rw [← hu]; exact hc1
    · simp at hu
  · intro u hu
    simp only [List.mem_cons, List.not_mem_nil, or_false] at hu
    rcases hu with rfl | rfl <;> rfl
  · intro v' w' ho' hg _
    refine h v' w' ?_ hg
    rw [cellsP_app]
    exact ho'
end Go.Proofs.Ytdplndlmdhpfaaa
