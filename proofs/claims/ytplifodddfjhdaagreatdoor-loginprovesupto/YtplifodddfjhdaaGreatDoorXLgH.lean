/-
  login: keys that are made.
-/
import Derived.Test.YtplifodddfjhdaaGreatDoorXLgO
import Derived.Deep.Upon
namespace Go.Proofs.YtplifodddfjhdaaGreatDoor
open Go.RowKit
set_option linter.unusedVariables false
set_option linter.unusedSimpArgs false

def cellsB : List (ByteArray × ByteArray) → List Value
  | [] => []
  | p :: l => .string p.1 :: .string p.2 :: cellsB l
theorem cellsB_app (a b : List (ByteArray × ByteArray)) : cellsB (a ++ b) = cellsB a ++ cellsB b := by
  induction a with
  | nil => rfl
  | cons p l ih => simp [cellsB, ih]
theorem cellsB_len (a : List (ByteArray × ByteArray)) : (cellsB a).length = a.length * 2 := by
  induction a with
  | nil => rfl
  | cons p l ih => simp [cellsB, ih]; omega
theorem cellsB_at : ∀ (a : List (ByteArray × ByteArray)) (j : Nat) (p : ByteArray × ByteArray), a[j]? = some p → (cellsB a)[j * 2]? = some (.string p.1) ∧ (cellsB a)[j * 2 + 1]? = some (.string p.2)
  | [], j, p, h => by simp at h
  | q :: l, 0, p, h => by
    have : q = p := by simpa using h
    subst this
    exact ⟨rfl, rfl⟩
  | q :: l, j + 1, p, h => by
    have ih := cellsB_at l j p (by simpa using h)
    rw [show (j + 1) * 2 = j * 2 + 1 + 1 by omega]
    simpa [cellsB] using ih
theorem psB_of {w : World} {base n : Nat} {v : Value} {acc : List (ByteArray × ByteArray)} (h : w.ownsRow base 41 2 v n (cellsB acc)) : PsAt w v acc ∧ ∃ a c, v = .slice a n c ∧ c ≤ maxLen ∧ acc.length = n ∧ Newer a base ∧ n ≤ c := by
  have hl : acc.length = n := by have := h.1; rw [cellsB_len] at this; omega
  rcases id h.2 with ⟨rfl, h0⟩ | ⟨g, cap, cur, rfl, hb, hg, hnc, hcm, hcs, htake⟩
  · subst h0
    obtain rfl : acc = [] := List.eq_nil_of_length_eq_zero hl
    exact ⟨ps_nil w, none, 0, rfl, Nat.zero_le _, rfl, (fun x e => by cases e), Nat.le_refl _⟩
  · refine ⟨⟨some ⟨g, 0, none⟩, cap, by rw [hl], (fun h => by cases h), by omega, ?_⟩, _, cap, rfl, hcm, hl, (fun x e => by cases e; exact hb), hnc⟩
    refine .inr ⟨g, 0, rfl, (World.ownsRow.lt h g rfl).2, fun j p hp i u hu => ?_⟩
    have hjl : j < acc.length := (List.getElem?_eq_some_iff.1 hp).1
    obtain ⟨h1, h2⟩ := cellsB_at acc j p hp
    rw [Nat.zero_add]
    rcases i with _ | _ | i
    · simp [pcs] at hu
      rw [h.cellAt (j * 2 + 0) (by omega), Nat.add_zero, h1, hu]
    · simp [pcs] at hu
      rw [h.cellAt (j * 2 + 1) (by omega), h2, hu]
    · simp [pcs] at hu
theorem infoP : (Tryz.prog.info? 41).map (fun i => (i.zero, i.size, i.bytes)) = some (some (.agg #[.string ⟨#[]⟩, .string ⟨#[]⟩]), 2, 32) := by kernel_rfl
theorem wpList_append_prB {w : World} {ops : Array Oper} {rest : List Oper} {o : Oper} {a : Act} {Q : Exit → Act → World → Prop} (hgd : o.guard = none) (d s : Operand)
    (ho : o.op = .call { callee := .builtin .append, args := #[d, s], argTypes := #[37, 37] })
    (base : Nat) (v : Value) (acc : List (ByteArray × ByteArray)) (p : ByteArray × ByteArray) (n : Nat) (hd : a.eval d = v) (hown : w.ownsRow base 41 2 v n (cellsB acc)) (g : Nat) (hs : a.eval s = .slice (some ⟨g, 0, none⟩) 1 1)
    (hc0 : w.cell? ⟨g, 0, none⟩ = some (.string p.1)) (hc1 : w.cell? ⟨g, 1, none⟩ = some (.string p.2)) (hn : n ≤ 100000) (hb : base ≤ w.heap.size)
    (h : ∀ v' w', w'.ownsRow base 41 2 v' (n + 1) (cellsB (acc ++ [p])) → w.grownBy w' v.ownBlock → wpList Tryz.prog ops Q rest (a.put o.dst v') w') : wpList Tryz.prog ops Q (o :: rest) a w := by
  obtain ⟨i0, hi0, hz0, hz1, hz2⟩ := info_parts infoP
  refine wpList_append_own _ hgd d s 37 ho base 41 i0 (.agg #[.string ⟨#[]⟩, .string ⟨#[]⟩]) 2 32 Tryz.underlying37 hi0 hz0 hz1 hz2 rfl (by decide) v n (cellsB acc) hd hown ⟨g, 0, none⟩ 1 1 [.string p.1, .string p.2] hs rfl ?_ ?_ (by unfold maxLen; omega) (by omega) hb ?_
  · intro j u hu
    rw [Go.WideShapes.add_plain]
    rcases j with _ | _ | j
    · simp at hu; rw [← hu]; exact hc0
    · simp at hu; rw [← hu]; exact hc1
    · simp at hu
  · intro u hu
    simp only [List.mem_cons, List.not_mem_nil, or_false] at hu
    rcases hu with rfl | rfl <;> rfl
  · intro v' w' ho' hg _
    refine h v' w' ?_ hg
    rw [cellsB_app]
    exact ho'
theorem own_two (w : World) (base : Nat) (hb : base ≤ w.heap.size) (p q : ByteArray × ByteArray) : (w.alloc (.cells #[.string p.1, .string p.2, .string q.1, .string q.2] 41)).ownsRow base 41 2 (.slice (some ⟨w.heap.size, 0, none⟩) 2 2) 2 (cellsB [p, q]) := by
  refine ⟨by simp [cellsB], .inr ⟨w.heap.size, 2, #[.string p.1, .string p.2, .string q.1, .string q.2], rfl, hb, ?_, by omega, by unfold maxLen; omega, by simp, by simp [cellsB]⟩⟩
  show (w.heap.push _)[w.heap.size]? = _
  simp
theorem app_some (w : World) (ty : TypeId) (x : Addr) (n c : Nat) (h : n ≤ c) : (Builtin.append_ #[37, 37] ty #[.slice (some x) n c, .slice none 0 0]).run Tryz.prog w = .ok (.slice (some x) n c) w := by
  have hs := sizePr
  cases hi : Tryz.prog.info? 41 with
  | none => rw [hi] at hs; cases hs
  | some i => simp [Builtin.append_, run_underlying Tryz.underlying37, sizeOf, typeInfo, hi, storeCells, Builtin.lenOf, Builtin.firstCells, loadCells, h]
def vI : ByteArray := ⟨#[105]⟩
def vT : ByteArray := ⟨#[116]⟩
set_option maxRecDepth 100000 in
theorem hello_nil (w : World) : Calls Tryz.prog 20 #[.slice none 0 0] w fun e w' => e = .returned (.slice (some ⟨w.heap.size, 0, none⟩) 2 2) ∧ w'.ownsRow w.heap.size 41 2 (.slice (some ⟨w.heap.size, 0, none⟩) 2 2) 2 (cellsB [(kIni, vI), (kTgt, vT)]) ∧ Below w.heap.size w w' := by
  have ho := Kpt.mk (own_two w w.heap.size (Nat.le_refl _) (kIni, vI) (kTgt, vT))
  have kap := fun (w : World) (ty : TypeId) (x : Addr) => app_some w ty x 2 2 (by omega)
  go_enter Tryz.func20, Tryz.ntmps20
  go_wp2
  go_ret
  exact ⟨rfl, ho.out, (Below.refl _ _).alloc (Nat.le_refl _) _⟩
end Go.Proofs.YtplifodddfjhdaaGreatDoor
