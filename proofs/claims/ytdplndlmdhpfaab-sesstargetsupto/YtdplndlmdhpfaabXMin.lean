/-
  sess: small facts on texts.
-/
import Derived.Test.YtdplndlmdhpfaabXWps
import Derived.Lib.AppendStr
import Derived.Lib.ConvBytes
namespace Go.Proofs.Ytdplndlmdhpfaab
open Go.RowKit
set_option linter.unusedVariables false
set_option linter.unusedSimpArgs false

theorem ps_cells {w : World} {a : Option Addr} {n c : Nat} {ps : List (ByteArray × ByteArray)} (h : PsAt w (.slice a n c) ps) (k : Nat) (hk : k < n) (p : ByteArray × ByteArray) (hp : ps[k]? = some p) :
    ∃ b off, a = some ⟨b, off, none⟩ ∧ w.cell? ⟨b, off + k * 2, none⟩ = some (.string p.1) ∧ w.cell? ⟨b, off + k * 2 + 1, none⟩ = some (.string p.2) := by
  obtain ⟨a', c', hv, h1, h2, h3⟩ := h
  simp only [Value.slice.injEq] at hv
  obtain ⟨rfl, rfl, -⟩ := hv
  rcases h3 with h3 | ⟨b, off, rfl, -, hc⟩
  · omega
  · exact ⟨b, off, rfl, hc k p hp 0 _ rfl, hc k p hp 1 _ rfl⟩

theorem strCells_nums (S : ByteArray) : Lib.strCells S = cels (nums S) := by
  unfold Lib.strCells cels nums
  rw [List.map_map]
  rfl
theorem wpList_append_str {w : World} {ops : Array Oper} {rest : List Oper} {o : Oper} {a : Act} {Q : Exit → Act → World → Prop} (hgd : o.guard = none) (d s : Operand)
    (ho : o.op = .call { callee := .builtin .append, args := #[d, s], argTypes := #[30, 9] })
    (base : Nat) (v : Value) (zs : List Int) (n : Nat) (T : ByteArray) (hd : a.eval d = v) (hs : a.eval s = .string T) (hown : w.ownsRow base 5 1 v n (cels zs)) (hlen : n + T.size ≤ 140737488355328) (hb : base ≤ w.heap.size)
    (h : ∀ v' w', Kpt (w'.ownsRow base 5 1 v' (n + T.size) (cels (zs ++ nums T))) → Kpt (w.grownBy w' v.ownBlock) → wpList Try.prog ops Q rest (a.put o.dst v') w') : wpList Try.prog ops Q (o :: rest) a w := by
  obtain ⟨i0, hi0, hz0, hz1, hz2⟩ := info_parts Try.info5
  refine Lib.wpList_append_own_string (P := Try.prog) w hgd d s 30 9 ho base 5 i0 Try.underlying30 Try.underlying9 hi0 hz0 hz1 hz2 v n (cels zs) hd hown T hs (by unfold maxLen; omega) (by omega) hb ?_
  intro v' w' ho' hg' _
  exact h v' w' ⟨by rw [cels_append, ← strCells_nums]; exact ho'⟩ ⟨hg'⟩

theorem wrO_no {ps : List (ByteArray × ByteArray)} (h : wrE ps ≠ 0) : wrO ps = [] := if_neg h
theorem cat_size (K V : ByteArray) : (K ++ ⟨#[61]⟩ ++ V ++ ⟨#[0]⟩).size = K.size + 1 + V.size + 1 := by rw [ByteArray.size_append, ByteArray.size_append, ByteArray.size_append]; rfl

end Go.Proofs.Ytdplndlmdhpfaab
