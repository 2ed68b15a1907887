/-
  What the walk of the xored bytes wants: an append in a statement whose order is open; the guard of a piece.
-/
import Derived.Test.YteegienlkffejabOwn
import Derived.Test.YteegienlkffejabAdd
import Derived.Deep.RegionLaw
import Derived.Deep.QuietTactic
import Derived.BigQuiet
namespace Go.Proofs.Yteegienlkffejab
open Go.RowKit
set_option linter.unusedVariables false

theorem step_append_one {ops : Array Oper} {o : Oper} {a : Act} {w : World} {K : Act → World → Prop} {Q : Exit → Act → World → Prop} {E : Prop} (hgd : o.guard = none) (s x : Operand)
    (ho : o.op = .call { callee := .builtin .append, args := #[s, x], argTypes := #[22, 22] })
    (base : Nat) (v : Value) (n : Nat) (xs : List Int) (hs : a.eval s = v) (hown : w.ownsRow base 5 1 v n (xs.map (Value.int .u8)))
    (ad : Addr) (c : Nat) (y : Int) (hx : a.eval x = .slice (some ad) 1 c) (hy : w.cell? (ad.add 0) = some (.int .u8 y))
    (hroom : n + 1 ≤ 140737488355328) (hbase : base ≤ w.heap.size)
    (h : ∀ v' w', w'.ownsRow base 5 1 v' (n + 1) ((xs ++ [y]).map (Value.int .u8)) → Below base w w' → K (a.put o.dst v') w') :
    if Region.wanted o (yielded ops a.tmps) = true then Oper.wp Try.prog o a w K Q else E := by
  have hw : Region.wanted o (yielded ops a.tmps) = true := by simp [Region.wanted, hgd]
  rw [if_pos hw]
  obtain ⟨i0, hi0, hz0, hz1, hz2⟩ := info_parts Try.info5
  refine wp_append_own w s x 22 ho base 5 i0 (.int .u8 0) 1 1 Try.underlying22 hi0 hz0 hz1 hz2 rfl (by decide) v n (xs.map (Value.int .u8)) hs hown ad 1 c [.int .u8 y] hx rfl ?_ ?_ (by unfold maxLen; omega) (by omega) hbase ?_
  · intro j u hj
    match j, hj with
    | 0, hj => simp at hj; subst hj; exact hy
    | j + 1, hj => simp at hj
  · intro u hu; simp at hu; subst hu; rfl
  · intro v' w' hown' hg _
    exact h v' w' (by rw [List.map_append]; exact hown') ((Below.refl _ _).grown hg hbase (fun k hk => (hown.lt k hk).1))

theorem size_elem (W : World) : (sizeOf (Try.prog.elem 22)).run Try.prog W = .ok 1 W := by kernel_rfl
theorem elem22 : Try.prog.underlying 22 = some (.slice (Try.prog.elem 22)) := by kernel_rfl

/-- A beginning, and its guard. -/
theorem cut16 (w : World) (a : Option Addr) (len cap n : Nat) (Z : List Int) (hl : Z.length = len) (hb : Bytes Z) (hn : n ≤ len) (hc : len ≤ cap) (hm : len ≤ maxLen) (hr : RowAt w a len Z) :
    ∃ V, (∀ W : World, (Instr.slice 22 (.slice a len cap) none (some (.int .i64 (n : Int))) none).run Try.prog W = .ok V W) ∧
      ∀ m, Calls Try.prog 10 #[V] (w.drewN m) fun e w' => e = .returned (.int .u16 (reg16 0 (Z.take n) : Int)) ∧ w' = w.drewN m := by
  refine ⟨sliced a 0 n cap 1, fun W => ?_, fun m => ?_⟩
  · rw [run_slice_h (P := Try.prog) W 22 a len cap elem22 .i64 (n : Int) (by omega) (by omega), size_elem]
    simp [Result.andThen]
  · unfold sliced
    refine c16_any _ (n - 0) (cap - 0) (Z.take n) _ (by simp; omega) (by omega) (hb.take n) ?_
    by_cases h0 : n = 0
    · exact .inl (by omega)
    · rcases hr with h | ⟨b, off, rfl, hcell⟩
      · omega
      · rw [if_neg (by omega)]
        refine .inr ⟨b, off, by simp [Go.WideShapes.add_plain], fun j hj => ?_⟩
        rw [World.cell?_drewN, hcell j (by omega), List.getD_eq_getElem?_getD, List.getD_eq_getElem?_getD, List.getElem?_take, if_pos (by omega)]

theorem whole16 (w : World) (a : Option Addr) (len cap : Nat) (L : List Int) (hl : L.length = len) (hb : Bytes L) (hm : len ≤ maxLen) (hr : RowAt w a len L) (m : Nat) :
    Calls Try.prog 10 #[.slice a len cap] (w.drewN m) fun e w' => e = .returned (.int .u16 (reg16 0 L : Int)) ∧ w' = w.drewN m :=
  c16_any a len cap L _ hl hm hb hr

theorem xors_bytes (Z Y : List Int) (hZ : Bytes Z) (hY : Bytes Y) : ∀ k, Bytes (xors Z Y k)
  | 0 => by intro j; simp [xors]
  | k + 1 => by
    intro j
    have ih := xors_bytes Z Y hZ hY k j
    have h1 := hZ k
    have h2 := hY k
    rw [List.getD_eq_getElem?_getD] at ih ⊢
    rw [xors, List.getElem?_append]
    split
    · exact ih
    · by_cases h0 : j - (xors Z Y k).length = 0
      · rw [h0]
        have : (Z.getD k 0).toNat ^^^ (Y.getD k 0).toNat < 2 ^ 8 := Nat.xor_lt_two_pow (by omega) (by omega)
        simp only [List.getElem?_cons_zero, Option.getD_some]
        omega
      · rw [List.getElem?_eq_none (by simp; omega)]; simp

end Go.Proofs.Yteegienlkffejab
