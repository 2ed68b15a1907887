/-
  Blocks of bytes, packed again.
-/
import Derived.Test.YtklboieemljmiabVInp
namespace Go.Proofs.Ytklboieemljmiab
open Go.RowKit
set_option linter.unusedVariables false
set_option linter.unusedSimpArgs false
theorem packL_d (bs : List Bk) : packL false bs = (bs.map (·.d)).flatten := by
  unfold packL
  congr 1
  refine List.map_congr_left (fun b _ => ?_)
  simp [pkL]
theorem pack_un (Z : List Int) : ∀ n, packL false (unBs false Z n) = Z.take (n * 16)
  | 0 => by simp [packL, unBs]
  | n + 1 => by
    have ih := pack_un Z n
    rw [packL_d] at ih ⊢
    unfold unBs at ih ⊢
    rw [List.range_succ, List.map_append, List.map_append, List.flatten_append, ih]
    simp only [List.map_cons, List.map_nil, List.flatten_cons, List.flatten_nil, List.append_nil]
    rw [show (unB false Z n).d = (Z.drop (n * 16)).take 16 from rfl, show (n + 1) * 16 = n * 16 + 16 by omega, List.take_add]
theorem prL_d (k : Int) : ∀ (l : Nat) (bs : List Bk), (prL k l bs).map (·.d) = bs.map (·.d)
  | _, [] => rfl
  | l, b :: r => by rw [prL, List.map_cons, List.map_cons, prL_d k (l + 1) r]; rfl
theorem pack_pr (k : Int) (l : Nat) (Z : List Int) (n : Nat) (hZ : Z.length = n * 16) : packL false (prL k l (unBs false Z n)) = Z := by
  have := pack_un Z n
  rw [packL_d] at this ⊢
  rw [prL_d, this, List.take_of_length_le (by omega)]
theorem look_pr (k p : Int) (l : Nat) (bs : List Bk) : lookS k p l (prL k l bs) = noS := look_all k p l _ (fun i b _ hb => by
  rw [prL_at] at hb
  cases hbi : bs[i]? with
  | none => rw [hbi] at hb; simp at hb
  | some x =>
    rw [hbi] at hb
    simp only [Option.map_some, Option.some.injEq] at hb
    subst hb
    exact check_pr k p (l + i) x)
theorem set_bytes {Z : List Int} (h : Bytes Z) (i : Nat) {v : Int} (hv : 0 ≤ v ∧ v ≤ 255) : Bytes (Z.set i v) := fun j => by
  rw [List.getD_eq_getElem?_getD, List.getElem?_set]
  split
  · split
    · exact hv
    · simp
  · have := h j
    rw [List.getD_eq_getElem?_getD] at this
    exact this
theorem belowN {w w' : World} (h : w.grownBy w' none) : Below w.heap.size w w' := ⟨h.os, h.tape, h.output, h.size, fun i hi => h.block i hi (by simp)⟩
theorem Fx.turnB {w W W' : World} {B : Nat} {tag tag' : Tags} {st : St} {f : ByteArray} {S D N : Nat} {k : Int} {ca : Bool} {g n cap : Nat} {zs : List Int} (h : Fx w W B tag tag' st f S D N k ca) (o : Ob w W tag' g n cap zs) (hg : W.grownBy W' (some g)) (hS : S < w.heap.size) (hD : D < w.heap.size) : Fx w W' B tag tag' st f S D N k ca :=
  ⟨h.dv.own hg o.bare (by have := o.lo; omega) (by have := o.lo; omega), h.st.own hg o.lo⟩
theorem Ob.setB {w W : World} {tag' : Tags} {g n cap : Nat} {zs : List Int} (o : Ob w W tag' g n cap zs) (i : Nat) (x : Int) : Ob w (W.setCell ⟨g, i, none⟩ (.int .u8 x)) tag' g n cap (zs.set i x) := ⟨own_set o.own i x, o.bare⟩
theorem nil_own (w : World) (b : Nat) : w.ownsRow b 5 1 (.slice none 0 0) 0 (cels []) := ⟨rfl, .inl ⟨rfl, rfl⟩⟩
end Go.Proofs.Ytklboieemljmiab
