/-
  Rows of one's own; a text's bytes; bytes as text. Plain facts on the two check sums, as registers that are natural numbers: no program is looked at here. Contracts of the program's two steps: a byte's eight bits. A list of bytes that came in, as a row of cells. Contracts of the program's sums. Structs in blocks of their own; copy into a row of one's own, in a region that draws; blocks. Contracts of hasRef, passedOver, Make. Small laws for regions that draw: a class made narrower, what is not done, guards. The program's Check. The program's Size, appendTuple, Pack. The program's readTuple. Rows of blocks; Unpack's blocks. The program's Unpack.
-/
import Derived.Test.YtklboieemljmiaaMK
import Derived.Deep.DeepMust
import Derived.OwnWalk
import Derived.Deep.MidRow
import Derived.Laws.BytesArg
import Derived.Maps.AppendAt
import Derived.Laws.BitsAllLaws
import Derived.Test.YtklboieemljmiaaRows
import Derived.WalkKit
import Derived.Below
import Derived.OpenShut
import Derived.Outline
namespace Go.Proofs.Ytklboieemljmiaa
open Go.RowKit
set_option linter.unusedVariables false
set_option linter.unusedSimpArgs false

theorem below_drew (w : World) : Below w.heap.size w w.drew := ⟨rfl, rfl, rfl, Nat.le_refl _, fun _ _ => rfl⟩
theorem far_cell {w w' : World} {row : Option Nat} (hg : w.grownBy w' row) (a : Addr) (hlt : a.block < w.heap.size) (hne : row ≠ some a.block) : w'.cell? a = w.cell? a := World.cell?_of_block (hg.block _ hlt (fun e => hne e.symm))

theorem made_u8G (n : Nat) : (madeCells (Value.int .u8 0).cells (n * 1)).toList = cels (List.replicate n 0) := by
  simp [madeCells, Value.cells, cels]
  refine List.ext_getElem (by simp) (fun i h1 h2 => ?_)
  simp [Nat.mod_one]

theorem own_base {w : World} {b b' n : Nat} {v : Value} {zs : List Value} (h : w.ownsRow b 5 1 v n zs) (hb : b' ≤ b) : w.ownsRow b' 5 1 v n zs := by
  refine ⟨h.1, ?_⟩
  rcases h.2 with h1 | ⟨g, cap, cur, e, hg, rest⟩
  · exact .inl h1
  · exact .inr ⟨g, cap, cur, e, Nat.le_trans hb hg, rest⟩

theorem own_of_block {w w' : World} {b n : Nat} {v : Value} {zs : List Value} (h : w.ownsRow b 5 1 v n zs) (hb : ∀ g, v.ownBlock = some g → w'.heap[g]? = w.heap[g]?) : w'.ownsRow b 5 1 v n zs := by
  refine ⟨h.1, ?_⟩
  rcases h.2 with hn | ⟨g, cap, cur, rfl, h0, hgg, rest⟩
  · exact .inl hn
  · exact .inr ⟨g, cap, cur, rfl, h0, (hb g rfl).trans hgg, rest⟩

theorem own_shape {w : World} {base n : Nat} {v : Value} {xs : List Value} (h : w.ownsRow base 5 1 v n xs) (h0 : 0 < n) : ∃ g cap, v = .slice (some ⟨g, 0, none⟩) n cap ∧ base ≤ g ∧ g < w.heap.size := by
  rcases id h.2 with ⟨_, h'⟩ | ⟨g, cap, cur, h', hb, _⟩
  · omega
  · exact ⟨g, cap, h', hb, (World.ownsRow.lt h g (by rw [h']; rfl)).2⟩

theorem own_re {w : World} {b b' n g k c : Nat} {xs : List Value} (h : w.ownsRow b 5 1 (.slice (some ⟨g, 0, none⟩) k c) n xs) (hb : b' ≤ g) : w.ownsRow b' 5 1 (.slice (some ⟨g, 0, none⟩) k c) n xs := by
  refine ⟨h.1, ?_⟩
  rcases h.2 with ⟨h1, _⟩ | ⟨g', cap, cur, e, _, rest⟩
  · cases h1
  · have : g' = g := by simp at e; exact e.1.symm
    subst this
    exact .inr ⟨g', cap, cur, e, hb, rest⟩

theorem wpList_append_new {w : World} {ops : Array Oper} {rest : List Oper} {o : Oper} {a : Act} {Q : Exit → Act → World → Prop} (hgd : o.guard = none) (d s : Operand)
    (ho : o.op = .call { callee := .builtin .append, args := #[d, s], argTypes := #[22, 22] })
    (base : Nat) (v sv : Value) (zs ds : List Int) (m n : Nat) (hd : a.eval d = v) (hs : a.eval s = sv) (hown : w.ownsRow base 5 1 v m (cels zs)) (hrd : RdAt w sv ds) (hpos : 0 < ds.length) (hm : zs.length = m) (hn : m + ds.length = n) (hlen : n ≤ 140737488355328) (hb : base ≤ w.heap.size)
    (h : ∀ g cap w', Kpt (w'.ownsRow base 5 1 (.slice (some ⟨g, 0, none⟩) n cap) n (cels (zs ++ ds))) → Kpt (base ≤ g ∧ g < w'.heap.size) → Kpt (w.grownBy w' v.ownBlock) →
      wpList Try.prog ops Q rest (a.put o.dst (.slice (some ⟨g, 0, none⟩) n cap)) w') : wpList Try.prog ops Q (o :: rest) a w := by
  subst hm hn
  obtain ⟨i0, hi0, hz0, hz1, hz2⟩ := info_parts Try.info5
  obtain ⟨sa, sc, rfl, hsn, hsl, hsr⟩ := hrd
  rcases hsr with h1 | ⟨b, soff, rfl, hc⟩
  · omega
  refine wpList_append_own _ hgd d s 22 ho base 5 i0 (.int .u8 0) 1 1 Try.underlying22 hi0 hz0 hz1 hz2 rfl (by decide) v zs.length (cels zs) hd hown ⟨b, soff, none⟩ ds.length sc (cels ds) hs (by simp) (fun j u hu => by rw [Go.WideShapes.add_plain]; exact hc j u hu) (cels_one _) (by unfold maxLen; omega) (by omega) hb ?_
  intro v1 w1 hown1 hg1 _
  obtain ⟨g, cap, rfl, hg, hlt⟩ := own_shape hown1 (by omega)
  exact h g cap w1 ⟨by rw [cels_append]; exact hown1⟩ ⟨hg, hlt⟩ ⟨hg1⟩

theorem conv_at (w : World) (a : Option Addr) (len cap : Nat) (Z : List Int) (hz : Z.length = len) (hp : len = 0 ∨ ∃ b off, a = some ⟨b, off, none⟩ ∧ ∀ j, j < len → w.cell? ⟨b, off + j, none⟩ = some (.int .u8 (Z.getD j 0))) :
    (convert 22 9 (.slice a len cap)).run Try.prog w = .ok (.string (strOfNums Z)) w := by
  by_cases h0 : len = 0
  · subst h0
    have hz0 : Z = [] := List.eq_nil_of_length_eq_zero hz
    subst hz0
    cases a with
    | none => exact run_convert_bytes_nil w 22 5 Try.underlying22 Try.underlying5 0 cap 9 Try.underlying9
    | some x =>
      rw [run_convert_bytes_string w 22 9 5 _ 0 cap Try.underlying22 Try.underlying5 Try.underlying9, run_bytesToString w x 0 cap [] ?_]
      · rfl
      · exact run_loadCells_list (P := Try.prog) w x [] (fun j v hj => by simp at hj)
  · rcases hp with h | ⟨b, off, rfl, hc⟩
    · exact absurd h h0
    · exact run_convert_bytes_arg w 22 5 Try.underlying22 Try.underlying5 b off len cap Z hz hc 9 Try.underlying9

theorem conv_rd {w : World} {v : Value} {zs : List Int} (h : RdAt w v zs) : (convert 22 9 v).run Try.prog w = .ok (.string (strOfNums zs)) w := by
  obtain ⟨a, c, rfl, ha, hlc, h⟩ := h
  refine conv_at w a zs.length c zs rfl ?_
  rcases h with h | ⟨b, off, rfl, hc⟩
  · exact .inl h
  · refine .inr ⟨b, off, rfl, fun j hj => ?_⟩
    refine hc j _ ?_
    rw [cels, List.getElem?_map, List.getElem?_eq_getElem hj, List.getD_eq_getElem?_getD, List.getElem?_eq_getElem hj]
    rfl

theorem wp_append_new {w : World} {o : Oper} {a : Act} {K : Act → World → Prop} {Q : Exit → Act → World → Prop} (hgd : o.guard = none) (d s : Operand)
    (ho : o.op = .call { callee := .builtin .append, args := #[d, s], argTypes := #[22, 22] })
    (base : Nat) (v sv : Value) (zs ds : List Int) (m n : Nat) (hd : a.eval d = v) (hs : a.eval s = sv) (hown : w.ownsRow base 5 1 v m (cels zs)) (hrd : RdAt w sv ds) (hpos : 0 < ds.length) (hm : zs.length = m) (hn : m + ds.length = n) (hlen : n ≤ 140737488355328) (hb : base ≤ w.heap.size)
    (h : ∀ g cap w', Kpt (w'.ownsRow base 5 1 (.slice (some ⟨g, 0, none⟩) n cap) n (cels (zs ++ ds))) → Kpt (base ≤ g ∧ g < w'.heap.size) → Kpt (w.grownBy w' v.ownBlock) →
      K (a.put o.dst (.slice (some ⟨g, 0, none⟩) n cap)) w') : o.wp Try.prog a w K Q := by
  subst hm hn
  obtain ⟨i0, hi0, hz0, hz1, hz2⟩ := info_parts Try.info5
  obtain ⟨sa, sc, rfl, hsn, hsl, hsr⟩ := hrd
  rcases hsr with h1 | ⟨b, soff, rfl, hc⟩
  · omega
  obtain ⟨v', w', hr, h2, h3, h4, h5⟩ := run_append_own_at (P := Try.prog) w base 22 o.type 5 i0 (.int .u8 0) 1 1 Try.underlying22 hi0 hz0 hz1 hz2 rfl (by decide) v zs.length (cels zs) hown ⟨b, soff, none⟩ ds.length sc (cels ds) (by simp) (fun j u hu => by rw [Go.WideShapes.add_plain]; exact hc j u hu) (cels_one _) (by unfold maxLen; omega) (by omega) hb
  obtain ⟨g, cap, rfl, hg, hlt⟩ := own_shape h2 (by omega)
  unfold Oper.wp execOp
  simp only [ho, resolve, invoke, builtin, Sem.run_bind, Sem.run_pure, Result.andThen_ok, List.map_toArray, List.map_cons, List.map_nil, hd, hs, hr]
  exact h g cap w' ⟨by rw [cels_append]; exact h2⟩ ⟨hg, hlt⟩ ⟨h3⟩

theorem below_undrew {n : Nat} {a b : World} (h : Below n a.drew b) : Below n a b := ⟨h.os, h.tape, h.output, h.size, h.block⟩
end Go.Proofs.Ytklboieemljmiaa

namespace Go.Proofs.Ytklboieemljmiaa

/-! ### CRC32C -/

/-- One bit. -/
def b32 (r : Nat) : Nat := if r % 2 = 1 then r / 2 ^^^ 2197175160 else r / 2

def it32 : Nat → Nat → Nat
  | 0, r => r
  | k + 1, r => b32 (it32 k r)

/-- One byte. -/
def s32 (r x : Nat) : Nat := it32 8 (r ^^^ x)

/-- A list of bytes. -/
def reg32 (r : Nat) (zs : List Int) : Nat := zs.foldl (fun r z => s32 r z.toNat) r

theorem b32_lt (r : Nat) (h : r < 4294967296) : b32 r < 4294967296 := by
  unfold b32
  split
  · have : r / 2 ^^^ 2197175160 < 2 ^ 32 := Nat.xor_lt_two_pow (by omega) (by omega)
    omega
  · omega

theorem it32_lt (k r : Nat) (h : r < 4294967296) : it32 k r < 4294967296 := by
  induction k with
  | zero => exact h
  | succ k ih => exact b32_lt _ ih

theorem xor_lt32 (a b : Nat) (ha : a < 4294967296) (hb : b < 4294967296) : a ^^^ b < 4294967296 := by
  have : a ^^^ b < 2 ^ 32 := Nat.xor_lt_two_pow (by omega) (by omega)
  omega

theorem s32_lt (r x : Nat) (h : r < 4294967296) (hx : x < 256) : s32 r x < 4294967296 :=
  it32_lt _ _ (xor_lt32 _ _ h (by omega))

theorem reg32_lt (zs : List Int) (hz : ∀ z ∈ zs, 0 ≤ z ∧ z ≤ 255) : ∀ r, r < 4294967296 → reg32 r zs < 4294967296 := by
  induction zs with
  | nil => intro r h; exact h
  | cons z zs ih =>
    intro r h
    have hz0 := hz z (by simp)
    exact ih (fun y hy => hz y (by simp [hy])) _ (s32_lt _ _ h (by omega))

theorem reg32_append (r : Nat) (xs ys : List Int) : reg32 r (xs ++ ys) = reg32 (reg32 r xs) ys := by
  unfold reg32; rw [List.foldl_append]

/-- The document's road, bit by bit: what it has behind j bits of a byte. -/
def d32 (r x : Nat) : Nat → Nat
  | 0 => r
  | j + 1 => if (d32 r x j ^^^ (x / 2 ^ j % 2)) % 2 = 1 then d32 r x j / 2 ^^^ 2197175160 else d32 r x j / 2

theorem xor_div2 (a b : Nat) : (a ^^^ b) / 2 = a / 2 ^^^ b / 2 := by
  have h := @Nat.shiftRight_xor_distrib 1 a b
  simpa [Nat.shiftRight_eq_div_pow] using h

theorem xor_mod1 (a b : Nat) : (a ^^^ b) % 2 = a % 2 ^^^ b % 2 := by
  have h := @Nat.xor_mod_two_pow a b 1
  simpa using h

theorem xor_swap (a b p : Nat) : a ^^^ b ^^^ p = a ^^^ p ^^^ b := by
  rw [Nat.xor_assoc, Nat.xor_comm b p, ← Nat.xor_assoc]

theorem d32_it (r x : Nat) : ∀ j, it32 j (r ^^^ x) = d32 r x j ^^^ x / 2 ^ j
  | 0 => by simp [it32, d32]
  | j + 1 => by
    have ih := d32_it r x j
    have hm : (d32 r x j ^^^ x / 2 ^ j) % 2 = (d32 r x j ^^^ (x / 2 ^ j % 2)) % 2 := by
      rw [xor_mod1, xor_mod1, Nat.mod_mod]
    have hd : x / 2 ^ j / 2 = x / 2 ^ (j + 1) := by rw [Nat.div_div_eq_div_mul, Nat.pow_succ]
    rw [it32, ih, b32, hm, xor_div2, hd, d32]
    by_cases h : (d32 r x j ^^^ (x / 2 ^ j % 2)) % 2 = 1
    · rw [if_pos h, if_pos h, xor_swap]
    · rw [if_neg h, if_neg h]

theorem d32_s (r x : Nat) (hx : x < 256) : d32 r x 8 = s32 r x := by
  have h := d32_it r x 8
  rw [show x / 2 ^ 8 = 0 by omega, Nat.xor_zero] at h
  exact h.symm

theorem d32_lt (r x : Nat) (h : r < 4294967296) : ∀ j, d32 r x j < 4294967296
  | 0 => h
  | j + 1 => by
    have ih := d32_lt r x h j
    unfold d32
    split
    · exact xor_lt32 _ _ (by omega) (by omega)
    · omega

/-! ### The guard -/

def b16 (r : Nat) : Nat := if r / 32768 = 1 then r * 2 % 65536 ^^^ 35767 else r * 2 % 65536

def it16 : Nat → Nat → Nat
  | 0, r => r
  | k + 1, r => b16 (it16 k r)

def s16 (r x : Nat) : Nat := it16 8 (r ^^^ x * 256)

def reg16 (r : Nat) (zs : List Int) : Nat := zs.foldl (fun r z => s16 r z.toNat) r

theorem xor_lt16 (a b : Nat) (ha : a < 65536) (hb : b < 65536) : a ^^^ b < 65536 := by
  have : a ^^^ b < 2 ^ 16 := Nat.xor_lt_two_pow (by omega) (by omega)
  omega

theorem b16_lt (r : Nat) : b16 r < 65536 := by
  unfold b16
  split
  · exact xor_lt16 _ _ (by omega) (by omega)
  · omega

theorem it16_lt (k r : Nat) (h : r < 65536) : it16 k r < 65536 := by
  cases k with
  | zero => exact h
  | succ k => exact b16_lt _

theorem s16_lt (r x : Nat) (h : r < 65536) (hx : x < 256) : s16 r x < 65536 :=
  it16_lt _ _ (xor_lt16 _ _ h (by omega))

theorem reg16_lt (zs : List Int) (hz : ∀ z ∈ zs, 0 ≤ z ∧ z ≤ 255) : ∀ r, r < 65536 → reg16 r zs < 65536 := by
  induction zs with
  | nil => intro r h; exact h
  | cons z zs ih =>
    intro r h
    have hz0 := hz z (by simp)
    exact ih (fun y hy => hz y (by simp [hy])) _ (s16_lt _ _ h (by omega))

theorem reg16_append (r : Nat) (xs ys : List Int) : reg16 r (xs ++ ys) = reg16 (reg16 r xs) ys := by
  unfold reg16; rw [List.foldl_append]

def d16 (r x : Nat) : Nat → Nat
  | 0 => r
  | j + 1 => if d16 r x j / 32768 ^^^ (x / 2 ^ (7 - j) % 2) = 1 then d16 r x j * 2 % 65536 ^^^ 35767 else d16 r x j * 2 % 65536

theorem d16_lt (r x : Nat) (h : r < 65536) : ∀ j, d16 r x j < 65536
  | 0 => h
  | j + 1 => by
    unfold d16
    split
    · exact xor_lt16 _ _ (by omega) (by omega)
    · omega

theorem xor_mod16 (a b : Nat) : (a ^^^ b) % 65536 = a % 65536 ^^^ b % 65536 := by
  have h := @Nat.xor_mod_two_pow a b 16
  simpa using h

theorem xor_mul2 (a b : Nat) : (a ^^^ b) * 2 = a * 2 ^^^ b * 2 := by
  have h := @Nat.shiftLeft_xor_distrib 1 a b
  simpa [Nat.shiftLeft_eq] using h

theorem xor_div15 (a b : Nat) : (a ^^^ b) / 32768 = a / 32768 ^^^ b / 32768 := by
  have h := @Nat.shiftRight_xor_distrib 15 a b
  simpa [Nat.shiftRight_eq_div_pow] using h

theorem top_bit (x j : Nat) (hx : x < 256) (hj : j < 8) : x * 2 ^ (8 + j) % 65536 / 32768 = x / 2 ^ (7 - j) % 2 := by
  have h : j = 0 ∨ j = 1 ∨ j = 2 ∨ j = 3 ∨ j = 4 ∨ j = 5 ∨ j = 6 ∨ j = 7 := by omega
  rcases h with rfl | rfl | rfl | rfl | rfl | rfl | rfl | rfl <;> omega

theorem d16_it (r x : Nat) (hx : x < 256) : ∀ j, j ≤ 8 → it16 j (r ^^^ x * 256) = d16 r x j ^^^ x * 2 ^ (8 + j) % 65536
  | 0, _ => by rw [it16, d16, show x * 2 ^ (8 + 0) % 65536 = x * 256 by omega]
  | j + 1, hj => by
    have ih := d16_it r x hx j (by omega)
    have ht := top_bit x j hx (by omega)
    have hs : x * 2 ^ (8 + j) % 65536 * 2 % 65536 = x * 2 ^ (8 + (j + 1)) % 65536 := by
      rw [show 8 + (j + 1) = (8 + j) + 1 by omega, Nat.pow_succ, ← Nat.mul_assoc]; omega
    rw [it16, ih, b16, xor_div15, ht, xor_mul2, xor_mod16, hs, d16]
    by_cases h : d16 r x j / 32768 ^^^ (x / 2 ^ (7 - j) % 2) = 1
    · rw [if_pos h, if_pos h, xor_swap]
    · rw [if_neg h, if_neg h]

theorem d16_s (r x : Nat) (hx : x < 256) : d16 r x 8 = s16 r x := by
  have h := d16_it r x hx 8 (Nat.le_refl _)
  rw [show x * 2 ^ (8 + 8) % 65536 = 0 by omega, Nat.xor_zero] at h
  exact h.symm

theorem take_step (Z : List Int) (k : Nat) (h : k < Z.length) : Z.take (k + 1) = Z.take k ++ [Z.getD k 0] := by
  rw [List.take_succ_eq_append_getElem h, List.getD_eq_getElem?_getD, List.getElem?_eq_getElem h]; rfl

/-! ### Unlike registers stay unlike -/

theorem xor_cancel (a b p : Nat) (h : a ^^^ p = b ^^^ p) : a = b := by
  have h2 : a ^^^ p ^^^ p = b ^^^ p ^^^ p := by rw [h]
  rwa [Nat.xor_assoc, Nat.xor_assoc, Nat.xor_self, Nat.xor_zero, Nat.xor_zero] at h2

theorem xor_move (a b p : Nat) (h : a ^^^ p = b) : p = a ^^^ b := by
  rw [← h, ← Nat.xor_assoc, Nat.xor_self, Nat.zero_xor]

theorem b32_inj (r s : Nat) (hr : r < 4294967296) (hs : s < 4294967296) (h : b32 r = b32 s) : r = s := by
  unfold b32 at h
  by_cases h1 : r % 2 = 1
  · by_cases h2 : s % 2 = 1
    · rw [if_pos h1, if_pos h2] at h
      have := xor_cancel _ _ _ h
      omega
    · rw [if_pos h1, if_neg h2] at h
      have h3 := xor_move _ _ _ h
      have h4 : r / 2 ^^^ s / 2 < 2 ^ 31 := Nat.xor_lt_two_pow (by omega) (by omega)
      omega
  · by_cases h2 : s % 2 = 1
    · rw [if_neg h1, if_pos h2] at h
      have h3 := xor_move _ _ _ h.symm
      have h4 : s / 2 ^^^ r / 2 < 2 ^ 31 := Nat.xor_lt_two_pow (by omega) (by omega)
      omega
    · rw [if_neg h1, if_neg h2] at h
      omega

theorem it32_inj (k r s : Nat) (hr : r < 4294967296) (hs : s < 4294967296) (h : it32 k r = it32 k s) : r = s := by
  induction k with
  | zero => exact h
  | succ k ih => exact ih (b32_inj _ _ (it32_lt k r hr) (it32_lt k s hs) h)

theorem s32_inj (r s x y : Nat) (hr : r < 4294967296) (hs : s < 4294967296) (hx : x < 256) (hy : y < 256) (h : s32 r x = s32 s y) : r ^^^ x = s ^^^ y :=
  it32_inj 8 _ _ (xor_lt32 _ _ hr (by omega)) (xor_lt32 _ _ hs (by omega)) h

theorem reg32_inj (zs : List Int) (hz : ∀ z ∈ zs, 0 ≤ z ∧ z ≤ 255) : ∀ r s, r < 4294967296 → s < 4294967296 → reg32 r zs = reg32 s zs → r = s := by
  induction zs with
  | nil => intro r s _ _ h; exact h
  | cons z zs ih =>
    intro r s hr hs h
    have hz0 := hz z (by simp)
    have h2 := ih (fun y hy => hz y (by simp [hy])) _ _ (s32_lt r z.toNat hr (by omega)) (s32_lt s z.toNat hs (by omega)) h
    exact xor_cancel _ _ _ (s32_inj r s _ _ hr hs (by omega) (by omega) h2)

theorem b16_inj (r s : Nat) (hr : r < 65536) (hs : s < 65536) (h : b16 r = b16 s) : r = s := by
  unfold b16 at h
  by_cases h1 : r / 32768 = 1
  · by_cases h2 : s / 32768 = 1
    · rw [if_pos h1, if_pos h2] at h
      have := xor_cancel _ _ _ h
      omega
    · rw [if_pos h1, if_neg h2] at h
      have h3 := congrArg (· % 2) h
      simp only [xor_mod1] at h3
      rw [show r * 2 % 65536 % 2 = 0 by omega, show s * 2 % 65536 % 2 = 0 by omega] at h3
      simp at h3
  · by_cases h2 : s / 32768 = 1
    · rw [if_neg h1, if_pos h2] at h
      have h3 := congrArg (· % 2) h
      simp only [xor_mod1] at h3
      rw [show r * 2 % 65536 % 2 = 0 by omega, show s * 2 % 65536 % 2 = 0 by omega] at h3
      simp at h3
    · rw [if_neg h1, if_neg h2] at h
      omega

theorem it16_inj (k r s : Nat) (hr : r < 65536) (hs : s < 65536) (h : it16 k r = it16 k s) : r = s := by
  induction k with
  | zero => exact h
  | succ k ih => exact ih (b16_inj _ _ (it16_lt k r hr) (it16_lt k s hs) h)

theorem s16_inj (r s x y : Nat) (hr : r < 65536) (hs : s < 65536) (hx : x < 256) (hy : y < 256) (h : s16 r x = s16 s y) : r ^^^ x * 256 = s ^^^ y * 256 :=
  it16_inj 8 _ _ (xor_lt16 _ _ hr (by omega)) (xor_lt16 _ _ hs (by omega)) h

theorem reg16_inj (zs : List Int) (hz : ∀ z ∈ zs, 0 ≤ z ∧ z ≤ 255) : ∀ r s, r < 65536 → s < 65536 → reg16 r zs = reg16 s zs → r = s := by
  induction zs with
  | nil => intro r s _ _ h; exact h
  | cons z zs ih =>
    intro r s hr hs h
    have hz0 := hz z (by simp)
    have h2 := ih (fun y hy => hz y (by simp [hy])) _ _ (s16_lt r z.toNat hr (by omega)) (s16_lt s z.toNat hs (by omega)) h
    exact xor_cancel _ _ _ (s16_inj r s _ _ hr hs (by omega) (by omega) h2)

theorem set_split (Z : List Int) (i : Nat) (y : Int) (hi : i < Z.length) : Z = Z.take i ++ Z.getD i 0 :: Z.drop (i + 1) ∧ Z.set i y = Z.take i ++ y :: Z.drop (i + 1) := by
  constructor
  · rw [List.getD_eq_getElem?_getD, List.getElem?_eq_getElem hi]
    simp
  · rw [List.set_eq_take_append_cons_drop, if_pos hi]

theorem tells32 (Z : List Int) (hz : ∀ z ∈ Z, 0 ≤ z ∧ z ≤ 255) (i : Nat) (hi : i < Z.length) (y : Nat) (hy : y < 256) (hne : (Z.getD i 0).toNat ≠ y) (r : Nat) (hr : r < 4294967296) : reg32 r Z ≠ reg32 r (Z.set i (y : Int)) := by
  obtain ⟨e1, e2⟩ := set_split Z i (y : Int) hi
  have hA : ∀ z ∈ Z.take i, 0 ≤ z ∧ z ≤ 255 := fun z h => hz z (List.mem_of_mem_take h)
  have hB : ∀ z ∈ Z.drop (i + 1), 0 ≤ z ∧ z ≤ 255 := fun z h => hz z (List.mem_of_mem_drop h)
  have hx : 0 ≤ Z.getD i 0 ∧ Z.getD i 0 ≤ 255 := by
    apply hz
    rw [List.getD_eq_getElem?_getD, List.getElem?_eq_getElem hi]
    exact List.getElem_mem hi
  intro h
  have hq := reg32_lt _ hA r hr
  rw [e2] at h
  have h1 : reg32 r (Z.take i ++ Z.getD i 0 :: Z.drop (i + 1)) = reg32 r (Z.take i ++ (y : Int) :: Z.drop (i + 1)) := by rw [← e1]; exact h
  rw [reg32_append, reg32_append] at h1
  have h2 := reg32_inj _ hB _ _ (s32_lt _ (Z.getD i 0).toNat hq (by omega)) (s32_lt _ (y : Int).toNat hq (by omega)) h1
  have h3 := s32_inj _ _ _ _ hq hq (by omega) (by omega) h2
  rw [Nat.xor_comm, Nat.xor_comm (reg32 r (Z.take i))] at h3
  have h4 := xor_cancel _ _ _ h3
  omega

theorem tells16 (Z : List Int) (hz : ∀ z ∈ Z, 0 ≤ z ∧ z ≤ 255) (i : Nat) (hi : i < Z.length) (y : Nat) (hy : y < 256) (hne : (Z.getD i 0).toNat ≠ y) (r : Nat) (hr : r < 65536) : reg16 r Z ≠ reg16 r (Z.set i (y : Int)) := by
  obtain ⟨e1, e2⟩ := set_split Z i (y : Int) hi
  have hA : ∀ z ∈ Z.take i, 0 ≤ z ∧ z ≤ 255 := fun z h => hz z (List.mem_of_mem_take h)
  have hB : ∀ z ∈ Z.drop (i + 1), 0 ≤ z ∧ z ≤ 255 := fun z h => hz z (List.mem_of_mem_drop h)
  have hx : 0 ≤ Z.getD i 0 ∧ Z.getD i 0 ≤ 255 := by
    apply hz
    rw [List.getD_eq_getElem?_getD, List.getElem?_eq_getElem hi]
    exact List.getElem_mem hi
  intro h
  have hq := reg16_lt _ hA r hr
  rw [e2] at h
  have h1 : reg16 r (Z.take i ++ Z.getD i 0 :: Z.drop (i + 1)) = reg16 r (Z.take i ++ (y : Int) :: Z.drop (i + 1)) := by rw [← e1]; exact h
  rw [reg16_append, reg16_append] at h1
  have h2 := reg16_inj _ hB _ _ (s16_lt _ (Z.getD i 0).toNat hq (by omega)) (s16_lt _ (y : Int).toNat hq (by omega)) h1
  have h3 := s16_inj _ _ _ _ hq hq (by omega) (by omega) h2
  rw [Nat.xor_comm, Nat.xor_comm (reg16 r (Z.take i))] at h3
  have h4 := xor_cancel _ _ _ h3
  omega

/-! ### The guard of bytes xored -/

theorem b16_xor (a b : Nat) (ha : a < 65536) (hb : b < 65536) : b16 (a ^^^ b) = b16 a ^^^ b16 b := by
  have hd := xor_div15 a b
  have hm : (a ^^^ b) * 2 % 65536 = a * 2 % 65536 ^^^ b * 2 % 65536 := by rw [xor_mul2, xor_mod16]
  unfold b16
  rw [hd, hm]
  by_cases h1 : a / 32768 = 1
  · by_cases h2 : b / 32768 = 1
    · rw [if_pos h1, if_pos h2, h1, h2, if_neg (by decide), Nat.xor_assoc, Nat.xor_comm 35767, Nat.xor_assoc, Nat.xor_self, Nat.xor_zero]
    · rw [if_pos h1, if_neg h2, h1, show b / 32768 = 0 by omega, if_pos (by decide), xor_swap]
  · by_cases h2 : b / 32768 = 1
    · rw [if_neg h1, if_pos h2, h2, show a / 32768 = 0 by omega, if_pos (by decide), Nat.xor_assoc]
    · rw [if_neg h1, if_neg h2, show a / 32768 = 0 by omega, show b / 32768 = 0 by omega, if_neg (by decide)]

theorem it16_xor (k a b : Nat) (ha : a < 65536) (hb : b < 65536) : it16 k (a ^^^ b) = it16 k a ^^^ it16 k b := by
  induction k with
  | zero => rfl
  | succ k ih => rw [it16, it16, it16, ih, b16_xor _ _ (it16_lt k a ha) (it16_lt k b hb)]

theorem xor_mul256 (a b : Nat) : (a ^^^ b) * 256 = a * 256 ^^^ b * 256 := by
  have h := @Nat.shiftLeft_xor_distrib 8 a b
  simpa [Nat.shiftLeft_eq] using h

theorem s16_xor (r s x y : Nat) (hr : r < 65536) (hs : s < 65536) (hx : x < 256) (hy : y < 256) : s16 (r ^^^ s) (x ^^^ y) = s16 r x ^^^ s16 s y := by
  unfold s16
  rw [← it16_xor 8 _ _ (xor_lt16 _ _ hr (by omega)) (xor_lt16 _ _ hs (by omega)), xor_mul256]
  congr 1
  rw [Nat.xor_assoc, Nat.xor_assoc]
  congr 1
  rw [← Nat.xor_assoc, ← Nat.xor_assoc, Nat.xor_comm s]

/-- The bytes of two lists, xored one by one, as many as k. -/
def xors (Z Y : List Int) : Nat → List Int
  | 0 => []
  | k + 1 => xors Z Y k ++ [((((Z.getD k 0).toNat ^^^ (Y.getD k 0).toNat : Nat)) : Int)]

theorem xors_len (Z Y : List Int) : ∀ k, (xors Z Y k).length = k
  | 0 => rfl
  | k + 1 => by simp [xors, xors_len Z Y k]

theorem xors_reg (Z Y : List Int) (hZ : ∀ z ∈ Z, 0 ≤ z ∧ z ≤ 255) (hY : ∀ z ∈ Y, 0 ≤ z ∧ z ≤ 255) : ∀ k, k ≤ Z.length → k ≤ Y.length → reg16 0 (xors Z Y k) = reg16 0 (Z.take k) ^^^ reg16 0 (Y.take k)
  | 0, _, _ => by simp [xors, reg16]
  | k + 1, h1, h2 => by
    have ih := xors_reg Z Y hZ hY k (by omega) (by omega)
    have hz : 0 ≤ Z.getD k 0 ∧ Z.getD k 0 ≤ 255 := by
      apply hZ; rw [List.getD_eq_getElem?_getD, List.getElem?_eq_getElem (by omega)]; exact List.getElem_mem _
    have hy : 0 ≤ Y.getD k 0 ∧ Y.getD k 0 ≤ 255 := by
      apply hY; rw [List.getD_eq_getElem?_getD, List.getElem?_eq_getElem (by omega)]; exact List.getElem_mem _
    rw [take_step Z k (by omega), take_step Y k (by omega), xors, reg16_append, reg16_append, reg16_append, ih]
    exact s16_xor _ _ _ _ (reg16_lt _ (fun z h => hZ z (List.mem_of_mem_take h)) 0 (by omega)) (reg16_lt _ (fun z h => hY z (List.mem_of_mem_take h)) 0 (by omega)) (by omega) (by omega)

/-! ### As the program spells it -/

theorem and1_32 (R : Nat) (hR : R < 4294967296) : bits BinOp.and IntKind.u32 (R : Int) 1 = ((R % 2 : Nat) : Int) := by
  have h := u32_and_nat R 1 hR (by omega)
  rw [Nat.and_one_is_mod] at h
  exact h

theorem xor32 (a b : Nat) (ha : a < 4294967296) (hb : b < 4294967296) : bits BinOp.xor IntKind.u32 (a : Int) (b : Int) = ((a ^^^ b : Nat) : Int) := u32_xor_nat a b ha hb

theorem half_cast (R : Nat) : (R : Int) / 2 = ((R / 2 : Nat) : Int) := by omega

theorem w32_yes (R : Nat) (hR : R < 4294967296) (h : (bits BinOp.and IntKind.u32 (R : Int) 1 == 1) = true) : bits BinOp.xor IntKind.u32 ((R : Int) / 2) 2197175160 = ((b32 R : Nat) : Int) := by
  rw [and1_32 R hR] at h
  have h1 : R % 2 = 1 := by have : ((R % 2 : Nat) : Int) = 1 := (by simpa using h); omega
  rw [half_cast, b32, if_pos h1]
  exact xor32 (R / 2) 2197175160 (by omega) (by omega)

theorem w32_no (R : Nat) (hR : R < 4294967296) (h : (bits BinOp.and IntKind.u32 (R : Int) 1 == 1) = false) : (R : Int) / 2 = ((b32 R : Nat) : Int) := by
  rw [and1_32 R hR] at h
  have h1 : ¬ R % 2 = 1 := by
    intro h0; rw [h0] at h; simp at h
  rw [half_cast, b32, if_neg h1]

theorem wrap16_dbl (R : Nat) : IntKind.u16.wrap ((R : Int) * 2) = ((R * 2 % 65536 : Nat) : Int) := by
  rw [IntKind.wrap_u16]; omega

theorem w16_yes (R : Nat) (h : ((R : Int) / 32768 == 1) = true) : bits BinOp.xor IntKind.u16 (IntKind.u16.wrap ((R : Int) * 2)) 35767 = ((b16 R : Nat) : Int) := by
  have h1 : R / 32768 = 1 := by have : (R : Int) / 32768 = 1 := (by simpa using h); omega
  rw [wrap16_dbl, b16, if_pos h1]
  exact u16_xor_nat (R * 2 % 65536) 35767 (by omega) (by omega)

theorem w16_no (R : Nat) (h : ((R : Int) / 32768 == 1) = false) : IntKind.u16.wrap ((R : Int) * 2) = ((b16 R : Nat) : Int) := by
  have h1 : ¬ R / 32768 = 1 := by have : ¬ (R : Int) / 32768 = 1 := (by simpa using h); omega
  rw [wrap16_dbl, b16, if_neg h1]

theorem xor_ones (s : Nat) (hs : s < 4294967296) : 4294967295 ^^^ s = 4294967295 - s := by
  apply Nat.eq_of_testBit_eq
  intro i
  rw [Nat.testBit_xor, show 4294967295 - s = 2 ^ 32 - (s + 1) by omega, Nat.testBit_two_pow_sub_succ (by omega), show (4294967295 : Nat) = 2 ^ 32 - 1 by omega, Nat.testBit_two_pow_sub_one]
  by_cases h : i < 32
  · simp [h]
  · have : s.testBit i = false := Nat.testBit_lt_two_pow (Nat.lt_of_lt_of_le (show s < 2 ^ 32 by omega) (Nat.pow_le_pow_right (by decide) (by omega)))
    simp [h, this]

theorem not32' (s : Nat) (hs : s < 4294967296) : bits BinOp.xor IntKind.u32 (s : Int) 4294967295 = ((4294967295 - s : Nat) : Int) := by
  have h := u32_xor_nat s 4294967295 hs (by omega)
  rw [Nat.xor_comm, xor_ones s hs] at h
  exact h

theorem cast_div (X j : Nat) : (X : Int) / 2 ^ j = ((X / 2 ^ j : Nat) : Int) := by
  rw [Int.natCast_ediv]; simp

theorem t32 (D X j : Nat) (hD : D < 4294967296) (hX : X < 256) :
    bits BinOp.and IntKind.u32 (bits BinOp.xor IntKind.u32 (D : Int) (bits BinOp.and IntKind.u32 ((X : Int) / 2 ^ j % 4294967296) 1)) 1 = (((D ^^^ (X / 2 ^ j % 2)) % 2 : Nat) : Int) := by
  have hq : X / 2 ^ j ≤ X := Nat.div_le_self _ _
  rw [cast_div]
  generalize X / 2 ^ j = q at *
  rw [show (q : Int) % 4294967296 = (q : Int) by omega, and1_32 _ (by omega), xor32 _ _ hD (by omega), and1_32 _ (xor_lt32 _ _ hD (by omega))]

theorem r32_yes (R X j D : Nat) (hD : D < 4294967296) (hX : X < 256) (e : D = d32 R X j)
    (h : (bits BinOp.and IntKind.u32 (bits BinOp.xor IntKind.u32 (D : Int) (bits BinOp.and IntKind.u32 ((X : Int) / 2 ^ j % 4294967296) 1)) 1 == 1) = true) :
    bits BinOp.xor IntKind.u32 ((D : Int) / 2) 2197175160 = ((d32 R X (j + 1) : Nat) : Int) := by
  rw [t32 D X j hD hX] at h
  have h1 : (D ^^^ (X / 2 ^ j % 2)) % 2 = 1 := by have : (((D ^^^ (X / 2 ^ j % 2)) % 2 : Nat) : Int) = 1 := (by simpa using h); omega
  rw [half_cast, d32, ← e, if_pos h1]
  exact xor32 (D / 2) 2197175160 (by omega) (by omega)

theorem r32_no (R X j D : Nat) (hD : D < 4294967296) (hX : X < 256) (e : D = d32 R X j)
    (h : (bits BinOp.and IntKind.u32 (bits BinOp.xor IntKind.u32 (D : Int) (bits BinOp.and IntKind.u32 ((X : Int) / 2 ^ j % 4294967296) 1)) 1 == 1) = false) :
    (D : Int) / 2 = ((d32 R X (j + 1) : Nat) : Int) := by
  rw [t32 D X j hD hX] at h
  have h1 : ¬ (D ^^^ (X / 2 ^ j % 2)) % 2 = 1 := by
    intro h0; rw [h0] at h; simp at h
  rw [half_cast, d32, ← e, if_neg h1]

theorem and1_16 (R : Nat) (hR : R < 65536) : bits BinOp.and IntKind.u16 (R : Int) 1 = ((R % 2 : Nat) : Int) := by
  have h := u16_and_nat R 1 hR (by omega)
  rw [Nat.and_one_is_mod] at h
  exact h

theorem t16 (D X j : Nat) (hD : D < 65536) (hX : X < 256) :
    bits BinOp.xor IntKind.u16 ((D : Int) / 32768) (bits BinOp.and IntKind.u16 (IntKind.u16.wrap ((X : Int) / 2 ^ (7 - j))) 1) = ((D / 32768 ^^^ (X / 2 ^ (7 - j) % 2) : Nat) : Int) := by
  have hq : X / 2 ^ (7 - j) ≤ X := Nat.div_le_self _ _
  rw [cast_div]
  generalize X / 2 ^ (7 - j) = q at *
  rw [IntKind.wrap_u16, show (q : Int) % 65536 = (q : Int) by omega, and1_16 _ (by omega), show (D : Int) / 32768 = ((D / 32768 : Nat) : Int) by omega]
  exact u16_xor_nat _ _ (by omega) (by omega)

theorem r16_yes (R X j D : Nat) (hD : D < 65536) (hX : X < 256) (e : D = d16 R X j)
    (h : (bits BinOp.xor IntKind.u16 ((D : Int) / 32768) (bits BinOp.and IntKind.u16 (IntKind.u16.wrap ((X : Int) / 2 ^ (7 - j))) 1) == 1) = true) :
    bits BinOp.xor IntKind.u16 (IntKind.u16.wrap ((D : Int) * 2)) 35767 = ((d16 R X (j + 1) : Nat) : Int) := by
  rw [t16 D X j hD hX] at h
  have h1 : D / 32768 ^^^ (X / 2 ^ (7 - j) % 2) = 1 := by have : ((D / 32768 ^^^ (X / 2 ^ (7 - j) % 2) : Nat) : Int) = 1 := (by simpa using h); omega
  rw [wrap16_dbl, d16, ← e, if_pos h1]
  exact u16_xor_nat (D * 2 % 65536) 35767 (by omega) (by omega)

theorem r16_no (R X j D : Nat) (hD : D < 65536) (hX : X < 256) (e : D = d16 R X j)
    (h : (bits BinOp.xor IntKind.u16 ((D : Int) / 32768) (bits BinOp.and IntKind.u16 (IntKind.u16.wrap ((X : Int) / 2 ^ (7 - j))) 1) == 1) = false) :
    IntKind.u16.wrap ((D : Int) * 2) = ((d16 R X (j + 1) : Nat) : Int) := by
  rw [t16 D X j hD hX] at h
  have h1 : ¬ D / 32768 ^^^ (X / 2 ^ (7 - j) % 2) = 1 := by
    intro h0; rw [h0] at h; simp at h
  rw [wrap16_dbl, d16, ← e, if_neg h1]

theorem not32 (s : Nat) (hs : s < 4294967296) : bits BinOp.xor IntKind.u32 IntKind.u32.max (s : Int) = ((4294967295 - s : Nat) : Int) := by
  have h := u32_xor_nat 4294967295 s (by omega) hs
  rw [xor_ones s hs] at h
  exact h

theorem xorbyte32 (R X : Nat) (hR : R < 4294967296) (hX : X < 256) : bits BinOp.xor IntKind.u32 (R : Int) (X : Int) = ((R ^^^ X : Nat) : Int) := by
  exact u32_xor_nat R X hR (by omega)

theorem xorbyte16 (R X : Nat) (hR : R < 65536) (hX : X < 256) : bits BinOp.xor IntKind.u16 (R : Int) ((X : Int) * 256) = ((R ^^^ X * 256 : Nat) : Int) := by
  rw [show (X : Int) * 256 = ((X * 256 : Nat) : Int) by omega]
  exact u16_xor_nat R (X * 256) hR (by omega)

theorem reg32_step (r : Nat) (Z : List Int) (k : Nat) (h : k < Z.length) : reg32 r (Z.take (k + 1)) = s32 (reg32 r (Z.take k)) (Z.getD k 0).toNat := by
  rw [take_step Z k h, reg32_append]; rfl

theorem reg16_step (r : Nat) (Z : List Int) (k : Nat) (h : k < Z.length) : reg16 r (Z.take (k + 1)) = s16 (reg16 r (Z.take k)) (Z.getD k 0).toNat := by
  rw [take_step Z k h, reg16_append]; rfl

/-! ### The examples -/

def digits : List Int := [49, 50, 51, 52, 53, 54, 55, 56, 57]
theorem digits32 : reg32 4294967295 digits = 4294967295 - 3808858755 := by decide +kernel
theorem digits16 : reg16 0 digits = 53467 := by decide +kernel

end Go.Proofs.Ytklboieemljmiaa

namespace Go.Proofs.Ytklboieemljmiaa
open Go.RowKit
set_option linter.unusedVariables false

theorem ret_int {k : IntKind} {a b : Int} (h : a = b) : Ending.returned (.int k a) = .returned (.int k b) := by rw [h]

theorem step16_any (r : Nat) (w : World) (hr : r < 65536) :
    Calls Try.prog 92 #[.int .u16 (r : Int)] w fun e w' => e = .returned (.int .u16 (it16 8 r : Int)) ∧ w' = w := by
  go_enter Try.func92, Try.ntmps92
  go_wp2
  go_loop [0, 4] (fun x t => ∃ k : Nat, k ≤ 8 ∧ x = .int .u16 (it16 k r : Int) ∧ t = .int .i64 k) (fun _ t => 8 - (intOf t).toNat)
  case atStart => exact ⟨0, by omega, rfl, rfl⟩
  case round =>
    obtain ⟨k, hk, rfl, rfl⟩ := hrel
    have hR := it16_lt k r hr
    obtain ⟨R, hRe⟩ : ∃ R, R = it16 k r := ⟨_, rfl⟩
    have HR : Hid (R = it16 k r) := hRe
    rw [← hRe]
    rw [← hRe] at hR
    clear hRe
    by_cases hlt : k < 8
    · go_wp2
      · have ht : ((R : Int) / 32768 == 1) = true := by assumption
        go_round
        case rel => exact ⟨k + 1, by omega, by rw [w16_yes R ht, it16, ← HR.out], by go_num⟩
        case measure => simp [intOf]; omega
      · have ht : ((R : Int) / 32768 == 1) = false := by assumption
        go_round
        case rel => exact ⟨k + 1, by omega, by rw [w16_no R ht, it16, ← HR.out], by go_num⟩
        case measure => simp [intOf]; omega
    · obtain rfl : k = 8 := by omega
      go_wp2
      go_ret
      exact ⟨ret_int (by rw [HR.out]), rfl⟩

end Go.Proofs.Ytklboieemljmiaa

namespace Go.Proofs.Ytklboieemljmiaa
open Go.RowKit

/-- All are bytes. -/
def Bytes (zs : List Int) : Prop := ∀ j, 0 ≤ zs.getD j 0 ∧ zs.getD j 0 ≤ 255

/-- A row of bytes is there (or it has none). -/
def RowAt (w : World) (a : Option Addr) (len : Nat) (zs : List Int) : Prop :=
  len = 0 ∨ ∃ b off, a = some ⟨b, off, none⟩ ∧ ∀ j, j < len → w.cell? ⟨b, off + j, none⟩ = some (.int .u8 (zs.getD j 0))

theorem RowAt.below {w w' : World} {a : Option Addr} {len : Nat} {zs : List Int} (h : RowAt w a len zs) (hb : Below w.heap.size w w') : RowAt w' a len zs := by
  rcases h with h | ⟨b, off, ha, hc⟩
  · exact .inl h
  · refine .inr ⟨b, off, ha, fun j hj => ?_⟩
    have h1 := hc j hj
    rw [hb.cell (p := ⟨b, off + j, none⟩) (World.block_lt_of_cell? w ⟨b, off + j, none⟩ h1)]
    exact h1

theorem rowAt_of {w : World} {a : Option Addr} {len cap : Nat} {zs : List Int}
    (h : (a = none ∧ len = 0 ∧ cap = 0 ∧ zs = []) ∨
      ∃ x, a = some x ∧ len ≤ cap ∧ cap ≤ maxLen ∧ zs.length = cap ∧ (∀ i, i < zs.length → w.cell? (x.add i) = some (.int .u8 (zs.getD i 0))) ∧ ∀ n ∈ zs, (Lit.int .u8 n).wf = true) :
    RowAt w a len zs ∧ Bytes zs ∧ len ≤ maxLen := by
  rcases h with ⟨_, h, _, hz⟩ | ⟨x, rfl, hlc, hm, hz, hcell, hwz⟩
  · refine ⟨.inl h, ?_, ?_⟩
    · intro j; rw [hz]; simp
    · rw [h]; exact Nat.zero_le _
  · refine ⟨?_, fun j => by rw [List.getD_eq_getElem?_getD]; exact range_u8 hwz j, by omega⟩
    by_cases h0 : len = 0
    · exact .inl h0
    · obtain ⟨b, off, rfl, hc⟩ := ints_at hcell (by omega)
      exact .inr ⟨b, off, rfl, fun j hj => hc j (by omega)⟩

theorem rowAt_of' {w : World} {a : Option Addr} {len cap : Nat} {zs : List Int}
    (h : (a = none ∧ len = 0 ∧ cap = 0 ∧ zs = []) ∨
      ∃ x, a = some x ∧ len ≤ cap ∧ cap ≤ 140737488351232 ∧ zs.length = cap ∧ (∀ i, i < zs.length → w.cell? (x.add i) = some (.int .u8 (zs.getD i 0))) ∧ ∀ n ∈ zs, (Lit.int .u8 n).wf = true) :
    RowAt w a len zs ∧ Bytes zs := by
  have h' := rowAt_of (w := w) (a := a) (len := len) (cap := cap) (zs := zs) (by
    rcases h with h | ⟨x, h1, h2, h3, h4⟩
    · exact .inl h
    · exact .inr ⟨x, h1, h2, by unfold maxLen; omega, h4⟩)
  exact ⟨h'.1, h'.2.1⟩

theorem RowAt.take {w : World} {a : Option Addr} {len : Nat} {zs : List Int} (h : RowAt w a len zs) : RowAt w a len (zs.take len) := by
  rcases h with h | ⟨b, off, ha, hc⟩
  · exact .inl h
  · refine .inr ⟨b, off, ha, fun j hj => ?_⟩
    rw [hc j hj]
    simp [List.getD_eq_getElem?_getD, hj]

theorem Bytes.take {zs : List Int} (h : Bytes zs) (n : Nat) : Bytes (zs.take n) := by
  intro j
  have := h j
  rw [List.getD_eq_getElem?_getD] at this ⊢
  rw [List.getElem?_take]
  by_cases hj : j < n
  · rw [if_pos hj]; exact this
  · rw [if_neg hj]; simp

theorem Bytes.mem {zs : List Int} (h : Bytes zs) : ∀ z ∈ zs, 0 ≤ z ∧ z ≤ 255 := by
  intro z hz
  obtain ⟨j, hj, rfl⟩ := List.getElem_of_mem hz
  have := h j
  rw [List.getD_eq_getElem?_getD, List.getElem?_eq_getElem hj] at this
  exact this

end Go.Proofs.Ytklboieemljmiaa

namespace Go.Proofs.Ytklboieemljmiaa
open Go.RowKit
set_option linter.unusedVariables false

set_option maxHeartbeats 400000 in
theorem add16_any (s : Nat) (a : Option Addr) (len cap : Nat) (Z : List Int) (w : World) (hs : s < 65536) (hz : Z.length = len) (hl : len ≤ maxLen) (hb : Bytes Z) (hp : RowAt w a len Z) :
    Calls Try.prog 86 #[.int .u16 (s : Int), .slice a len cap] w fun e w' => e = .returned (.int .u16 (reg16 s Z : Int)) ∧ w' = w := by
  unfold maxLen at hl
  go_enter Try.func86, Try.ntmps86
  go_wp2
  go_loop [5, 10] (fun x t => ∃ k : Nat, k ≤ len ∧ x = .int .u16 (reg16 s (Z.take k) : Int) ∧ t = .int .i64 k) (fun _ t => len - (intOf t).toNat)
  case atStart => exact ⟨0, by omega, rfl, rfl⟩
  case round =>
    obtain ⟨k, hk, rfl, rfl⟩ := hrel
    have hR := reg16_lt (Z.take k) (hb.take k).mem s hs
    obtain ⟨R, hRe⟩ : ∃ R, R = reg16 s (Z.take k) := ⟨_, rfl⟩
    have HR : Hid (R = reg16 s (Z.take k)) := hRe
    rw [← hRe]
    rw [← hRe] at hR
    clear hRe
    by_cases hlt : k < len
    · rcases hp with hp | ⟨b, off, rfl, hc⟩
      · omega
      have hcell := hc k hlt
      have hx := hb k
      obtain ⟨X, hX⟩ : ∃ X : Nat, Z.getD k 0 = (X : Int) := ⟨(Z.getD k 0).toNat, by omega⟩
      have HS : Hid (reg16 s (Z.take (k + 1)) = it16 8 (R ^^^ X * 256)) := by
        unfold Hid; rw [reg16_step _ Z k (by omega), ← HR.out, hX]; rfl
      rw [hX] at hcell hx
      have hX2 : X < 256 := by omega
      have hxx := xorbyte16 R X hR hX2
      have hlx := xor_lt16 R (X * 256) hR (by omega)
      obtain ⟨Y, hY⟩ : ∃ Y, Y = it16 8 (R ^^^ X * 256) := ⟨_, rfl⟩
      have hst : ∀ W, Calls Try.prog 92 #[.int .u16 ((R ^^^ X * 256 : Nat) : Int)] W fun e w' => e = .returned (.int .u16 (Y : Int)) ∧ w' = W := fun W => by rw [hY]; exact step16_any _ W hlx
      rw [← hY] at HS
      clear hX hc hb hz hY
      go_wp2_with (go_at_call 92; refine (hst _).mono ?_; rintro e w' ⟨rfl, rfl⟩)
      go_round
      case rel => exact ⟨k + 1, by omega, by rw [HS.out], by go_num⟩
      case measure => simp [intOf]; omega
    · obtain rfl : k = len := by omega
      go_wp2
      go_ret
      exact ⟨ret_int (by rw [HR.out, List.take_of_length_le (by omega)]), rfl⟩

theorem c16_any (a : Option Addr) (len cap : Nat) (Z : List Int) (w : World) (hz : Z.length = len) (hl : len ≤ maxLen) (hb : Bytes Z) (hp : RowAt w a len Z) :
    Calls Try.prog 73 #[.slice a len cap] w fun e w' => e = .returned (.int .u16 (reg16 0 Z : Int)) ∧ w' = w := by
  have h := add16_any 0 a len cap Z w (by omega) hz hl hb hp
  go_enter Try.func73, Try.ntmps73
  go_wp2_with (go_at_call 86; refine h.mono ?_; rintro e w' ⟨rfl, rfl⟩)
  go_ret
  exact ⟨rfl, rfl⟩

end Go.Proofs.Ytklboieemljmiaa

namespace Go.Proofs.Ytklboieemljmiaa
open Go.RowKit
set_option linter.unusedVariables false
set_option linter.unusedSimpArgs false

theorem wp_copy_atG {w : World} {o : Oper} {a : Act} {K : Act → World → Prop} {Q : Exit → Act → World → Prop} (d s : Operand)
    (ho : o.op = .call { callee := .builtin .copy, args := #[d, s], argTypes := #[22, 22] })
    (base g off n dLen dCap : Nat) (zs ds : List Int) (sv : Value) (hd : a.eval d = .slice (some ⟨g, off, none⟩) dLen dCap) (hs : a.eval s = sv)
    (hown : w.ownsRow base 5 1 (.slice (some ⟨g, 0, none⟩) n n) n (cels zs)) (hrd : RdAt w sv ds) (hdl : ds.length ≤ dLen) (hfit : off + ds.length ≤ n) (hpos : 0 < ds.length)
    (h : ∀ w', w'.ownsRow base 5 1 (.slice (some ⟨g, 0, none⟩) n n) n (cels (over zs off ds)) → w.grownBy w' (some g) → K (a.put o.dst (goInt ds.length)) w') : o.wp Try.prog a w K Q := by
  obtain ⟨sa, sc, rfl, hsn, hsl, hsr⟩ := hrd
  rcases hsr with h1 | ⟨b, soff, rfl, hc⟩
  · omega
  have hz : zs.length = n := by have := hown.1; simpa using this
  rcases hown.2 with ⟨hx, _⟩ | ⟨g', cap', cur, hx, hbg, hg, hnc, hcm, hcs, htake⟩
  · cases hx
  simp only [Value.slice.injEq, Option.some.injEq, Addr.mk.injEq, and_true, true_and] at hx
  obtain ⟨rfl, rfl⟩ := hx
  have hrun := run_copy_row (P := Try.prog) w 22 22 o.type 5 g off dLen dCap ⟨b, soff, none⟩ ds.length sc cur 5 (cels ds) Try.underlying22 Try.size5 hg
    (by simp only [cels_length]; exact (Nat.min_eq_left hdl).symm) (fun j u hu => by rw [Go.WideShapes.add_plain]; exact hc j u hu) (by simp; omega) (cels_one _)
  unfold Oper.wp
  simp [execOp, ho, resolve, invoke, builtin, hd, hs, hrun, Result.andThen]
  rw [cels_length] at *
  refine h _ ⟨?_, .inr ⟨g, n, _, rfl, hbg, setRow_heap w g cur _ 5 _ hg, Nat.le_refl _, hcm, ?_, ?_⟩⟩ ⟨rfl, rfl, rfl, by simp, fun j _ hk => setRow_other w g j _ (fun e => hk (by rw [e]))⟩
  · simp [over_length zs ds off (by omega), hz]
  · simp; omega
  · simp only [Nat.mul_one] at htake ⊢
    obtain ⟨R, hl⟩ : ∃ R, cur.toList = cels zs ++ R := ⟨cur.toList.drop n, by rw [← htake, List.take_append_drop]⟩
    have e1 : (cels zs ++ R).take off = (cels zs).take off := List.take_append_of_le_length (by simp; omega)
    have e2 : (cels zs ++ R).drop (off + ds.length) = (cels zs).drop (off + ds.length) ++ R := List.drop_append_of_le_length (by simp; omega)
    rw [hl, e1, e2]
    simp only [← List.append_assoc]
    rw [List.take_append_of_le_length (by simp; omega), List.take_of_length_le (by simp; omega)]
    simp [over, cels, List.map_take, List.map_drop]

end Go.Proofs.Ytklboieemljmiaa

namespace Go.Proofs.Ytklboieemljmiaa
open Go.RowKit
set_option linter.unusedVariables false
set_option linter.unusedSimpArgs false

theorem ret_bool {a b : Bool} (h : a = b) : Ending.returned (.bool a) = .returned (.bool b) := by rw [h]
def hasB (k : Int) : Bool := decide (k = 1 ∨ k = 2)
theorem hasRef_any (k : Int) (w : World) (h0 : 0 ≤ k) (h1 : k ≤ 255) :
    Calls Try.prog 74 #[.int .u8 k] w fun e w' => e = .returned (.bool (hasB k)) ∧ w' = w := by
  by_cases h2 : 0 < k
  · by_cases h3 : k < 3
    · go_enter Try.func74, Try.ntmps74
      go_wp2
      go_ret
      exact ⟨ret_bool (by unfold hasB; rw [decide_eq_true (by omega)]), rfl⟩
    · go_enter Try.func74, Try.ntmps74
      go_wp2
      go_ret
      exact ⟨ret_bool (by unfold hasB; rw [decide_eq_false (by omega)]), rfl⟩
  · go_enter Try.func74, Try.ntmps74
    go_wp2
    go_ret
    exact ⟨ret_bool (by unfold hasB; rw [decide_eq_false (by omega)]), rfl⟩

/-- A tuple's cells. -/
def tupV (g a r : Int) : Array Value := #[.int .u16 g, .int .u16 a, .int .u32 r]
def refV (k lba : Int) : Int := if hasB k = true then lba % 4294967296 else 0

theorem box_row (w : World) (d : List Int) (hd : d.length = 16) (t : TypeId) : RowAt (w.alloc (.cells (cels d).toArray t)) (some ⟨w.heap.size, 0, none⟩) 16 d := by
  refine .inr ⟨w.heap.size, 0, rfl, fun j hj => ?_⟩
  rw [Nat.zero_add]
  simp [cels, hj, hd, List.getElem?_map, List.getD_eq_getElem?_getD, List.getElem?_eq_getElem (show j < d.length by omega)]

theorem bytes_of (d : List Int) (h : ∀ x ∈ d, 0 ≤ x ∧ x ≤ 255) : Bytes d := by
  intro j
  rw [List.getD_eq_getElem?_getD]
  by_cases hj : j < d.length
  · rw [List.getElem?_eq_getElem hj]; exact h _ (List.getElem_mem hj)
  · rw [List.getElem?_eq_none (by omega)]; simp

theorem c16_at (w : World) (a : Addr) (n : Nat) (d : List Int) (hd : d.length = 16) (hn : n = 16) (hb : ∀ x ∈ d, 0 ≤ x ∧ x ≤ 255) (h : RowAt w (some a) 16 d) :
    Calls Try.prog 73 #[.slice (some a) n n] w fun e w' => e = .returned (.int .u16 (reg16 0 d : Int)) ∧ w' = w := by
  subst hn
  exact c16_any _ 16 16 d w hd (by unfold maxLen; omega) (bytes_of d hb) h

set_option maxHeartbeats 400000 in
theorem make_any (k lba app : Int) (d : List Int) (w : World) (hd : d.length = 16) (hb : ∀ x ∈ d, 0 ≤ x ∧ x ≤ 255) (h0 : 0 ≤ k) (h1 : k ≤ 255) (l0 : 0 ≤ lba) (l1 : lba ≤ 18446744073709551615) :
    Calls Try.prog 84 #[.int .u8 k, .int .u64 lba, .agg (cels d).toArray, .int .u16 app] w fun e w' => e = .returned (.agg (tupV (reg16 0 d : Int) app (refV k lba))) ∧ Below w.heap.size w w' := by
  have hr : RowAt (w.alloc (.cells (cels d).toArray 71)) (some ⟨w.heap.size, 0, none⟩) 16 d := box_row w d hd 71
  obtain ⟨G, hG⟩ : ∃ G, G = reg16 0 d := ⟨_, rfl⟩
  have kc := fun (W : World) (a : Addr) (h : RowAt W (some a) 16 d) => c16_at W a 16 d hd rfl hb h
  rw [← hG] at kc ⊢
  obtain ⟨D, hD⟩ : ∃ D, D = (cels d).toArray := ⟨_, rfl⟩
  rw [← hD] at hr ⊢
  have hv : Kpt (refV k lba = if hasB k = true then lba % 4294967296 else 0) := ⟨rfl⟩
  rw [hv.out]
  have kh := fun (W : World) => hasRef_any k W h0 h1
  cases hk : hasB k with
  | true =>
    rw [hk] at kh
    rw [if_pos rfl]
    clear hv hk hD hG
    go_enter Try.func84, Try.ntmps84
    go_wp2_with (first | (go_at_call 73; refine (kc _ _ ?_).mono ?_; rotate_left; rintro e w' ⟨rfl, rfl⟩) | (go_at_call 74; refine (kh _).mono ?_; rintro e w' ⟨rfl, rfl⟩))
    · refine bodyPost_ret (v := .agg (tupV (G : Int) app (lba % 4294967296))) (by simp [results, Try.results84, go_sem, tupV]) rfl ⟨rfl, ?_⟩
      trace_state
      repeat (first | exact Below.refl _ _ | (refine Below.alloc ?_ (by first | exact Nat.le_refl _ | (simp; done) | (simp; omega)) _) | (refine Below.setCell ?_ (by first | exact Nat.le_refl _ | (simp; done) | (simp; omega) | omega) _))
    · exact hr.below ((Below.refl _ _).alloc (Nat.le_refl _) _)
  | false =>
    rw [hk] at kh
    rw [if_neg (by simp)]
    clear hv hk hD hG
    go_enter Try.func84, Try.ntmps84
    go_wp2_with (first | (go_at_call 73; refine (kc _ _ ?_).mono ?_; rotate_left; rintro e w' ⟨rfl, rfl⟩) | (go_at_call 74; refine (kh _).mono ?_; rintro e w' ⟨rfl, rfl⟩))
    · skip
      refine bodyPost_ret (v := .agg (tupV (G : Int) app 0)) (by simp [results, Try.results84, go_sem, tupV]) rfl ⟨rfl, ?_⟩
      trace_state
      repeat (first | exact Below.refl _ _ | (refine Below.alloc ?_ (by first | exact Nat.le_refl _ | (simp; done) | (simp; omega)) _) | (refine Below.setCell ?_ (by first | exact Nat.le_refl _ | (simp; done) | (simp; omega) | omega) _))
    · exact hr.below ((Below.refl _ _).alloc (Nat.le_refl _) _)
end Go.Proofs.Ytklboieemljmiaa

namespace Go.Proofs.Ytklboieemljmiaa
open Go.RowKit
set_option linter.unusedVariables false
set_option linter.unusedSimpArgs false

theorem wpAnyC_mono {P : Program} {md : Region.Mode} {ops : Array Oper} {C C' : World → Prop} {Q : Exit → Act → World → Prop} (hC : ∀ w, C' w → C w) : ∀ (fuel : Nat) (listed : Array Bool) (a : Act) (w : World), wpAnyC P md ops C' Q fuel listed a w → wpAnyC P md ops C Q fuel listed a w
  | 0, _, _, _, h => ⟨hC _ h.1, h.2⟩
  | fuel + 1, _, _, _, h => ⟨hC _ h.1, h.2.1, fun i hi => wpOp_mono (fun a' w' h' => wpAnyC_mono hC fuel _ a' w' h') (h.2.2 i hi)⟩
theorem wpAnyC_skip {P : Program} {md : Region.Mode} {ops : Array Oper} {C : World → Prop} {Q : Exit → Act → World → Prop} (i : Nat) {oi : Oper} {fuel : Nat} {listed : Array Bool} {a : Act} {w : World} (hi : ops[i]? = some oi)
    (hs : Region.noSelect ops = true) (hf : Region.free md ops listed i = true) (hr : (Region.ready md ops listed).contains i = true)
    (hQ : ∀ c a w, Q (.panic c) (a.put oi.dst undef) w → Q (.panic c) a w) (hw : Region.wanted oi (yielded ops a.tmps) = false)
    (h : wpAnyC P md ops C Q fuel (listed.setIfInBounds i true) (a.put oi.dst undef) w) : wpAnyC P md ops C Q (fuel + 1) listed a w :=
  wpAnyC_first hi (Region.noSelect_spec hs) hQ fuel listed a w (Region.free_spec hi hf) (by simpa using hr) (.inr ⟨hw, rfl⟩) h
theorem wanted_no (b : Bool) {o oj : Oper} {ops : Array Oper} {tmps : Array Value} {j d : Nat} (hg : o.guard = some (j, b)) (hj : ops[j]? = some oj) (hd : oj.dst = some d) (ht : tmps[d]? = some (.bool !b)) : Region.wanted o (yielded ops tmps) = false := by
  unfold Region.wanted yielded
  rw [hg]
  cases b <;> simp [hj, hd, ht]
theorem wanted_undef (b : Bool) {o oj : Oper} {ops : Array Oper} {tmps : Array Value} {j d : Nat} (hg : o.guard = some (j, b)) (hj : ops[j]? = some oj) (hd : oj.dst = some d) (ht : tmps[d]? = some undef) : Region.wanted o (yielded ops tmps) = false := by
  unfold Region.wanted yielded
  rw [hg]
  simp [hj, hd, ht, undef]
/-- A whole struct or array is loaded, as an operation of a region. -/
theorem exec_load_bxG {W : World} {o : Oper} {a : Act} (ty : TypeId) (x : Operand) (ho : o.op = .load ty x) (b : Nat) (cs : Array Value) (hx : a.eval x = .pointer (some ⟨b, 0, none⟩)) (hB : Bx W b cs) (d : TypeDesc)
    (hu : Try.prog.underlying ty = some d) (hd : d.isRow = true) (hi : (Try.prog.info? ty).map (·.size) = some cs.size) :
    (execOp a.eval o).run Try.prog W = .ok (.value (.agg cs)) W := by
  have := run_loadAt_mid (P := Try.prog) W b 0 ty cs.toList d hB.range hu hd (by rw [Array.length_toList]; exact hi)
  unfold execOp
  simp only [ho, hx]
  simp [this]
theorem vals_data (b : Bk) (h : b.ok) (j : Nat) (hj : j < 16) : b.vals[j]? = some (.int .u8 (b.d.getD j 0)) := by
  simp only [Bk.vals, Bk.cs, List.getElem?_toArray]
  rw [List.getElem?_append_left (by simp [h.len]; exact hj)]
  unfold cels
  rw [List.getElem?_map, List.getElem?_eq_getElem (by rw [h.len]; exact hj), List.getD_eq_getElem?_getD, List.getElem?_eq_getElem (by rw [h.len]; exact hj)]
  rfl

/-- Not looked at. -/
def passB (k a r : Int) : Bool := decide (a = 65535 ∧ (k ≠ 3 ∨ r = 4294967295))
theorem passed_any (k g a r : Int) (w : World) :
    Calls Try.prog 72 #[.int .u8 k, .agg #[.int .u16 g, .int .u16 a, .int .u32 r]] w fun e w' => e = .returned (.bool (passB k a r)) ∧ Below w.heap.size w w' := by
  by_cases h1 : a = 65535
  · subst h1
    by_cases h2 : k = 3
    · subst h2
      by_cases h3 : r = 4294967295
      · subst h3
        go_enter Try.func72, Try.ntmps72
        go_wp2
        go_ret
        exact ⟨rfl, (Below.refl _ _).alloc (Nat.le_refl _) _⟩
      · have e : passB 3 65535 r = false := by unfold passB; rw [decide_eq_false (by omega)]
        have e1 : (r == 4294967295) = false := by simpa using h3
        rw [e]; clear e h3
        go_enter Try.func72, Try.ntmps72
        go_wp2
        go_ret
        exact ⟨rfl, (Below.refl _ _).alloc (Nat.le_refl _) _⟩
    · have e : passB k 65535 r = true := by unfold passB; rw [decide_eq_true (by omega)]
      have e1 : (k != 3) = true := by simpa using h2
      rw [e]; clear e h2
      go_enter Try.func72, Try.ntmps72
      go_wp2
      go_ret
      exact ⟨rfl, (Below.refl _ _).alloc (Nat.le_refl _) _⟩
  · have e : passB k a r = false := by unfold passB; rw [decide_eq_false (by omega)]
    have e1 : (a == 65535) = false := by simpa using h1
    rw [e]; clear e h1
    go_enter Try.func72, Try.ntmps72
    go_wp2
    go_ret
    exact ⟨rfl, (Below.refl _ _).alloc (Nat.le_refl _) _⟩
end Go.Proofs.Ytklboieemljmiaa

namespace Go.Proofs.Ytklboieemljmiaa
open Go.RowKit
set_option linter.unusedVariables false
set_option linter.unusedSimpArgs false

/-- What Check tells. -/
def checkC (k p lba : Int) (b : Bk) : Int :=
  if k < 1 ∨ 3 < k ∨ p = 3 ∨ 4 < p then 0 else if passB k b.a b.r = true then 0 else if p ≠ 2 ∧ b.g ≠ (reg16 0 b.d : Int) then 4097
  else if p ≠ 4 ∧ hasB k = true ∧ b.r ≠ lba % 4294967296 then 4099 else 0

theorem bx_data {W : World} {B : Nat} (b : Bk) (h : b.ok) (hx : Bx W B b.vals) : RowAt W (some ⟨B, 0, none⟩) 16 b.d := by
  refine .inr ⟨B, 0, rfl, fun j hj => ?_⟩
  rw [Nat.zero_add, hx.cells j (by rw [Bk.size h]; omega)]
  exact vals_data b h j hj
theorem bx_tupG {W : World} {B : Nat} {V : Array Value} {g a r : Int} (hx : Bx W B V) (hs : V.size = 19) (t0 : V[16]? = some (.int .u16 g)) (t1 : V[17]? = some (.int .u16 a)) (t2 : V[18]? = some (.int .u32 r)) : W.rangeAt B 16 [.int .u16 g, .int .u16 a, .int .u32 r] := by
  intro j v hv
  match j, hv with
  | 0, hv => rw [hx.cells 16 (by omega), t0]; exact hv
  | 1, hv => rw [hx.cells 17 (by omega), t1]; exact hv
  | 2, hv => rw [hx.cells 18 (by omega), t2]; exact hv
  | n + 3, hv => simp at hv

set_option maxRecDepth 100000 in
set_option maxHeartbeats 1000000 in
theorem check_1 (k p lba : Int) (b : Bk) (w : World) (hb : b.ok) (h0 : 0 ≤ k) (h1 : k ≤ 255) (p0 : 0 ≤ p) (p1 : p ≤ 255) (l0 : 0 ≤ lba) (l1 : lba ≤ 18446744073709551615)
    (hk0 : (k == 0) = true) :
    Calls Try.prog 55 #[.int .u8 k, .int .u8 p, .int .u64 lba, .agg b.vals] w fun e w' => e = .returned (.int .u16 0) ∧ Below w.heap.size w w' := by
  obtain ⟨t0, t1, t2⟩ := cs_tup b hb
  have hdat := Kpt.mk (fun W B (hx : Bx W B b.vals) => c16_at W ⟨B, 0, none⟩ 16 b.d hb.len rfl hb.byte (bx_data b hb hx))
  obtain ⟨V, hV⟩ : ∃ V, V = b.vals := ⟨_, rfl⟩
  rw [← hV] at hdat t0 t1 t2 ⊢
  have hVs : V.size = 19 := by rw [hV]; exact Bk.size hb
  have hbx := Kpt.mk (bx_new w V 76)
  have hB0 := Kpt.mk ((Below.refl w.heap.size w).alloc (Nat.le_refl _) (.cells V 76))
  have KP := Kpt.mk (fun W => passed_any k b.g b.a b.r W)
  have KH := Kpt.mk (fun W => hasRef_any k W h0 h1)
  have hR3 := Kpt.mk (bx_tupG hbx.out hVs t0 t1 t2)
  obtain ⟨d, g, a, r⟩ := b
  simp only at *
  generalize (reg16 0 d : Int) = G at *
  clear hV hb h0 h1 p0 p1
  go_enter Try.func55, Try.ntmps55
  go_wp2
  go_ret
  exact ⟨rfl, hB0.out⟩

set_option maxRecDepth 100000 in
set_option maxHeartbeats 1000000 in
theorem check_2 (k p lba : Int) (b : Bk) (w : World) (hb : b.ok) (h0 : 0 ≤ k) (h1 : k ≤ 255) (p0 : 0 ≤ p) (p1 : p ≤ 255) (l0 : 0 ≤ lba) (l1 : lba ≤ 18446744073709551615)
    (hk0 : (k == 0) = false) (hk3 : 3 < k) :
    Calls Try.prog 55 #[.int .u8 k, .int .u8 p, .int .u64 lba, .agg b.vals] w fun e w' => e = .returned (.int .u16 0) ∧ Below w.heap.size w w' := by
  obtain ⟨t0, t1, t2⟩ := cs_tup b hb
  have hdat := Kpt.mk (fun W B (hx : Bx W B b.vals) => c16_at W ⟨B, 0, none⟩ 16 b.d hb.len rfl hb.byte (bx_data b hb hx))
  obtain ⟨V, hV⟩ : ∃ V, V = b.vals := ⟨_, rfl⟩
  rw [← hV] at hdat t0 t1 t2 ⊢
  have hVs : V.size = 19 := by rw [hV]; exact Bk.size hb
  have hbx := Kpt.mk (bx_new w V 76)
  have hB0 := Kpt.mk ((Below.refl w.heap.size w).alloc (Nat.le_refl _) (.cells V 76))
  have KP := Kpt.mk (fun W => passed_any k b.g b.a b.r W)
  have KH := Kpt.mk (fun W => hasRef_any k W h0 h1)
  have hR3 := Kpt.mk (bx_tupG hbx.out hVs t0 t1 t2)
  obtain ⟨d, g, a, r⟩ := b
  simp only at *
  generalize (reg16 0 d : Int) = G at *
  clear hV hb h0 h1 p0 p1
  go_enter Try.func55, Try.ntmps55
  go_wp2
  go_ret
  exact ⟨rfl, hB0.out⟩

set_option maxRecDepth 100000 in
set_option maxHeartbeats 1000000 in
theorem check_3 (k p lba : Int) (b : Bk) (w : World) (hb : b.ok) (h0 : 0 ≤ k) (h1 : k ≤ 255) (p0 : 0 ≤ p) (p1 : p ≤ 255) (l0 : 0 ≤ lba) (l1 : lba ≤ 18446744073709551615)
    (hk0 : (k == 0) = false) (hk3 : ¬ 3 < k) (hp3 : (p == 3) = true) :
    Calls Try.prog 55 #[.int .u8 k, .int .u8 p, .int .u64 lba, .agg b.vals] w fun e w' => e = .returned (.int .u16 0) ∧ Below w.heap.size w w' := by
  obtain ⟨t0, t1, t2⟩ := cs_tup b hb
  have hdat := Kpt.mk (fun W B (hx : Bx W B b.vals) => c16_at W ⟨B, 0, none⟩ 16 b.d hb.len rfl hb.byte (bx_data b hb hx))
  obtain ⟨V, hV⟩ : ∃ V, V = b.vals := ⟨_, rfl⟩
  rw [← hV] at hdat t0 t1 t2 ⊢
  have hVs : V.size = 19 := by rw [hV]; exact Bk.size hb
  have hbx := Kpt.mk (bx_new w V 76)
  have hB0 := Kpt.mk ((Below.refl w.heap.size w).alloc (Nat.le_refl _) (.cells V 76))
  have KP := Kpt.mk (fun W => passed_any k b.g b.a b.r W)
  have KH := Kpt.mk (fun W => hasRef_any k W h0 h1)
  have hR3 := Kpt.mk (bx_tupG hbx.out hVs t0 t1 t2)
  obtain ⟨d, g, a, r⟩ := b
  simp only at *
  generalize (reg16 0 d : Int) = G at *
  clear hV hb h0 h1 p0 p1
  go_enter Try.func55, Try.ntmps55
  go_wp2
  go_ret
  exact ⟨rfl, hB0.out⟩

set_option maxRecDepth 100000 in
set_option maxHeartbeats 1000000 in
theorem check_4 (k p lba : Int) (b : Bk) (w : World) (hb : b.ok) (h0 : 0 ≤ k) (h1 : k ≤ 255) (p0 : 0 ≤ p) (p1 : p ≤ 255) (l0 : 0 ≤ lba) (l1 : lba ≤ 18446744073709551615)
    (hk0 : (k == 0) = false) (hk3 : ¬ 3 < k) (hp3 : (p == 3) = false) (hp4 : 4 < p) :
    Calls Try.prog 55 #[.int .u8 k, .int .u8 p, .int .u64 lba, .agg b.vals] w fun e w' => e = .returned (.int .u16 0) ∧ Below w.heap.size w w' := by
  obtain ⟨t0, t1, t2⟩ := cs_tup b hb
  have hdat := Kpt.mk (fun W B (hx : Bx W B b.vals) => c16_at W ⟨B, 0, none⟩ 16 b.d hb.len rfl hb.byte (bx_data b hb hx))
  obtain ⟨V, hV⟩ : ∃ V, V = b.vals := ⟨_, rfl⟩
  rw [← hV] at hdat t0 t1 t2 ⊢
  have hVs : V.size = 19 := by rw [hV]; exact Bk.size hb
  have hbx := Kpt.mk (bx_new w V 76)
  have hB0 := Kpt.mk ((Below.refl w.heap.size w).alloc (Nat.le_refl _) (.cells V 76))
  have KP := Kpt.mk (fun W => passed_any k b.g b.a b.r W)
  have KH := Kpt.mk (fun W => hasRef_any k W h0 h1)
  have hR3 := Kpt.mk (bx_tupG hbx.out hVs t0 t1 t2)
  obtain ⟨d, g, a, r⟩ := b
  simp only at *
  generalize (reg16 0 d : Int) = G at *
  clear hV hb h0 h1 p0 p1
  go_enter Try.func55, Try.ntmps55
  go_wp2
  go_ret
  exact ⟨rfl, hB0.out⟩

set_option maxRecDepth 100000 in
set_option maxHeartbeats 1000000 in
theorem check_5 (k p lba : Int) (b : Bk) (w : World) (hb : b.ok) (h0 : 0 ≤ k) (h1 : k ≤ 255) (p0 : 0 ≤ p) (p1 : p ≤ 255) (l0 : 0 ≤ lba) (l1 : lba ≤ 18446744073709551615)
    (hk0 : (k == 0) = false) (hk3 : ¬ 3 < k) (hp3 : (p == 3) = false) (hp4 : ¬ 4 < p) (hp : passB k b.a b.r = true) :
    Calls Try.prog 55 #[.int .u8 k, .int .u8 p, .int .u64 lba, .agg b.vals] w fun e w' => e = .returned (.int .u16 0) ∧ Below w.heap.size w w' := by
  obtain ⟨t0, t1, t2⟩ := cs_tup b hb
  have hdat := Kpt.mk (fun W B (hx : Bx W B b.vals) => c16_at W ⟨B, 0, none⟩ 16 b.d hb.len rfl hb.byte (bx_data b hb hx))
  obtain ⟨V, hV⟩ : ∃ V, V = b.vals := ⟨_, rfl⟩
  rw [← hV] at hdat t0 t1 t2 ⊢
  have hVs : V.size = 19 := by rw [hV]; exact Bk.size hb
  have hbx := Kpt.mk (bx_new w V 76)
  have hB0 := Kpt.mk ((Below.refl w.heap.size w).alloc (Nat.le_refl _) (.cells V 76))
  have KP := Kpt.mk (fun W => passed_any k b.g b.a b.r W)
  have KH := Kpt.mk (fun W => hasRef_any k W h0 h1)
  have hR3 := Kpt.mk (bx_tupG hbx.out hVs t0 t1 t2)
  obtain ⟨d, g, a, r⟩ := b
  simp only at *
  generalize (reg16 0 d : Int) = G at *
  rw [hp] at KP
  clear hV hb h0 h1 p0 p1 hp
  go_enter Try.func55, Try.ntmps55
  go_wp2_with (first | (refine wpList_load_mid rfl 74 (.tmp 23) rfl w.heap.size 16 rfl [.int .u16 g, .int .u16 a, .int .u32 r] _ hR3.out Try.underlying74 rfl infoT ?_) | (go_at_call 72; go_must (refine (KP.out _).mono ?_; rintro e x1 ⟨rfl, hq⟩; have hX1 : Kpt (Bx x1 w.heap.size V) := ⟨hbx.out.below hq (by simp)⟩; have hx1 : Kpt (Below w.heap.size w x1) := ⟨hB0.out.trans (hq.mono (by simp <;> omega))⟩; clear hq)))
  go_ret
  exact ⟨rfl, hx1.out⟩

set_option maxRecDepth 100000 in
set_option maxHeartbeats 1000000 in
theorem check_6 (k p lba : Int) (b : Bk) (w : World) (hb : b.ok) (h0 : 0 ≤ k) (h1 : k ≤ 255) (p0 : 0 ≤ p) (p1 : p ≤ 255) (l0 : 0 ≤ lba) (l1 : lba ≤ 18446744073709551615)
    (hk0 : (k == 0) = false) (hk3 : ¬ 3 < k) (hp3 : (p == 3) = false) (hp4 : ¬ 4 < p) (hp : passB k b.a b.r = false) (hp2 : (p != 2) = true) (hg : (b.g != (reg16 0 b.d : Int)) = true) :
    Calls Try.prog 55 #[.int .u8 k, .int .u8 p, .int .u64 lba, .agg b.vals] w fun e w' => e = .returned (.int .u16 4097) ∧ Below w.heap.size w w' := by
  obtain ⟨t0, t1, t2⟩ := cs_tup b hb
  have hdat := Kpt.mk (fun W B (hx : Bx W B b.vals) => c16_at W ⟨B, 0, none⟩ 16 b.d hb.len rfl hb.byte (bx_data b hb hx))
  obtain ⟨V, hV⟩ : ∃ V, V = b.vals := ⟨_, rfl⟩
  rw [← hV] at hdat t0 t1 t2 ⊢
  have hVs : V.size = 19 := by rw [hV]; exact Bk.size hb
  have hbx := Kpt.mk (bx_new w V 76)
  have hB0 := Kpt.mk ((Below.refl w.heap.size w).alloc (Nat.le_refl _) (.cells V 76))
  have KP := Kpt.mk (fun W => passed_any k b.g b.a b.r W)
  have KH := Kpt.mk (fun W => hasRef_any k W h0 h1)
  have hR3 := Kpt.mk (bx_tupG hbx.out hVs t0 t1 t2)
  obtain ⟨d, g, a, r⟩ := b
  simp only at *
  generalize (reg16 0 d : Int) = G at *
  rw [hp] at KP
  clear hV hb h0 h1 p0 p1 hp
  go_enter Try.func55, Try.ntmps55
  go_wp2_with (first | (refine wpList_load_mid rfl 74 (.tmp 23) rfl w.heap.size 16 rfl [.int .u16 g, .int .u16 a, .int .u32 r] _ hR3.out Try.underlying74 rfl infoT ?_) | (go_at_call 72; go_must (refine (KP.out _).mono ?_; rintro e x1 ⟨rfl, hq⟩; have hX1 : Kpt (Bx x1 w.heap.size V) := ⟨hbx.out.below hq (by simp)⟩; have hx1 : Kpt (Below w.heap.size w x1) := ⟨hB0.out.trans (hq.mono (by simp <;> omega))⟩; clear hq)))
  refine wp_region_any (by kernel_rfl) ?_
  refine wpAny_of_C (C := fun W => Bx W w.heap.size V) _ _ _ _ ?_
  refine wpAnyC_take 0 (.int .u8 p) rfl (by kernel_rfl) (by kernel_rfl) (by kernel_rfl) (fun _ _ _ h => h) (wanted_free rfl _) (fun W hW => by go_simp) ?_
  try simp only [Act.put, List.getElem_toArray, List.getElem_cons_succ, List.getElem_cons_zero, List.setIfInBounds_toArray, List.set_cons_succ, List.set_cons_zero]
  refine wpAnyC_take 1 (.bool true) rfl (by kernel_rfl) (by kernel_rfl) (by kernel_rfl) (fun _ _ _ h => h) (wanted_free rfl _) (fun W hW => by go_simp) ?_
  try simp only [Act.put, List.getElem_toArray, List.getElem_cons_succ, List.getElem_cons_zero, List.setIfInBounds_toArray, List.set_cons_succ, List.set_cons_zero]
  refine wpAnyC_take 2 (.bool true) rfl (by kernel_rfl) (by kernel_rfl) (by kernel_rfl) (fun _ _ _ h => h) (wanted_free rfl _) (fun W hW => by go_simp) ?_
  try simp only [Act.put, List.getElem_toArray, List.getElem_cons_succ, List.getElem_cons_zero, List.setIfInBounds_toArray, List.set_cons_succ, List.set_cons_zero]
  refine wpAnyC_take 3 (.pointer (some ⟨w.heap.size, 16, none⟩)) rfl (by kernel_rfl) (by kernel_rfl) (by kernel_rfl) (fun _ _ _ h => h) (wanted_at true rfl rfl rfl rfl) (fun W hW => by go_simp) ?_
  try simp only [Act.put, List.getElem_toArray, List.getElem_cons_succ, List.getElem_cons_zero, List.setIfInBounds_toArray, List.set_cons_succ, List.set_cons_zero]
  refine wpAnyC_take 4 (.pointer (some ⟨w.heap.size, 16, none⟩)) rfl (by kernel_rfl) (by kernel_rfl) (by kernel_rfl) (fun _ _ _ h => h) (wanted_at true rfl rfl rfl rfl) (fun W hW => by go_simp) ?_
  try simp only [Act.put, List.getElem_toArray, List.getElem_cons_succ, List.getElem_cons_zero, List.setIfInBounds_toArray, List.set_cons_succ, List.set_cons_zero]
  refine wpAnyC_take 5 (.int .u16 g) rfl (by kernel_rfl) (by kernel_rfl) (by kernel_rfl) (fun _ _ _ h => h) (wanted_at true rfl rfl rfl rfl) (fun W hW => by (have h16 : W.cell? ⟨w.heap.size, 16, none⟩ = some (.int .u16 g) := (hW.cells 16 (by omega)).trans t0); go_simp) ?_
  try simp only [Act.put, List.getElem_toArray, List.getElem_cons_succ, List.getElem_cons_zero, List.setIfInBounds_toArray, List.set_cons_succ, List.set_cons_zero]
  refine wpAnyC_take 6 (.pointer (some ⟨w.heap.size, 0, none⟩)) rfl (by kernel_rfl) (by kernel_rfl) (by kernel_rfl) (fun _ _ _ h => h) (wanted_at true rfl rfl rfl rfl) (fun W hW => by go_simp) ?_
  try simp only [Act.put, List.getElem_toArray, List.getElem_cons_succ, List.getElem_cons_zero, List.setIfInBounds_toArray, List.set_cons_succ, List.set_cons_zero]
  refine wpAnyC_take 7 (.slice (some ⟨w.heap.size, 0, none⟩) 16 16) rfl (by kernel_rfl) (by kernel_rfl) (by kernel_rfl) (fun _ _ _ h => h) (wanted_at true rfl rfl rfl rfl) (fun W hW => by (have hc0 := hW.cells 0 (by omega)); go_simp) ?_
  try simp only [Act.put, List.getElem_toArray, List.getElem_cons_succ, List.getElem_cons_zero, List.setIfInBounds_toArray, List.set_cons_succ, List.set_cons_zero]
  refine wpAnyC_one 8 (hX1.out.drew) rfl (by kernel_rfl) (wanted_at true rfl rfl rfl rfl) (fun KA hKA => ?_)
  go_simp
  refine (hdat.out _ _ hX1.out.drew).mono ?_
  rintro e x2 ⟨rfl, rfl⟩
  refine hKA _ _ ?_
  clear hKA KA
  try simp only [Act.put, List.getElem_toArray, List.getElem_cons_succ, List.getElem_cons_zero, List.setIfInBounds_toArray, List.set_cons_succ, List.set_cons_zero]
  refine wpAnyC_take 9 (.bool true) rfl (by kernel_rfl) (by kernel_rfl) (by kernel_rfl) (fun _ _ _ h => h) (wanted_at true rfl rfl rfl rfl) (fun W hW => by go_simp) ?_
  try simp only [Act.put, List.getElem_toArray, List.getElem_cons_succ, List.getElem_cons_zero, List.setIfInBounds_toArray, List.set_cons_succ, List.set_cons_zero]
  refine wpAnyC_take 10 (.bool true) rfl (by kernel_rfl) (by kernel_rfl) (by kernel_rfl) (fun _ _ _ h => h) (wanted_free rfl _) (fun W hW => by go_simp) ?_
  try simp only [Act.put, List.getElem_toArray, List.getElem_cons_succ, List.getElem_cons_zero, List.setIfInBounds_toArray, List.set_cons_succ, List.set_cons_zero]
  refine wpAnyC_take 11 (.bool true) rfl (by kernel_rfl) (by kernel_rfl) (by kernel_rfl) (fun _ _ _ h => h) (wanted_free rfl _) (fun W hW => by go_simp) ?_
  try simp only [Act.put, List.getElem_toArray, List.getElem_cons_succ, List.getElem_cons_zero, List.setIfInBounds_toArray, List.set_cons_succ, List.set_cons_zero]
  refine wpAnyC_done (hX1.out.drew) (by kernel_rfl) ?_
  have hY : Kpt (Below w.heap.size w x1.drew) := ⟨below_drewN hx1.out 1⟩
  have c18 : x1.cell? ⟨w.heap.size, 18, none⟩ = some (.int .u32 r) := (hX1.out.cells 18 (by omega)).trans t2
  go_wp2_with (go_at_call 74; go_must (refine (KH.out _).mono ?_; rintro e x3 ⟨rfl, rfl⟩))
  go_ret
  exact ⟨rfl, hY.out⟩

set_option maxRecDepth 100000 in
set_option maxHeartbeats 1000000 in
theorem check_7 (k p lba : Int) (b : Bk) (w : World) (hb : b.ok) (h0 : 0 ≤ k) (h1 : k ≤ 255) (p0 : 0 ≤ p) (p1 : p ≤ 255) (l0 : 0 ≤ lba) (l1 : lba ≤ 18446744073709551615)
    (hk0 : (k == 0) = false) (hk3 : ¬ 3 < k) (hp3 : (p == 3) = false) (hp4 : ¬ 4 < p) (hp : passB k b.a b.r = false) (hp2 : (p != 2) = true) (hg : (b.g != (reg16 0 b.d : Int)) = false) (hq4 : (p != 4) = false) :
    Calls Try.prog 55 #[.int .u8 k, .int .u8 p, .int .u64 lba, .agg b.vals] w fun e w' => e = .returned (.int .u16 0) ∧ Below w.heap.size w w' := by
  obtain ⟨t0, t1, t2⟩ := cs_tup b hb
  have hdat := Kpt.mk (fun W B (hx : Bx W B b.vals) => c16_at W ⟨B, 0, none⟩ 16 b.d hb.len rfl hb.byte (bx_data b hb hx))
  obtain ⟨V, hV⟩ : ∃ V, V = b.vals := ⟨_, rfl⟩
  rw [← hV] at hdat t0 t1 t2 ⊢
  have hVs : V.size = 19 := by rw [hV]; exact Bk.size hb
  have hbx := Kpt.mk (bx_new w V 76)
  have hB0 := Kpt.mk ((Below.refl w.heap.size w).alloc (Nat.le_refl _) (.cells V 76))
  have KP := Kpt.mk (fun W => passed_any k b.g b.a b.r W)
  have KH := Kpt.mk (fun W => hasRef_any k W h0 h1)
  have hR3 := Kpt.mk (bx_tupG hbx.out hVs t0 t1 t2)
  obtain ⟨d, g, a, r⟩ := b
  simp only at *
  generalize (reg16 0 d : Int) = G at *
  rw [hp] at KP
  clear hV hb h0 h1 p0 p1 hp
  go_enter Try.func55, Try.ntmps55
  go_wp2_with (first | (refine wpList_load_mid rfl 74 (.tmp 23) rfl w.heap.size 16 rfl [.int .u16 g, .int .u16 a, .int .u32 r] _ hR3.out Try.underlying74 rfl infoT ?_) | (go_at_call 72; go_must (refine (KP.out _).mono ?_; rintro e x1 ⟨rfl, hq⟩; have hX1 : Kpt (Bx x1 w.heap.size V) := ⟨hbx.out.below hq (by simp)⟩; have hx1 : Kpt (Below w.heap.size w x1) := ⟨hB0.out.trans (hq.mono (by simp <;> omega))⟩; clear hq)))
  refine wp_region_any (by kernel_rfl) ?_
  refine wpAny_of_C (C := fun W => Bx W w.heap.size V) _ _ _ _ ?_
  refine wpAnyC_take 0 (.int .u8 p) rfl (by kernel_rfl) (by kernel_rfl) (by kernel_rfl) (fun _ _ _ h => h) (wanted_free rfl _) (fun W hW => by go_simp) ?_
  try simp only [Act.put, List.getElem_toArray, List.getElem_cons_succ, List.getElem_cons_zero, List.setIfInBounds_toArray, List.set_cons_succ, List.set_cons_zero]
  refine wpAnyC_take 1 (.bool true) rfl (by kernel_rfl) (by kernel_rfl) (by kernel_rfl) (fun _ _ _ h => h) (wanted_free rfl _) (fun W hW => by go_simp) ?_
  try simp only [Act.put, List.getElem_toArray, List.getElem_cons_succ, List.getElem_cons_zero, List.setIfInBounds_toArray, List.set_cons_succ, List.set_cons_zero]
  refine wpAnyC_take 2 (.bool true) rfl (by kernel_rfl) (by kernel_rfl) (by kernel_rfl) (fun _ _ _ h => h) (wanted_free rfl _) (fun W hW => by go_simp) ?_
  try simp only [Act.put, List.getElem_toArray, List.getElem_cons_succ, List.getElem_cons_zero, List.setIfInBounds_toArray, List.set_cons_succ, List.set_cons_zero]
  refine wpAnyC_take 3 (.pointer (some ⟨w.heap.size, 16, none⟩)) rfl (by kernel_rfl) (by kernel_rfl) (by kernel_rfl) (fun _ _ _ h => h) (wanted_at true rfl rfl rfl rfl) (fun W hW => by go_simp) ?_
  try simp only [Act.put, List.getElem_toArray, List.getElem_cons_succ, List.getElem_cons_zero, List.setIfInBounds_toArray, List.set_cons_succ, List.set_cons_zero]
  refine wpAnyC_take 4 (.pointer (some ⟨w.heap.size, 16, none⟩)) rfl (by kernel_rfl) (by kernel_rfl) (by kernel_rfl) (fun _ _ _ h => h) (wanted_at true rfl rfl rfl rfl) (fun W hW => by go_simp) ?_
  try simp only [Act.put, List.getElem_toArray, List.getElem_cons_succ, List.getElem_cons_zero, List.setIfInBounds_toArray, List.set_cons_succ, List.set_cons_zero]
  refine wpAnyC_take 5 (.int .u16 g) rfl (by kernel_rfl) (by kernel_rfl) (by kernel_rfl) (fun _ _ _ h => h) (wanted_at true rfl rfl rfl rfl) (fun W hW => by (have h16 : W.cell? ⟨w.heap.size, 16, none⟩ = some (.int .u16 g) := (hW.cells 16 (by omega)).trans t0); go_simp) ?_
  try simp only [Act.put, List.getElem_toArray, List.getElem_cons_succ, List.getElem_cons_zero, List.setIfInBounds_toArray, List.set_cons_succ, List.set_cons_zero]
  refine wpAnyC_take 6 (.pointer (some ⟨w.heap.size, 0, none⟩)) rfl (by kernel_rfl) (by kernel_rfl) (by kernel_rfl) (fun _ _ _ h => h) (wanted_at true rfl rfl rfl rfl) (fun W hW => by go_simp) ?_
  try simp only [Act.put, List.getElem_toArray, List.getElem_cons_succ, List.getElem_cons_zero, List.setIfInBounds_toArray, List.set_cons_succ, List.set_cons_zero]
  refine wpAnyC_take 7 (.slice (some ⟨w.heap.size, 0, none⟩) 16 16) rfl (by kernel_rfl) (by kernel_rfl) (by kernel_rfl) (fun _ _ _ h => h) (wanted_at true rfl rfl rfl rfl) (fun W hW => by (have hc0 := hW.cells 0 (by omega)); go_simp) ?_
  try simp only [Act.put, List.getElem_toArray, List.getElem_cons_succ, List.getElem_cons_zero, List.setIfInBounds_toArray, List.set_cons_succ, List.set_cons_zero]
  refine wpAnyC_one 8 (hX1.out.drew) rfl (by kernel_rfl) (wanted_at true rfl rfl rfl rfl) (fun KA hKA => ?_)
  go_simp
  refine (hdat.out _ _ hX1.out.drew).mono ?_
  rintro e x2 ⟨rfl, rfl⟩
  refine hKA _ _ ?_
  clear hKA KA
  try simp only [Act.put, List.getElem_toArray, List.getElem_cons_succ, List.getElem_cons_zero, List.setIfInBounds_toArray, List.set_cons_succ, List.set_cons_zero]
  refine wpAnyC_take 9 (.bool false) rfl (by kernel_rfl) (by kernel_rfl) (by kernel_rfl) (fun _ _ _ h => h) (wanted_at true rfl rfl rfl rfl) (fun W hW => by go_simp) ?_
  try simp only [Act.put, List.getElem_toArray, List.getElem_cons_succ, List.getElem_cons_zero, List.setIfInBounds_toArray, List.set_cons_succ, List.set_cons_zero]
  refine wpAnyC_take 10 (.bool false) rfl (by kernel_rfl) (by kernel_rfl) (by kernel_rfl) (fun _ _ _ h => h) (wanted_free rfl _) (fun W hW => by go_simp) ?_
  try simp only [Act.put, List.getElem_toArray, List.getElem_cons_succ, List.getElem_cons_zero, List.setIfInBounds_toArray, List.set_cons_succ, List.set_cons_zero]
  refine wpAnyC_take 11 (.bool false) rfl (by kernel_rfl) (by kernel_rfl) (by kernel_rfl) (fun _ _ _ h => h) (wanted_free rfl _) (fun W hW => by go_simp) ?_
  try simp only [Act.put, List.getElem_toArray, List.getElem_cons_succ, List.getElem_cons_zero, List.setIfInBounds_toArray, List.set_cons_succ, List.set_cons_zero]
  refine wpAnyC_done (hX1.out.drew) (by kernel_rfl) ?_
  have hY : Kpt (Below w.heap.size w x1.drew) := ⟨below_drewN hx1.out 1⟩
  have c18 : x1.cell? ⟨w.heap.size, 18, none⟩ = some (.int .u32 r) := (hX1.out.cells 18 (by omega)).trans t2
  go_wp2_with (go_at_call 74; go_must (refine (KH.out _).mono ?_; rintro e x3 ⟨rfl, rfl⟩))
  go_ret
  exact ⟨rfl, hY.out⟩

set_option maxRecDepth 100000 in
set_option maxHeartbeats 1000000 in
theorem check_8 (k p lba : Int) (b : Bk) (w : World) (hb : b.ok) (h0 : 0 ≤ k) (h1 : k ≤ 255) (p0 : 0 ≤ p) (p1 : p ≤ 255) (l0 : 0 ≤ lba) (l1 : lba ≤ 18446744073709551615)
    (hk0 : (k == 0) = false) (hk3 : ¬ 3 < k) (hp3 : (p == 3) = false) (hp4 : ¬ 4 < p) (hp : passB k b.a b.r = false) (hp2 : (p != 2) = true) (hg : (b.g != (reg16 0 b.d : Int)) = false) (hq4 : (p != 4) = true) (hh : hasB k = true) (hr : (b.r != lba % 4294967296) = true) :
    Calls Try.prog 55 #[.int .u8 k, .int .u8 p, .int .u64 lba, .agg b.vals] w fun e w' => e = .returned (.int .u16 4099) ∧ Below w.heap.size w w' := by
  obtain ⟨t0, t1, t2⟩ := cs_tup b hb
  have hdat := Kpt.mk (fun W B (hx : Bx W B b.vals) => c16_at W ⟨B, 0, none⟩ 16 b.d hb.len rfl hb.byte (bx_data b hb hx))
  obtain ⟨V, hV⟩ : ∃ V, V = b.vals := ⟨_, rfl⟩
  rw [← hV] at hdat t0 t1 t2 ⊢
  have hVs : V.size = 19 := by rw [hV]; exact Bk.size hb
  have hbx := Kpt.mk (bx_new w V 76)
  have hB0 := Kpt.mk ((Below.refl w.heap.size w).alloc (Nat.le_refl _) (.cells V 76))
  have KP := Kpt.mk (fun W => passed_any k b.g b.a b.r W)
  have KH := Kpt.mk (fun W => hasRef_any k W h0 h1)
  have hR3 := Kpt.mk (bx_tupG hbx.out hVs t0 t1 t2)
  obtain ⟨d, g, a, r⟩ := b
  simp only at *
  generalize (reg16 0 d : Int) = G at *
  rw [hp] at KP
  rw [hh] at KH
  clear hV hb h0 h1 p0 p1 hp hh
  go_enter Try.func55, Try.ntmps55
  go_wp2_with (first | (refine wpList_load_mid rfl 74 (.tmp 23) rfl w.heap.size 16 rfl [.int .u16 g, .int .u16 a, .int .u32 r] _ hR3.out Try.underlying74 rfl infoT ?_) | (go_at_call 72; go_must (refine (KP.out _).mono ?_; rintro e x1 ⟨rfl, hq⟩; have hX1 : Kpt (Bx x1 w.heap.size V) := ⟨hbx.out.below hq (by simp)⟩; have hx1 : Kpt (Below w.heap.size w x1) := ⟨hB0.out.trans (hq.mono (by simp <;> omega))⟩; clear hq)))
  refine wp_region_any (by kernel_rfl) ?_
  refine wpAny_of_C (C := fun W => Bx W w.heap.size V) _ _ _ _ ?_
  refine wpAnyC_take 0 (.int .u8 p) rfl (by kernel_rfl) (by kernel_rfl) (by kernel_rfl) (fun _ _ _ h => h) (wanted_free rfl _) (fun W hW => by go_simp) ?_
  try simp only [Act.put, List.getElem_toArray, List.getElem_cons_succ, List.getElem_cons_zero, List.setIfInBounds_toArray, List.set_cons_succ, List.set_cons_zero]
  refine wpAnyC_take 1 (.bool true) rfl (by kernel_rfl) (by kernel_rfl) (by kernel_rfl) (fun _ _ _ h => h) (wanted_free rfl _) (fun W hW => by go_simp) ?_
  try simp only [Act.put, List.getElem_toArray, List.getElem_cons_succ, List.getElem_cons_zero, List.setIfInBounds_toArray, List.set_cons_succ, List.set_cons_zero]
  refine wpAnyC_take 2 (.bool true) rfl (by kernel_rfl) (by kernel_rfl) (by kernel_rfl) (fun _ _ _ h => h) (wanted_free rfl _) (fun W hW => by go_simp) ?_
  try simp only [Act.put, List.getElem_toArray, List.getElem_cons_succ, List.getElem_cons_zero, List.setIfInBounds_toArray, List.set_cons_succ, List.set_cons_zero]
  refine wpAnyC_take 3 (.pointer (some ⟨w.heap.size, 16, none⟩)) rfl (by kernel_rfl) (by kernel_rfl) (by kernel_rfl) (fun _ _ _ h => h) (wanted_at true rfl rfl rfl rfl) (fun W hW => by go_simp) ?_
  try simp only [Act.put, List.getElem_toArray, List.getElem_cons_succ, List.getElem_cons_zero, List.setIfInBounds_toArray, List.set_cons_succ, List.set_cons_zero]
  refine wpAnyC_take 4 (.pointer (some ⟨w.heap.size, 16, none⟩)) rfl (by kernel_rfl) (by kernel_rfl) (by kernel_rfl) (fun _ _ _ h => h) (wanted_at true rfl rfl rfl rfl) (fun W hW => by go_simp) ?_
  try simp only [Act.put, List.getElem_toArray, List.getElem_cons_succ, List.getElem_cons_zero, List.setIfInBounds_toArray, List.set_cons_succ, List.set_cons_zero]
  refine wpAnyC_take 5 (.int .u16 g) rfl (by kernel_rfl) (by kernel_rfl) (by kernel_rfl) (fun _ _ _ h => h) (wanted_at true rfl rfl rfl rfl) (fun W hW => by (have h16 : W.cell? ⟨w.heap.size, 16, none⟩ = some (.int .u16 g) := (hW.cells 16 (by omega)).trans t0); go_simp) ?_
  try simp only [Act.put, List.getElem_toArray, List.getElem_cons_succ, List.getElem_cons_zero, List.setIfInBounds_toArray, List.set_cons_succ, List.set_cons_zero]
  refine wpAnyC_take 6 (.pointer (some ⟨w.heap.size, 0, none⟩)) rfl (by kernel_rfl) (by kernel_rfl) (by kernel_rfl) (fun _ _ _ h => h) (wanted_at true rfl rfl rfl rfl) (fun W hW => by go_simp) ?_
  try simp only [Act.put, List.getElem_toArray, List.getElem_cons_succ, List.getElem_cons_zero, List.setIfInBounds_toArray, List.set_cons_succ, List.set_cons_zero]
  refine wpAnyC_take 7 (.slice (some ⟨w.heap.size, 0, none⟩) 16 16) rfl (by kernel_rfl) (by kernel_rfl) (by kernel_rfl) (fun _ _ _ h => h) (wanted_at true rfl rfl rfl rfl) (fun W hW => by (have hc0 := hW.cells 0 (by omega)); go_simp) ?_
  try simp only [Act.put, List.getElem_toArray, List.getElem_cons_succ, List.getElem_cons_zero, List.setIfInBounds_toArray, List.set_cons_succ, List.set_cons_zero]
  refine wpAnyC_one 8 (hX1.out.drew) rfl (by kernel_rfl) (wanted_at true rfl rfl rfl rfl) (fun KA hKA => ?_)
  go_simp
  refine (hdat.out _ _ hX1.out.drew).mono ?_
  rintro e x2 ⟨rfl, rfl⟩
  refine hKA _ _ ?_
  clear hKA KA
  try simp only [Act.put, List.getElem_toArray, List.getElem_cons_succ, List.getElem_cons_zero, List.setIfInBounds_toArray, List.set_cons_succ, List.set_cons_zero]
  refine wpAnyC_take 9 (.bool false) rfl (by kernel_rfl) (by kernel_rfl) (by kernel_rfl) (fun _ _ _ h => h) (wanted_at true rfl rfl rfl rfl) (fun W hW => by go_simp) ?_
  try simp only [Act.put, List.getElem_toArray, List.getElem_cons_succ, List.getElem_cons_zero, List.setIfInBounds_toArray, List.set_cons_succ, List.set_cons_zero]
  refine wpAnyC_take 10 (.bool false) rfl (by kernel_rfl) (by kernel_rfl) (by kernel_rfl) (fun _ _ _ h => h) (wanted_free rfl _) (fun W hW => by go_simp) ?_
  try simp only [Act.put, List.getElem_toArray, List.getElem_cons_succ, List.getElem_cons_zero, List.setIfInBounds_toArray, List.set_cons_succ, List.set_cons_zero]
  refine wpAnyC_take 11 (.bool false) rfl (by kernel_rfl) (by kernel_rfl) (by kernel_rfl) (fun _ _ _ h => h) (wanted_free rfl _) (fun W hW => by go_simp) ?_
  try simp only [Act.put, List.getElem_toArray, List.getElem_cons_succ, List.getElem_cons_zero, List.setIfInBounds_toArray, List.set_cons_succ, List.set_cons_zero]
  refine wpAnyC_done (hX1.out.drew) (by kernel_rfl) ?_
  have hY : Kpt (Below w.heap.size w x1.drew) := ⟨below_drewN hx1.out 1⟩
  have c18 : x1.cell? ⟨w.heap.size, 18, none⟩ = some (.int .u32 r) := (hX1.out.cells 18 (by omega)).trans t2
  go_wp2_with (go_at_call 74; go_must (refine (KH.out _).mono ?_; rintro e x3 ⟨rfl, rfl⟩))
  go_ret
  exact ⟨rfl, hY.out⟩

set_option maxRecDepth 100000 in
set_option maxHeartbeats 1000000 in
theorem check_9 (k p lba : Int) (b : Bk) (w : World) (hb : b.ok) (h0 : 0 ≤ k) (h1 : k ≤ 255) (p0 : 0 ≤ p) (p1 : p ≤ 255) (l0 : 0 ≤ lba) (l1 : lba ≤ 18446744073709551615)
    (hk0 : (k == 0) = false) (hk3 : ¬ 3 < k) (hp3 : (p == 3) = false) (hp4 : ¬ 4 < p) (hp : passB k b.a b.r = false) (hp2 : (p != 2) = true) (hg : (b.g != (reg16 0 b.d : Int)) = false) (hq4 : (p != 4) = true) (hh : hasB k = true) (hr : (b.r != lba % 4294967296) = false) :
    Calls Try.prog 55 #[.int .u8 k, .int .u8 p, .int .u64 lba, .agg b.vals] w fun e w' => e = .returned (.int .u16 0) ∧ Below w.heap.size w w' := by
  obtain ⟨t0, t1, t2⟩ := cs_tup b hb
  have hdat := Kpt.mk (fun W B (hx : Bx W B b.vals) => c16_at W ⟨B, 0, none⟩ 16 b.d hb.len rfl hb.byte (bx_data b hb hx))
  obtain ⟨V, hV⟩ : ∃ V, V = b.vals := ⟨_, rfl⟩
  rw [← hV] at hdat t0 t1 t2 ⊢
  have hVs : V.size = 19 := by rw [hV]; exact Bk.size hb
  have hbx := Kpt.mk (bx_new w V 76)
  have hB0 := Kpt.mk ((Below.refl w.heap.size w).alloc (Nat.le_refl _) (.cells V 76))
  have KP := Kpt.mk (fun W => passed_any k b.g b.a b.r W)
  have KH := Kpt.mk (fun W => hasRef_any k W h0 h1)
  have hR3 := Kpt.mk (bx_tupG hbx.out hVs t0 t1 t2)
  obtain ⟨d, g, a, r⟩ := b
  simp only at *
  generalize (reg16 0 d : Int) = G at *
  rw [hp] at KP
  rw [hh] at KH
  clear hV hb h0 h1 p0 p1 hp hh
  go_enter Try.func55, Try.ntmps55
  go_wp2_with (first | (refine wpList_load_mid rfl 74 (.tmp 23) rfl w.heap.size 16 rfl [.int .u16 g, .int .u16 a, .int .u32 r] _ hR3.out Try.underlying74 rfl infoT ?_) | (go_at_call 72; go_must (refine (KP.out _).mono ?_; rintro e x1 ⟨rfl, hq⟩; have hX1 : Kpt (Bx x1 w.heap.size V) := ⟨hbx.out.below hq (by simp)⟩; have hx1 : Kpt (Below w.heap.size w x1) := ⟨hB0.out.trans (hq.mono (by simp <;> omega))⟩; clear hq)))
  refine wp_region_any (by kernel_rfl) ?_
  refine wpAny_of_C (C := fun W => Bx W w.heap.size V) _ _ _ _ ?_
  refine wpAnyC_take 0 (.int .u8 p) rfl (by kernel_rfl) (by kernel_rfl) (by kernel_rfl) (fun _ _ _ h => h) (wanted_free rfl _) (fun W hW => by go_simp) ?_
  try simp only [Act.put, List.getElem_toArray, List.getElem_cons_succ, List.getElem_cons_zero, List.setIfInBounds_toArray, List.set_cons_succ, List.set_cons_zero]
  refine wpAnyC_take 1 (.bool true) rfl (by kernel_rfl) (by kernel_rfl) (by kernel_rfl) (fun _ _ _ h => h) (wanted_free rfl _) (fun W hW => by go_simp) ?_
  try simp only [Act.put, List.getElem_toArray, List.getElem_cons_succ, List.getElem_cons_zero, List.setIfInBounds_toArray, List.set_cons_succ, List.set_cons_zero]
  refine wpAnyC_take 2 (.bool true) rfl (by kernel_rfl) (by kernel_rfl) (by kernel_rfl) (fun _ _ _ h => h) (wanted_free rfl _) (fun W hW => by go_simp) ?_
  try simp only [Act.put, List.getElem_toArray, List.getElem_cons_succ, List.getElem_cons_zero, List.setIfInBounds_toArray, List.set_cons_succ, List.set_cons_zero]
  refine wpAnyC_take 3 (.pointer (some ⟨w.heap.size, 16, none⟩)) rfl (by kernel_rfl) (by kernel_rfl) (by kernel_rfl) (fun _ _ _ h => h) (wanted_at true rfl rfl rfl rfl) (fun W hW => by go_simp) ?_
  try simp only [Act.put, List.getElem_toArray, List.getElem_cons_succ, List.getElem_cons_zero, List.setIfInBounds_toArray, List.set_cons_succ, List.set_cons_zero]
  refine wpAnyC_take 4 (.pointer (some ⟨w.heap.size, 16, none⟩)) rfl (by kernel_rfl) (by kernel_rfl) (by kernel_rfl) (fun _ _ _ h => h) (wanted_at true rfl rfl rfl rfl) (fun W hW => by go_simp) ?_
  try simp only [Act.put, List.getElem_toArray, List.getElem_cons_succ, List.getElem_cons_zero, List.setIfInBounds_toArray, List.set_cons_succ, List.set_cons_zero]
  refine wpAnyC_take 5 (.int .u16 g) rfl (by kernel_rfl) (by kernel_rfl) (by kernel_rfl) (fun _ _ _ h => h) (wanted_at true rfl rfl rfl rfl) (fun W hW => by (have h16 : W.cell? ⟨w.heap.size, 16, none⟩ = some (.int .u16 g) := (hW.cells 16 (by omega)).trans t0); go_simp) ?_
  try simp only [Act.put, List.getElem_toArray, List.getElem_cons_succ, List.getElem_cons_zero, List.setIfInBounds_toArray, List.set_cons_succ, List.set_cons_zero]
  refine wpAnyC_take 6 (.pointer (some ⟨w.heap.size, 0, none⟩)) rfl (by kernel_rfl) (by kernel_rfl) (by kernel_rfl) (fun _ _ _ h => h) (wanted_at true rfl rfl rfl rfl) (fun W hW => by go_simp) ?_
  try simp only [Act.put, List.getElem_toArray, List.getElem_cons_succ, List.getElem_cons_zero, List.setIfInBounds_toArray, List.set_cons_succ, List.set_cons_zero]
  refine wpAnyC_take 7 (.slice (some ⟨w.heap.size, 0, none⟩) 16 16) rfl (by kernel_rfl) (by kernel_rfl) (by kernel_rfl) (fun _ _ _ h => h) (wanted_at true rfl rfl rfl rfl) (fun W hW => by (have hc0 := hW.cells 0 (by omega)); go_simp) ?_
  try simp only [Act.put, List.getElem_toArray, List.getElem_cons_succ, List.getElem_cons_zero, List.setIfInBounds_toArray, List.set_cons_succ, List.set_cons_zero]
  refine wpAnyC_one 8 (hX1.out.drew) rfl (by kernel_rfl) (wanted_at true rfl rfl rfl rfl) (fun KA hKA => ?_)
  go_simp
  refine (hdat.out _ _ hX1.out.drew).mono ?_
  rintro e x2 ⟨rfl, rfl⟩
  refine hKA _ _ ?_
  clear hKA KA
  try simp only [Act.put, List.getElem_toArray, List.getElem_cons_succ, List.getElem_cons_zero, List.setIfInBounds_toArray, List.set_cons_succ, List.set_cons_zero]
  refine wpAnyC_take 9 (.bool false) rfl (by kernel_rfl) (by kernel_rfl) (by kernel_rfl) (fun _ _ _ h => h) (wanted_at true rfl rfl rfl rfl) (fun W hW => by go_simp) ?_
  try simp only [Act.put, List.getElem_toArray, List.getElem_cons_succ, List.getElem_cons_zero, List.setIfInBounds_toArray, List.set_cons_succ, List.set_cons_zero]
  refine wpAnyC_take 10 (.bool false) rfl (by kernel_rfl) (by kernel_rfl) (by kernel_rfl) (fun _ _ _ h => h) (wanted_free rfl _) (fun W hW => by go_simp) ?_
  try simp only [Act.put, List.getElem_toArray, List.getElem_cons_succ, List.getElem_cons_zero, List.setIfInBounds_toArray, List.set_cons_succ, List.set_cons_zero]
  refine wpAnyC_take 11 (.bool false) rfl (by kernel_rfl) (by kernel_rfl) (by kernel_rfl) (fun _ _ _ h => h) (wanted_free rfl _) (fun W hW => by go_simp) ?_
  try simp only [Act.put, List.getElem_toArray, List.getElem_cons_succ, List.getElem_cons_zero, List.setIfInBounds_toArray, List.set_cons_succ, List.set_cons_zero]
  refine wpAnyC_done (hX1.out.drew) (by kernel_rfl) ?_
  have hY : Kpt (Below w.heap.size w x1.drew) := ⟨below_drewN hx1.out 1⟩
  have c18 : x1.cell? ⟨w.heap.size, 18, none⟩ = some (.int .u32 r) := (hX1.out.cells 18 (by omega)).trans t2
  go_wp2_with (go_at_call 74; go_must (refine (KH.out _).mono ?_; rintro e x3 ⟨rfl, rfl⟩))
  go_ret
  exact ⟨rfl, hY.out⟩

set_option maxRecDepth 100000 in
set_option maxHeartbeats 1000000 in
theorem check_10 (k p lba : Int) (b : Bk) (w : World) (hb : b.ok) (h0 : 0 ≤ k) (h1 : k ≤ 255) (p0 : 0 ≤ p) (p1 : p ≤ 255) (l0 : 0 ≤ lba) (l1 : lba ≤ 18446744073709551615)
    (hk0 : (k == 0) = false) (hk3 : ¬ 3 < k) (hp3 : (p == 3) = false) (hp4 : ¬ 4 < p) (hp : passB k b.a b.r = false) (hp2 : (p != 2) = true) (hg : (b.g != (reg16 0 b.d : Int)) = false) (hq4 : (p != 4) = true) (hh : hasB k = false) :
    Calls Try.prog 55 #[.int .u8 k, .int .u8 p, .int .u64 lba, .agg b.vals] w fun e w' => e = .returned (.int .u16 0) ∧ Below w.heap.size w w' := by
  obtain ⟨t0, t1, t2⟩ := cs_tup b hb
  have hdat := Kpt.mk (fun W B (hx : Bx W B b.vals) => c16_at W ⟨B, 0, none⟩ 16 b.d hb.len rfl hb.byte (bx_data b hb hx))
  obtain ⟨V, hV⟩ : ∃ V, V = b.vals := ⟨_, rfl⟩
  rw [← hV] at hdat t0 t1 t2 ⊢
  have hVs : V.size = 19 := by rw [hV]; exact Bk.size hb
  have hbx := Kpt.mk (bx_new w V 76)
  have hB0 := Kpt.mk ((Below.refl w.heap.size w).alloc (Nat.le_refl _) (.cells V 76))
  have KP := Kpt.mk (fun W => passed_any k b.g b.a b.r W)
  have KH := Kpt.mk (fun W => hasRef_any k W h0 h1)
  have hR3 := Kpt.mk (bx_tupG hbx.out hVs t0 t1 t2)
  obtain ⟨d, g, a, r⟩ := b
  simp only at *
  generalize (reg16 0 d : Int) = G at *
  rw [hp] at KP
  rw [hh] at KH
  clear hV hb h0 h1 p0 p1 hp hh
  go_enter Try.func55, Try.ntmps55
  go_wp2_with (first | (refine wpList_load_mid rfl 74 (.tmp 23) rfl w.heap.size 16 rfl [.int .u16 g, .int .u16 a, .int .u32 r] _ hR3.out Try.underlying74 rfl infoT ?_) | (go_at_call 72; go_must (refine (KP.out _).mono ?_; rintro e x1 ⟨rfl, hq⟩; have hX1 : Kpt (Bx x1 w.heap.size V) := ⟨hbx.out.below hq (by simp)⟩; have hx1 : Kpt (Below w.heap.size w x1) := ⟨hB0.out.trans (hq.mono (by simp <;> omega))⟩; clear hq)))
  refine wp_region_any (by kernel_rfl) ?_
  refine wpAny_of_C (C := fun W => Bx W w.heap.size V) _ _ _ _ ?_
  refine wpAnyC_take 0 (.int .u8 p) rfl (by kernel_rfl) (by kernel_rfl) (by kernel_rfl) (fun _ _ _ h => h) (wanted_free rfl _) (fun W hW => by go_simp) ?_
  try simp only [Act.put, List.getElem_toArray, List.getElem_cons_succ, List.getElem_cons_zero, List.setIfInBounds_toArray, List.set_cons_succ, List.set_cons_zero]
  refine wpAnyC_take 1 (.bool true) rfl (by kernel_rfl) (by kernel_rfl) (by kernel_rfl) (fun _ _ _ h => h) (wanted_free rfl _) (fun W hW => by go_simp) ?_
  try simp only [Act.put, List.getElem_toArray, List.getElem_cons_succ, List.getElem_cons_zero, List.setIfInBounds_toArray, List.set_cons_succ, List.set_cons_zero]
  refine wpAnyC_take 2 (.bool true) rfl (by kernel_rfl) (by kernel_rfl) (by kernel_rfl) (fun _ _ _ h => h) (wanted_free rfl _) (fun W hW => by go_simp) ?_
  try simp only [Act.put, List.getElem_toArray, List.getElem_cons_succ, List.getElem_cons_zero, List.setIfInBounds_toArray, List.set_cons_succ, List.set_cons_zero]
  refine wpAnyC_take 3 (.pointer (some ⟨w.heap.size, 16, none⟩)) rfl (by kernel_rfl) (by kernel_rfl) (by kernel_rfl) (fun _ _ _ h => h) (wanted_at true rfl rfl rfl rfl) (fun W hW => by go_simp) ?_
  try simp only [Act.put, List.getElem_toArray, List.getElem_cons_succ, List.getElem_cons_zero, List.setIfInBounds_toArray, List.set_cons_succ, List.set_cons_zero]
  refine wpAnyC_take 4 (.pointer (some ⟨w.heap.size, 16, none⟩)) rfl (by kernel_rfl) (by kernel_rfl) (by kernel_rfl) (fun _ _ _ h => h) (wanted_at true rfl rfl rfl rfl) (fun W hW => by go_simp) ?_
  try simp only [Act.put, List.getElem_toArray, List.getElem_cons_succ, List.getElem_cons_zero, List.setIfInBounds_toArray, List.set_cons_succ, List.set_cons_zero]
  refine wpAnyC_take 5 (.int .u16 g) rfl (by kernel_rfl) (by kernel_rfl) (by kernel_rfl) (fun _ _ _ h => h) (wanted_at true rfl rfl rfl rfl) (fun W hW => by (have h16 : W.cell? ⟨w.heap.size, 16, none⟩ = some (.int .u16 g) := (hW.cells 16 (by omega)).trans t0); go_simp) ?_
  try simp only [Act.put, List.getElem_toArray, List.getElem_cons_succ, List.getElem_cons_zero, List.setIfInBounds_toArray, List.set_cons_succ, List.set_cons_zero]
  refine wpAnyC_take 6 (.pointer (some ⟨w.heap.size, 0, none⟩)) rfl (by kernel_rfl) (by kernel_rfl) (by kernel_rfl) (fun _ _ _ h => h) (wanted_at true rfl rfl rfl rfl) (fun W hW => by go_simp) ?_
  try simp only [Act.put, List.getElem_toArray, List.getElem_cons_succ, List.getElem_cons_zero, List.setIfInBounds_toArray, List.set_cons_succ, List.set_cons_zero]
  refine wpAnyC_take 7 (.slice (some ⟨w.heap.size, 0, none⟩) 16 16) rfl (by kernel_rfl) (by kernel_rfl) (by kernel_rfl) (fun _ _ _ h => h) (wanted_at true rfl rfl rfl rfl) (fun W hW => by (have hc0 := hW.cells 0 (by omega)); go_simp) ?_
  try simp only [Act.put, List.getElem_toArray, List.getElem_cons_succ, List.getElem_cons_zero, List.setIfInBounds_toArray, List.set_cons_succ, List.set_cons_zero]
  refine wpAnyC_one 8 (hX1.out.drew) rfl (by kernel_rfl) (wanted_at true rfl rfl rfl rfl) (fun KA hKA => ?_)
  go_simp
  refine (hdat.out _ _ hX1.out.drew).mono ?_
  rintro e x2 ⟨rfl, rfl⟩
  refine hKA _ _ ?_
  clear hKA KA
  try simp only [Act.put, List.getElem_toArray, List.getElem_cons_succ, List.getElem_cons_zero, List.setIfInBounds_toArray, List.set_cons_succ, List.set_cons_zero]
  refine wpAnyC_take 9 (.bool false) rfl (by kernel_rfl) (by kernel_rfl) (by kernel_rfl) (fun _ _ _ h => h) (wanted_at true rfl rfl rfl rfl) (fun W hW => by go_simp) ?_
  try simp only [Act.put, List.getElem_toArray, List.getElem_cons_succ, List.getElem_cons_zero, List.setIfInBounds_toArray, List.set_cons_succ, List.set_cons_zero]
  refine wpAnyC_take 10 (.bool false) rfl (by kernel_rfl) (by kernel_rfl) (by kernel_rfl) (fun _ _ _ h => h) (wanted_free rfl _) (fun W hW => by go_simp) ?_
  try simp only [Act.put, List.getElem_toArray, List.getElem_cons_succ, List.getElem_cons_zero, List.setIfInBounds_toArray, List.set_cons_succ, List.set_cons_zero]
  refine wpAnyC_take 11 (.bool false) rfl (by kernel_rfl) (by kernel_rfl) (by kernel_rfl) (fun _ _ _ h => h) (wanted_free rfl _) (fun W hW => by go_simp) ?_
  try simp only [Act.put, List.getElem_toArray, List.getElem_cons_succ, List.getElem_cons_zero, List.setIfInBounds_toArray, List.set_cons_succ, List.set_cons_zero]
  refine wpAnyC_done (hX1.out.drew) (by kernel_rfl) ?_
  have hY : Kpt (Below w.heap.size w x1.drew) := ⟨below_drewN hx1.out 1⟩
  have c18 : x1.cell? ⟨w.heap.size, 18, none⟩ = some (.int .u32 r) := (hX1.out.cells 18 (by omega)).trans t2
  go_wp2_with (go_at_call 74; go_must (refine (KH.out _).mono ?_; rintro e x3 ⟨rfl, rfl⟩))
  go_ret
  exact ⟨rfl, hY.out⟩

set_option maxRecDepth 100000 in
set_option maxHeartbeats 1000000 in
theorem check_12 (k p lba : Int) (b : Bk) (w : World) (hb : b.ok) (h0 : 0 ≤ k) (h1 : k ≤ 255) (p0 : 0 ≤ p) (p1 : p ≤ 255) (l0 : 0 ≤ lba) (l1 : lba ≤ 18446744073709551615)
    (hk0 : (k == 0) = false) (hk3 : ¬ 3 < k) (hp3 : (p == 3) = false) (hp4 : ¬ 4 < p) (hp : passB k b.a b.r = false) (hp2 : (p != 2) = false) (hq4 : (p != 4) = true) (hh : hasB k = true) (hr : (b.r != lba % 4294967296) = true) :
    Calls Try.prog 55 #[.int .u8 k, .int .u8 p, .int .u64 lba, .agg b.vals] w fun e w' => e = .returned (.int .u16 4099) ∧ Below w.heap.size w w' := by
  obtain ⟨t0, t1, t2⟩ := cs_tup b hb
  have hdat := Kpt.mk (fun W B (hx : Bx W B b.vals) => c16_at W ⟨B, 0, none⟩ 16 b.d hb.len rfl hb.byte (bx_data b hb hx))
  obtain ⟨V, hV⟩ : ∃ V, V = b.vals := ⟨_, rfl⟩
  rw [← hV] at hdat t0 t1 t2 ⊢
  have hVs : V.size = 19 := by rw [hV]; exact Bk.size hb
  have hbx := Kpt.mk (bx_new w V 76)
  have hB0 := Kpt.mk ((Below.refl w.heap.size w).alloc (Nat.le_refl _) (.cells V 76))
  have KP := Kpt.mk (fun W => passed_any k b.g b.a b.r W)
  have KH := Kpt.mk (fun W => hasRef_any k W h0 h1)
  have hR3 := Kpt.mk (bx_tupG hbx.out hVs t0 t1 t2)
  obtain ⟨d, g, a, r⟩ := b
  simp only at *
  generalize (reg16 0 d : Int) = G at *
  rw [hp] at KP
  rw [hh] at KH
  clear hV hb h0 h1 p0 p1 hp hh
  go_enter Try.func55, Try.ntmps55
  go_wp2_with (first | (refine wpList_load_mid rfl 74 (.tmp 23) rfl w.heap.size 16 rfl [.int .u16 g, .int .u16 a, .int .u32 r] _ hR3.out Try.underlying74 rfl infoT ?_) | (go_at_call 72; go_must (refine (KP.out _).mono ?_; rintro e x1 ⟨rfl, hq⟩; have hX1 : Kpt (Bx x1 w.heap.size V) := ⟨hbx.out.below hq (by simp)⟩; have hx1 : Kpt (Below w.heap.size w x1) := ⟨hB0.out.trans (hq.mono (by simp <;> omega))⟩; clear hq)))
  refine wp_region_any (by kernel_rfl) ?_
  refine wpAny_of_C (C := fun W => Bx W w.heap.size V) _ _ _ _ ?_
  refine wpAnyC_take 0 (.int .u8 p) rfl (by kernel_rfl) (by kernel_rfl) (by kernel_rfl) (fun _ _ _ h => h) (wanted_free rfl _) (fun W hW => by go_simp) ?_
  try simp only [Act.put, List.getElem_toArray, List.getElem_cons_succ, List.getElem_cons_zero, List.setIfInBounds_toArray, List.set_cons_succ, List.set_cons_zero]
  refine wpAnyC_take 1 (.bool false) rfl (by kernel_rfl) (by kernel_rfl) (by kernel_rfl) (fun _ _ _ h => h) (wanted_free rfl _) (fun W hW => by go_simp) ?_
  try simp only [Act.put, List.getElem_toArray, List.getElem_cons_succ, List.getElem_cons_zero, List.setIfInBounds_toArray, List.set_cons_succ, List.set_cons_zero]
  refine wpAnyC_take 2 (.bool false) rfl (by kernel_rfl) (by kernel_rfl) (by kernel_rfl) (fun _ _ _ h => h) (wanted_free rfl _) (fun W hW => by go_simp) ?_
  try simp only [Act.put, List.getElem_toArray, List.getElem_cons_succ, List.getElem_cons_zero, List.setIfInBounds_toArray, List.set_cons_succ, List.set_cons_zero]
  refine wpAnyC_skip 3 rfl (by kernel_rfl) (by kernel_rfl) (by kernel_rfl) (fun _ _ _ h => h) (wanted_no true rfl rfl rfl rfl) ?_
  try simp only [Act.put, List.getElem_toArray, List.getElem_cons_succ, List.getElem_cons_zero, List.setIfInBounds_toArray, List.set_cons_succ, List.set_cons_zero]
  refine wpAnyC_skip 4 rfl (by kernel_rfl) (by kernel_rfl) (by kernel_rfl) (fun _ _ _ h => h) (wanted_no true rfl rfl rfl rfl) ?_
  try simp only [Act.put, List.getElem_toArray, List.getElem_cons_succ, List.getElem_cons_zero, List.setIfInBounds_toArray, List.set_cons_succ, List.set_cons_zero]
  refine wpAnyC_skip 5 rfl (by kernel_rfl) (by kernel_rfl) (by kernel_rfl) (fun _ _ _ h => h) (wanted_no true rfl rfl rfl rfl) ?_
  try simp only [Act.put, List.getElem_toArray, List.getElem_cons_succ, List.getElem_cons_zero, List.setIfInBounds_toArray, List.set_cons_succ, List.set_cons_zero]
  refine wpAnyC_skip 6 rfl (by kernel_rfl) (by kernel_rfl) (by kernel_rfl) (fun _ _ _ h => h) (wanted_no true rfl rfl rfl rfl) ?_
  try simp only [Act.put, List.getElem_toArray, List.getElem_cons_succ, List.getElem_cons_zero, List.setIfInBounds_toArray, List.set_cons_succ, List.set_cons_zero]
  refine wpAnyC_skip 7 rfl (by kernel_rfl) (by kernel_rfl) (by kernel_rfl) (fun _ _ _ h => h) (wanted_no true rfl rfl rfl rfl) ?_
  try simp only [Act.put, List.getElem_toArray, List.getElem_cons_succ, List.getElem_cons_zero, List.setIfInBounds_toArray, List.set_cons_succ, List.set_cons_zero]
  refine wpAnyC_skip 8 rfl (by kernel_rfl) (by kernel_rfl) (by kernel_rfl) (fun _ _ _ h => h) (wanted_no true rfl rfl rfl rfl) ?_
  try simp only [Act.put, List.getElem_toArray, List.getElem_cons_succ, List.getElem_cons_zero, List.setIfInBounds_toArray, List.set_cons_succ, List.set_cons_zero]
  refine wpAnyC_skip 9 rfl (by kernel_rfl) (by kernel_rfl) (by kernel_rfl) (fun _ _ _ h => h) (wanted_no true rfl rfl rfl rfl) ?_
  try simp only [Act.put, List.getElem_toArray, List.getElem_cons_succ, List.getElem_cons_zero, List.setIfInBounds_toArray, List.set_cons_succ, List.set_cons_zero]
  refine wpAnyC_take 10 (.bool false) rfl (by kernel_rfl) (by kernel_rfl) (by kernel_rfl) (fun _ _ _ h => h) (wanted_free rfl _) (fun W hW => by go_simp) ?_
  try simp only [Act.put, List.getElem_toArray, List.getElem_cons_succ, List.getElem_cons_zero, List.setIfInBounds_toArray, List.set_cons_succ, List.set_cons_zero]
  refine wpAnyC_take 11 (.bool false) rfl (by kernel_rfl) (by kernel_rfl) (by kernel_rfl) (fun _ _ _ h => h) (wanted_free rfl _) (fun W hW => by go_simp) ?_
  try simp only [Act.put, List.getElem_toArray, List.getElem_cons_succ, List.getElem_cons_zero, List.setIfInBounds_toArray, List.set_cons_succ, List.set_cons_zero]
  refine wpAnyC_done (hX1.out.drew) (by kernel_rfl) ?_
  have hY : Kpt (Below w.heap.size w x1.drew) := ⟨below_drewN hx1.out 1⟩
  have c18 : x1.cell? ⟨w.heap.size, 18, none⟩ = some (.int .u32 r) := (hX1.out.cells 18 (by omega)).trans t2
  go_wp2_with (go_at_call 74; go_must (refine (KH.out _).mono ?_; rintro e x3 ⟨rfl, rfl⟩))
  go_ret
  exact ⟨rfl, hY.out⟩

set_option maxRecDepth 100000 in
set_option maxHeartbeats 1000000 in
theorem check_13 (k p lba : Int) (b : Bk) (w : World) (hb : b.ok) (h0 : 0 ≤ k) (h1 : k ≤ 255) (p0 : 0 ≤ p) (p1 : p ≤ 255) (l0 : 0 ≤ lba) (l1 : lba ≤ 18446744073709551615)
    (hk0 : (k == 0) = false) (hk3 : ¬ 3 < k) (hp3 : (p == 3) = false) (hp4 : ¬ 4 < p) (hp : passB k b.a b.r = false) (hp2 : (p != 2) = false) (hq4 : (p != 4) = true) (hh : hasB k = true) (hr : (b.r != lba % 4294967296) = false) :
    Calls Try.prog 55 #[.int .u8 k, .int .u8 p, .int .u64 lba, .agg b.vals] w fun e w' => e = .returned (.int .u16 0) ∧ Below w.heap.size w w' := by
  obtain ⟨t0, t1, t2⟩ := cs_tup b hb
  have hdat := Kpt.mk (fun W B (hx : Bx W B b.vals) => c16_at W ⟨B, 0, none⟩ 16 b.d hb.len rfl hb.byte (bx_data b hb hx))
  obtain ⟨V, hV⟩ : ∃ V, V = b.vals := ⟨_, rfl⟩
  rw [← hV] at hdat t0 t1 t2 ⊢
  have hVs : V.size = 19 := by rw [hV]; exact Bk.size hb
  have hbx := Kpt.mk (bx_new w V 76)
  have hB0 := Kpt.mk ((Below.refl w.heap.size w).alloc (Nat.le_refl _) (.cells V 76))
  have KP := Kpt.mk (fun W => passed_any k b.g b.a b.r W)
  have KH := Kpt.mk (fun W => hasRef_any k W h0 h1)
  have hR3 := Kpt.mk (bx_tupG hbx.out hVs t0 t1 t2)
  obtain ⟨d, g, a, r⟩ := b
  simp only at *
  generalize (reg16 0 d : Int) = G at *
  rw [hp] at KP
  rw [hh] at KH
  clear hV hb h0 h1 p0 p1 hp hh
  go_enter Try.func55, Try.ntmps55
  go_wp2_with (first | (refine wpList_load_mid rfl 74 (.tmp 23) rfl w.heap.size 16 rfl [.int .u16 g, .int .u16 a, .int .u32 r] _ hR3.out Try.underlying74 rfl infoT ?_) | (go_at_call 72; go_must (refine (KP.out _).mono ?_; rintro e x1 ⟨rfl, hq⟩; have hX1 : Kpt (Bx x1 w.heap.size V) := ⟨hbx.out.below hq (by simp)⟩; have hx1 : Kpt (Below w.heap.size w x1) := ⟨hB0.out.trans (hq.mono (by simp <;> omega))⟩; clear hq)))
  refine wp_region_any (by kernel_rfl) ?_
  refine wpAny_of_C (C := fun W => Bx W w.heap.size V) _ _ _ _ ?_
  refine wpAnyC_take 0 (.int .u8 p) rfl (by kernel_rfl) (by kernel_rfl) (by kernel_rfl) (fun _ _ _ h => h) (wanted_free rfl _) (fun W hW => by go_simp) ?_
  try simp only [Act.put, List.getElem_toArray, List.getElem_cons_succ, List.getElem_cons_zero, List.setIfInBounds_toArray, List.set_cons_succ, List.set_cons_zero]
  refine wpAnyC_take 1 (.bool false) rfl (by kernel_rfl) (by kernel_rfl) (by kernel_rfl) (fun _ _ _ h => h) (wanted_free rfl _) (fun W hW => by go_simp) ?_
  try simp only [Act.put, List.getElem_toArray, List.getElem_cons_succ, List.getElem_cons_zero, List.setIfInBounds_toArray, List.set_cons_succ, List.set_cons_zero]
  refine wpAnyC_take 2 (.bool false) rfl (by kernel_rfl) (by kernel_rfl) (by kernel_rfl) (fun _ _ _ h => h) (wanted_free rfl _) (fun W hW => by go_simp) ?_
  try simp only [Act.put, List.getElem_toArray, List.getElem_cons_succ, List.getElem_cons_zero, List.setIfInBounds_toArray, List.set_cons_succ, List.set_cons_zero]
  refine wpAnyC_skip 3 rfl (by kernel_rfl) (by kernel_rfl) (by kernel_rfl) (fun _ _ _ h => h) (wanted_no true rfl rfl rfl rfl) ?_
  try simp only [Act.put, List.getElem_toArray, List.getElem_cons_succ, List.getElem_cons_zero, List.setIfInBounds_toArray, List.set_cons_succ, List.set_cons_zero]
  refine wpAnyC_skip 4 rfl (by kernel_rfl) (by kernel_rfl) (by kernel_rfl) (fun _ _ _ h => h) (wanted_no true rfl rfl rfl rfl) ?_
  try simp only [Act.put, List.getElem_toArray, List.getElem_cons_succ, List.getElem_cons_zero, List.setIfInBounds_toArray, List.set_cons_succ, List.set_cons_zero]
  refine wpAnyC_skip 5 rfl (by kernel_rfl) (by kernel_rfl) (by kernel_rfl) (fun _ _ _ h => h) (wanted_no true rfl rfl rfl rfl) ?_
  try simp only [Act.put, List.getElem_toArray, List.getElem_cons_succ, List.getElem_cons_zero, List.setIfInBounds_toArray, List.set_cons_succ, List.set_cons_zero]
  refine wpAnyC_skip 6 rfl (by kernel_rfl) (by kernel_rfl) (by kernel_rfl) (fun _ _ _ h => h) (wanted_no true rfl rfl rfl rfl) ?_
  try simp only [Act.put, List.getElem_toArray, List.getElem_cons_succ, List.getElem_cons_zero, List.setIfInBounds_toArray, List.set_cons_succ, List.set_cons_zero]
  refine wpAnyC_skip 7 rfl (by kernel_rfl) (by kernel_rfl) (by kernel_rfl) (fun _ _ _ h => h) (wanted_no true rfl rfl rfl rfl) ?_
  try simp only [Act.put, List.getElem_toArray, List.getElem_cons_succ, List.getElem_cons_zero, List.setIfInBounds_toArray, List.set_cons_succ, List.set_cons_zero]
  refine wpAnyC_skip 8 rfl (by kernel_rfl) (by kernel_rfl) (by kernel_rfl) (fun _ _ _ h => h) (wanted_no true rfl rfl rfl rfl) ?_
  try simp only [Act.put, List.getElem_toArray, List.getElem_cons_succ, List.getElem_cons_zero, List.setIfInBounds_toArray, List.set_cons_succ, List.set_cons_zero]
  refine wpAnyC_skip 9 rfl (by kernel_rfl) (by kernel_rfl) (by kernel_rfl) (fun _ _ _ h => h) (wanted_no true rfl rfl rfl rfl) ?_
  try simp only [Act.put, List.getElem_toArray, List.getElem_cons_succ, List.getElem_cons_zero, List.setIfInBounds_toArray, List.set_cons_succ, List.set_cons_zero]
  refine wpAnyC_take 10 (.bool false) rfl (by kernel_rfl) (by kernel_rfl) (by kernel_rfl) (fun _ _ _ h => h) (wanted_free rfl _) (fun W hW => by go_simp) ?_
  try simp only [Act.put, List.getElem_toArray, List.getElem_cons_succ, List.getElem_cons_zero, List.setIfInBounds_toArray, List.set_cons_succ, List.set_cons_zero]
  refine wpAnyC_take 11 (.bool false) rfl (by kernel_rfl) (by kernel_rfl) (by kernel_rfl) (fun _ _ _ h => h) (wanted_free rfl _) (fun W hW => by go_simp) ?_
  try simp only [Act.put, List.getElem_toArray, List.getElem_cons_succ, List.getElem_cons_zero, List.setIfInBounds_toArray, List.set_cons_succ, List.set_cons_zero]
  refine wpAnyC_done (hX1.out.drew) (by kernel_rfl) ?_
  have hY : Kpt (Below w.heap.size w x1.drew) := ⟨below_drewN hx1.out 1⟩
  have c18 : x1.cell? ⟨w.heap.size, 18, none⟩ = some (.int .u32 r) := (hX1.out.cells 18 (by omega)).trans t2
  go_wp2_with (go_at_call 74; go_must (refine (KH.out _).mono ?_; rintro e x3 ⟨rfl, rfl⟩))
  go_ret
  exact ⟨rfl, hY.out⟩

set_option maxRecDepth 100000 in
set_option maxHeartbeats 1000000 in
theorem check_14 (k p lba : Int) (b : Bk) (w : World) (hb : b.ok) (h0 : 0 ≤ k) (h1 : k ≤ 255) (p0 : 0 ≤ p) (p1 : p ≤ 255) (l0 : 0 ≤ lba) (l1 : lba ≤ 18446744073709551615)
    (hk0 : (k == 0) = false) (hk3 : ¬ 3 < k) (hp3 : (p == 3) = false) (hp4 : ¬ 4 < p) (hp : passB k b.a b.r = false) (hp2 : (p != 2) = false) (hq4 : (p != 4) = true) (hh : hasB k = false) :
    Calls Try.prog 55 #[.int .u8 k, .int .u8 p, .int .u64 lba, .agg b.vals] w fun e w' => e = .returned (.int .u16 0) ∧ Below w.heap.size w w' := by
  obtain ⟨t0, t1, t2⟩ := cs_tup b hb
  have hdat := Kpt.mk (fun W B (hx : Bx W B b.vals) => c16_at W ⟨B, 0, none⟩ 16 b.d hb.len rfl hb.byte (bx_data b hb hx))
  obtain ⟨V, hV⟩ : ∃ V, V = b.vals := ⟨_, rfl⟩
  rw [← hV] at hdat t0 t1 t2 ⊢
  have hVs : V.size = 19 := by rw [hV]; exact Bk.size hb
  have hbx := Kpt.mk (bx_new w V 76)
  have hB0 := Kpt.mk ((Below.refl w.heap.size w).alloc (Nat.le_refl _) (.cells V 76))
  have KP := Kpt.mk (fun W => passed_any k b.g b.a b.r W)
  have KH := Kpt.mk (fun W => hasRef_any k W h0 h1)
  have hR3 := Kpt.mk (bx_tupG hbx.out hVs t0 t1 t2)
  obtain ⟨d, g, a, r⟩ := b
  simp only at *
  generalize (reg16 0 d : Int) = G at *
  rw [hp] at KP
  rw [hh] at KH
  clear hV hb h0 h1 p0 p1 hp hh
  go_enter Try.func55, Try.ntmps55
  go_wp2_with (first | (refine wpList_load_mid rfl 74 (.tmp 23) rfl w.heap.size 16 rfl [.int .u16 g, .int .u16 a, .int .u32 r] _ hR3.out Try.underlying74 rfl infoT ?_) | (go_at_call 72; go_must (refine (KP.out _).mono ?_; rintro e x1 ⟨rfl, hq⟩; have hX1 : Kpt (Bx x1 w.heap.size V) := ⟨hbx.out.below hq (by simp)⟩; have hx1 : Kpt (Below w.heap.size w x1) := ⟨hB0.out.trans (hq.mono (by simp <;> omega))⟩; clear hq)))
  refine wp_region_any (by kernel_rfl) ?_
  refine wpAny_of_C (C := fun W => Bx W w.heap.size V) _ _ _ _ ?_
  refine wpAnyC_take 0 (.int .u8 p) rfl (by kernel_rfl) (by kernel_rfl) (by kernel_rfl) (fun _ _ _ h => h) (wanted_free rfl _) (fun W hW => by go_simp) ?_
  try simp only [Act.put, List.getElem_toArray, List.getElem_cons_succ, List.getElem_cons_zero, List.setIfInBounds_toArray, List.set_cons_succ, List.set_cons_zero]
  refine wpAnyC_take 1 (.bool false) rfl (by kernel_rfl) (by kernel_rfl) (by kernel_rfl) (fun _ _ _ h => h) (wanted_free rfl _) (fun W hW => by go_simp) ?_
  try simp only [Act.put, List.getElem_toArray, List.getElem_cons_succ, List.getElem_cons_zero, List.setIfInBounds_toArray, List.set_cons_succ, List.set_cons_zero]
  refine wpAnyC_take 2 (.bool false) rfl (by kernel_rfl) (by kernel_rfl) (by kernel_rfl) (fun _ _ _ h => h) (wanted_free rfl _) (fun W hW => by go_simp) ?_
  try simp only [Act.put, List.getElem_toArray, List.getElem_cons_succ, List.getElem_cons_zero, List.setIfInBounds_toArray, List.set_cons_succ, List.set_cons_zero]
  refine wpAnyC_skip 3 rfl (by kernel_rfl) (by kernel_rfl) (by kernel_rfl) (fun _ _ _ h => h) (wanted_no true rfl rfl rfl rfl) ?_
  try simp only [Act.put, List.getElem_toArray, List.getElem_cons_succ, List.getElem_cons_zero, List.setIfInBounds_toArray, List.set_cons_succ, List.set_cons_zero]
  refine wpAnyC_skip 4 rfl (by kernel_rfl) (by kernel_rfl) (by kernel_rfl) (fun _ _ _ h => h) (wanted_no true rfl rfl rfl rfl) ?_
  try simp only [Act.put, List.getElem_toArray, List.getElem_cons_succ, List.getElem_cons_zero, List.setIfInBounds_toArray, List.set_cons_succ, List.set_cons_zero]
  refine wpAnyC_skip 5 rfl (by kernel_rfl) (by kernel_rfl) (by kernel_rfl) (fun _ _ _ h => h) (wanted_no true rfl rfl rfl rfl) ?_
  try simp only [Act.put, List.getElem_toArray, List.getElem_cons_succ, List.getElem_cons_zero, List.setIfInBounds_toArray, List.set_cons_succ, List.set_cons_zero]
  refine wpAnyC_skip 6 rfl (by kernel_rfl) (by kernel_rfl) (by kernel_rfl) (fun _ _ _ h => h) (wanted_no true rfl rfl rfl rfl) ?_
  try simp only [Act.put, List.getElem_toArray, List.getElem_cons_succ, List.getElem_cons_zero, List.setIfInBounds_toArray, List.set_cons_succ, List.set_cons_zero]
  refine wpAnyC_skip 7 rfl (by kernel_rfl) (by kernel_rfl) (by kernel_rfl) (fun _ _ _ h => h) (wanted_no true rfl rfl rfl rfl) ?_
  try simp only [Act.put, List.getElem_toArray, List.getElem_cons_succ, List.getElem_cons_zero, List.setIfInBounds_toArray, List.set_cons_succ, List.set_cons_zero]
  refine wpAnyC_skip 8 rfl (by kernel_rfl) (by kernel_rfl) (by kernel_rfl) (fun _ _ _ h => h) (wanted_no true rfl rfl rfl rfl) ?_
  try simp only [Act.put, List.getElem_toArray, List.getElem_cons_succ, List.getElem_cons_zero, List.setIfInBounds_toArray, List.set_cons_succ, List.set_cons_zero]
  refine wpAnyC_skip 9 rfl (by kernel_rfl) (by kernel_rfl) (by kernel_rfl) (fun _ _ _ h => h) (wanted_no true rfl rfl rfl rfl) ?_
  try simp only [Act.put, List.getElem_toArray, List.getElem_cons_succ, List.getElem_cons_zero, List.setIfInBounds_toArray, List.set_cons_succ, List.set_cons_zero]
  refine wpAnyC_take 10 (.bool false) rfl (by kernel_rfl) (by kernel_rfl) (by kernel_rfl) (fun _ _ _ h => h) (wanted_free rfl _) (fun W hW => by go_simp) ?_
  try simp only [Act.put, List.getElem_toArray, List.getElem_cons_succ, List.getElem_cons_zero, List.setIfInBounds_toArray, List.set_cons_succ, List.set_cons_zero]
  refine wpAnyC_take 11 (.bool false) rfl (by kernel_rfl) (by kernel_rfl) (by kernel_rfl) (fun _ _ _ h => h) (wanted_free rfl _) (fun W hW => by go_simp) ?_
  try simp only [Act.put, List.getElem_toArray, List.getElem_cons_succ, List.getElem_cons_zero, List.setIfInBounds_toArray, List.set_cons_succ, List.set_cons_zero]
  refine wpAnyC_done (hX1.out.drew) (by kernel_rfl) ?_
  have hY : Kpt (Below w.heap.size w x1.drew) := ⟨below_drewN hx1.out 1⟩
  have c18 : x1.cell? ⟨w.heap.size, 18, none⟩ = some (.int .u32 r) := (hX1.out.cells 18 (by omega)).trans t2
  go_wp2_with (go_at_call 74; go_must (refine (KH.out _).mono ?_; rintro e x3 ⟨rfl, rfl⟩))
  go_ret
  exact ⟨rfl, hY.out⟩

theorem check_any (k p lba : Int) (b : Bk) (w : World) (hb : b.ok) (h0 : 0 ≤ k) (h1 : k ≤ 255) (p0 : 0 ≤ p) (p1 : p ≤ 255) (l0 : 0 ≤ lba) (l1 : lba ≤ 18446744073709551615) :
    Calls Try.prog 55 #[.int .u8 k, .int .u8 p, .int .u64 lba, .agg b.vals] w fun e w' => e = .returned (.int .u16 (checkC k p lba b)) ∧ Below w.heap.size w w' := by
  by_cases c1 : k = 0
  · rw [show checkC k p lba b = 0 from by unfold checkC; rw [if_pos (by omega)]]
    exact check_1 k p lba b w hb h0 h1 p0 p1 l0 l1 (by simpa using c1)
  have d1 : (k == 0) = false := by simpa using c1
  by_cases c2 : 3 < k
  · rw [show checkC k p lba b = 0 from by unfold checkC; rw [if_pos (by omega)]]
    exact check_2 k p lba b w hb h0 h1 p0 p1 l0 l1 d1 c2
  by_cases c3 : p = 3
  · rw [show checkC k p lba b = 0 from by unfold checkC; rw [if_pos (by omega)]]
    exact check_3 k p lba b w hb h0 h1 p0 p1 l0 l1 d1 c2 (by simpa using c3)
  have d3 : (p == 3) = false := by simpa using c3
  by_cases c4 : 4 < p
  · rw [show checkC k p lba b = 0 from by unfold checkC; rw [if_pos (by omega)]]
    exact check_4 k p lba b w hb h0 h1 p0 p1 l0 l1 d1 c2 d3 c4
  have dA : ¬ (k < 1 ∨ 3 < k ∨ p = 3 ∨ 4 < p) := by omega
  cases c5 : passB k b.a b.r with
  | true =>
    rw [show checkC k p lba b = 0 from by unfold checkC; rw [if_neg dA, if_pos c5]]
    exact check_5 k p lba b w hb h0 h1 p0 p1 l0 l1 d1 c2 d3 c4 c5
  | false =>
    have dP : ¬ passB k b.a b.r = true := by simp [c5]
    by_cases c6 : p = 2
    · have d6 : (p != 2) = false := by simpa using c6
      have dG : ¬ (p ≠ 2 ∧ b.g ≠ (reg16 0 b.d : Int)) := fun h => h.1 c6
      have d7 : (p != 4) = true := by subst c6; rfl
      cases c7 : hasB k with
      | false =>
        rw [show checkC k p lba b = 0 from by unfold checkC; rw [if_neg dA, if_neg dP, if_neg dG, if_neg (by simp [c7])]]
        exact check_14 k p lba b w hb h0 h1 p0 p1 l0 l1 d1 c2 d3 c4 c5 d6 d7 c7
      | true =>
        by_cases c8 : b.r = lba % 4294967296
        · rw [show checkC k p lba b = 0 from by unfold checkC; rw [if_neg dA, if_neg dP, if_neg dG, if_neg (by simp [c8])]]
          exact check_13 k p lba b w hb h0 h1 p0 p1 l0 l1 d1 c2 d3 c4 c5 d6 d7 c7 (by simpa using c8)
        · rw [show checkC k p lba b = 4099 from by unfold checkC; rw [if_neg dA, if_neg dP, if_neg dG, if_pos ⟨by omega, c7, c8⟩]]
          exact check_12 k p lba b w hb h0 h1 p0 p1 l0 l1 d1 c2 d3 c4 c5 d6 d7 c7 (by simpa using c8)
    · have d6 : (p != 2) = true := by simpa using c6
      by_cases cg : b.g = (reg16 0 b.d : Int)
      · have dg : (b.g != (reg16 0 b.d : Int)) = false := by simpa using cg
        have dG : ¬ (p ≠ 2 ∧ b.g ≠ (reg16 0 b.d : Int)) := fun h => h.2 cg
        by_cases c9 : p = 4
        · rw [show checkC k p lba b = 0 from by unfold checkC; rw [if_neg dA, if_neg dP, if_neg dG, if_neg (by simp [c9])]]
          exact check_7 k p lba b w hb h0 h1 p0 p1 l0 l1 d1 c2 d3 c4 c5 d6 dg (by simpa using c9)
        have d7 : (p != 4) = true := by simpa using c9
        cases c7 : hasB k with
        | false =>
          rw [show checkC k p lba b = 0 from by unfold checkC; rw [if_neg dA, if_neg dP, if_neg dG, if_neg (by simp [c7])]]
          exact check_10 k p lba b w hb h0 h1 p0 p1 l0 l1 d1 c2 d3 c4 c5 d6 dg d7 c7
        | true =>
          by_cases c8 : b.r = lba % 4294967296
          · rw [show checkC k p lba b = 0 from by unfold checkC; rw [if_neg dA, if_neg dP, if_neg dG, if_neg (by simp [c8])]]
            exact check_9 k p lba b w hb h0 h1 p0 p1 l0 l1 d1 c2 d3 c4 c5 d6 dg d7 c7 (by simpa using c8)
          · rw [show checkC k p lba b = 4099 from by unfold checkC; rw [if_neg dA, if_neg dP, if_neg dG, if_pos ⟨c9, c7, c8⟩]]
            exact check_8 k p lba b w hb h0 h1 p0 p1 l0 l1 d1 c2 d3 c4 c5 d6 dg d7 c7 (by simpa using c8)
      · rw [show checkC k p lba b = 4097 from by unfold checkC; rw [if_neg dA, if_neg dP, if_pos ⟨c6, cg⟩]]
        exact check_6 k p lba b w hb h0 h1 p0 p1 l0 l1 d1 c2 d3 c4 c5 d6 (by simpa using cg)
end Go.Proofs.Ytklboieemljmiaa

namespace Go.Proofs.Ytklboieemljmiaa
open Go.RowKit
set_option linter.unusedVariables false
set_option linter.unusedSimpArgs false

theorem grown_trans {w w1 w2 : World} {r : Option Nat} (h1 : w.grownBy w1 r) (h2 : w1.grownBy w2 r) : w.grownBy w2 r :=
  ⟨h2.os.trans h1.os, h2.tape.trans h1.tape, h2.output.trans h1.output, Nat.le_trans h1.size h2.size, fun j hj hk => (h2.block j (Nat.lt_of_lt_of_le hj h1.size) hk).trans (h1.block j hj hk)⟩
theorem grown_alloc (w : World) (o : Obj) (r : Option Nat) : w.grownBy (w.alloc o) r := ⟨rfl, rfl, rfl, by simp, fun j hj _ => Below.heap_alloc w o j hj⟩
theorem Below.by {w w1 w2 : World} {n : Nat} {r : Option Nat} (h : Below n w w1) (hg : w1.grownBy w2 r) (hn : n ≤ w1.heap.size) (hr : ∀ q, r = some q → n ≤ q) : Below n w w2 := h.grown hg hn (fun q hq => hr q hq)
theorem rangeAt_keepG {w w' : World} {b o : Nat} {cs : List Value} (h : w.rangeAt b o cs) (hb : w'.heap[b]? = w.heap[b]?) : w'.rangeAt b o cs :=
  fun j v hv => (World.cell?_of_block (w := w) (a := ⟨b, o + j, none⟩) hb).trans (h j v hv)
theorem bx_rd {W : World} {B : Nat} (b : Bk) (h : b.ok) (hx : Bx W B b.vals) : RdAt W (.slice (some ⟨B, 0, none⟩) 16 16) b.d := by
  refine ⟨some ⟨B, 0, none⟩, 16, by rw [h.len], (fun e => by cases e), by rw [h.len]; exact Nat.le_refl _, .inr ⟨B, 0, rfl, fun j u hu => ?_⟩⟩
  have hj : j < 16 := by have := (List.getElem?_eq_some_iff.1 hu).1; simpa [h.len] using this
  rw [Nat.zero_add, hx.cells j (by rw [Bk.size h]; omega), vals_data b h j hj, ← hu]
  unfold cels
  rw [List.getElem?_map, List.getElem?_eq_getElem (by rw [h.len]; exact hj), List.getD_eq_getElem?_getD, List.getElem?_eq_getElem (by rw [h.len]; exact hj)]
  rfl

/-- A tuple's bytes. -/
def tupL (g a r : Int) : List Int := [g / 256, g % 256, a / 256, a % 256, r / 16777216, r / 65536 % 256, r / 256 % 256, r % 256]
/-- A block's bytes. -/
def pkL (c : Bool) (b : Bk) : List Int := b.d ++ if c = true then tupL b.g b.a b.r else []
def packL (c : Bool) (bs : List Bk) : List Int := (bs.map (pkL c)).flatten
def sz (c : Bool) : Nat := if c = true then 24 else 16
theorem pkL_len (c : Bool) (b : Bk) (h : b.ok) : (pkL c b).length = sz c := by cases c <;> simp [pkL, sz, tupL, h.len]
theorem packL_snoc (c : Bool) (bs : List Bk) (k : Nat) (b : Bk) (h : bs[k]? = some b) : packL c (bs.take (k + 1)) = packL c (bs.take k) ++ pkL c b := by
  obtain ⟨hk, e⟩ := List.getElem?_eq_some_iff.1 h
  rw [List.take_succ_eq_append_getElem hk, e]
  simp [packL]
theorem packL_len (c : Bool) (bs : List Bk) (h : ∀ b ∈ bs, b.ok) : (packL c bs).length = bs.length * sz c := by
  induction bs with
  | nil => simp [packL]
  | cons b bs ih =>
    have h1 := pkL_len c b (h b (by simp))
    have h2 := ih (fun x hx => h x (by simp [hx]))
    simp only [packL, List.map_cons, List.flatten_cons, List.length_append, List.length_cons] at *
    rw [h1, h2, Nat.add_mul]
    omega

theorem size_any (c : Bool) (w : World) : Calls Try.prog 38 #[.bool c] w fun e w' => e = .returned (.int .i64 (sz c : Int)) ∧ w' = w := by
  cases c <;>
  · go_enter Try.func38, Try.ntmps38
    go_wp2
    go_ret
    exact ⟨rfl, rfl⟩

set_option maxRecDepth 100000 in
set_option maxHeartbeats 1000000 in
theorem appendTuple_any (base g m cap : Nat) (zs : List Int) (x a r : Int) (w : World) (hown : w.ownsRow base 5 1 (.slice (some ⟨g, 0, none⟩) m cap) m (cels zs)) (hb : base ≤ w.heap.size) (hlen : m + 8 ≤ 140737488355328)
    (hx : 0 ≤ x ∧ x ≤ 65535) (ha : 0 ≤ a ∧ a ≤ 65535) (hr : 0 ≤ r ∧ r ≤ 4294967295) :
    Calls Try.prog 39 #[.slice (some ⟨g, 0, none⟩) m cap, .agg #[.int .u16 x, .int .u16 a, .int .u32 r]] w fun e w' => ∃ g' cap', e = .returned (.slice (some ⟨g', 0, none⟩) (m + 8) cap') ∧
      w'.ownsRow base 5 1 (.slice (some ⟨g', 0, none⟩) (m + 8) cap') (m + 8) (cels (zs ++ tupL x a r)) ∧ w.grownBy w' (some g) := by
  have hzl : zs.length = m := by have := hown.1; simpa using this
  have hgl := World.ownsRow.lt hown g rfl
  obtain ⟨W, hW⟩ : ∃ W, W = (w.alloc (.cells #[.int .u16 x, .int .u16 a, .int .u32 r] 74)) := ⟨_, rfl⟩
  have hWs : w.heap.size + 1 = W.heap.size := by rw [hW]; simp
  have hrd : Kpt (RdAt (W.alloc (.cells (cels (tupL x a r)).toArray 5)) (.slice (some ⟨w.heap.size + 1, 0, none⟩) 8 8) (tupL x a r)) := ⟨own_rd (own_alloc W (w.heap.size + 1) 8 0 (tupL x a r) hWs rfl (by decide) (Nat.zero_le _))⟩
  have ho2 : Kpt ((W.alloc (.cells (cels (tupL x a r)).toArray 5)).ownsRow base 5 1 (.slice (some ⟨g, 0, none⟩) m cap) m (cels zs)) := ⟨own_of_block hown (fun q hq => by cases hq; show (W.alloc _).heap[g]? = w.heap[g]?; rw [Below.heap_alloc _ _ g (by omega), hW, Below.heap_alloc _ _ g hgl.2])⟩
  have hgr : Kpt (w.grownBy (W.alloc (.cells (cels (tupL x a r)).toArray 5)) (some g)) := ⟨by rw [hW]; exact grown_trans (grown_alloc _ _ _) (grown_alloc _ _ _)⟩
  have hbW : base ≤ (W.alloc (.cells (cels (tupL x a r)).toArray 5)).heap.size := by simp; omega
  rw [hW] at hrd ho2 hgr hbW
  replace hzl := Kpt.mk hzl
  replace hbW := Kpt.mk hbW
  simp only [tupL, cels, List.map_cons, List.map_nil] at hrd ho2 hgr hbW
  clear hW hWs hown hgl
  go_enter Try.func39, Try.ntmps39
  go_wp2_with (at_builtin; go_must (refine wpList_append_new rfl (.tmp 5) (.tmp 35) rfl base _ _ zs (tupL x a r) m (m + 8) rfl rfl ho2.out hrd.out (by simp [tupL]) hzl.out rfl hlen hbW.out ?_; intro g4 k4 w4 ho4 hl4 hg4))
  go_ret
  exact ⟨g4, k4, rfl, ho4.out, grown_trans hgr.out hg4.out⟩

set_option maxRecDepth 100000 in
set_option maxHeartbeats 2000000 in
theorem pack_true (a : Option Addr) (n cp : Nat) (bs : List Bk) (w : World) (hbs : Bks w (.slice a n cp) bs) (hl : bs.length = n) (hn : n * 24 ≤ 140737488355328) :
    Calls Try.prog 26 #[.slice a n cp, .bool true] w fun e w' => ∃ g cap, e = .returned (.slice (some ⟨g, 0, none⟩) (n * 24) cap) ∧ w'.ownsRow w.heap.size 5 1 (.slice (some ⟨g, 0, none⟩) (n * 24) cap) (n * 24) (cels (packL true bs)) ∧ Below w.heap.size w w' := by
  obtain ⟨i0, hi0, hz0, hz1, hz2⟩ := info_parts Try.info5
  have hbk : ∀ j, j < n → ∃ b, bs[j]? = some b ∧ b.ok ∧ ∃ g o, a = some ⟨g, o, none⟩ ∧ g < w.heap.size ∧ w.rangeAt g (o + j * 19) b.cs := fun j hj => by
    obtain ⟨a', c', e, _, h⟩ := hbs
    have hj' : j < bs.length := by omega
    obtain ⟨h1, g, o, h2, h3, h4⟩ := h j bs[j] (List.getElem?_eq_getElem hj')
    simp only [Value.slice.injEq] at e
    exact ⟨bs[j], List.getElem?_eq_getElem hj', h1, g, o, e.1.trans h2, h3, h4⟩
  replace hbk := Kpt.mk hbk
  have hall : Kpt (∀ b ∈ bs, b.ok) := ⟨fun b hb => by
    obtain ⟨j, hj, rfl⟩ := List.getElem_of_mem hb
    obtain ⟨b', h1, h2, _⟩ := hbk.out j (by omega)
    rw [List.getElem?_eq_getElem hj] at h1
    cases h1
    exact h2⟩
  replace hl := Kpt.mk hl
  clear hbs
  have vm : IntKind.i64.wrap ((n : Int) * 24) = (n : Int) * 24 := by rw [IntKind.wrap_i64]; omega
  have hnn : (0 : Int) ≤ (n : Int) * 24 := by omega
  have hnb : (n : Int) * 24 ≤ 140737488355328 := by omega
  have KS : Kpt (∀ W, Calls Try.prog 38 #[.bool true] W fun e w' => e = .returned (.int .i64 24) ∧ w' = W) := ⟨fun W => size_any true W⟩
  go_enter Try.func26, Try.ntmps26
  go_wp2_with (first | (go_at_call 38; go_must (refine (KS.out _).mono ?_; rintro e w' ⟨rfl, rfl⟩)) | (at_make; go_must (refine wpList_make_own _ rfl _ _ 22 rfl w'.heap.size 5 i0 (.int .u8 0) 1 Try.underlying22 hi0 hz0 hz1 .i64 .i64 _ (n * 24) rfl rfl (by omega) (by rw [hz2]; omega) (by unfold maxLen; omega) (Nat.le_refl _) ?_; intro w1 hown1 hg1; replace hown1 := Kpt.mk hown1; have hb1 : Kpt (Below w'.heap.size w' w1) := ⟨(Below.refl _ _).grown hg1 (Nat.le_refl _) (fun k h => by cases h)⟩; clear hg1)))
  go_loopw [5, 16] (fun s t wr => ∃ k g cap : Nat, k ≤ n ∧ s = .slice (some ⟨g, 0, none⟩) (k * 24) cap ∧ t = .int .i64 k ∧ Kpt (wr.ownsRow w'.heap.size 5 1 (.slice (some ⟨g, 0, none⟩) (k * 24) cap) (k * 24) (cels (packL true (bs.take k)))) ∧ Kpt (Below w'.heap.size w' wr)) (fun _ t _ => n - (intOf t).toNat)
  case atStart => exact ⟨0, _, _, Nat.zero_le _, rfl, rfl, hown1, hb1⟩
  case round =>
    obtain ⟨k, g, cap, hk, rfl, rfl, ho, hB⟩ := hrel
    clear hown1 hb1
    by_cases hlt : k < n
    · obtain ⟨b, hbe, hok, g1, o1, rfl, hg1, hr1⟩ := hbk.out k hlt
      have e1 : (k : Int) < n := by omega
      have hr : Kpt (wr.rangeAt g1 (o1 + k * 19) b.cs) := ⟨rangeAt_keepG hr1 (hB.out.block g1 hg1)⟩
      have hgl := World.ownsRow.lt ho.out g rfl
      have hin1 := Kpt.mk (show (Try.prog.info? 76).map (·.size) = some b.cs.length by rw [cs_len b hok]; exact infoB)
      have hin2 := Kpt.mk (show (Try.prog.info? 76).map (·.size) = some b.vals.size by rw [Bk.size hok]; exact infoB)
      have hs19 := Kpt.mk (Bk.size hok)
      have hone := Kpt.mk (Bk.one b)
      have hrdx := Kpt.mk (fun W B h => bx_rd (W := W) (B := B) b hok h)
      have htup := Kpt.mk (fun W B (h : Bx W B b.vals) => bx_tupG h (Bk.size hok) (cs_tup b hok).1 (cs_tup b hok).2.1 (cs_tup b hok).2.2)
      have hnext : Kpt (packL true (bs.take (k + 1)) = packL true (bs.take k) ++ b.d ++ tupL b.g b.a b.r) := ⟨by rw [packL_snoc true bs k b hbe]; simp [pkL]⟩
      have hlk : Kpt ((packL true (bs.take k)).length = k * 24) := ⟨by rw [packL_len true _ (fun x hx => hall.out x (List.mem_of_mem_take hx))]; simp [sz, hl.out]; omega⟩
      have bg := hok.g
      have ba := hok.a
      have br := hok.r
      have hdl := Kpt.mk hok.len
      obtain ⟨V, hV⟩ : ∃ V, V = b.vals := ⟨_, rfl⟩
      have hVc : b.cs.toArray = V := hV.symm
      rw [← hV] at hin2 hs19 hone hrdx htup
      obtain ⟨Q, hQ⟩ : ∃ Q, Q = packL true (bs.take k) := ⟨_, rfl⟩
      rw [← hQ] at hlk hnext ho
      have hsz0 : w'.heap.size ≤ wr.heap.size := hB.out.size
      have hM : k * 24 + 24 = (k + 1) * 24 := by omega
      have hMb : k * 24 + 24 ≤ 140737488355328 := by omega
      obtain ⟨M, hMe⟩ : ∃ M, M = k * 24 := ⟨_, rfl⟩
      rw [← hMe] at hlk ho hM hMb ⊢
      replace hM := Kpt.mk hM
      clear hV hQ hMe hr1 hbe hok hg1
      go_wp2_with (first | (go_at_call 39; go_must (refine (appendTuple_any w'.heap.size g2 (M + 16) k2 (Q ++ b.d) b.g b.a b.r _ ho2.out (hx2.out.size) (by omega) bg ba br).mono ?_; rintro e x3 ⟨g3, k3, rfl, ho3, hg3⟩; have hx3 : Kpt (Below w'.heap.size w' x3) := ⟨hx2.out.grown hg3 hx2.out.size (fun q hq => by cases hq; exact hl2.out.1)⟩; replace ho3 := Kpt.mk ho3; clear hg3)) | (refine (?_ : wpList _ _ _ (Oper.mk (some 27) (Op.load 74 (.tmp 26)) _ _ _ _ :: _) _ _); go_must (refine wpList_load_mid rfl 74 (.tmp 26) rfl wr.heap.size 16 rfl [.int .u16 b.g, .int .u16 b.a, .int .u32 b.r] _ (htup.out _ _ hX2.out) Try.underlying74 rfl infoT ?_)) | (at_builtin; go_must (refine wpList_append_new rfl (.tmp 20) (.tmp 22) rfl w'.heap.size _ _ Q b.d M (M + 16) rfl rfl ho1.out (hrdx.out _ _ hX1.out) (by rw [hdl.out]; decide) hlk.out (by rw [hdl.out]) (by omega) hx1.out.size ?_; intro g2 k2 x2 ho2 hl2 hg2; have hx2 : Kpt (Below w'.heap.size w' x2) := ⟨hx1.out.grown hg2.out hx1.out.size (fun q hq => by cases hq; exact hgl.1)⟩; have hX2 : Kpt (Bx x2 wr.heap.size V) := ⟨hX1.out.grown hg2.out (fun (e : some g = some wr.heap.size) => by injection e with e; omega)⟩; clear hg2 ho1 hX1 hx1)) | (refine (?_ : wpList _ _ _ (Oper.mk none (Op.store 76 (.tmp 7) (.tmp 19)) _ _ _ _ :: _) _ _); go_must (refine wpList_store_bx rfl 76 (.tmp 7) (.tmp 19) rfl wr.heap.size #[.int .u8 0, .int .u8 0, .int .u8 0, .int .u8 0, .int .u8 0, .int .u8 0, .int .u8 0, .int .u8 0, .int .u8 0, .int .u8 0, .int .u8 0, .int .u8 0, .int .u8 0, .int .u8 0, .int .u8 0, .int .u8 0, .int .u16 0, .int .u16 0, .int .u32 0] V rfl rfl (bx_new wr _ 76) (by rw [hs19.out]; rfl) hin2.out hone.out rfl ?_; intro x1 hX1 hg1; have hx1 : Kpt (Below w'.heap.size w' x1) := ⟨(hB.out.alloc hsz0 _).grown hg1 (by simp; omega) (fun q hq => by cases hq; exact hsz0)⟩; have ho1 : Kpt (x1.ownsRow w'.heap.size 5 1 (.slice (some ⟨g, 0, none⟩) M cap) M (cels Q)) := ⟨own_of_block ho.out (fun q hq => by cases hq; rw [hg1.block g (by simp; omega) (fun (e : some g = some wr.heap.size) => by injection e with e; omega), Below.heap_alloc _ _ _ hgl.2])⟩; replace hX1 := Kpt.mk hX1; clear hg1 ho hB)) | (refine (?_ : wpList _ _ _ (Oper.mk (some 19) (Op.load 76 (.tmp 18)) _ _ _ _ :: _) _ _); go_must (refine wpList_load_mid rfl 76 (.tmp 18) rfl g1 (o1 + k * 19) rfl b.cs _ hr.out Try.underlying76 rfl hin1.out ?_)))
      go_roundw
      case rel => exact ⟨k + 1, g3, k3, by omega, by rw [← hM.out], by go_num, ⟨by rw [← hM.out, hnext.out]; exact ho3.out⟩, hx3⟩
      case measure => simp [intOf]; omega
    · have e1 : ¬ (k : Int) < n := by omega
      obtain rfl : k = n := by omega
      go_wp2
      go_ret
      exact ⟨g, cap, rfl, by have := ho.out; rw [List.take_of_length_le (by rw [hl.out]; exact Nat.le_refl _)] at this; exact this, hB.out⟩

set_option maxRecDepth 100000 in
set_option maxHeartbeats 2000000 in
theorem pack_false (a : Option Addr) (n cp : Nat) (bs : List Bk) (w : World) (hbs : Bks w (.slice a n cp) bs) (hl : bs.length = n) (hn : n * 24 ≤ 140737488355328) :
    Calls Try.prog 26 #[.slice a n cp, .bool false] w fun e w' => ∃ g cap, e = .returned (.slice (some ⟨g, 0, none⟩) (n * 16) cap) ∧ w'.ownsRow w.heap.size 5 1 (.slice (some ⟨g, 0, none⟩) (n * 16) cap) (n * 16) (cels (packL false bs)) ∧ Below w.heap.size w w' := by
  obtain ⟨i0, hi0, hz0, hz1, hz2⟩ := info_parts Try.info5
  have hbk : ∀ j, j < n → ∃ b, bs[j]? = some b ∧ b.ok ∧ ∃ g o, a = some ⟨g, o, none⟩ ∧ g < w.heap.size ∧ w.rangeAt g (o + j * 19) b.cs := fun j hj => by
    obtain ⟨a', c', e, _, h⟩ := hbs
    have hj' : j < bs.length := by omega
    obtain ⟨h1, g, o, h2, h3, h4⟩ := h j bs[j] (List.getElem?_eq_getElem hj')
    simp only [Value.slice.injEq] at e
    exact ⟨bs[j], List.getElem?_eq_getElem hj', h1, g, o, e.1.trans h2, h3, h4⟩
  replace hbk := Kpt.mk hbk
  have hall : Kpt (∀ b ∈ bs, b.ok) := ⟨fun b hb => by
    obtain ⟨j, hj, rfl⟩ := List.getElem_of_mem hb
    obtain ⟨b', h1, h2, _⟩ := hbk.out j (by omega)
    rw [List.getElem?_eq_getElem hj] at h1
    cases h1
    exact h2⟩
  replace hl := Kpt.mk hl
  clear hbs
  have vm : IntKind.i64.wrap ((n : Int) * 16) = (n : Int) * 16 := by rw [IntKind.wrap_i64]; omega
  have hnn : (0 : Int) ≤ (n : Int) * 16 := by omega
  have hnb : (n : Int) * 16 ≤ 140737488355328 := by omega
  have KS : Kpt (∀ W, Calls Try.prog 38 #[.bool false] W fun e w' => e = .returned (.int .i64 16) ∧ w' = W) := ⟨fun W => size_any false W⟩
  go_enter Try.func26, Try.ntmps26
  go_wp2_with (first | (go_at_call 38; go_must (refine (KS.out _).mono ?_; rintro e w' ⟨rfl, rfl⟩)) | (at_make; go_must (refine wpList_make_own _ rfl _ _ 22 rfl w'.heap.size 5 i0 (.int .u8 0) 1 Try.underlying22 hi0 hz0 hz1 .i64 .i64 _ (n * 16) rfl rfl (by omega) (by rw [hz2]; omega) (by unfold maxLen; omega) (Nat.le_refl _) ?_; intro w1 hown1 hg1; replace hown1 := Kpt.mk hown1; have hb1 : Kpt (Below w'.heap.size w' w1) := ⟨(Below.refl _ _).grown hg1 (Nat.le_refl _) (fun k h => by cases h)⟩; clear hg1)))
  go_loopw [5, 16] (fun s t wr => ∃ k g cap : Nat, k ≤ n ∧ s = .slice (some ⟨g, 0, none⟩) (k * 16) cap ∧ t = .int .i64 k ∧ Kpt (wr.ownsRow w'.heap.size 5 1 (.slice (some ⟨g, 0, none⟩) (k * 16) cap) (k * 16) (cels (packL false (bs.take k)))) ∧ Kpt (Below w'.heap.size w' wr)) (fun _ t _ => n - (intOf t).toNat)
  case atStart => exact ⟨0, _, _, Nat.zero_le _, rfl, rfl, hown1, hb1⟩
  case round =>
    obtain ⟨k, g, cap, hk, rfl, rfl, ho, hB⟩ := hrel
    clear hown1 hb1
    by_cases hlt : k < n
    · obtain ⟨b, hbe, hok, g1, o1, rfl, hg1, hr1⟩ := hbk.out k hlt
      have e1 : (k : Int) < n := by omega
      have hr : Kpt (wr.rangeAt g1 (o1 + k * 19) b.cs) := ⟨rangeAt_keepG hr1 (hB.out.block g1 hg1)⟩
      have hgl := World.ownsRow.lt ho.out g rfl
      have hin1 := Kpt.mk (show (Try.prog.info? 76).map (·.size) = some b.cs.length by rw [cs_len b hok]; exact infoB)
      have hin2 := Kpt.mk (show (Try.prog.info? 76).map (·.size) = some b.vals.size by rw [Bk.size hok]; exact infoB)
      have hs19 := Kpt.mk (Bk.size hok)
      have hone := Kpt.mk (Bk.one b)
      have hrdx := Kpt.mk (fun W B h => bx_rd (W := W) (B := B) b hok h)
      have htup := Kpt.mk (fun W B (h : Bx W B b.vals) => bx_tupG h (Bk.size hok) (cs_tup b hok).1 (cs_tup b hok).2.1 (cs_tup b hok).2.2)
      have hnext : Kpt (packL false (bs.take (k + 1)) = packL false (bs.take k) ++ b.d) := ⟨by rw [packL_snoc false bs k b hbe]; simp [pkL]⟩
      have hlk : Kpt ((packL false (bs.take k)).length = k * 16) := ⟨by rw [packL_len false _ (fun x hx => hall.out x (List.mem_of_mem_take hx))]; simp [sz, hl.out]; omega⟩
      have bg := hok.g
      have ba := hok.a
      have br := hok.r
      have hdl := Kpt.mk hok.len
      obtain ⟨V, hV⟩ : ∃ V, V = b.vals := ⟨_, rfl⟩
      have hVc : b.cs.toArray = V := hV.symm
      rw [← hV] at hin2 hs19 hone hrdx htup
      obtain ⟨Q, hQ⟩ : ∃ Q, Q = packL false (bs.take k) := ⟨_, rfl⟩
      rw [← hQ] at hlk hnext ho
      have hsz0 : w'.heap.size ≤ wr.heap.size := hB.out.size
      have hM : k * 16 + 16 = (k + 1) * 16 := by omega
      have hMb : k * 16 + 24 ≤ 140737488355328 := by omega
      obtain ⟨M, hMe⟩ : ∃ M, M = k * 16 := ⟨_, rfl⟩
      rw [← hMe] at hlk ho hM hMb ⊢
      replace hM := Kpt.mk hM
      clear hV hQ hMe hr1 hbe hok hg1
      go_wp2_with (first | (at_builtin; go_must (refine wpList_append_new rfl (.tmp 20) (.tmp 22) rfl w'.heap.size _ _ Q b.d M (M + 16) rfl rfl ho1.out (hrdx.out _ _ hX1.out) (by rw [hdl.out]; decide) hlk.out (by rw [hdl.out]) (by omega) hx1.out.size ?_; intro g2 k2 x2 ho2 hl2 hg2; have hx2 : Kpt (Below w'.heap.size w' x2) := ⟨hx1.out.grown hg2.out hx1.out.size (fun q hq => by cases hq; exact hgl.1)⟩; have hX2 : Kpt (Bx x2 wr.heap.size V) := ⟨hX1.out.grown hg2.out (fun (e : some g = some wr.heap.size) => by injection e with e; omega)⟩; clear hg2 ho1 hX1 hx1)) | (refine (?_ : wpList _ _ _ (Oper.mk none (Op.store 76 (.tmp 7) (.tmp 19)) _ _ _ _ :: _) _ _); go_must (refine wpList_store_bx rfl 76 (.tmp 7) (.tmp 19) rfl wr.heap.size #[.int .u8 0, .int .u8 0, .int .u8 0, .int .u8 0, .int .u8 0, .int .u8 0, .int .u8 0, .int .u8 0, .int .u8 0, .int .u8 0, .int .u8 0, .int .u8 0, .int .u8 0, .int .u8 0, .int .u8 0, .int .u8 0, .int .u16 0, .int .u16 0, .int .u32 0] V rfl rfl (bx_new wr _ 76) (by rw [hs19.out]; rfl) hin2.out hone.out rfl ?_; intro x1 hX1 hg1; have hx1 : Kpt (Below w'.heap.size w' x1) := ⟨(hB.out.alloc hsz0 _).grown hg1 (by simp; omega) (fun q hq => by cases hq; exact hsz0)⟩; have ho1 : Kpt (x1.ownsRow w'.heap.size 5 1 (.slice (some ⟨g, 0, none⟩) M cap) M (cels Q)) := ⟨own_of_block ho.out (fun q hq => by cases hq; rw [hg1.block g (by simp; omega) (fun (e : some g = some wr.heap.size) => by injection e with e; omega), Below.heap_alloc _ _ _ hgl.2])⟩; replace hX1 := Kpt.mk hX1; clear hg1 ho hB)) | (refine (?_ : wpList _ _ _ (Oper.mk (some 19) (Op.load 76 (.tmp 18)) _ _ _ _ :: _) _ _); go_must (refine wpList_load_mid rfl 76 (.tmp 18) rfl g1 (o1 + k * 19) rfl b.cs _ hr.out Try.underlying76 rfl hin1.out ?_)))
      go_roundw
      case rel => exact ⟨k + 1, g2, k2, by omega, by rw [← hM.out], by go_num, ⟨by rw [← hM.out, hnext.out]; exact ho2.out⟩, hx2⟩
      case measure => simp [intOf]; omega
    · have e1 : ¬ (k : Int) < n := by omega
      obtain rfl : k = n := by omega
      go_wp2
      go_ret
      exact ⟨g, cap, rfl, by have := ho.out; rw [List.take_of_length_le (by rw [hl.out]; exact Nat.le_refl _)] at this; exact this, hB.out⟩
def knownB (k p : Int) : Bool := decide (k ≤ 3 ∧ (p = 0 ∨ (k ≠ 0 ∧ p ≤ 4)))
theorem known_any (k p : Int) (w : World) (h0 : 0 ≤ k) (p0 : 0 ≤ p) :
    Calls Try.prog 32 #[.int .u8 k, .int .u8 p] w fun e w' => e = .returned (.bool (knownB k p)) ∧ w' = w := by
  have hc : (¬ k ≤ 3) ∨ (k ≤ 3 ∧ p = 0) ∨ (k ≤ 3 ∧ p ≠ 0 ∧ k = 0) ∨ (k ≤ 3 ∧ p ≠ 0 ∧ k ≠ 0 ∧ p ≤ 4) ∨ (k ≤ 3 ∧ p ≠ 0 ∧ k ≠ 0 ∧ ¬ p ≤ 4) := by omega
  rcases hc with h | ⟨h1, h2⟩ | ⟨h1, h2, h3⟩ | ⟨h1, h2, h3, h4⟩ | ⟨h1, h2, h3, h4⟩
  · have e : knownB k p = false := by unfold knownB; rw [decide_eq_false (by omega)]
    rw [e]; clear e
    go_enter Try.func32, Try.ntmps32
    go_wp2
    go_ret
    exact ⟨rfl, rfl⟩
  · subst h2
    have e : knownB k 0 = true := by unfold knownB; rw [decide_eq_true (by omega)]
    rw [e]; clear e
    go_enter Try.func32, Try.ntmps32
    go_wp2
    go_ret
    exact ⟨rfl, rfl⟩
  · subst h3
    have e : knownB 0 p = false := by unfold knownB; rw [decide_eq_false (by omega)]
    have e2 : (p == 0) = false := by simpa using h2
    rw [e]; clear e h2
    go_enter Try.func32, Try.ntmps32
    go_wp2
    go_ret
    exact ⟨rfl, rfl⟩
  · have e : knownB k p = true := by unfold knownB; rw [decide_eq_true (by omega)]
    have e2 : (p == 0) = false := by simpa using h2
    have e3 : (k != 0) = true := by simpa using h3
    rw [e]; clear e h2 h3
    go_enter Try.func32, Try.ntmps32
    go_wp2
    go_ret
    exact ⟨rfl, rfl⟩
  · have e : knownB k p = false := by unfold knownB; rw [decide_eq_false (by omega)]
    have e2 : (p == 0) = false := by simpa using h2
    have e3 : (k != 0) = true := by simpa using h3
    rw [e]; clear e h2 h3
    go_enter Try.func32, Try.ntmps32
    go_wp2
    go_ret
    exact ⟨rfl, rfl⟩
end Go.Proofs.Ytklboieemljmiaa

namespace Go.Proofs.Ytklboieemljmiaa
open Go.RowKit
set_option linter.unusedVariables false
set_option linter.unusedSimpArgs false
theorem tup_one (g a r : Int) : (tupV g a r).all (·.oneCell') = true := by simp [tupV, Value.oneCell']


theorem or_mul (a b k : Nat) (hb : b < 2 ^ k) : a * 2 ^ k ||| b = a * 2 ^ k + b := by
  have := Nat.shiftLeft_add_eq_or_of_lt hb a
  rw [Nat.shiftLeft_eq] at this
  exact this.symm
theorem or16 (a b : Int) (ha : 0 ≤ a ∧ a ≤ 255) (hb : 0 ≤ b ∧ b ≤ 255) : bits BinOp.or IntKind.u16 (a * 256) b = a * 256 + b := by
  obtain ⟨x, rfl⟩ := Int.eq_ofNat_of_zero_le ha.1
  obtain ⟨y, rfl⟩ := Int.eq_ofNat_of_zero_le hb.1
  have h := u16_or_nat (x * 256) y (by omega) (by omega)
  have e := or_mul x y 8 (by omega)
  rw [show (2 : Nat) ^ 8 = 256 from rfl] at e
  rw [e] at h
  rw [show ((x : Int) * 256) = ((x * 256 : Nat) : Int) by omega, h]
  omega
theorem or32 (a b k : Int) (n : Nat) (hk : k = 2 ^ n) (ha : 0 ≤ a) (hb : 0 ≤ b ∧ b < k) (hs : a * k + b < 4294967296) : bits BinOp.or IntKind.u32 (a * k) b = a * k + b := by
  subst hk
  obtain ⟨x, rfl⟩ := Int.eq_ofNat_of_zero_le ha
  obtain ⟨y, rfl⟩ := Int.eq_ofNat_of_zero_le hb.1
  have ep : ((2 : Int) ^ n) = ((2 ^ n : Nat) : Int) := by rw [Int.natCast_pow]; rfl
  rw [ep] at hb hs ⊢
  generalize hN : 2 ^ n = N at *
  have em : (x : Int) * (N : Int) = ((x * N : Nat) : Int) := by rw [Int.natCast_mul]
  rw [em] at hs ⊢
  have hy : y < N := by omega
  have h := u32_or_nat (x * N) y (by omega) (by omega)
  have e := or_mul x y n (by rw [hN]; exact hy)
  rw [hN] at e
  rw [h, e]
  omega

set_option maxRecDepth 100000 in
set_option maxHeartbeats 4000000 in
theorem readTuple_any (b off n c : Nat) (t0 t1 t2 t3 t4 t5 t6 t7 : Int) (w : World) (hn : 8 ≤ n) (hb : b < w.heap.size)
    (h0 : 0 ≤ t0 ∧ t0 ≤ 255) (h1 : 0 ≤ t1 ∧ t1 ≤ 255) (h2 : 0 ≤ t2 ∧ t2 ≤ 255) (h3 : 0 ≤ t3 ∧ t3 ≤ 255) (h4 : 0 ≤ t4 ∧ t4 ≤ 255) (h5 : 0 ≤ t5 ∧ t5 ≤ 255) (h6 : 0 ≤ t6 ∧ t6 ≤ 255) (h7 : 0 ≤ t7 ∧ t7 ≤ 255)
    (hc : ∀ j u, (cels [t0, t1, t2, t3, t4, t5, t6, t7])[j]? = some u → w.cell? ⟨b, off + j, none⟩ = some u) :
    Calls Try.prog 90 #[.slice (some ⟨b, off, none⟩) n c] w fun e w' => e = .returned (.agg (tupV (t0 * 256 + t1) (t2 * 256 + t3) (t4 * 16777216 + t5 * 65536 + t6 * 256 + t7))) ∧ Below w.heap.size w w' := by
  have c0 := hc 0 _ rfl
  have c1 := hc 1 _ rfl
  have c2 := hc 2 _ rfl
  have c3 := hc 3 _ rfl
  have c4 := hc 4 _ rfl
  have c5 := hc 5 _ rfl
  have c6 := hc 6 _ rfl
  have c7 := hc 7 _ rfl
  simp only [Nat.add_zero] at c0
  have o1 := or16 t0 t1 h0 h1
  have o2 := or16 t2 t3 h2 h3
  have o3 : bits BinOp.or IntKind.u32 (t4 * 16777216) (t5 * 65536) = t4 * 16777216 + t5 * 65536 := or32 t4 (t5 * 65536) 16777216 24 (by decide) h4.1 (by omega) (by omega)
  have o4 : bits BinOp.or IntKind.u32 (t4 * 16777216 + t5 * 65536) (t6 * 256) = t4 * 16777216 + t5 * 65536 + t6 * 256 := by
    have := or32 (t4 * 256 + t5) (t6 * 256) 65536 16 (by decide) (by omega) (by omega) (by omega)
    rw [show (t4 * 256 + t5) * 65536 = t4 * 16777216 + t5 * 65536 by omega] at this
    exact this
  have o5 : bits BinOp.or IntKind.u32 (t4 * 16777216 + t5 * 65536 + t6 * 256) t7 = t4 * 16777216 + t5 * 65536 + t6 * 256 + t7 := by
    have := or32 (t4 * 65536 + t5 * 256 + t6) t7 256 8 (by decide) (by omega) (by omega) (by omega)
    rw [show (t4 * 65536 + t5 * 256 + t6) * 256 = t4 * 16777216 + t5 * 65536 + t6 * 256 by omega] at this
    exact this
  have hbx := Kpt.mk (bx_new w #[.int .u16 0, .int .u16 0, .int .u32 0] 74)
  have hcl : Kpt (∀ p : Addr, p.block = b → (w.alloc (.cells #[.int .u16 0, .int .u16 0, .int .u32 0] 74)).cell? p = w.cell? p) := ⟨fun p hp => World.cell?_of_block (by rw [hp]; exact Below.heap_alloc _ _ _ hb)⟩
  have d0 := (hcl.out ⟨b, off, none⟩ rfl).trans c0
  have d1 := (hcl.out ⟨b, off + 1, none⟩ rfl).trans c1
  have d2 := (hcl.out ⟨b, off + 2, none⟩ rfl).trans c2
  have d3 := (hcl.out ⟨b, off + 3, none⟩ rfl).trans c3
  have d4 := (hcl.out ⟨b, off + 4, none⟩ rfl).trans c4
  have d5 := (hcl.out ⟨b, off + 5, none⟩ rfl).trans c5
  have d6 := (hcl.out ⟨b, off + 6, none⟩ rfl).trans c6
  have d7 := (hcl.out ⟨b, off + 7, none⟩ rfl).trans c7
  clear c0 c1 c2 c3 c4 c5 c6 c7 hc hcl
  have hn' : (8 : Int) ≤ n := by omega
  go_enter Try.func90, Try.ntmps90
  go_wp2_with fail
  refine wp_region_any (by kernel_rfl) ?_
  refine wpAny_of_C (C := fun W => W.cell? ⟨b, off, none⟩ = some (.int .u8 t0) ∧ W.cell? ⟨b, off + 1, none⟩ = some (.int .u8 t1) ∧ W.cell? ⟨b, off + 2, none⟩ = some (.int .u8 t2) ∧ W.cell? ⟨b, off + 3, none⟩ = some (.int .u8 t3) ∧ W.cell? ⟨b, off + 4, none⟩ = some (.int .u8 t4) ∧ W.cell? ⟨b, off + 5, none⟩ = some (.int .u8 t5) ∧ W.cell? ⟨b, off + 6, none⟩ = some (.int .u8 t6) ∧ W.cell? ⟨b, off + 7, none⟩ = some (.int .u8 t7)) _ _ _ _ ?_
  refine wpAnyC_take 0 (.slice (some ⟨b, off, none⟩) n c) rfl (by kernel_rfl) (by kernel_rfl) (by kernel_rfl) (fun _ _ _ h => h) (wanted_free rfl _) (fun W hW => by go_simp) ?_
  try simp only [Act.put, List.getElem_toArray, List.getElem_cons_succ, List.getElem_cons_zero, List.setIfInBounds_toArray, List.set_cons_succ, List.set_cons_zero]
  refine wpAnyC_take 1 (.pointer (some ⟨b, off, none⟩)) rfl (by kernel_rfl) (by kernel_rfl) (by kernel_rfl) (fun _ _ _ h => h) (wanted_free rfl _) (fun W hW => by (go_simp; intro hh; omega)) ?_
  try simp only [Act.put, List.getElem_toArray, List.getElem_cons_succ, List.getElem_cons_zero, List.setIfInBounds_toArray, List.set_cons_succ, List.set_cons_zero]
  refine wpAnyC_take 2 (.int .u8 t0) rfl (by kernel_rfl) (by kernel_rfl) (by kernel_rfl) (fun _ _ _ h => h) (wanted_free rfl _) (fun W hW => by (obtain ⟨e0, e1, e2, e3, e4, e5, e6, e7⟩ := hW; go_simp)) ?_
  try simp only [Act.put, List.getElem_toArray, List.getElem_cons_succ, List.getElem_cons_zero, List.setIfInBounds_toArray, List.set_cons_succ, List.set_cons_zero]
  refine wpAnyC_take 3 (.int .u16 t0) rfl (by kernel_rfl) (by kernel_rfl) (by kernel_rfl) (fun _ _ _ h => h) (wanted_free rfl _) (fun W hW => by (go_simp; rw [IntKind.wrap_u16]; omega)) ?_
  try simp only [Act.put, List.getElem_toArray, List.getElem_cons_succ, List.getElem_cons_zero, List.setIfInBounds_toArray, List.set_cons_succ, List.set_cons_zero]
  refine wpAnyC_take 4 (.int .u16 (t0 * 256)) rfl (by kernel_rfl) (by kernel_rfl) (by kernel_rfl) (fun _ _ _ h => h) (wanted_free rfl _) (fun W hW => by (go_simp; rw [IntKind.wrap_u16]; omega)) ?_
  try simp only [Act.put, List.getElem_toArray, List.getElem_cons_succ, List.getElem_cons_zero, List.setIfInBounds_toArray, List.set_cons_succ, List.set_cons_zero]
  refine wpAnyC_take 5 (.slice (some ⟨b, off, none⟩) n c) rfl (by kernel_rfl) (by kernel_rfl) (by kernel_rfl) (fun _ _ _ h => h) (wanted_free rfl _) (fun W hW => by go_simp) ?_
  try simp only [Act.put, List.getElem_toArray, List.getElem_cons_succ, List.getElem_cons_zero, List.setIfInBounds_toArray, List.set_cons_succ, List.set_cons_zero]
  refine wpAnyC_take 6 (.pointer (some ⟨b, off + 1, none⟩)) rfl (by kernel_rfl) (by kernel_rfl) (by kernel_rfl) (fun _ _ _ h => h) (wanted_free rfl _) (fun W hW => by (go_simp; intro hh; omega)) ?_
  try simp only [Act.put, List.getElem_toArray, List.getElem_cons_succ, List.getElem_cons_zero, List.setIfInBounds_toArray, List.set_cons_succ, List.set_cons_zero]
  refine wpAnyC_take 7 (.int .u8 t1) rfl (by kernel_rfl) (by kernel_rfl) (by kernel_rfl) (fun _ _ _ h => h) (wanted_free rfl _) (fun W hW => by (obtain ⟨e0, e1, e2, e3, e4, e5, e6, e7⟩ := hW; go_simp)) ?_
  try simp only [Act.put, List.getElem_toArray, List.getElem_cons_succ, List.getElem_cons_zero, List.setIfInBounds_toArray, List.set_cons_succ, List.set_cons_zero]
  refine wpAnyC_take 8 (.int .u16 t1) rfl (by kernel_rfl) (by kernel_rfl) (by kernel_rfl) (fun _ _ _ h => h) (wanted_free rfl _) (fun W hW => by (go_simp; rw [IntKind.wrap_u16]; omega)) ?_
  try simp only [Act.put, List.getElem_toArray, List.getElem_cons_succ, List.getElem_cons_zero, List.setIfInBounds_toArray, List.set_cons_succ, List.set_cons_zero]
  refine wpAnyC_take 9 (.int .u16 (t0 * 256 + t1)) rfl (by kernel_rfl) (by kernel_rfl) (by kernel_rfl) (fun _ _ _ h => h) (wanted_free rfl _) (fun W hW => by go_simp) ?_
  try simp only [Act.put, List.getElem_toArray, List.getElem_cons_succ, List.getElem_cons_zero, List.setIfInBounds_toArray, List.set_cons_succ, List.set_cons_zero]
  refine wpAnyC_take 10 (.slice (some ⟨b, off, none⟩) n c) rfl (by kernel_rfl) (by kernel_rfl) (by kernel_rfl) (fun _ _ _ h => h) (wanted_free rfl _) (fun W hW => by go_simp) ?_
  try simp only [Act.put, List.getElem_toArray, List.getElem_cons_succ, List.getElem_cons_zero, List.setIfInBounds_toArray, List.set_cons_succ, List.set_cons_zero]
  refine wpAnyC_take 11 (.pointer (some ⟨b, off + 2, none⟩)) rfl (by kernel_rfl) (by kernel_rfl) (by kernel_rfl) (fun _ _ _ h => h) (wanted_free rfl _) (fun W hW => by (go_simp; intro hh; omega)) ?_
  try simp only [Act.put, List.getElem_toArray, List.getElem_cons_succ, List.getElem_cons_zero, List.setIfInBounds_toArray, List.set_cons_succ, List.set_cons_zero]
  refine wpAnyC_take 12 (.int .u8 t2) rfl (by kernel_rfl) (by kernel_rfl) (by kernel_rfl) (fun _ _ _ h => h) (wanted_free rfl _) (fun W hW => by (obtain ⟨e0, e1, e2, e3, e4, e5, e6, e7⟩ := hW; go_simp)) ?_
  try simp only [Act.put, List.getElem_toArray, List.getElem_cons_succ, List.getElem_cons_zero, List.setIfInBounds_toArray, List.set_cons_succ, List.set_cons_zero]
  refine wpAnyC_take 13 (.int .u16 t2) rfl (by kernel_rfl) (by kernel_rfl) (by kernel_rfl) (fun _ _ _ h => h) (wanted_free rfl _) (fun W hW => by (go_simp; rw [IntKind.wrap_u16]; omega)) ?_
  try simp only [Act.put, List.getElem_toArray, List.getElem_cons_succ, List.getElem_cons_zero, List.setIfInBounds_toArray, List.set_cons_succ, List.set_cons_zero]
  refine wpAnyC_take 14 (.int .u16 (t2 * 256)) rfl (by kernel_rfl) (by kernel_rfl) (by kernel_rfl) (fun _ _ _ h => h) (wanted_free rfl _) (fun W hW => by (go_simp; rw [IntKind.wrap_u16]; omega)) ?_
  try simp only [Act.put, List.getElem_toArray, List.getElem_cons_succ, List.getElem_cons_zero, List.setIfInBounds_toArray, List.set_cons_succ, List.set_cons_zero]
  refine wpAnyC_take 15 (.slice (some ⟨b, off, none⟩) n c) rfl (by kernel_rfl) (by kernel_rfl) (by kernel_rfl) (fun _ _ _ h => h) (wanted_free rfl _) (fun W hW => by go_simp) ?_
  try simp only [Act.put, List.getElem_toArray, List.getElem_cons_succ, List.getElem_cons_zero, List.setIfInBounds_toArray, List.set_cons_succ, List.set_cons_zero]
  refine wpAnyC_take 16 (.pointer (some ⟨b, off + 3, none⟩)) rfl (by kernel_rfl) (by kernel_rfl) (by kernel_rfl) (fun _ _ _ h => h) (wanted_free rfl _) (fun W hW => by (go_simp; intro hh; omega)) ?_
  try simp only [Act.put, List.getElem_toArray, List.getElem_cons_succ, List.getElem_cons_zero, List.setIfInBounds_toArray, List.set_cons_succ, List.set_cons_zero]
  refine wpAnyC_take 17 (.int .u8 t3) rfl (by kernel_rfl) (by kernel_rfl) (by kernel_rfl) (fun _ _ _ h => h) (wanted_free rfl _) (fun W hW => by (obtain ⟨e0, e1, e2, e3, e4, e5, e6, e7⟩ := hW; go_simp)) ?_
  try simp only [Act.put, List.getElem_toArray, List.getElem_cons_succ, List.getElem_cons_zero, List.setIfInBounds_toArray, List.set_cons_succ, List.set_cons_zero]
  refine wpAnyC_take 18 (.int .u16 t3) rfl (by kernel_rfl) (by kernel_rfl) (by kernel_rfl) (fun _ _ _ h => h) (wanted_free rfl _) (fun W hW => by (go_simp; rw [IntKind.wrap_u16]; omega)) ?_
  try simp only [Act.put, List.getElem_toArray, List.getElem_cons_succ, List.getElem_cons_zero, List.setIfInBounds_toArray, List.set_cons_succ, List.set_cons_zero]
  refine wpAnyC_take 19 (.int .u16 (t2 * 256 + t3)) rfl (by kernel_rfl) (by kernel_rfl) (by kernel_rfl) (fun _ _ _ h => h) (wanted_free rfl _) (fun W hW => by go_simp) ?_
  try simp only [Act.put, List.getElem_toArray, List.getElem_cons_succ, List.getElem_cons_zero, List.setIfInBounds_toArray, List.set_cons_succ, List.set_cons_zero]
  refine wpAnyC_take 20 (.slice (some ⟨b, off, none⟩) n c) rfl (by kernel_rfl) (by kernel_rfl) (by kernel_rfl) (fun _ _ _ h => h) (wanted_free rfl _) (fun W hW => by go_simp) ?_
  try simp only [Act.put, List.getElem_toArray, List.getElem_cons_succ, List.getElem_cons_zero, List.setIfInBounds_toArray, List.set_cons_succ, List.set_cons_zero]
  refine wpAnyC_take 21 (.pointer (some ⟨b, off + 4, none⟩)) rfl (by kernel_rfl) (by kernel_rfl) (by kernel_rfl) (fun _ _ _ h => h) (wanted_free rfl _) (fun W hW => by (go_simp; intro hh; omega)) ?_
  try simp only [Act.put, List.getElem_toArray, List.getElem_cons_succ, List.getElem_cons_zero, List.setIfInBounds_toArray, List.set_cons_succ, List.set_cons_zero]
  refine wpAnyC_take 22 (.int .u8 t4) rfl (by kernel_rfl) (by kernel_rfl) (by kernel_rfl) (fun _ _ _ h => h) (wanted_free rfl _) (fun W hW => by (obtain ⟨e0, e1, e2, e3, e4, e5, e6, e7⟩ := hW; go_simp)) ?_
  try simp only [Act.put, List.getElem_toArray, List.getElem_cons_succ, List.getElem_cons_zero, List.setIfInBounds_toArray, List.set_cons_succ, List.set_cons_zero]
  refine wpAnyC_take 23 (.int .u32 t4) rfl (by kernel_rfl) (by kernel_rfl) (by kernel_rfl) (fun _ _ _ h => h) (wanted_free rfl _) (fun W hW => by (go_simp; rw [IntKind.wrap_u32]; omega)) ?_
  try simp only [Act.put, List.getElem_toArray, List.getElem_cons_succ, List.getElem_cons_zero, List.setIfInBounds_toArray, List.set_cons_succ, List.set_cons_zero]
  refine wpAnyC_take 24 (.int .u32 (t4 * 16777216)) rfl (by kernel_rfl) (by kernel_rfl) (by kernel_rfl) (fun _ _ _ h => h) (wanted_free rfl _) (fun W hW => by (go_simp; rw [IntKind.wrap_u32]; omega)) ?_
  try simp only [Act.put, List.getElem_toArray, List.getElem_cons_succ, List.getElem_cons_zero, List.setIfInBounds_toArray, List.set_cons_succ, List.set_cons_zero]
  refine wpAnyC_take 25 (.slice (some ⟨b, off, none⟩) n c) rfl (by kernel_rfl) (by kernel_rfl) (by kernel_rfl) (fun _ _ _ h => h) (wanted_free rfl _) (fun W hW => by go_simp) ?_
  try simp only [Act.put, List.getElem_toArray, List.getElem_cons_succ, List.getElem_cons_zero, List.setIfInBounds_toArray, List.set_cons_succ, List.set_cons_zero]
  refine wpAnyC_take 26 (.pointer (some ⟨b, off + 5, none⟩)) rfl (by kernel_rfl) (by kernel_rfl) (by kernel_rfl) (fun _ _ _ h => h) (wanted_free rfl _) (fun W hW => by (go_simp; intro hh; omega)) ?_
  try simp only [Act.put, List.getElem_toArray, List.getElem_cons_succ, List.getElem_cons_zero, List.setIfInBounds_toArray, List.set_cons_succ, List.set_cons_zero]
  refine wpAnyC_take 27 (.int .u8 t5) rfl (by kernel_rfl) (by kernel_rfl) (by kernel_rfl) (fun _ _ _ h => h) (wanted_free rfl _) (fun W hW => by (obtain ⟨e0, e1, e2, e3, e4, e5, e6, e7⟩ := hW; go_simp)) ?_
  try simp only [Act.put, List.getElem_toArray, List.getElem_cons_succ, List.getElem_cons_zero, List.setIfInBounds_toArray, List.set_cons_succ, List.set_cons_zero]
  refine wpAnyC_take 28 (.int .u32 t5) rfl (by kernel_rfl) (by kernel_rfl) (by kernel_rfl) (fun _ _ _ h => h) (wanted_free rfl _) (fun W hW => by (go_simp; rw [IntKind.wrap_u32]; omega)) ?_
  try simp only [Act.put, List.getElem_toArray, List.getElem_cons_succ, List.getElem_cons_zero, List.setIfInBounds_toArray, List.set_cons_succ, List.set_cons_zero]
  refine wpAnyC_take 29 (.int .u32 (t5 * 65536)) rfl (by kernel_rfl) (by kernel_rfl) (by kernel_rfl) (fun _ _ _ h => h) (wanted_free rfl _) (fun W hW => by (go_simp; rw [IntKind.wrap_u32]; omega)) ?_
  try simp only [Act.put, List.getElem_toArray, List.getElem_cons_succ, List.getElem_cons_zero, List.setIfInBounds_toArray, List.set_cons_succ, List.set_cons_zero]
  refine wpAnyC_take 30 (.int .u32 (t4 * 16777216 + t5 * 65536)) rfl (by kernel_rfl) (by kernel_rfl) (by kernel_rfl) (fun _ _ _ h => h) (wanted_free rfl _) (fun W hW => by go_simp) ?_
  try simp only [Act.put, List.getElem_toArray, List.getElem_cons_succ, List.getElem_cons_zero, List.setIfInBounds_toArray, List.set_cons_succ, List.set_cons_zero]
  refine wpAnyC_take 31 (.slice (some ⟨b, off, none⟩) n c) rfl (by kernel_rfl) (by kernel_rfl) (by kernel_rfl) (fun _ _ _ h => h) (wanted_free rfl _) (fun W hW => by go_simp) ?_
  try simp only [Act.put, List.getElem_toArray, List.getElem_cons_succ, List.getElem_cons_zero, List.setIfInBounds_toArray, List.set_cons_succ, List.set_cons_zero]
  refine wpAnyC_take 32 (.pointer (some ⟨b, off + 6, none⟩)) rfl (by kernel_rfl) (by kernel_rfl) (by kernel_rfl) (fun _ _ _ h => h) (wanted_free rfl _) (fun W hW => by (go_simp; intro hh; omega)) ?_
  try simp only [Act.put, List.getElem_toArray, List.getElem_cons_succ, List.getElem_cons_zero, List.setIfInBounds_toArray, List.set_cons_succ, List.set_cons_zero]
  refine wpAnyC_take 33 (.int .u8 t6) rfl (by kernel_rfl) (by kernel_rfl) (by kernel_rfl) (fun _ _ _ h => h) (wanted_free rfl _) (fun W hW => by (obtain ⟨e0, e1, e2, e3, e4, e5, e6, e7⟩ := hW; go_simp)) ?_
  try simp only [Act.put, List.getElem_toArray, List.getElem_cons_succ, List.getElem_cons_zero, List.setIfInBounds_toArray, List.set_cons_succ, List.set_cons_zero]
  refine wpAnyC_take 34 (.int .u32 t6) rfl (by kernel_rfl) (by kernel_rfl) (by kernel_rfl) (fun _ _ _ h => h) (wanted_free rfl _) (fun W hW => by (go_simp; rw [IntKind.wrap_u32]; omega)) ?_
  try simp only [Act.put, List.getElem_toArray, List.getElem_cons_succ, List.getElem_cons_zero, List.setIfInBounds_toArray, List.set_cons_succ, List.set_cons_zero]
  refine wpAnyC_take 35 (.int .u32 (t6 * 256)) rfl (by kernel_rfl) (by kernel_rfl) (by kernel_rfl) (fun _ _ _ h => h) (wanted_free rfl _) (fun W hW => by (go_simp; rw [IntKind.wrap_u32]; omega)) ?_
  try simp only [Act.put, List.getElem_toArray, List.getElem_cons_succ, List.getElem_cons_zero, List.setIfInBounds_toArray, List.set_cons_succ, List.set_cons_zero]
  refine wpAnyC_take 36 (.int .u32 (t4 * 16777216 + t5 * 65536 + t6 * 256)) rfl (by kernel_rfl) (by kernel_rfl) (by kernel_rfl) (fun _ _ _ h => h) (wanted_free rfl _) (fun W hW => by go_simp) ?_
  try simp only [Act.put, List.getElem_toArray, List.getElem_cons_succ, List.getElem_cons_zero, List.setIfInBounds_toArray, List.set_cons_succ, List.set_cons_zero]
  refine wpAnyC_take 37 (.slice (some ⟨b, off, none⟩) n c) rfl (by kernel_rfl) (by kernel_rfl) (by kernel_rfl) (fun _ _ _ h => h) (wanted_free rfl _) (fun W hW => by go_simp) ?_
  try simp only [Act.put, List.getElem_toArray, List.getElem_cons_succ, List.getElem_cons_zero, List.setIfInBounds_toArray, List.set_cons_succ, List.set_cons_zero]
  refine wpAnyC_take 38 (.pointer (some ⟨b, off + 7, none⟩)) rfl (by kernel_rfl) (by kernel_rfl) (by kernel_rfl) (fun _ _ _ h => h) (wanted_free rfl _) (fun W hW => by (go_simp; intro hh; omega)) ?_
  try simp only [Act.put, List.getElem_toArray, List.getElem_cons_succ, List.getElem_cons_zero, List.setIfInBounds_toArray, List.set_cons_succ, List.set_cons_zero]
  refine wpAnyC_take 39 (.int .u8 t7) rfl (by kernel_rfl) (by kernel_rfl) (by kernel_rfl) (fun _ _ _ h => h) (wanted_free rfl _) (fun W hW => by (obtain ⟨e0, e1, e2, e3, e4, e5, e6, e7⟩ := hW; go_simp)) ?_
  try simp only [Act.put, List.getElem_toArray, List.getElem_cons_succ, List.getElem_cons_zero, List.setIfInBounds_toArray, List.set_cons_succ, List.set_cons_zero]
  refine wpAnyC_take 40 (.int .u32 t7) rfl (by kernel_rfl) (by kernel_rfl) (by kernel_rfl) (fun _ _ _ h => h) (wanted_free rfl _) (fun W hW => by (go_simp; rw [IntKind.wrap_u32]; omega)) ?_
  try simp only [Act.put, List.getElem_toArray, List.getElem_cons_succ, List.getElem_cons_zero, List.setIfInBounds_toArray, List.set_cons_succ, List.set_cons_zero]
  refine wpAnyC_take 41 (.int .u32 (t4 * 16777216 + t5 * 65536 + t6 * 256 + t7)) rfl (by kernel_rfl) (by kernel_rfl) (by kernel_rfl) (fun _ _ _ h => h) (wanted_free rfl _) (fun W hW => by go_simp) ?_
  try simp only [Act.put, List.getElem_toArray, List.getElem_cons_succ, List.getElem_cons_zero, List.setIfInBounds_toArray, List.set_cons_succ, List.set_cons_zero]
  refine wpAnyC_take 42 (.agg (tupV (t0 * 256 + t1) (t2 * 256 + t3) (t4 * 16777216 + t5 * 65536 + t6 * 256 + t7))) rfl (by kernel_rfl) (by kernel_rfl) (by kernel_rfl) (fun _ _ _ h => h) (wanted_free rfl _) (fun W hW => by (unfold tupV; go_simp)) ?_
  try simp only [Act.put, List.getElem_toArray, List.getElem_cons_succ, List.getElem_cons_zero, List.setIfInBounds_toArray, List.set_cons_succ, List.set_cons_zero]
  refine wpAnyC_one 43 ⟨d0, d1, d2, d3, d4, d5, d6, d7⟩ rfl (by kernel_rfl) (wanted_free rfl _) (fun KA hKA => ?_)
  refine wp_store_bx 74 (.tmp 2) (.tmp 45) rfl w.heap.size _ _ rfl rfl hbx.out.drew rfl infoT (tup_one _ _ _) ?_
  intro x1 hX1 hg1
  refine hKA _ _ ?_
  clear hKA KA
  have hfar : Kpt (∀ p : Addr, p.block = b → x1.cell? p = (w.alloc (.cells #[.int .u16 0, .int .u16 0, .int .u32 0] 74)).cell? p) := ⟨fun p hp => World.cell?_of_block (by rw [hp]; exact hg1.block b (by simp; omega) (fun e => by injection e with e; omega))⟩
  have f0 := (hfar.out ⟨b, off, none⟩ rfl).trans d0
  have f1 := (hfar.out ⟨b, off + 1, none⟩ rfl).trans d1
  have f2 := (hfar.out ⟨b, off + 2, none⟩ rfl).trans d2
  have f3 := (hfar.out ⟨b, off + 3, none⟩ rfl).trans d3
  have f4 := (hfar.out ⟨b, off + 4, none⟩ rfl).trans d4
  have f5 := (hfar.out ⟨b, off + 5, none⟩ rfl).trans d5
  have f6 := (hfar.out ⟨b, off + 6, none⟩ rfl).trans d6
  have f7 := (hfar.out ⟨b, off + 7, none⟩ rfl).trans d7
  have hbe : Kpt (Below w.heap.size w x1) := ⟨(below_drewN ((Below.refl _ _).alloc (Nat.le_refl _) _) 1).grown hg1 (by simp) (fun q hq => by cases hq; exact Nat.le_refl _)⟩
  refine wpAnyC_done ⟨f0, f1, f2, f3, f4, f5, f6, f7⟩ (by kernel_rfl) ?_
  clear f0 f1 f2 f3 f4 f5 f6 f7 d0 d1 d2 d3 d4 d5 d6 d7 hfar hg1 o1 o2 o3 o4 o5
  go_wp2_with fail
  exact bodyPost_ret (v := .agg (tupV (t0 * 256 + t1) (t2 * 256 + t3) (t4 * 16777216 + t5 * 65536 + t6 * 256 + t7))) (by simp [results, Try.results90, asAddr, Act.put, run_res hX1 74 _ Try.underlying74 rfl infoT]) rfl ⟨rfl, hbe.out⟩
end Go.Proofs.Ytklboieemljmiaa

namespace Go.Proofs.Ytklboieemljmiaa
open Go.RowKit
set_option linter.unusedVariables false
set_option linter.unusedSimpArgs false

/-- m blocks of noughts. -/
def zrow : Nat → List Value
  | 0 => []
  | m + 1 => zeroB.toList ++ zrow m
theorem zrow_len : ∀ m, (zrow m).length = m * 19
  | 0 => rfl
  | m + 1 => by rw [zrow, List.length_append, zrow_len m]; simp [zeroB]; omega
theorem zrow_at : ∀ m i, i < m * 19 → (zrow m)[i]? = zeroB[i % 19]?
  | 0, i, h => by omega
  | m + 1, i, h => by
    rw [zrow]
    by_cases h19 : i < 19
    · rw [List.getElem?_append_left (by simpa [zeroB] using h19), Nat.mod_eq_of_lt h19]; simp
    · rw [List.getElem?_append_right (by simp [zeroB]; omega), show i - zeroB.toList.length = i - 19 from rfl, zrow_at m (i - 19) (by omega), show (i - 19) % 19 = i % 19 by omega]
theorem made_zrow (m : Nat) : (madeCells (Value.agg zeroB).cells (m * 19)).toList = zrow m := by
  refine List.ext_getElem? (fun i => ?_)
  by_cases h : i < m * 19
  · rw [zrow_at m i h]
    simp only [madeCells, Value.cells]
    rw [Array.getElem?_toList]
    have h19 : i % 19 < 19 := Nat.mod_lt _ (by decide)
    simp [h, zeroB]
    rw [List.getElem?_eq_getElem (by simpa using h19)]
    rfl
  · rw [List.getElem?_eq_none (by simp [madeCells]; omega), List.getElem?_eq_none (by rw [zrow_len]; omega)]

theorem wpList_copy_mid {w : World} {ops : Array Oper} {rest : List Oper} {o : Oper} {a : Act} {Q : Exit → Act → World → Prop} (hgd : o.guard = none) (d s : Operand)
    (ho : o.op = .call { callee := .builtin .copy, args := #[d, s], argTypes := #[22, 22] })
    (g p : Nat) (A C : List Value) (x : List Value) (t : TypeId) (b off sLen sCap : Nat) (ds : List Int) (hd : a.eval d = .slice (some ⟨g, p, none⟩) 16 16) (hs : a.eval s = .slice (some ⟨b, off, none⟩) sLen sCap)
    (hg : w.heap[g]? = some (.cells (A ++ (x ++ C)).toArray t (0, 0))) (hp : A.length = p) (hx : x.length = 16) (hds : ds.length = 16) (hsl : 16 ≤ sLen) (hsrc : ∀ j u, (cels ds)[j]? = some u → w.cell? ⟨b, off + j, none⟩ = some u)
    (h : ∀ w', w'.heap[g]? = some (.cells (A ++ (cels ds ++ C)).toArray t (0, 0)) → w.grownBy w' (some g) → wpList Try.prog ops Q rest (a.put o.dst (goInt 16)) w') : wpList Try.prog ops Q (o :: rest) a w := by
  have hl : (cels ds).length = 16 := by simp [hds]
  subst hp
  have hrun := run_copy_row (P := Try.prog) w 22 22 o.type 5 g A.length 16 16 ⟨b, off, none⟩ sLen sCap _ t (cels ds) Try.underlying22 Try.size5 hg
    (by rw [hl]; exact (Nat.min_eq_right hsl).symm) (fun j u hu => by rw [Go.WideShapes.add_plain]; exact hsrc j u hu) (by simp [hl, hx]) (cels_one _)
  rw [hl] at hrun
  have e : (List.take A.length (A ++ (x ++ C)) ++ cels ds ++ List.drop (A.length + 16) (A ++ (x ++ C))) = A ++ (cels ds ++ C) := by
    rw [List.take_left, List.drop_append, List.drop_of_length_le (by omega), show A.length + 16 - A.length = 16 by omega, List.nil_append, List.drop_append, List.drop_of_length_le (by omega), hx]
    simp
  rw [show (A ++ (x ++ C)).toArray.toList = A ++ (x ++ C) from rfl, e] at hrun
  refine wpList_plain hgd fun K hK => ?_
  unfold Oper.wp
  generalize (A ++ (cels ds ++ C)).toArray = NEW at *
  simp [execOp, ho, resolve, invoke, builtin, hd, hs, hrun, Result.andThen]
  exact hK _ _ (h _ (setRow_heap w g _ _ t (0, 0) hg) ⟨rfl, rfl, rfl, by simp, fun j _ hk => setRow_other w g j _ (fun e => hk (by rw [e]))⟩)
/-- Three cells of a row of one's own are written. -/
theorem set3_heap (w : World) (g p : Nat) (A C : List Value) (x y z x' y' z' : Value) (t : TypeId) (hg : w.heap[g]? = some (.cells (A ++ ([x, y, z] ++ C)).toArray t (0, 0))) (hp : A.length = p) :
    (w.setCells g p [x', y', z']).heap[g]? = some (.cells (A ++ ([x', y', z'] ++ C)).toArray t (0, 0)) := by
  subst hp
  simp only [World.setCells]
  have h1 : (w.setCell ⟨g, A.length, none⟩ x').heap[g]? = some (.cells (A ++ ([x', y, z] ++ C)).toArray t (0, 0)) := by
    rw [setCell_eq_setRow w g A.length _ t (0, 0) x' hg, setRow_heap w g _ _ t (0, 0) hg]
    simp
  have h2 : ((w.setCell ⟨g, A.length, none⟩ x').setCell ⟨g, A.length + 1, none⟩ y').heap[g]? = some (.cells (A ++ ([x', y', z] ++ C)).toArray t (0, 0)) := by
    rw [setCell_eq_setRow _ g (A.length + 1) _ t (0, 0) y' h1, setRow_heap _ g _ _ t (0, 0) h1]
    simp [List.set_append]
  rw [setCell_eq_setRow _ g (A.length + 1 + 1) _ t (0, 0) z' h2, setRow_heap _ g _ _ t (0, 0) h2]
  simp [List.set_append]
  rw [if_neg (by omega), show A.length + 1 + 1 - A.length = 2 by omega]
  rfl
/-- What Unpack makes of bytes. -/
def unB (c : Bool) (zs : List Int) (k : Nat) : Bk :=
  if c = true then ⟨(zs.drop (k * 24)).take 16, zs.getD (k * 24 + 16) 0 * 256 + zs.getD (k * 24 + 17) 0, zs.getD (k * 24 + 18) 0 * 256 + zs.getD (k * 24 + 19) 0,
    zs.getD (k * 24 + 20) 0 * 16777216 + zs.getD (k * 24 + 21) 0 * 65536 + zs.getD (k * 24 + 22) 0 * 256 + zs.getD (k * 24 + 23) 0⟩
  else ⟨(zs.drop (k * 16)).take 16, 0, 0, 0⟩
/-- The first k of them, cell by cell. -/
def unL (c : Bool) (zs : List Int) : Nat → List Value
  | 0 => []
  | k + 1 => unL c zs k ++ (unB c zs k).cs
theorem unB_ok (c : Bool) (zs : List Int) (k m : Nat) (hb : Bytes zs) (hl : zs.length = m * sz c) (hk : k < m) : (unB c zs k).ok := by
  have hsub : ∀ n (x : Int), x ∈ (zs.drop n).take 16 → 0 ≤ x ∧ x ≤ 255 := fun n x hx => hb.mem x (List.mem_of_mem_drop (List.mem_of_mem_take hx))
  cases c with
  | true =>
    have h16 := hb (k * 24 + 16); have h17 := hb (k * 24 + 17); have h18 := hb (k * 24 + 18); have h19 := hb (k * 24 + 19)
    have h20 := hb (k * 24 + 20); have h21 := hb (k * 24 + 21); have h22 := hb (k * 24 + 22); have h23 := hb (k * 24 + 23)
    simp only [sz, if_true] at hl
    refine ⟨?_, hsub _, ?_, ?_, ?_⟩
    · simp only [unB, if_true, List.length_take, List.length_drop, hl]; omega
    · simp only [unB, if_true]; omega
    · simp only [unB, if_true]; omega
    · simp only [unB, if_true]; omega
  | false =>
    simp only [sz, Bool.false_eq_true, if_false] at hl
    refine ⟨?_, hsub _, by simp [unB], by simp [unB], by simp [unB]⟩
    simp only [unB, Bool.false_eq_true, if_false, List.length_take, List.length_drop, hl]; omega
theorem unL_len (c : Bool) (zs : List Int) (m : Nat) (hb : Bytes zs) (hl : zs.length = m * sz c) : ∀ k, k ≤ m → (unL c zs k).length = k * 19
  | 0, _ => rfl
  | k + 1, h => by rw [unL, List.length_append, unL_len c zs m hb hl k (by omega), cs_len _ (unB_ok c zs k m hb hl (by omega))]; omega
theorem unL_range (c : Bool) (zs : List Int) (m : Nat) (hb : Bytes zs) (hl : zs.length = m * sz c) : ∀ k, k ≤ m → ∀ j, j < k → ∀ i u, (unB c zs j).cs[i]? = some u → (unL c zs k)[j * 19 + i]? = some u
  | 0, _, j, hj, _, _, _ => by omega
  | k + 1, h, j, hj, i, u, hu => by
    have hi : i < 19 := by have := (List.getElem?_eq_some_iff.1 hu).1; rw [cs_len _ (unB_ok c zs j m hb hl (by omega))] at this; exact this
    have hk := unL_len c zs m hb hl k (by omega)
    rw [unL]
    by_cases hjk : j = k
    · subst hjk
      rw [List.getElem?_append_right (by omega), hk, show j * 19 + i - j * 19 = i by omega]
      exact hu
    · rw [List.getElem?_append_left (by rw [hk]; omega)]
      exact unL_range c zs m hb hl k (by omega) j (by omega) i u hu
/-- A block of memory of which the cells are known. -/
theorem range_of_heap {w : World} {g : Nat} {cs : List Value} {t : TypeId} (hg : w.heap[g]? = some (.cells cs.toArray t (0, 0))) (o : Nat) (vs : List Value) (h : ∀ i u, vs[i]? = some u → cs[o + i]? = some u) : w.rangeAt g o vs := by
  intro j v hv
  have := h j v hv
  simp [World.cell?, hg, this]
end Go.Proofs.Ytklboieemljmiaa

namespace Go.Proofs.Ytklboieemljmiaa
open Go.RowKit
set_option linter.unusedVariables false
set_option linter.unusedSimpArgs false

theorem there_of_heap {w : World} {g : Nat} {cs : List Value} {t : TypeId} (hg : w.heap[g]? = some (.cells cs.toArray t (0, 0))) (o n : Nat) (h : o + n ≤ cs.length) : w.there g o n := by
  intro j hj
  constructor
  · simp [World.cell?, hg, List.getElem?_eq_getElem (show o + j < cs.length by omega)]
  · simp [World.frozen?, hg]

theorem unpack_no_true (a : Option Addr) (n cp : Nat) (w : World) (hn : n ≤ maxLen) (hm : n % 24 ≠ 0) :
    Calls Try.prog 79 #[.slice a n cp, .bool true] w fun e w' => e = .returned (.tuple #[.slice none 0 0, .bool false]) ∧ w' = w := by
  unfold maxLen at hn
  have KS : Kpt (∀ W, Calls Try.prog 38 #[.bool true] W fun e w' => e = .returned (.int .i64 24) ∧ w' = W) := ⟨fun W => size_any true W⟩
  have e1 : ((n : Int) % 24 != 0) = true := by simp; omega
  go_enter Try.func79, Try.ntmps79
  go_wp2_with (go_at_call 38; go_must (refine (KS.out _).mono ?_; rintro e w' ⟨rfl, rfl⟩))
  go_ret2
  exact ⟨rfl, rfl⟩

set_option maxRecDepth 100000 in
set_option maxHeartbeats 4000000 in
theorem unpack_true (a : Option Addr) (n cp m : Nat) (zs : List Int) (w : World) (hr : RdAt w (.slice a n cp) zs) (hl : zs.length = n) (hm : n = m * 24) (hb : Bytes zs) (hn : n ≤ 140737488355328) :
    Calls Try.prog 79 #[.slice a n cp, .bool true] w fun e w' => ∃ g, e = .returned (.tuple #[.slice (some ⟨g, 0, none⟩) m m, .bool true]) ∧ w'.heap[g]? = some (.cells (unL true zs m).toArray 76 (0, 0)) ∧ w.heap.size ≤ g ∧ Below w.heap.size w w' := by
  have hlz : zs.length = m * sz true := by rw [hl, hm]; rfl
  have KS : Kpt (∀ W, Calls Try.prog 38 #[.bool true] W fun e w' => e = .returned (.int .i64 24) ∧ w' = W) := ⟨fun W => size_any true W⟩
  obtain ⟨i0, hi0, hz0, hz1, hz2⟩ := info_parts infoB3
  have e1 : ((n : Int) % 24 != 0) = false := by simp; omega
  have e2 : (n : Int) / 24 = (m : Int) := by omega
  have hn63 : (n : Int) ≤ 140737488355328 := by omega
  have hul := Kpt.mk (unL_len true zs m hb hlz)
  have hok := Kpt.mk (fun k hk => unB_ok true zs k m hb hlz hk)
  have hcell : Kpt (∀ j, j < n → ∃ b off, a = some ⟨b, off, none⟩ ∧ b < w.heap.size ∧ ∀ i u, (cels zs)[i]? = some u → w.cell? ⟨b, off + i, none⟩ = some u) := ⟨fun j hj => by
    have hlt := fun g hg => hr.lt (g := g) (by omega) hg
    obtain ⟨a', c', e, h1, h2, h3⟩ := hr
    simp only [Value.slice.injEq] at e
    obtain ⟨rfl, _, _⟩ := e
    rcases h3 with h3 | ⟨b, off, rfl, h3⟩
    · omega
    · exact ⟨b, off, rfl, hlt b rfl, h3⟩⟩
  have hcap : n ≤ cp := by
    obtain ⟨a', c', e, h1, h2, h3⟩ := hr
    simp only [Value.slice.injEq] at e
    omega
  replace hlz := Kpt.mk hlz
  replace hl := Kpt.mk hl
  replace hb := Kpt.mk hb
  replace hm := Kpt.mk hm
  clear hr
  go_enter Try.func79, Try.ntmps79
  go_wp2_with (first | (go_at_call 38; go_must (refine (KS.out _).mono ?_; rintro e w' ⟨rfl, rfl⟩)) | (at_make; go_must (refine wpList_make_full _ rfl _ _ 46 rfl w'.heap.size 76 i0 (.agg zeroB) 19 Try.underlying46 hi0 hz0 hz1 .i64 .i64 _ _ m rfl rfl rfl rfl (by rw [hz2]; have := hm.out; omega) (by unfold maxLen; have := hm.out; omega) (Nat.le_refl _) ?_; intro w1 hown1 hg1; rw [made_zrow] at hown1; replace hown1 := Kpt.mk hown1; have hb1 : Kpt (Below w'.heap.size w' w1) := ⟨(Below.refl _ _).grown hg1 (Nat.le_refl _) (fun k h => by cases h)⟩; clear hg1)))
  have hh1 : Kpt (w1.heap[w'.heap.size]? = some (.cells (unL true zs 0 ++ zrow (m - 0)).toArray 76 (0, 0))) := ⟨by
    rcases hown1.out.2 with ⟨h0, _⟩ | ⟨g, cap, cur, h1, h2, h3, h4, h5, h6, h7⟩
    · cases h0
    · simp only [Value.slice.injEq, Option.some.injEq, Addr.mk.injEq, and_true, true_and] at h1
      obtain ⟨rfl, rfl⟩ := h1
      rw [h3, unL, List.nil_append, Nat.sub_zero, ← h7, List.take_of_length_le (by simp; omega)]⟩
  clear hown1
  obtain ⟨G, hG⟩ : ∃ G, G = w'.heap.size := ⟨_, rfl⟩
  rw [← hG] at hh1 ⊢
  replace hG := Kpt.mk hG
  go_loopw [24] (fun t wr => ∃ k : Nat, k ≤ m ∧ t = .int .i64 k ∧ Kpt (wr.heap[G]? = some (.cells (unL true zs k ++ zrow (m - k)).toArray 76 (0, 0))) ∧ Kpt (Below w'.heap.size w' wr)) (fun t _ => m - (intOf t).toNat)
  case atStart => exact ⟨0, Nat.zero_le _, rfl, hh1, hb1⟩
  case round =>
    obtain ⟨k, hk, rfl, hh, hB⟩ := hrel
    clear hh1 hb1
    by_cases hlt : k < m
    · have el : (k : Int) < m := by omega
      obtain ⟨b, off, rfl, hbl, hsrc⟩ := hcell.out (k * 24) (by have := hm.out; omega)
      have hGb : b ≠ G := by rw [hG.out]; omega
      have hGl : G < wr.heap.size := (Array.getElem?_eq_some_iff.1 hh.out).1
      have hsplit : Kpt (unL true zs k ++ zrow (m - k) = unL true zs k ++ (List.replicate 16 (.int .u8 0) ++ ([.int .u16 0, .int .u16 0, .int .u32 0] ++ zrow (m - (k + 1))))) := ⟨by
        rw [show m - k = (m - (k + 1)) + 1 by omega, zrow]; rfl⟩
      rw [hsplit.out] at hh
      obtain ⟨q, hq⟩ : ∃ q, q = k * 24 := ⟨_, rfl⟩
      have hqn : q + 24 ≤ n := by have := hm.out; omega
      have e3 : (k : Int) * 24 = (q : Int) := by omega
      have e4 : ((k : Int) + 1) * 24 = (q : Int) + 24 := by omega
      have e5 : q + 24 - q = 24 := by omega
      have hda : Kpt (∀ W : World, (∀ p : Addr, p.block = b → W.cell? p = w'.cell? p) → ∀ j u, (cels (unB true zs k).d)[j]? = some u → W.cell? ⟨b, off + q + j, none⟩ = some u) := ⟨fun W hW j u hu => by
        have hj : j < 16 := by have := (List.getElem?_eq_some_iff.1 hu).1; rw [cels_length, (hok.out k hlt).len] at this; exact this
        rw [hW ⟨b, off + q + j, none⟩ rfl, show off + q + j = off + (q + j) by omega]
        refine hsrc (q + j) u ?_
        rw [← hu]
        simp only [unB, if_true, Bool.false_eq_true, if_false, cels, List.getElem?_map, List.getElem?_take, List.getElem?_drop, if_pos hj, hq]⟩
      have hcw : Kpt (∀ p : Addr, p.block = b → wr.cell? p = w'.cell? p) := ⟨fun p hp => World.cell?_of_block (by rw [hp]; exact hB.out.block b hbl)⟩
      have hd16 := Kpt.mk (hok.out k hlt).len
      have hul' := Kpt.mk (hul.out k (by omega))
      have hcq : ¬ cp = q := by omega
      have hcq2 : ¬ cp - q = 16 := by omega
      obtain ⟨t0, ht0⟩ : ∃ t, t = zs.getD (q + 16) 0 := ⟨_, rfl⟩
      have b0 := hb.out (q + 16)
      rw [← ht0] at b0
      obtain ⟨t1, ht1⟩ : ∃ t, t = zs.getD (q + 17) 0 := ⟨_, rfl⟩
      have b1 := hb.out (q + 17)
      rw [← ht1] at b1
      obtain ⟨t2, ht2⟩ : ∃ t, t = zs.getD (q + 18) 0 := ⟨_, rfl⟩
      have b2 := hb.out (q + 18)
      rw [← ht2] at b2
      obtain ⟨t3, ht3⟩ : ∃ t, t = zs.getD (q + 19) 0 := ⟨_, rfl⟩
      have b3 := hb.out (q + 19)
      rw [← ht3] at b3
      obtain ⟨t4, ht4⟩ : ∃ t, t = zs.getD (q + 20) 0 := ⟨_, rfl⟩
      have b4 := hb.out (q + 20)
      rw [← ht4] at b4
      obtain ⟨t5, ht5⟩ : ∃ t, t = zs.getD (q + 21) 0 := ⟨_, rfl⟩
      have b5 := hb.out (q + 21)
      rw [← ht5] at b5
      obtain ⟨t6, ht6⟩ : ∃ t, t = zs.getD (q + 22) 0 := ⟨_, rfl⟩
      have b6 := hb.out (q + 22)
      rw [← ht6] at b6
      obtain ⟨t7, ht7⟩ : ∃ t, t = zs.getD (q + 23) 0 := ⟨_, rfl⟩
      have b7 := hb.out (q + 23)
      rw [← ht7] at b7
      have hue : Kpt (unB true zs k = ⟨(unB true zs k).d, t0 * 256 + t1, t2 * 256 + t3, t4 * 16777216 + t5 * 65536 + t6 * 256 + t7⟩) := ⟨by simp only [unB, if_true, ht0, ht1, ht2, ht3, ht4, ht5, ht6, ht7, hq]⟩
      have hta : Kpt (∀ W : World, (∀ p : Addr, p.block = b → W.cell? p = w'.cell? p) → ∀ j u, (cels [t0, t1, t2, t3, t4, t5, t6, t7])[j]? = some u → W.cell? ⟨b, off + q + 16 + j, none⟩ = some u) := ⟨fun W hW j u hu => by
        have hj : j < 8 := by have := (List.getElem?_eq_some_iff.1 hu).1; simpa [cels] using this
        rw [hW ⟨b, off + q + 16 + j, none⟩ rfl, show off + q + 16 + j = off + (q + (16 + j)) by omega]
        refine hsrc (q + (16 + j)) u ?_
        rw [← hu]
        have hjj : j = 0 ∨ j = 1 ∨ j = 2 ∨ j = 3 ∨ j = 4 ∨ j = 5 ∨ j = 6 ∨ j = 7 := by omega
        have key : ∀ (i : Nat) (x : Int), i < 24 → x = zs.getD (q + i) 0 → (cels zs)[q + i]? = some (.int .u8 x) := fun i x hi hx => by
          rw [cels, List.getElem?_map, List.getElem?_eq_getElem (by rw [hl.out]; omega), hx, List.getD_eq_getElem?_getD, List.getElem?_eq_getElem (by rw [hl.out]; omega)]
          rfl
        rcases hjj with rfl | rfl | rfl | rfl | rfl | rfl | rfl | rfl
        · exact key 16 t0 (by decide) ht0
        · exact key 17 t1 (by decide) ht1
        · exact key 18 t2 (by decide) ht2
        · exact key 19 t3 (by decide) ht3
        · exact key 20 t4 (by decide) ht4
        · exact key 21 t5 (by decide) ht5
        · exact key 22 t6 (by decide) ht6
        · exact key 23 t7 (by decide) ht7⟩
      clear ht0 ht1 ht2 ht3 ht4 ht5 ht6 ht7
      obtain ⟨D, hD⟩ : ∃ D, D = (unB true zs k).d := ⟨_, rfl⟩
      rw [← hD] at hda hd16 hue
      clear hD hq hsrc hsplit
      go_wp2_with (first | (refine (?_ : wpList _ _ _ (Oper.mk none (Op.store 74 (.tmp 50) (.tmp 48)) _ _ _ _ :: _) _ _); go_must (refine wpList_store_mid rfl 74 (.tmp 50) (.tmp 48) rfl G (k * 19 + 16) (tupV (t0 * 256 + t1) (t2 * 256 + t3) (t4 * 16777216 + t5 * 65536 + t6 * 256 + t7)) rfl rfl hth3.out infoT (tup_one _ _ _) ?_; have hh4 := Kpt.mk (set3_heap x3 G (k * 19 + 16) _ _ _ _ _ (.int .u16 (t0 * 256 + t1)) (.int .u16 (t2 * 256 + t3)) (.int .u32 (t4 * 16777216 + t5 * 65536 + t6 * 256 + t7)) 76 hh3.out hA3.out); have hg4 := grown_setCells G [(.int .u16 (t0 * 256 + t1)), (.int .u16 (t2 * 256 + t3)), (.int .u32 (t4 * 16777216 + t5 * 65536 + t6 * 256 + t7))] (k * 19 + 16) x3; have hx4 : Kpt (Below w'.heap.size w' (x3.setCells G (k * 19 + 16) [(.int .u16 (t0 * 256 + t1)), (.int .u16 (t2 * 256 + t3)), (.int .u32 (t4 * 16777216 + t5 * 65536 + t6 * 256 + t7))])) := ⟨hx3.out.grown hg4 hx3.out.size (fun z hz => by cases hz; rw [hG.out]; exact Nat.le_refl _)⟩; clear hg4)) | (go_at_call 90; go_must (refine (readTuple_any b (off + q + 16) _ _ t0 t1 t2 t3 t4 t5 t6 t7 _ (by omega) hb2.out b0 b1 b2 b3 b4 b5 b6 b7 (hta.out _ hc2.out)).mono ?_; rintro e x3 ⟨rfl, hz⟩; have hh3 : Kpt (x3.heap[G]? = some (.cells (((unL true zs k ++ cels D) ++ ([Value.int .u16 0, Value.int .u16 0, Value.int .u32 0] ++ zrow (m - (k + 1))) : List Value)).toArray 76 (0, 0))) := ⟨by rw [hz.block G hG2.out, hh2.out, List.append_assoc (unL true zs k) (cels D)]⟩; have hx3 : Kpt (Below w'.heap.size w' x3) := ⟨hx2.out.trans (hz.mono hx2.out.size)⟩; have hA3 : Kpt ((unL true zs k ++ cels D).length = k * 19 + 16) := ⟨by rw [List.length_append, hul'.out, cels_length, hd16.out]⟩; have hth3 : Kpt (x3.there G (k * 19 + 16) 3) := ⟨there_of_heap hh3.out _ _ (by rw [List.length_append, hA3.out]; simp)⟩; clear hz)) | (refine (?_ : wpList _ _ _ (Oper.mk (some 42) (Op.call _) _ _ _ _ :: _) _ _); go_must (refine wpList_copy_mid rfl (.tmp 40) (.tmp 41) rfl G (k * 19) (unL true zs k) ([.int .u16 0, .int .u16 0, .int .u32 0] ++ zrow (m - (k + 1))) (List.replicate 16 (.int .u8 0)) 76 b (off + q) (q + 24 - q) _ D rfl rfl hh.out hul'.out rfl hd16.out (by omega) (hda.out _ hcw.out) ?_; intro x2 hh2 hg2; have hx2 : Kpt (Below w'.heap.size w' x2) := ⟨hB.out.grown hg2 hB.out.size (fun z hz => by cases hz; rw [hG.out]; exact Nat.le_refl _)⟩; have hc2 : Kpt (∀ p : Addr, p.block = b → x2.cell? p = w'.cell? p) := ⟨fun p hp => (World.cell?_of_block (by rw [hp]; exact hg2.block b (Nat.lt_of_lt_of_le hbl hB.out.size) (fun (e : some b = some G) => by injection e with e; exact hGb e))).trans (hcw.out p hp)⟩; have hb2 : Kpt (b < x2.heap.size) := ⟨Nat.lt_of_lt_of_le hbl hx2.out.size⟩; have hG2 : Kpt (G < x2.heap.size) := ⟨Nat.lt_of_lt_of_le hGl hg2.size⟩; replace hh2 := Kpt.mk hh2; clear hg2 hh hB)))
      go_roundw
      case rel => exact ⟨k + 1, by omega, by go_num, ⟨by have := hh4.out; rw [unL, hue.out, Bk.cs, List.append_assoc, List.append_assoc]; rw [List.append_assoc] at this; exact this⟩, hx4⟩
      case measure => simp [intOf]; omega
    · have el : ¬ (k : Int) < m := by omega
      obtain rfl : k = m := by omega
      go_wp2
      go_ret2
      exact ⟨G, rfl, by rw [hh.out, Nat.sub_self, zrow, List.append_nil], by rw [hG.out]; exact Nat.le_refl _, hB.out⟩

theorem unpack_no_false (a : Option Addr) (n cp : Nat) (w : World) (hn : n ≤ maxLen) (hm : n % 16 ≠ 0) :
    Calls Try.prog 79 #[.slice a n cp, .bool false] w fun e w' => e = .returned (.tuple #[.slice none 0 0, .bool false]) ∧ w' = w := by
  unfold maxLen at hn
  have KS : Kpt (∀ W, Calls Try.prog 38 #[.bool false] W fun e w' => e = .returned (.int .i64 16) ∧ w' = W) := ⟨fun W => size_any false W⟩
  have e1 : ((n : Int) % 16 != 0) = true := by simp; omega
  go_enter Try.func79, Try.ntmps79
  go_wp2_with (go_at_call 38; go_must (refine (KS.out _).mono ?_; rintro e w' ⟨rfl, rfl⟩))
  go_ret2
  exact ⟨rfl, rfl⟩

set_option maxRecDepth 100000 in
set_option maxHeartbeats 4000000 in
theorem unpack_false (a : Option Addr) (n cp m : Nat) (zs : List Int) (w : World) (hr : RdAt w (.slice a n cp) zs) (hl : zs.length = n) (hm : n = m * 16) (hb : Bytes zs) (hn : n ≤ 140737488355328) :
    Calls Try.prog 79 #[.slice a n cp, .bool false] w fun e w' => ∃ g, e = .returned (.tuple #[.slice (some ⟨g, 0, none⟩) m m, .bool true]) ∧ w'.heap[g]? = some (.cells (unL false zs m).toArray 76 (0, 0)) ∧ w.heap.size ≤ g ∧ Below w.heap.size w w' := by
  have hlz : zs.length = m * sz false := by rw [hl, hm]; rfl
  have KS : Kpt (∀ W, Calls Try.prog 38 #[.bool false] W fun e w' => e = .returned (.int .i64 16) ∧ w' = W) := ⟨fun W => size_any false W⟩
  obtain ⟨i0, hi0, hz0, hz1, hz2⟩ := info_parts infoB3
  have e1 : ((n : Int) % 16 != 0) = false := by simp; omega
  have e2 : (n : Int) / 16 = (m : Int) := by omega
  have hn63 : (n : Int) ≤ 140737488355328 := by omega
  have hul := Kpt.mk (unL_len false zs m hb hlz)
  have hok := Kpt.mk (fun k hk => unB_ok false zs k m hb hlz hk)
  have hcell : Kpt (∀ j, j < n → ∃ b off, a = some ⟨b, off, none⟩ ∧ b < w.heap.size ∧ ∀ i u, (cels zs)[i]? = some u → w.cell? ⟨b, off + i, none⟩ = some u) := ⟨fun j hj => by
    have hlt := fun g hg => hr.lt (g := g) (by omega) hg
    obtain ⟨a', c', e, h1, h2, h3⟩ := hr
    simp only [Value.slice.injEq] at e
    obtain ⟨rfl, _, _⟩ := e
    rcases h3 with h3 | ⟨b, off, rfl, h3⟩
    · omega
    · exact ⟨b, off, rfl, hlt b rfl, h3⟩⟩
  have hcap : n ≤ cp := by
    obtain ⟨a', c', e, h1, h2, h3⟩ := hr
    simp only [Value.slice.injEq] at e
    omega
  replace hlz := Kpt.mk hlz
  replace hl := Kpt.mk hl
  replace hb := Kpt.mk hb
  replace hm := Kpt.mk hm
  clear hr
  go_enter Try.func79, Try.ntmps79
  go_wp2_with (first | (go_at_call 38; go_must (refine (KS.out _).mono ?_; rintro e w' ⟨rfl, rfl⟩)) | (at_make; go_must (refine wpList_make_full _ rfl _ _ 46 rfl w'.heap.size 76 i0 (.agg zeroB) 19 Try.underlying46 hi0 hz0 hz1 .i64 .i64 _ _ m rfl rfl rfl rfl (by rw [hz2]; have := hm.out; omega) (by unfold maxLen; have := hm.out; omega) (Nat.le_refl _) ?_; intro w1 hown1 hg1; rw [made_zrow] at hown1; replace hown1 := Kpt.mk hown1; have hb1 : Kpt (Below w'.heap.size w' w1) := ⟨(Below.refl _ _).grown hg1 (Nat.le_refl _) (fun k h => by cases h)⟩; clear hg1)))
  have hh1 : Kpt (w1.heap[w'.heap.size]? = some (.cells (unL false zs 0 ++ zrow (m - 0)).toArray 76 (0, 0))) := ⟨by
    rcases hown1.out.2 with ⟨h0, _⟩ | ⟨g, cap, cur, h1, h2, h3, h4, h5, h6, h7⟩
    · cases h0
    · simp only [Value.slice.injEq, Option.some.injEq, Addr.mk.injEq, and_true, true_and] at h1
      obtain ⟨rfl, rfl⟩ := h1
      rw [h3, unL, List.nil_append, Nat.sub_zero, ← h7, List.take_of_length_le (by simp; omega)]⟩
  clear hown1
  obtain ⟨G, hG⟩ : ∃ G, G = w'.heap.size := ⟨_, rfl⟩
  rw [← hG] at hh1 ⊢
  replace hG := Kpt.mk hG
  go_loopw [24] (fun t wr => ∃ k : Nat, k ≤ m ∧ t = .int .i64 k ∧ Kpt (wr.heap[G]? = some (.cells (unL false zs k ++ zrow (m - k)).toArray 76 (0, 0))) ∧ Kpt (Below w'.heap.size w' wr)) (fun t _ => m - (intOf t).toNat)
  case atStart => exact ⟨0, Nat.zero_le _, rfl, hh1, hb1⟩
  case round =>
    obtain ⟨k, hk, rfl, hh, hB⟩ := hrel
    clear hh1 hb1
    by_cases hlt : k < m
    · have el : (k : Int) < m := by omega
      obtain ⟨b, off, rfl, hbl, hsrc⟩ := hcell.out (k * 16) (by have := hm.out; omega)
      have hGb : b ≠ G := by rw [hG.out]; omega
      have hGl : G < wr.heap.size := (Array.getElem?_eq_some_iff.1 hh.out).1
      have hsplit : Kpt (unL false zs k ++ zrow (m - k) = unL false zs k ++ (List.replicate 16 (.int .u8 0) ++ ([.int .u16 0, .int .u16 0, .int .u32 0] ++ zrow (m - (k + 1))))) := ⟨by
        rw [show m - k = (m - (k + 1)) + 1 by omega, zrow]; rfl⟩
      rw [hsplit.out] at hh
      obtain ⟨q, hq⟩ : ∃ q, q = k * 16 := ⟨_, rfl⟩
      have hqn : q + 16 ≤ n := by have := hm.out; omega
      have e3 : (k : Int) * 16 = (q : Int) := by omega
      have e4 : ((k : Int) + 1) * 16 = (q : Int) + 16 := by omega
      have e5 : q + 16 - q = 16 := by omega
      have hda : Kpt (∀ W : World, (∀ p : Addr, p.block = b → W.cell? p = w'.cell? p) → ∀ j u, (cels (unB false zs k).d)[j]? = some u → W.cell? ⟨b, off + q + j, none⟩ = some u) := ⟨fun W hW j u hu => by
        have hj : j < 16 := by have := (List.getElem?_eq_some_iff.1 hu).1; rw [cels_length, (hok.out k hlt).len] at this; exact this
        rw [hW ⟨b, off + q + j, none⟩ rfl, show off + q + j = off + (q + j) by omega]
        refine hsrc (q + j) u ?_
        rw [← hu]
        simp only [unB, if_true, Bool.false_eq_true, if_false, cels, List.getElem?_map, List.getElem?_take, List.getElem?_drop, if_pos hj, hq]⟩
      have hcw : Kpt (∀ p : Addr, p.block = b → wr.cell? p = w'.cell? p) := ⟨fun p hp => World.cell?_of_block (by rw [hp]; exact hB.out.block b hbl)⟩
      have hd16 := Kpt.mk (hok.out k hlt).len
      have hul' := Kpt.mk (hul.out k (by omega))
      have hcq : ¬ cp = q := by omega
      obtain ⟨D, hD⟩ : ∃ D, D = (unB false zs k).d := ⟨_, rfl⟩
      rw [← hD] at hda hd16
      have hue : Kpt (unB false zs k = ⟨D, 0, 0, 0⟩) := ⟨by rw [hD]; simp only [unB, Bool.false_eq_true, if_false]⟩
      clear hD hq hsrc hsplit
      go_wp2_with (first | (refine (?_ : wpList _ _ _ (Oper.mk (some 42) (Op.call _) _ _ _ _ :: _) _ _); go_must (refine wpList_copy_mid rfl (.tmp 40) (.tmp 41) rfl G (k * 19) (unL false zs k) ([.int .u16 0, .int .u16 0, .int .u32 0] ++ zrow (m - (k + 1))) (List.replicate 16 (.int .u8 0)) 76 b (off + q) (q + 16 - q) _ D rfl rfl hh.out hul'.out rfl hd16.out (by omega) (hda.out _ hcw.out) ?_; intro x2 hh2 hg2; have hx2 : Kpt (Below w'.heap.size w' x2) := ⟨hB.out.grown hg2 hB.out.size (fun z hz => by cases hz; rw [hG.out]; exact Nat.le_refl _)⟩; have hc2 : Kpt (∀ p : Addr, p.block = b → x2.cell? p = w'.cell? p) := ⟨fun p hp => (World.cell?_of_block (by rw [hp]; exact hg2.block b (Nat.lt_of_lt_of_le hbl hB.out.size) (fun (e : some b = some G) => by injection e with e; exact hGb e))).trans (hcw.out p hp)⟩; have hb2 : Kpt (b < x2.heap.size) := ⟨Nat.lt_of_lt_of_le hbl hx2.out.size⟩; have hG2 : Kpt (G < x2.heap.size) := ⟨Nat.lt_of_lt_of_le hGl hg2.size⟩; replace hh2 := Kpt.mk hh2; clear hg2 hh hB)))
      go_roundw
      case rel => exact ⟨k + 1, by omega, by go_num, ⟨by have := hh2.out; rw [unL, hue.out, Bk.cs, List.append_assoc, List.append_assoc]; exact this⟩, hx2⟩
      case measure => simp [intOf]; omega
    · have el : ¬ (k : Int) < m := by omega
      obtain rfl : k = m := by omega
      go_wp2
      go_ret2
      exact ⟨G, rfl, by rw [hh.out, Nat.sub_self, zrow, List.append_nil], by rw [hG.out]; exact Nat.le_refl _, hB.out⟩
end Go.Proofs.Ytklboieemljmiaa
