/-
  Rows of blocks; Unpack's blocks.
-/
import Derived.Test.YtcnjnebhidfogaaGRt
namespace Go.Proofs.Ytcnjnebhidfogaa
open Go.RowKit
set_option linter.unusedVariables false
set_option linter.unusedSimpArgs false

def zeroB : Array Value := #[.int .u8 0, .int .u8 0, .int .u8 0, .int .u8 0, .int .u8 0, .int .u8 0, .int .u8 0, .int .u8 0, .int .u8 0, .int .u8 0, .int .u8 0, .int .u8 0, .int .u8 0, .int .u8 0, .int .u8 0, .int .u8 0, .int .u16 0, .int .u16 0, .int .u32 0]
theorem infoB3 : (Try.prog.info? 33).map (fun i => (i.zero, i.size, i.bytes)) = some (some (.agg zeroB), 19, 24) := by kernel_rfl
/-- m blocks of noughts. -/
def zrow : Nat → List Value
  | 0 => []
  | m + 1 => zeroB.toList ++ zrow m
theorem zrow_len : ∀ m, (zrow m).length = m * 19
  | 0 => rfl
  | m + 1 => by rw [zrow, List.length_append, zrow_len m]; simp [zeroB]; omega
theorem zrow_at : ∀ m i, i < m * 19 → (zrow m)[i]? = zeroB[i % 19]?
  | 0, i, h => by omega
  | m + 1, i, h => by
    rw [zrow]
    by_cases h19 : i < 19
    · rw [List.getElem?_append_left (by simpa [zeroB] using h19), Nat.mod_eq_of_lt h19]; simp
    · rw [List.getElem?_append_right (by simp [zeroB]; omega), show i - zeroB.toList.length = i - 19 from rfl, zrow_at m (i - 19) (by omega), show (i - 19) % 19 = i % 19 by omega]
theorem made_zrow (m : Nat) : (madeCells (Value.agg zeroB).cells (m * 19)).toList = zrow m := by
  refine List.ext_getElem? (fun i => ?_)
  by_cases h : i < m * 19
  · rw [zrow_at m i h]
    simp only [madeCells, Value.cells]
    rw [Array.getElem?_toList]
    have h19 : i % 19 < 19 := Nat.mod_lt _ (by decide)
    simp [h, zeroB]
    rw [List.getElem?_eq_getElem (by simpa using h19)]
    rfl
  · rw [List.getElem?_eq_none (by simp [madeCells]; omega), List.getElem?_eq_none (by rw [zrow_len]; omega)]

theorem wpList_copy_mid {w : World} {ops : Array Oper} {rest : List Oper} {o : Oper} {a : Act} {Q : Exit → Act → World → Prop} (hgd : o.guard = none) (d s : Operand)
    (ho : o.op = .call { callee := .builtin .copy, args := #[d, s], argTypes := #[40, 40] })
    (g p : Nat) (A C : List Value) (x : List Value) (t : TypeId) (b off sLen sCap : Nat) (ds : List Int) (hd : a.eval d = .slice (some ⟨g, p, none⟩) 16 16) (hs : a.eval s = .slice (some ⟨b, off, none⟩) sLen sCap)
    (hg : w.heap[g]? = some (.cells (A ++ (x ++ C)).toArray t (0, 0))) (hp : A.length = p) (hx : x.length = 16) (hds : ds.length = 16) (hsl : 16 ≤ sLen) (hsrc : ∀ j u, (cels ds)[j]? = some u → w.cell? ⟨b, off + j, none⟩ = some u)
    (h : ∀ w', w'.heap[g]? = some (.cells (A ++ (cels ds ++ C)).toArray t (0, 0)) → w.grownBy w' (some g) → wpList Try.prog ops Q rest (a.put o.dst (goInt 16)) w') : wpList Try.prog ops Q (o :: rest) a w := by
  have hl : (cels ds).length = 16 := by simp [hds]
  subst hp
  have hrun := run_copy_row (P := Try.prog) w 40 40 o.type 5 g A.length 16 16 ⟨b, off, none⟩ sLen sCap _ t (cels ds) Try.underlying40 Try.size5 hg
    (by rw [hl]; exact (Nat.min_eq_right hsl).symm) (fun j u hu => by rw [Go.WideShapes.add_plain]; exact hsrc j u hu) (by simp [hl, hx]) (cels_one _)
  rw [hl] at hrun
  have e : (List.take A.length (A ++ (x ++ C)) ++ cels ds ++ List.drop (A.length + 16) (A ++ (x ++ C))) = A ++ (cels ds ++ C) := by
    rw [List.take_left, List.drop_append, List.drop_of_length_le (by omega), show A.length + 16 - A.length = 16 by omega, List.nil_append, List.drop_append, List.drop_of_length_le (by omega), hx]
    simp
  rw [show (A ++ (x ++ C)).toArray.toList = A ++ (x ++ C) from rfl, e] at hrun
  refine wpList_plain hgd fun K hK => ?_
  unfold Oper.wp
  generalize (A ++ (cels ds ++ C)).toArray = NEW at *
  simp [execOp, ho, resolve, invoke, builtin, hd, hs, hrun, Result.andThen]
  exact hK _ _ (h _ (setRow_heap w g _ _ t (0, 0) hg) ⟨rfl, rfl, rfl, by simp, fun j _ hk => setRow_other w g j _ (fun e => hk (by rw [e]))⟩)
/-- Three cells of a row of one's own are written. -/
theorem set3_heap (w : World) (g p : Nat) (A C : List Value) (x y z x' y' z' : Value) (t : TypeId) (hg : w.heap[g]? = some (.cells (A ++ ([x, y, z] ++ C)).toArray t (0, 0))) (hp : A.length = p) :
    (w.setCells g p [x', y', z']).heap[g]? = some (.cells (A ++ ([x', y', z'] ++ C)).toArray t (0, 0)) := by
  subst hp
  simp only [World.setCells]
  have h1 : (w.setCell ⟨g, A.length, none⟩ x').heap[g]? = some (.cells (A ++ ([x', y, z] ++ C)).toArray t (0, 0)) := by
    rw [setCell_eq_setRow w g A.length _ t (0, 0) x' hg, setRow_heap w g _ _ t (0, 0) hg]
    simp
  have h2 : ((w.setCell ⟨g, A.length, none⟩ x').setCell ⟨g, A.length + 1, none⟩ y').heap[g]? = some (.cells (A ++ ([x', y', z] ++ C)).toArray t (0, 0)) := by
    rw [setCell_eq_setRow _ g (A.length + 1) _ t (0, 0) y' h1, setRow_heap _ g _ _ t (0, 0) h1]
    simp [List.set_append]
  rw [setCell_eq_setRow _ g (A.length + 1 + 1) _ t (0, 0) z' h2, setRow_heap _ g _ _ t (0, 0) h2]
  simp [List.set_append]
  rw [if_neg (by omega), show A.length + 1 + 1 - A.length = 2 by omega]
  rfl
/-- What Unpack makes of bytes. -/
def unB (c : Bool) (zs : List Int) (k : Nat) : Bk :=
  if c = true then ⟨(zs.drop (k * 24)).take 16, zs.getD (k * 24 + 16) 0 * 256 + zs.getD (k * 24 + 17) 0, zs.getD (k * 24 + 18) 0 * 256 + zs.getD (k * 24 + 19) 0,
    zs.getD (k * 24 + 20) 0 * 16777216 + zs.getD (k * 24 + 21) 0 * 65536 + zs.getD (k * 24 + 22) 0 * 256 + zs.getD (k * 24 + 23) 0⟩
  else ⟨(zs.drop (k * 16)).take 16, 0, 0, 0⟩
/-- The first k of them, cell by cell. -/
def unL (c : Bool) (zs : List Int) : Nat → List Value
  | 0 => []
  | k + 1 => unL c zs k ++ (unB c zs k).cs
theorem unB_ok (c : Bool) (zs : List Int) (k m : Nat) (hb : Bytes zs) (hl : zs.length = m * sz c) (hk : k < m) : (unB c zs k).ok := by
  have hsub : ∀ n (x : Int), x ∈ (zs.drop n).take 16 → 0 ≤ x ∧ x ≤ 255 := fun n x hx => hb.mem x (List.mem_of_mem_drop (List.mem_of_mem_take hx))
  cases c with
  | true =>
    have h16 := hb (k * 24 + 16); have h17 := hb (k * 24 + 17); have h18 := hb (k * 24 + 18); have h19 := hb (k * 24 + 19)
    have h20 := hb (k * 24 + 20); have h21 := hb (k * 24 + 21); have h22 := hb (k * 24 + 22); have h23 := hb (k * 24 + 23)
    simp only [sz, if_true] at hl
    refine ⟨?_, hsub _, ?_, ?_, ?_⟩
    · simp only [unB, if_true, List.length_take, List.length_drop, hl]; omega
    · simp only [unB, if_true]; omega
    · simp only [unB, if_true]; omega
    · simp only [unB, if_true]; omega
  | false =>
    simp only [sz, Bool.false_eq_true, if_false] at hl
    refine ⟨?_, hsub _, by simp [unB], by simp [unB], by simp [unB]⟩
    simp only [unB, Bool.false_eq_true, if_false, List.length_take, List.length_drop, hl]; omega
theorem unL_len (c : Bool) (zs : List Int) (m : Nat) (hb : Bytes zs) (hl : zs.length = m * sz c) : ∀ k, k ≤ m → (unL c zs k).length = k * 19
  | 0, _ => rfl
  | k + 1, h => by rw [unL, List.length_append, unL_len c zs m hb hl k (by omega), cs_len _ (unB_ok c zs k m hb hl (by omega))]; omega
theorem unL_range (c : Bool) (zs : List Int) (m : Nat) (hb : Bytes zs) (hl : zs.length = m * sz c) : ∀ k, k ≤ m → ∀ j, j < k → ∀ i u, (unB c zs j).cs[i]? = some u → (unL c zs k)[j * 19 + i]? = some u
  | 0, _, j, hj, _, _, _ => by omega
  | k + 1, h, j, hj, i, u, hu => by
    have hi : i < 19 := by have := (List.getElem?_eq_some_iff.1 hu).1; rw [cs_len _ (unB_ok c zs j m hb hl (by omega))] at this; exact this
    have hk := unL_len c zs m hb hl k (by omega)
    rw [unL]
    by_cases hjk : j = k
    · subst hjk
      rw [List.getElem?_append_right (by omega), hk, show j * 19 + i - j * 19 = i by omega]
      exact hu
    · rw [List.getElem?_append_left (by rw [hk]; omega)]
      exact unL_range c zs m hb hl k (by omega) j (by omega) i u hu
/-- A block of memory of which the cells are known. -/
theorem range_of_heap {w : World} {g : Nat} {cs : List Value} {t : TypeId} (hg : w.heap[g]? = some (.cells cs.toArray t (0, 0))) (o : Nat) (vs : List Value) (h : ∀ i u, vs[i]? = some u → cs[o + i]? = some u) : w.rangeAt g o vs := by
  intro j v hv
  have := h j v hv
  simp [World.cell?, hg, this]
end Go.Proofs.Ytcnjnebhidfogaa
