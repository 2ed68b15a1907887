/-
  == of any two blocks; SetCache.
-/
import Derived.Test.YtmjpomkofgfbbaaKSame
namespace Go.Proofs.Ytmjpomkofgfbbaa
open Go.RowKit
set_option linter.unusedVariables false
set_option linter.unusedSimpArgs false

theorem items_any (w : World) (d : Nat) (xs ys : Array Value) (x y : Nat → Int) : ∀ is : List Nat, (∀ i ∈ is, xs[i]? = some (.int .u8 (x i)) ∧ ys[i]? = some (.int .u8 (y i))) → (Op.eqItems (d + 1) 5 1 xs ys is).run Try.prog w = .ok (is.all (fun i => x i == y i)) w
  | [], _ => by simp [Op.eqItems]
  | i :: is, h => by
    obtain ⟨h1, h2⟩ := h i (by simp)
    have hp := run_part_plain (P := Try.prog) w (e := 5) (off := i * 1) (xs := xs) (v := .int .u8 (x i)) (by kernel_rfl) (by rw [Nat.mul_one]; exact h1)
    have hq := run_part_plain (P := Try.prog) w (e := 5) (off := i * 1) (xs := ys) (v := .int .u8 (y i)) (by kernel_rfl) (by rw [Nat.mul_one]; exact h2)
    have he := run_equalIn_int (P := Try.prog) w d 5 .u8 .u8 (x i) (y i) Try.underlying5
    have ih := items_any w d xs ys x y is (fun j hj => h j (by simp [hj]))
    simp only [Op.eqItems, Sem.run_bind, hp, hq, he, Result.andThen_ok]
    by_cases e : x i = y i
    · simp [e, ih]
    · have e' : (x i == y i) = false := by simpa using e
      simp [e, e']
theorem bk_ext {b c : Bk} (h1 : b.d = c.d) (h2 : b.g = c.g) (h3 : b.a = c.a) (h4 : b.r = c.r) : b = c := by
  obtain ⟨d, g, a, r⟩ := b
  obtain ⟨d', g', a', r'⟩ := c
  simp only at h1 h2 h3 h4
  subst h1 h2 h3 h4
  rfl
theorem vals_at (b : Bk) (h : b.ok) (i : Nat) (hi : i < 16) : b.vals[i]? = some (.int .u8 (b.d.getD i 0)) := by
  simp only [Bk.vals, Bk.cs, List.getElem?_toArray]
  rw [List.getElem?_append_left (by simp [h.len]; exact hi)]
  unfold cels
  rw [List.getElem?_map, List.getElem?_eq_getElem (by rw [h.len]; exact hi), List.getD_eq_getElem?_getD, List.getElem?_eq_getElem (by rw [h.len]; exact hi)]
  rfl
theorem vals_tup (b : Bk) (h : b.ok) : b.vals.extract 16 19 = #[.int .u16 b.g, .int .u16 b.a, .int .u32 b.r] := by
  apply Array.ext'
  simp only [Bk.vals, Bk.cs, Array.toList_extract, List.extract]
  rw [List.drop_append_of_le_length (by simp [h.len]), List.drop_of_length_le (by simp [h.len])]
  simp
theorem blk_eq (b c : Bk) (hb : b.ok) (hc : c.ok) : ∃ r : Bool, (r = true ↔ b = c) ∧ ∀ w : World, (Op.equalIn 10000 66 (.agg b.vals) (.agg c.vals)).run Try.prog w = .ok r w := by
  obtain ⟨rA, hrA⟩ : ∃ r : Bool, r = (List.range 16).all (fun i => b.d.getD i 0 == c.d.getD i 0) := ⟨_, rfl⟩
  obtain ⟨rT, hrT⟩ : ∃ r : Bool, r = ((b.g == c.g) && (b.a == c.a) && (b.r == c.r)) := ⟨_, rfl⟩
  refine ⟨rA && rT, ?_, fun w => ?_⟩
  · constructor
    · intro h
      rw [Bool.and_eq_true] at h
      obtain ⟨h1, h2⟩ := h
      rw [hrA, List.all_eq_true] at h1
      rw [hrT] at h2
      simp only [Bool.and_eq_true, beq_iff_eq] at h2
      refine bk_ext (List.ext_getElem (by rw [hb.len, hc.len]) (fun i k1 k2 => ?_)) h2.1.1 h2.1.2 h2.2
      have := h1 i (by rw [List.mem_range]; rw [hb.len] at k1; exact k1)
      simp only [beq_iff_eq, List.getD_eq_getElem?_getD] at this
      rw [List.getElem?_eq_getElem k1, List.getElem?_eq_getElem k2] at this
      simpa using this
    · intro h
      subst h
      rw [hrA, hrT]
      simp
  · have hA : (Op.equalIn 9999 60 (.agg (b.vals.extract 0 16)) (.agg (c.vals.extract 0 16))).run Try.prog w = .ok rA w := by
      obtain ⟨i, hi⟩ := info_of_underlying Try.underlying5
      rw [run_equalIn_array w 9998 _ _ Try.underlying60 hi, show Try.prog.cellsOf 5 = 1 from by kernel_rfl, hrA]
      have hx : ∀ (q : Bk), q.ok → ∀ j, j < 16 → (q.vals.extract 0 16)[j]? = some (.int .u8 (q.d.getD j 0)) := fun q hq j hj => by
        rw [Array.getElem?_extract, if_pos (by have := Bk.size hq; omega), Nat.zero_add]
        exact vals_at q hq j hj
      have := items_any w 9997 (b.vals.extract 0 16) (c.vals.extract 0 16) (fun i => b.d.getD i 0) (fun i => c.d.getD i 0) (List.range 16) (fun j hj => ⟨hx b hb j (by simpa using hj), hx c hc j (by simpa using hj)⟩)
      exact this
    have hT : (Op.equalIn 9999 64 (.agg (b.vals.extract 16 19)) (.agg (c.vals.extract 16 19))).run Try.prog w = .ok rT w := by
      rw [vals_tup b hb, vals_tup c hc, run_equalIn_struct w 9998 64 _ _ (by kernel_rfl) (by kernel_rfl), hrT]
      have p0 := fun (q : Bk) => run_part_plain (P := Try.prog) w (e := 61) (xs := #[.int .u16 q.g, .int .u16 q.a, .int .u32 q.r]) (off := 0) (v := .int .u16 q.g) (by kernel_rfl) rfl
      have p1 := fun (q : Bk) => run_part_plain (P := Try.prog) w (e := 61) (xs := #[.int .u16 q.g, .int .u16 q.a, .int .u32 q.r]) (off := 1) (v := .int .u16 q.a) (by kernel_rfl) rfl
      have p2 := fun (q : Bk) => run_part_plain (P := Try.prog) w (e := 62) (xs := #[.int .u16 q.g, .int .u16 q.a, .int .u32 q.r]) (off := 2) (v := .int .u32 q.r) (by kernel_rfl) rfl
      have e0 := fun y z => run_equalIn_int (P := Try.prog) w 9997 61 .u16 .u16 y z Try.underlying61
      have e2 := fun y z => run_equalIn_int (P := Try.prog) w 9997 62 .u32 .u32 y z Try.underlying62
      simp only [Program.fieldsOf, Try.underlying64, Op.eqFields, Sem.run_bind, Sem.run_ite, p0, p1, p2, e0, e2, Result.andThen_ok]
      by_cases c1 : b.g = c.g
      · by_cases c2 : b.a = c.a
        · by_cases c3 : b.r = c.r
          · simp [c1, c2, c3]
          · have : (b.r == c.r) = false := by simpa using c3
            simp [c1, c2, this]
        · have : (b.a == c.a) = false := by simpa using c2
          simp [c1, this]
      · have : (b.g == c.g) = false := by simpa using c1
        simp [this]
    rw [run_equalIn_struct w 9999 66 _ _ (by kernel_rfl) (by kernel_rfl)]
    simp only [Program.fieldsOf, Try.underlying66, Op.eqFields, Sem.run_bind, Sem.run_ite, part_arr, part_tup, hA, hT, Result.andThen_ok]
    cases rA <;> cases rT <;> simp
theorem exec_eql_blk {W : World} {o : Oper} {a : Act} (x y : Operand) (ho : o.op = .binOp .eql 66 x y 66) (V U : Array Value) (r : Bool) (h : ∀ w : World, (Op.equalIn 10000 66 (.agg V) (.agg U)).run Try.prog w = .ok r w) (hx : a.eval x = .agg V) (hy : a.eval y = .agg U) :
    (execOp a.eval o).run Try.prog W = .ok (.value (.bool r)) W := by
  unfold execOp
  simp only [ho, hx, hy]
  simp [run_eqGuard_agg (P := Try.prog) W .eql 66 x y V U (by kernel_rfl), run_eql_struct, h]
theorem exec_neq_any {W : World} {o : Oper} {a : Act} (x y : Operand) (ho : o.op = .binOp .neq 66 x y 66) (V U : Array Value) (r : Bool) (h : ∀ w : World, (Op.equalIn 10000 66 (.agg V) (.agg U)).run Try.prog w = .ok r w) (hx : a.eval x = .agg V) (hy : a.eval y = .agg U) :
    (execOp a.eval o).run Try.prog W = .ok (.value (.bool (!r))) W := by
  unfold execOp
  simp only [ho, hx, hy]
  simp [run_eqGuard_agg (P := Try.prog) W .neq 66 x y V U (by kernel_rfl), run_neq_struct, h]
theorem setcache_any (w : World) (tag : Tags) (S B N : Nat) (f : ByteArray) (ca on : Bool) (hs : Sto w tag S B f N ca) :
    Calls Try.prog 22 #[.pointer (some ⟨S, 0, none⟩), .bool on] w fun e w' => e = .returned (.tuple #[]) ∧ Sto w' tag S B f N on ∧ w.grownBy w' (some S) := by
  have c3 := hs.c3
  have hf := hs.free 3
  have hlt := hs.lt
  replace hs := Kpt.mk hs
  go_enter Try.func22, Try.ntmps22
  go_wp2
  refine bodyPost_end (results_none rfl _ _ _) rfl ?_
  have hg := grown_setCellK w ⟨S, 3, none⟩ (.bool on)
  have h := hs.out
  refine ⟨rfl, ⟨Nat.lt_of_lt_of_le h.lt hg.size, h.bare, ?_, ?_, ?_, World.cell?_setCell_same _ _ _ h.c3, fun j => by rw [World.frozen?_setCell]; exact h.free j⟩, hg⟩
  · rw [World.cell?_setCell_other _ _ _ _ (by simp)]; exact h.c0
  · rw [World.cell?_setCell_other _ _ _ _ (by simp)]; exact h.c1
  · rw [World.cell?_setCell_other _ _ _ _ (by simp)]; exact h.c2
end Go.Proofs.Ytmjpomkofgfbbaa
