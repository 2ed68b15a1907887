/-
  The contract of Same: two lists of the same blocks are alike.
-/
import Derived.Test.YtmjpomkofgfbbaaKCont
import Derived.DeepKeys
namespace Go.Proofs.Ytmjpomkofgfbbaa
open Go.RowKit
set_option linter.unusedVariables false
set_option linter.unusedSimpArgs false

theorem items_same (w : World) (d : Nat) (xs : Array Value) : ∀ is : List Nat, (∀ i ∈ is, ∃ z, xs[i]? = some (.int .u8 z)) → (Op.eqItems (d + 1) 5 1 xs xs is).run Try.prog w = .ok true w
  | [], _ => by simp [Op.eqItems]
  | i :: is, h => by
    obtain ⟨z, hz⟩ := h i (by simp)
    have hp := run_part_plain (P := Try.prog) w (e := 5) (off := i * 1) (xs := xs) (v := .int .u8 z) (by kernel_rfl) (by rw [Nat.mul_one]; exact hz)
    have he := run_equalIn_int (P := Try.prog) w d 5 .u8 .u8 z z Try.underlying5
    have ih := items_same w d xs is (fun j hj => h j (by simp [hj]))
    simp only [Op.eqItems, Sem.run_bind, hp, he, Result.andThen_ok, beq_self_eq_true, Bool.not_true, Bool.false_eq_true, if_false, ih]

theorem part_arr (w : World) (xs : Array Value) : (part 60 xs 0).run Try.prog w = .ok (.agg (xs.extract 0 16)) w := by
  obtain ⟨i, hi⟩ := info_of_underlying Try.underlying60
  simp [part, isAgg, run_underlying Try.underlying60, run_sizeOf w hi, show Try.prog.cellsOf 60 = 16 from by kernel_rfl]
theorem part_tup (w : World) (xs : Array Value) : (part 64 xs 16).run Try.prog w = .ok (.agg (xs.extract 16 19)) w := by
  obtain ⟨i, hi⟩ := info_of_underlying Try.underlying64
  simp [part, isAgg, run_underlying Try.underlying64, run_sizeOf w hi, show Try.prog.cellsOf 64 = 3 from by kernel_rfl]
theorem blk_equal (b : Bk) (h : b.ok) (w : World) : (Op.equalIn 10000 66 (.agg b.vals) (.agg b.vals)).run Try.prog w = .ok true w := by
  have hb : ∀ i, i < 16 → ∃ z, b.vals[i]? = some (.int .u8 z) := fun i hi => by
    refine ⟨b.d.getD i 0, ?_⟩
    simp only [Bk.vals, Bk.cs, List.getElem?_toArray]
    rw [List.getElem?_append_left (by simp [h.len]; exact hi)]
    unfold cels
    rw [List.getElem?_map, List.getElem?_eq_getElem (by rw [h.len]; exact hi), List.getD_eq_getElem?_getD, List.getElem?_eq_getElem (by rw [h.len]; exact hi)]
    rfl
  have ht : b.vals.extract 16 19 = #[.int .u16 b.g, .int .u16 b.a, .int .u32 b.r] := by
    apply Array.ext'
    simp only [Bk.vals, Bk.cs, Array.toList_extract, List.extract]
    rw [List.drop_append_of_le_length (by simp [h.len]), List.drop_of_length_le (by simp [h.len])]
    simp
  have hA : (Op.equalIn 9999 60 (.agg (b.vals.extract 0 16)) (.agg (b.vals.extract 0 16))).run Try.prog w = .ok true w := by
    obtain ⟨i, hi⟩ := info_of_underlying Try.underlying5
    rw [run_equalIn_array w 9998 _ _ Try.underlying60 hi, show Try.prog.cellsOf 5 = 1 from by kernel_rfl]
    refine items_same w 9997 _ _ (fun j hj => ?_)
    have hj' : j < 16 := by simpa using hj
    obtain ⟨z, hz⟩ := hb j hj'
    refine ⟨z, ?_⟩
    rw [Array.getElem?_extract, if_pos (by have := Bk.size h; omega), Nat.zero_add]
    exact hz
  have hT : (Op.equalIn 9999 64 (.agg (b.vals.extract 16 19)) (.agg (b.vals.extract 16 19))).run Try.prog w = .ok true w := by
    rw [ht, run_equalIn_struct w 9998 64 _ _ (by kernel_rfl) (by kernel_rfl)]
    have p0 := run_part_plain (P := Try.prog) w (e := 61) (xs := #[.int .u16 b.g, .int .u16 b.a, .int .u32 b.r]) (off := 0) (v := .int .u16 b.g) (by kernel_rfl) rfl
    have p1 := run_part_plain (P := Try.prog) w (e := 61) (xs := #[.int .u16 b.g, .int .u16 b.a, .int .u32 b.r]) (off := 1) (v := .int .u16 b.a) (by kernel_rfl) rfl
    have p2 := run_part_plain (P := Try.prog) w (e := 62) (xs := #[.int .u16 b.g, .int .u16 b.a, .int .u32 b.r]) (off := 2) (v := .int .u32 b.r) (by kernel_rfl) rfl
    have e0 := fun z => run_equalIn_int (P := Try.prog) w 9997 61 .u16 .u16 z z Try.underlying61
    have e2 := fun z => run_equalIn_int (P := Try.prog) w 9997 62 .u32 .u32 z z Try.underlying62
    simp only [Program.fieldsOf, Try.underlying64, Op.eqFields, Sem.run_bind, Sem.run_ite, p0, p1, p2, e0, e2, Result.andThen_ok]
    simp
  rw [run_equalIn_struct w 9999 66 _ _ (by kernel_rfl) (by kernel_rfl)]
  simp only [Program.fieldsOf, Try.underlying66, Op.eqFields, Sem.run_bind, Sem.run_ite, part_arr, part_tup, hA, hT, Result.andThen_ok]
  simp
theorem exec_neq_blk {W : World} {o : Oper} {a : Act} (x y : Operand) (ho : o.op = .binOp .neq 66 x y 66) (b : Bk) (V : Array Value) (hV : V = b.vals) (h : b.ok) (hx : a.eval x = .agg V) (hy : a.eval y = .agg V) :
    (execOp a.eval o).run Try.prog W = .ok (.value (.bool false)) W := by
  subst hV
  unfold execOp
  simp only [ho, hx, hy]
  simp [run_eqGuard_agg (P := Try.prog) W .neq 66 x y b.vals b.vals (by kernel_rfl), run_neq_struct, blk_equal b h]
theorem exec_load_at {W : World} {o : Oper} {a : Act} (x : Operand) (ho : o.op = .load 66 x) (g q : Nat) (b : Bk) (V : Array Value) (hV : V = b.vals) (h : b.ok) (hx : a.eval x = .pointer (some ⟨g, q, none⟩)) (hB : W.rangeAt g q b.cs) :
    (execOp a.eval o).run Try.prog W = .ok (.value (.agg V)) W := by
  subst hV
  have := run_loadAt_mid (P := Try.prog) W g q 66 b.cs _ hB Try.underlying66 rfl (by rw [cs_len b h]; exact infoB)
  unfold execOp
  simp only [ho, hx]
  simp [this, Bk.vals]

/-- A row of which the blocks are bl. -/
def Rows (w : World) (a : Option Addr) (n : Nat) (bl : Nat → Bk) : Prop := ∀ j, j < n → (bl j).ok ∧ ∃ g o, a = some ⟨g, o, none⟩ ∧ g < w.heap.size ∧ w.rangeAt g (o + j * 19) (bl j).cs

set_option maxRecDepth 100000 in
set_option maxHeartbeats 4000000 in
theorem same_any (w : World) (a1 a2 : Option Addr) (n c1 c2 : Nat) (bl : Nat → Bk) (hn : n ≤ 4096) (h1 : Rows w a1 n bl) (h2 : Rows w a2 n bl) :
    Calls Try.prog 15 #[.slice a1 n c1, .slice a2 n c2] w fun e w' => e = .returned (.bool true) ∧ Below w.heap.size w w' := by
  replace h1 := Kpt.mk h1
  replace h2 := Kpt.mk h2
  go_enter Try.func15, Try.ntmps15
  go_wp2_with fail
  go_loopw [5] (fun t wr => ∃ (k : Nat), k ≤ n ∧ t = .int .i64 k ∧ Kpt (Below w.heap.size w wr)) (fun t _ => n - (intOf t).toNat)
  case atStart => exact ⟨0, Nat.zero_le _, rfl, ⟨Below.refl _ _⟩⟩
  case round =>
    obtain ⟨k, hk, rfl, hb⟩ := hrel
    by_cases hlt : k < n
    · have e1 : (k : Int) < n := by omega
      obtain ⟨hok, g1, o1, rfl, hg1, hr1⟩ := h1.out k hlt
      obtain ⟨_, g2, o2, rfl, hg2, hr2⟩ := h2.out k hlt
      have hC : Kpt ((wr.drewN 1).rangeAt g1 (o1 + k * 19) (bl k).cs ∧ (wr.drewN 1).rangeAt g2 (o2 + k * 19) (bl k).cs) := ⟨rangeAt_keep hr1 (hb.out.block g1 hg1), rangeAt_keep hr2 (hb.out.block g2 hg2)⟩
      obtain ⟨V, hV⟩ : ∃ V, V = (bl k).vals := ⟨_, rfl⟩
      replace hV := Kpt.mk hV
      replace hok := Kpt.mk hok
      clear hr1 hr2 hg1 hg2
      go_wp2_with fail
      refine wp_region_any (by kernel_rfl) ?_
      refine wpAny_of_C (C := fun W => W.rangeAt g1 (o1 + k * 19) (bl k).cs ∧ W.rangeAt g2 (o2 + k * 19) (bl k).cs) _ _ _ _ ?_
      refine wpAnyC_take 0 (.slice (some ⟨g1, o1, none⟩) n c1) rfl (by kernel_rfl) (by kernel_rfl) (by kernel_rfl) (fun _ _ _ h => h) (wanted_free rfl _) (fun W hW => by go_simp) ?_
      simp only [Act.put, List.getElem_toArray, List.getElem_cons_succ, List.getElem_cons_zero, List.setIfInBounds_toArray, List.set_cons_succ, List.set_cons_zero]
      refine wpAnyC_take 1 (.int .i64 k) rfl (by kernel_rfl) (by kernel_rfl) (by kernel_rfl) (fun _ _ _ h => h) (wanted_free rfl _) (fun W hW => by go_simp) ?_
      simp only [Act.put, List.getElem_toArray, List.getElem_cons_succ, List.getElem_cons_zero, List.setIfInBounds_toArray, List.set_cons_succ, List.set_cons_zero]
      refine wpAnyC_take 2 (.pointer (some ⟨g1, o1 + k * 19, none⟩)) rfl (by kernel_rfl) (by kernel_rfl) (by kernel_rfl) (fun _ _ _ h => h) (wanted_free rfl _) (fun W hW => by go_simp) ?_
      simp only [Act.put, List.getElem_toArray, List.getElem_cons_succ, List.getElem_cons_zero, List.setIfInBounds_toArray, List.set_cons_succ, List.set_cons_zero]
      refine wpAnyC_take 3 (.agg V) rfl (by kernel_rfl) (by kernel_rfl) (by kernel_rfl) (fun _ _ _ h => h) (wanted_free rfl _) (fun W hW => exec_load_at (.tmp 19) rfl g1 (o1 + k * 19) (bl k) V hV.out hok.out rfl hW.1) ?_
      simp only [Act.put, List.getElem_toArray, List.getElem_cons_succ, List.getElem_cons_zero, List.setIfInBounds_toArray, List.set_cons_succ, List.set_cons_zero]
      refine wpAnyC_take 4 (.slice (some ⟨g2, o2, none⟩) n c2) rfl (by kernel_rfl) (by kernel_rfl) (by kernel_rfl) (fun _ _ _ h => h) (wanted_free rfl _) (fun W hW => by go_simp) ?_
      simp only [Act.put, List.getElem_toArray, List.getElem_cons_succ, List.getElem_cons_zero, List.setIfInBounds_toArray, List.set_cons_succ, List.set_cons_zero]
      refine wpAnyC_take 5 (.int .i64 k) rfl (by kernel_rfl) (by kernel_rfl) (by kernel_rfl) (fun _ _ _ h => h) (wanted_free rfl _) (fun W hW => by go_simp) ?_
      simp only [Act.put, List.getElem_toArray, List.getElem_cons_succ, List.getElem_cons_zero, List.setIfInBounds_toArray, List.set_cons_succ, List.set_cons_zero]
      refine wpAnyC_take 6 (.pointer (some ⟨g2, o2 + k * 19, none⟩)) rfl (by kernel_rfl) (by kernel_rfl) (by kernel_rfl) (fun _ _ _ h => h) (wanted_free rfl _) (fun W hW => by go_simp) ?_
      simp only [Act.put, List.getElem_toArray, List.getElem_cons_succ, List.getElem_cons_zero, List.setIfInBounds_toArray, List.set_cons_succ, List.set_cons_zero]
      refine wpAnyC_take 7 (.agg V) rfl (by kernel_rfl) (by kernel_rfl) (by kernel_rfl) (fun _ _ _ h => h) (wanted_free rfl _) (fun W hW => exec_load_at (.tmp 23) rfl g2 (o2 + k * 19) (bl k) V hV.out hok.out rfl hW.2) ?_
      simp only [Act.put, List.getElem_toArray, List.getElem_cons_succ, List.getElem_cons_zero, List.setIfInBounds_toArray, List.set_cons_succ, List.set_cons_zero]
      refine wpAnyC_take 8 (.bool false) rfl (by kernel_rfl) (by kernel_rfl) (by kernel_rfl) (fun _ _ _ h => h) (wanted_free rfl _) (fun W hW => exec_neq_blk (.tmp 20) (.tmp 24) rfl (bl k) V hV.out hok.out rfl rfl) ?_
      simp only [Act.put, List.getElem_toArray, List.getElem_cons_succ, List.getElem_cons_zero, List.setIfInBounds_toArray, List.set_cons_succ, List.set_cons_zero]
      refine wpAnyC_done hC.out (by kernel_rfl) ?_
      have hb' : Kpt (Below w.heap.size w (wr.drewN 1)) := ⟨below_drewN hb.out 1⟩
      go_wp2
      go_roundw
      case rel => exact ⟨k + 1, by omega, by go_num, hb'⟩
      case measure => simp [intOf]; omega
    · have e1 : ¬ (k : Int) < n := by omega
      have ek : k = n := by omega
      subst ek
      go_wp2
      go_ret
      exact ⟨rfl, hb.out⟩
end Go.Proofs.Ytmjpomkofgfbbaa
