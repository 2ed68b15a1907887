/-
  The document's numbers as bytes; texts as bytes.
-/
import Derived.Test.YtnebcbfjlkhimaaDoorJBy
import Derived.Lib.AppendStr
import Derived.Lib.ConvBytes
namespace Go.Proofs.YtnebcbfjlkhimaaDoor
open Go.RowKit
set_option linter.unusedVariables false
set_option linter.unusedSimpArgs false
def bigL (v : Int) (n : Nat) : List Int := B.desc (List.replicate n 0) 0 n v n

theorem bigL_len (v : Int) (n : Nat) : (bigL v n).length = n := by simp [bigL, B.desc_len]

set_option maxRecDepth 100000 in
set_option maxHeartbeats 2000000 in
theorem bigL_any (v : Int) (n : Nat) (w : World) (hv : 0 ≤ v) (hv2 : v < 18446744073709551616) (hn : 0 < n) (hn8 : n ≤ 8) :
    Calls Tryd.prog 25 #[.int .u64 v, .int .i64 n] w fun e w' => ∃ g, e = .returned (.slice (some ⟨g, 0, none⟩) n n) ∧ w'.ownsRow w.heap.size 5 1 (.slice (some ⟨g, 0, none⟩) n n) n (cels (bigL v n)) ∧ Below w.heap.size w w' := by
  obtain ⟨i0, hi0, hz0, hz1, hz2⟩ := info_parts Tryd.info5
  have hnm : n ≤ maxLen := by unfold maxLen; omega
  go_enter Tryd.func25, Tryd.ntmps25
  go_wp2_with (at_make; refine wpList_make_full _ rfl _ _ 22 rfl w.heap.size 5 i0 (.int .u8 0) 1 Tryd.underlying22 hi0 hz0 hz1 .i64 .i64 _ _ n rfl rfl rfl rfl (by rw [hz2]; omega) hnm (Nat.le_refl _) ?_; intro w1 hown1 hg1; have hb1 : Kpt (Below w.heap.size w w1) := ⟨(Below.refl _ _).grown hg1 (Nat.le_refl _) (fun k h => by cases h)⟩; rw [made_u8] at hown1; replace hown1 := Kpt.mk hown1; clear hg1)
  go_loopw [0, 6] (fun x t wr => ∃ m : Nat, m ≤ n ∧ x = .int .u64 (v / 2 ^ (8 * m)) ∧ t = .int .i64 ((n : Int) - 1 - m) ∧ wr.ownsRow w.heap.size 5 1 (.slice (some ⟨w.heap.size, 0, none⟩) n n) n (cels (B.desc (List.replicate n 0) 0 n v m)) ∧ Below w.heap.size w wr) (fun _ t _ => ((intOf t) + 1).toNat)
  case atStart => exact ⟨0, by omega, by simp, by go_num, hown1.out, hb1.out⟩
  case round =>
    obtain ⟨m, hm, rfl, rfl, hown, hb⟩ := hrel
    by_cases hlt : m < n
    · obtain ⟨d, hd⟩ : ∃ d, d = n - 1 - m := ⟨_, rfl⟩
      have hdk : (n : Int) - 1 - m = (d : Int) := by omega
      have hx := own_facts hown d (by omega)
      have hfr := hown.frozenAt d
      have HO := Kpt.mk hown
      have h0 := B.div_nonneg v hv m
      have h9 := B.div_le v hv m
      have hstep := Kpt.mk (B.div_step v m)
      have h1 : d < n := by omega
      have HD := Kpt.mk hd
      rw [hdk]
      clear hown hd hdk
      obtain ⟨y, hy⟩ : ∃ y, y = v / 2 ^ (8 * m) := ⟨_, rfl⟩
      rw [← hy] at h0 h9 hstep ⊢
      replace hy := Kpt.mk hy
      go_wp2
      go_roundw
      case rel =>
        refine ⟨m + 1, by omega, ?_, ?_, ?_, hb.setCell (Nat.le_refl _) _⟩
        · rw [← hstep.out]
        · have := HD.out; go_num
        · have := own_set HO.out d (y % 256)
          rw [show B.desc (List.replicate n 0) 0 n v (m + 1) = (B.desc (List.replicate n 0) 0 n v m).set d (y % 256) from by rw [B.desc, HD.out, hy.out]; simp]
          exact this
      case measure => have := HD.out; first | (simp [intOf]; done) | (simp [intOf]; omega)
    · obtain rfl : m = n := by omega
      go_wp2
      go_ret
      exact ⟨_, rfl, hown, hb⟩

theorem bigL_is (v : Int) (n : Nat) : bigL v n = bigB v n := by
  unfold bigL
  rw [B.desc_asc _ _ _ _ (by simp), asc_over _ _ _ _ (by simp)]
  unfold over
  rw [List.take_zero, List.nil_append, List.drop_of_length_le (by simp [bigB_len]), List.append_nil]
theorem big_any (v : Int) (n : Nat) (w : World) (hv : 0 ≤ v) (hv2 : v < 18446744073709551616) (hn : 0 < n) (hn8 : n ≤ 8) :
    Calls Tryd.prog 25 #[.int .u64 v, .int .i64 n] w fun e w' => ∃ g, e = .returned (.slice (some ⟨g, 0, none⟩) n n) ∧ w'.ownsRow w.heap.size 5 1 (.slice (some ⟨g, 0, none⟩) n n) n (cels (bigB v n)) ∧ Below w.heap.size w w' := by
  have := bigL_any v n w hv hv2 hn hn8
  rw [bigL_is] at this
  exact this
theorem strCells_nums (T : ByteArray) : Lib.strCells T = cels (nums T) := by
  unfold Lib.strCells nums cels
  rw [List.map_map]
  rfl
theorem wpList_append_str {w : World} {ops : Array Oper} {rest : List Oper} {o : Oper} {a : Act} {Q : Exit → Act → World → Prop} (hgd : o.guard = none) (d s : Operand)
    (ho : o.op = .call { callee := .builtin .append, args := #[d, s], argTypes := #[22, 9] })
    (base : Nat) (v : Value) (zs : List Int) (n m : Nat) (T : ByteArray) (hd : a.eval d = v) (hs : a.eval s = .string T) (hown : w.ownsRow base 5 1 v n (cels zs)) (hn0 : 0 < n) (hm : n + T.size = m) (hlen : m ≤ 100000) (hb : base ≤ w.heap.size)
    (h : ∀ g cap w', Kpt (w'.ownsRow base 5 1 (.slice (some ⟨g, 0, none⟩) m cap) m (cels (zs ++ nums T))) → Kpt (w.grownBy w' v.ownBlock) → wpList Tryd.prog ops Q rest (a.put o.dst (.slice (some ⟨g, 0, none⟩) m cap)) w') : wpList Tryd.prog ops Q (o :: rest) a w := by
  subst hm
  obtain ⟨i0, hi0, hz0, hz1, hz2⟩ := info_parts Tryd.info5
  refine Lib.wpList_append_own_string (P := Tryd.prog) w hgd d s 22 9 ho base 5 i0 Tryd.underlying22 Tryd.underlying9 hi0 hz0 hz1 hz2 v n (cels zs) hd hown T hs (by unfold maxLen; omega) (by omega) hb ?_
  intro v' w' ho' hg' _
  rw [strCells_nums, ← cels_append] at ho'
  obtain ⟨g, cap, rfl, _⟩ := own_shape ho' (by omega)
  exact h g cap w' ⟨ho'⟩ ⟨hg'⟩
theorem wpList_want {w w1 : World} {v : Value} {ops : Array Oper} {rest : List Oper} {o : Oper} {a : Act} {Q : Exit → Act → World → Prop} (hw : Region.wanted o (yielded ops a.tmps) = true) (he : (execOp a.eval o).run Tryd.prog w = .ok (.value v) w1)
    (h : wpList Tryd.prog ops Q rest (a.put o.dst v) w1) : wpList Tryd.prog ops Q (o :: rest) a w := by
  unfold wpList
  rw [if_pos hw]
  left
  unfold Oper.wp
  rw [he]
  exact h
/-- A text as bytes, in new memory. -/
theorem wpList_conv_str {w : World} {ops : Array Oper} {rest : List Oper} {o : Oper} {a : Act} {Q : Exit → Act → World → Prop} (hw : Region.wanted o (yielded ops a.tmps) = true) (x : Operand) (ho : o.op = .convert 9 22 x) (S : ByteArray) (hx : a.eval x = .string S)
    (h : ∀ g K w', S.size ≤ K → Kpt (Cs w' g 0 S.size (nums S)) → Kpt (Below w.heap.size w w') → wpList Tryd.prog ops Q rest (a.put o.dst (.slice (some ⟨g, 0, none⟩) S.size K)) w') : wpList Tryd.prog ops Q (o :: rest) a w := by
  have hcv := Lib.run_convert_string_bytes (P := Tryd.prog) w 9 22 5 S Tryd.underlying9 Tryd.underlying22 Tryd.underlying5
  have hsz := Lib.bytesWorld_size w 5 S
  refine wpList_want (v := .slice (some ⟨w.heap.size, 0, none⟩) S.size (grownCap w S.size 0 5)) (w1 := Lib.bytesWorld w 5 S) hw ?_ (h w.heap.size _ _ (grownCap_ge w S.size 0 5) ⟨by omega, fun j hj => ?_⟩ ⟨rfl, rfl, rfl, by omega, fun q hq => Lib.bytesWorld_at_old w 5 S q hq⟩)
  · unfold execOp
    simp only [ho, hx]
    simp [hcv]
  · rw [Nat.zero_add, Lib.bytesWorld_cell w 5 S j hj, nums_at S j hj]
    simp [hj]
    rfl
/-- What Bytes has told. -/
structure ByP (w w' : World) (v : Value) (Z : List Int) : Prop where
  own : ∃ n, w'.ownsRow w.heap.size 5 1 v n (cels Z)
  bel : Below w.heap.size w w'
theorem str_eq_iff (A : ByteArray) : sufB A = false ↔ strOfNums (trimL (nums A)) = A := by
  unfold sufB
  rw [decide_eq_false_iff_not, Classical.not_not]
  constructor
  · intro h; rw [h, str_nums]
  · intro h
    have h1 := congrArg nums h
    rw [nums_str (trimL (nums A)) (bytes_mem fun x hx => bytes_to (nums_bytes A) x (List.mem_of_mem_take hx))] at h1
    exact h1
/-- append onto a row of one's own, told where the new row lies. -/
theorem wpList_append_far {w : World} {ops : Array Oper} {rest : List Oper} {o : Oper} {a : Act} {Q : Exit → Act → World → Prop} (hgd : o.guard = none) (d s : Operand)
    (ho : o.op = .call { callee := .builtin .append, args := #[d, s], argTypes := #[22, 22] })
    (base g0 c0 : Nat) (sv : Value) (zs ds : List Int) (m n : Nat) (hd : a.eval d = .slice (some ⟨g0, 0, none⟩) m c0) (hs : a.eval s = sv) (hown : w.ownsRow base 5 1 (.slice (some ⟨g0, 0, none⟩) m c0) m (cels zs)) (hrd : RdAt w sv ds) (hpos : 0 < ds.length) (hm : zs.length = m) (hn : m + ds.length = n) (hlen : n ≤ 140737488355328) (hb : base ≤ w.heap.size)
    (h : ∀ g cap w', Kpt (w'.ownsRow base 5 1 (.slice (some ⟨g, 0, none⟩) n cap) n (cels (zs ++ ds))) → Kpt (g = g0 ∨ w.heap.size ≤ g) → Kpt (w.grownBy w' (some g0)) →
      wpList Tryd.prog ops Q rest (a.put o.dst (.slice (some ⟨g, 0, none⟩) n cap)) w') : wpList Tryd.prog ops Q (o :: rest) a w := by
  subst hm hn
  obtain ⟨i0, hi0, hz0, hz1, hz2⟩ := info_parts Tryd.info5
  obtain ⟨sa, sc, rfl, hsn, hsl, hsr⟩ := hrd
  rcases hsr with h1 | ⟨b, soff, rfl, hc⟩
  · omega
  refine wpList_plain hgd fun K hK => ?_
  obtain ⟨v', w', hr, h2, h3, h4, h5⟩ := run_append_own_at (P := Tryd.prog) w base 22 o.type 5 i0 (.int .u8 0) 1 1 Tryd.underlying22 hi0 hz0 hz1 hz2 rfl (by decide) _ zs.length (cels zs) hown ⟨b, soff, none⟩ ds.length sc (cels ds) (by simp) (fun j u hu => by rw [Go.WideShapes.add_plain]; exact hc j u hu) (cels_one _) (by unfold maxLen; omega) (by omega) hb
  obtain ⟨g, cap, rfl, hg, hlt⟩ := own_shape h2 (by omega)
  unfold Oper.wp execOp
  simp only [ho, resolve, invoke, builtin, Sem.run_bind, Sem.run_pure, Result.andThen_ok, List.map_toArray, List.map_cons, List.map_nil, hd, hs, hr]
  refine hK _ _ (h g cap w' ⟨by rw [cels_append]; exact h2⟩ ⟨?_⟩ ⟨h3⟩)
  rcases h5 with e | e
  · have e2 : some g = some g0 := e
    injection e2 with e2
    exact .inl e2
  · have e2 : some g = some w.heap.size := e
    injection e2 with e2
    exact .inr (Nat.le_of_eq e2.symm)
end Go.Proofs.YtnebcbfjlkhimaaDoor
