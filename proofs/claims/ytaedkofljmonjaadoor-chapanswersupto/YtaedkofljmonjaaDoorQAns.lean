/-
  Answers to challenges: contracts of the program's and of the document's functions.
-/
import Derived.Test.YtaedkofljmonjaaDoorQTxt
import Derived.Lib.AppendStr
namespace Go.Proofs.YtaedkofljmonjaaDoor
open Go.RowKit
set_option linter.unusedVariables false
set_option linter.unusedSimpArgs false

theorem strCells_nums (S : ByteArray) : Lib.strCells S = cels (nums S) := by
  unfold Lib.strCells cels nums
  rw [List.map_map]
  rfl

theorem wpList_append_str {w : World} {ops : Array Oper} {rest : List Oper} {o : Oper} {a : Act} {Q : Exit → Act → World → Prop} (hgd : o.guard = none) (d s : Operand)
    (ho : o.op = .call { callee := .builtin .append, args := #[d, s], argTypes := #[22, 9] })
    (base : Nat) (v : Value) (zs : List Int) (n : Nat) (T : ByteArray) (hd : a.eval d = v) (hs : a.eval s = .string T) (hown : w.ownsRow base 5 1 v n (cels zs)) (hlen : n + T.size ≤ 140737488355328) (hb : base ≤ w.heap.size)
    (h : ∀ v' w', Kpt (w'.ownsRow base 5 1 v' (n + T.size) (cels (zs ++ nums T))) → Kpt (w.grownBy w' v.ownBlock) → wpList Tryd.prog ops Q rest (a.put o.dst v') w') : wpList Tryd.prog ops Q (o :: rest) a w := by
  obtain ⟨i0, hi0, hz0, hz1, hz2⟩ := info_parts Tryd.info5
  refine Lib.wpList_append_own_string (P := Tryd.prog) w hgd d s 22 9 ho base 5 i0 Tryd.underlying22 Tryd.underlying9 hi0 hz0 hz1 hz2 v n (cels zs) hd hown T hs (by unfold maxLen; omega) (by omega) hb ?_
  intro v' w' ho' hg' _
  exact h v' w' ⟨by rw [cels_append, ← strCells_nums]; exact ho'⟩ ⟨hg'⟩

/-- The bytes whose sum is the answer. -/
def ansB (id : Int) (T : ByteArray) (zs : List Int) : List Int := ([id] ++ nums T) ++ zs
theorem ansB_length (id : Int) (T : ByteArray) (zs : List Int) : (ansB id T zs).length = 1 + T.size + zs.length := by simp [ansB, nums_len]; omega
theorem ansB_bytes {id : Int} (T : ByteArray) {zs : List Int} (h0 : 0 ≤ id ∧ id ≤ 255) (hb : Bytes zs) : Bytes (ansB id T zs) := ((Bytes.cons h0 Bytes.nil).append (nums_byte T)).append hb

set_option maxRecDepth 100000 in
set_option maxHeartbeats 1000000 in
theorem asum_any (id : Int) (h0 : 0 ≤ id ∧ id ≤ 255) (T : ByteArray) (a : Option Addr) (n c : Nat) (zs : List Int) (w : World) (hr : RdAt w (.slice a n c) zs) (hb : Bytes zs) (hm : n + T.size ≤ 1048576) (hG : Gl w) :
    Calls Tryd.prog 26 #[.int .u8 id, .string T, .slice a n c] w fun e w' => e = .returned (.agg (cels (sumL (ansB id T zs))).toArray) ∧ Below w.heap.size w w' := by
  have hlen : n = zs.length := by obtain ⟨a', c', e, _⟩ := hr; simp only [Value.slice.injEq] at e; exact e.2.1
  replace hr := Kpt.mk hr
  replace hb := Kpt.mk hb
  replace hG := Kpt.mk hG
  replace hlen := Kpt.mk hlen
  replace h0 := Kpt.mk h0
  go_enter Tryd.func26, Tryd.ntmps26
  go_wp2_with (first
    | (refine (?_ : wpList _ _ _ (Oper.mk none (Op.store 24 (.tmp 6) _) _ _ _ _ :: _) _ _); have hmm := m4; go_must (refine wpList_store_bx rfl 24 (.tmp 6) (.tmp 15) rfl w.heap.size #[.int .u8 0, .int .u8 0, .int .u8 0, .int .u8 0, .int .u8 0, .int .u8 0, .int .u8 0, .int .u8 0, .int .u8 0, .int .u8 0, .int .u8 0, .int .u8 0, .int .u8 0, .int .u8 0, .int .u8 0, .int .u8 0] (cels (sumL (ansB id T zs))).toArray rfl rfl hX5.out (by rw [sum_size]; rfl) (by rw [sum_size]; exact info24) (all_oneCell_toArray (cels_one _)) rfl ?_; intro w6 hX6 hg6; replace hX6 := Kpt.mk hX6; have hb6 : Kpt (Below w.heap.size w w6) := ⟨hb5.out.grown hg6 hb5.out.size (fun j e => by cases e; exact Nat.le_refl _)⟩; clear hg6 hmm m4))
    | (go_at_call 8; have hmm := m3; go_must (refine (sum_any v4 (ansB id T zs) _ (own_row ho4.out (by rw [ansB_length, hlen.out])) (ansB_bytes T h0.out hb.out) (by rw [ansB_length]; have := hlen.out; omega) (hG.out.below hb4.out hG.out.lt) (own_ho ho4.out)).mono ?_; rintro e w5 ⟨rfl, hb45⟩; have hb5 : Kpt (Below w.heap.size w w5) := ⟨hb4.out.trans (hb45.mono hb4.out.size)⟩; have hX5 : Kpt (Bx w5 w.heap.size #[.int .u8 0, .int .u8 0, .int .u8 0, .int .u8 0, .int .u8 0, .int .u8 0, .int .u8 0, .int .u8 0, .int .u8 0, .int .u8 0, .int .u8 0, .int .u8 0, .int .u8 0, .int .u8 0, .int .u8 0, .int .u8 0]) := ⟨hX4.out.below hb45 hX4.out.lt⟩; clear hb45 hmm m3; have m4 : Kpt True := ⟨trivial⟩))
    | (refine (?_ : wpList _ _ _ (Oper.mk (some 14) _ _ _ _ _ :: _) _ _); have hmm := m2; go_must (refine wpList_append_gen rfl (.tmp 12) (.tmp 13) rfl w1s v3 (.slice a n c) ([id] ++ nums T) zs (1 + T.size) rfl rfl ho3.out (hr.out.bel hb3.out) (by simp [nums_len]; omega) (by have := hlen.out; omega) hs3.out ?_; intro v4 w4 ho4 hg4; replace ho4 : Kpt (w4.ownsRow w1s 5 1 v4 (1 + T.size + n) (cels (ansB id T zs))) := ⟨by rw [hlen.out]; exact ho4.out⟩; have hb4 : Kpt (Below w.heap.size w w4) := ⟨hb3.out.grown hg4.out hb3.out.size (fun j e => Nat.le_trans hws.out (World.ownsRow.lt ho3.out j e).1)⟩; have hX4 : Kpt (Bx w4 w.heap.size #[.int .u8 0, .int .u8 0, .int .u8 0, .int .u8 0, .int .u8 0, .int .u8 0, .int .u8 0, .int .u8 0, .int .u8 0, .int .u8 0, .int .u8 0, .int .u8 0, .int .u8 0, .int .u8 0, .int .u8 0, .int .u8 0]) := ⟨hX3.out.grown hg4.out (fun e => by have := (World.ownsRow.lt ho3.out _ e).1; have := hws1.out; omega)⟩; clear hg4 hmm m2; have m3 : Kpt True := ⟨trivial⟩))
    | (refine (?_ : wpList _ _ _ (Oper.mk (some 11) _ _ _ _ _ :: _) _ _); have hmm := m1; go_must (refine wpList_append_str rfl (.tmp 9) (.tmp 10) rfl w1s (.slice (some ⟨g2, 0, none⟩) 1 1) [id] 1 T rfl rfl ho2.out (by omega) hs2.out ?_; intro v3 w3 ho3 hg3; have hb3 : Kpt (Below w.heap.size w w3) := ⟨hb2.out.grown hg3.out hb2.out.size (fun j e => Nat.le_trans hws.out (World.ownsRow.lt ho2.out j e).1)⟩; have hX3 : Kpt (Bx w3 w.heap.size #[.int .u8 0, .int .u8 0, .int .u8 0, .int .u8 0, .int .u8 0, .int .u8 0, .int .u8 0, .int .u8 0, .int .u8 0, .int .u8 0, .int .u8 0, .int .u8 0, .int .u8 0, .int .u8 0, .int .u8 0, .int .u8 0]) := ⟨hX2.out.grown hg3.out (fun e => by have := (World.ownsRow.lt ho2.out _ e).1; have := hws1.out; omega)⟩; have hs3 : Kpt (w1s ≤ w3.heap.size) := ⟨Nat.le_trans hs2.out hg3.out.size⟩; clear hg3 hmm m1; have m2 : Kpt True := ⟨trivial⟩))
    | (refine (?_ : wpList _ _ _ (Oper.mk (some 9) _ _ _ _ _ :: _) _ _); go_must (refine wpList_built rfl 1 [id] (by kernel_rfl) rfl (by decide) ?_; intro g2 w2 hg2 ho2 hbe2; have hX1 := bx_new w #[.int .u8 0, .int .u8 0, .int .u8 0, .int .u8 0, .int .u8 0, .int .u8 0, .int .u8 0, .int .u8 0, .int .u8 0, .int .u8 0, .int .u8 0, .int .u8 0, .int .u8 0, .int .u8 0, .int .u8 0, .int .u8 0] 24; have hb1 : Below w.heap.size w (w.alloc (.cells #[.int .u8 0, .int .u8 0, .int .u8 0, .int .u8 0, .int .u8 0, .int .u8 0, .int .u8 0, .int .u8 0, .int .u8 0, .int .u8 0, .int .u8 0, .int .u8 0, .int .u8 0, .int .u8 0, .int .u8 0, .int .u8 0] 24)) := (Below.refl _ w).alloc (Nat.le_refl _) _; obtain ⟨w1s, hw1s⟩ : ∃ w1s, (w.alloc (.cells #[.int .u8 0, .int .u8 0, .int .u8 0, .int .u8 0, .int .u8 0, .int .u8 0, .int .u8 0, .int .u8 0, .int .u8 0, .int .u8 0, .int .u8 0, .int .u8 0, .int .u8 0, .int .u8 0, .int .u8 0, .int .u8 0] 24)).heap.size = w1s := ⟨_, rfl⟩; have hws1 : Kpt (w.heap.size < w1s) := ⟨by rw [← hw1s]; simp⟩; have hws : Kpt (w.heap.size ≤ w1s) := ⟨Nat.le_of_lt hws1.out⟩; have hX2 : Kpt (Bx w2 w.heap.size #[.int .u8 0, .int .u8 0, .int .u8 0, .int .u8 0, .int .u8 0, .int .u8 0, .int .u8 0, .int .u8 0, .int .u8 0, .int .u8 0, .int .u8 0, .int .u8 0, .int .u8 0, .int .u8 0, .int .u8 0, .int .u8 0]) := ⟨hX1.below hbe2 hX1.lt⟩; have hb2 : Kpt (Below w.heap.size w w2) := ⟨hb1.trans (hbe2.mono hb1.size)⟩; have hs2 : Kpt (w1s ≤ w2.heap.size) := ⟨by rw [← hw1s]; exact hbe2.size⟩; rw [hw1s] at ho2; replace ho2 := Kpt.mk ho2; clear hbe2 hg2 hX1 hb1 hw1s; have m1 : Kpt True := ⟨trivial⟩)))
  refine bodyPost_ret (v := .agg (cels (sumL (ansB id T zs))).toArray) (by simp [results, Tryd.results26, asAddr, run_res hX6.out 24 _ Tryd.underlying24 rfl (by rw [sum_size]; exact info24)]) rfl ⟨rfl, hb6.out⟩

set_option maxRecDepth 100000 in
set_option maxHeartbeats 1000000 in
theorem answer_any (id : Int) (h0 : 0 ≤ id ∧ id ≤ 255) (T : ByteArray) (a : Option Addr) (n c : Nat) (zs : List Int) (w : World) (hr : RdAt w (.slice a n c) zs) (hb : Bytes zs) (hm : n + T.size ≤ 1048576) (hG : Gl w) :
    Calls Tryd.prog 14 #[.int .u8 id, .string T, .slice a n c] w fun e w' => e = .returned (.string (strOfNums (48 :: 120 :: hexL (sumL (ansB id T zs))))) ∧ Below w.heap.size w w' := by
  have hs := Kpt.mk (asum_any id h0 T a n c zs w hr hb hm hG)
  clear hr hb h0
  go_enter Tryd.func14, Tryd.ntmps14
  go_wp2_with (first
    | (go_at_call 12; have hmm := m2; go_must (refine (hex_any _ 16 16 (sumL (ansB id T zs)) _ (bx_rd hX2.out (sumL_length _)) (sumL_bytes _) (by omega)).mono ?_; rintro e w3 ⟨rfl, hb3⟩; replace hb3 := Kpt.mk hb3; clear hmm m2))
    | (refine (?_ : wpList _ _ _ (Oper.mk none (Op.store 24 (.tmp 7) _) _ _ _ _ :: _) _ _); have hmm := m1; go_must (refine wpList_store_bx rfl 24 (.tmp 7) (.tmp 11) rfl w1.heap.size #[.int .u8 0, .int .u8 0, .int .u8 0, .int .u8 0, .int .u8 0, .int .u8 0, .int .u8 0, .int .u8 0, .int .u8 0, .int .u8 0, .int .u8 0, .int .u8 0, .int .u8 0, .int .u8 0, .int .u8 0, .int .u8 0] (cels (sumL (ansB id T zs))).toArray rfl rfl (bx_new w1 _ 24) (by rw [sum_size]; rfl) (by rw [sum_size]; exact info24) (all_oneCell_toArray (cels_one _)) rfl ?_; intro w2 hX2 hg2; have hb2 : Kpt (Below w.heap.size w w2) := ⟨(hb1.out.alloc hb1.out.size _).grown hg2 (by simp; have := hb1.out.size; omega) (fun j e => by cases e; exact hb1.out.size)⟩; replace hX2 := Kpt.mk hX2; clear hg2 hmm m1; have m2 : Kpt True := ⟨trivial⟩))
    | (go_at_call 26; go_must (refine hs.out.mono ?_; rintro e w1 ⟨rfl, hb1⟩; replace hb1 := Kpt.mk hb1; have m1 : Kpt True := ⟨trivial⟩)))
  go_ret
  exact ⟨rfl, hb2.out.trans (hb3.out.mono hb2.out.size)⟩

theorem equal_any (v1 v2 : Value) (xs ys : List Int) (w : World) (h1 : RdAt w v1 xs) (h2 : RdAt w v2 ys) (b1 : Bytes xs) (b2 : Bytes ys) :
    Calls Tryd.prog 27 #[v1, v2] w fun e w' => e = .returned (.bool (decide (xs = ys))) ∧ w' = w := by
  have c1 := conv_rd h1
  have c2 := conv_rd h2
  have he : Kpt (((strOfNums xs).toList == (strOfNums ys).toList) = decide (xs = ys)) := ⟨by
    by_cases h : xs = ys
    · subst h; simp
    · rw [decide_eq_false h]
      refine beq_false_of_ne fun hq => h (str_inj b1 b2 ?_)
      apply ByteArray.ext
      apply Array.ext'
      rw [ByteArray.toList_eq, ByteArray.toList_eq] at hq
      exact hq⟩
  generalize strOfNums xs = X at c1 he
  generalize strOfNums ys = Y at c2 he
  generalize decide (xs = ys) = D at he ⊢
  clear h1 h2
  go_enter Tryd.func27, Tryd.ntmps27
  go_wp2
  go_ret
  exact ⟨by rw [← he.out]; rfl, rfl⟩

set_option maxRecDepth 100000 in
set_option maxHeartbeats 1000000 in
theorem right_any (id : Int) (h0 : 0 ≤ id ∧ id ≤ 255) (T : ByteArray) (a : Option Addr) (n c : Nat) (zs : List Int) (R : ByteArray) (w : World) (hr : RdAt w (.slice a n c) zs) (hb : Bytes zs) (hm : n + T.size ≤ 1048576) (hR : R.size ≤ 1048576) (hG : Gl w) :
    Calls Tryd.prog 16 #[.int .u8 id, .string T, .slice a n c, .string R] w fun e w' => e = .returned (.bool (decide (unx (nums R) = some (sumL (ansB id T zs))))) ∧ Below w.heap.size w w' := by
  have hu := Kpt.mk (unhex_s R w (by omega))
  have hs := Kpt.mk (fun W (h : Below w.heap.size w W) => asum_any id h0 T a n c zs W (hr.bel h) hb hm (hG.bel h))
  have hsb := Kpt.mk (sumL_bytes (ansB id T zs))
  have hsl := Kpt.mk (sumL_length (ansB id T zs))
  have hsz := Kpt.mk (sum_size (ansB id T zs))
  generalize sumL (ansB id T zs) = A at hs hsb hsl hsz
  cases hx : unx (nums R) with
  | none =>
    rw [hx] at hu
    simp only [unE] at hu
    clear hr hb h0 hx
    go_enter Tryd.func16, Tryd.ntmps16
    go_wp2_with (first
      | (refine (?_ : wpList _ _ _ (Oper.mk none (Op.store 24 (.tmp 11) _) _ _ _ _ :: _) _ _); have hmm := m2; go_must (refine wpList_store_bx rfl 24 (.tmp 11) (.tmp 20) rfl w2.heap.size #[.int .u8 0, .int .u8 0, .int .u8 0, .int .u8 0, .int .u8 0, .int .u8 0, .int .u8 0, .int .u8 0, .int .u8 0, .int .u8 0, .int .u8 0, .int .u8 0, .int .u8 0, .int .u8 0, .int .u8 0, .int .u8 0] (cels A).toArray rfl rfl (bx_new w2 _ 24) (by rw [hsz.out]; rfl) (by rw [hsz.out]; exact info24) (all_oneCell_toArray (cels_one _)) rfl ?_; intro w3 hX3 hg3; have hb3 : Kpt (Below w.heap.size w w3) := ⟨(hb2.out.alloc hb2.out.size _).grown hg3 (by simp; have := hb2.out.size; omega) (fun j e => by cases e; exact hb2.out.size)⟩; clear hX3 hg3 hmm m2))
      | (go_at_call 26; have hmm := m1; go_must (refine (hs.out _ hb1.out).mono ?_; rintro e w2 ⟨rfl, hb12⟩; have hb2 : Kpt (Below w.heap.size w w2) := ⟨hb1.out.trans (hb12.mono hb1.out.size)⟩; clear hb12 hmm m1; have m2 : Kpt True := ⟨trivial⟩))
      | (go_at_call 10; go_must (refine hu.out.mono ?_; rintro e w1 ⟨v1, rfl, hr1, hb1⟩; replace hb1 := Kpt.mk hb1; replace hr1 := Kpt.mk hr1; have m1 : Kpt True := ⟨trivial⟩)))
    go_ret
    exact ⟨by simp, hb3.out⟩
  | some l =>
    have hlb := Kpt.mk (unx_bytes hx)
    rw [hx] at hu
    simp only [unE, Option.getD_some] at hu
    clear hr hb h0 hx
    go_enter Tryd.func16, Tryd.ntmps16
    go_wp2_with (first
      | (go_at_call 27; have hmm := m3; go_must (refine (equal_any _ _ l A _ (hr1.out.bel hb13.out) (bx_rd hX3.out hsl.out) hlb.out hsb.out).mono ?_; rintro e w3 ⟨rfl, rfl⟩; clear hmm m3))
      | (refine (?_ : wpList _ _ _ (Oper.mk none (Op.store 24 (.tmp 11) _) _ _ _ _ :: _) _ _); have hmm := m2; go_must (refine wpList_store_bx rfl 24 (.tmp 11) (.tmp 20) rfl w2.heap.size #[.int .u8 0, .int .u8 0, .int .u8 0, .int .u8 0, .int .u8 0, .int .u8 0, .int .u8 0, .int .u8 0, .int .u8 0, .int .u8 0, .int .u8 0, .int .u8 0, .int .u8 0, .int .u8 0, .int .u8 0, .int .u8 0] (cels A).toArray rfl rfl (bx_new w2 _ 24) (by rw [hsz.out]; rfl) (by rw [hsz.out]; exact info24) (all_oneCell_toArray (cels_one _)) rfl ?_; intro w3 hX3 hg3; have hb3 : Kpt (Below w.heap.size w w3) := ⟨(hb2.out.alloc hb2.out.size _).grown hg3 (by simp; have := hb2.out.size; omega) (fun j e => by cases e; exact hb2.out.size)⟩; have hb13 : Kpt (Below w1.heap.size w1 w3) := ⟨(hb12.out.alloc hb12.out.size _).grown hg3 (by simp; have := hb12.out.size; omega) (fun j e => by cases e; exact hb12.out.size)⟩; replace hX3 := Kpt.mk hX3; clear hg3 hmm m2; have m3 : Kpt True := ⟨trivial⟩))
      | (go_at_call 26; have hmm := m1; go_must (refine (hs.out _ hb1.out).mono ?_; rintro e w2 ⟨rfl, hb12⟩; have hb2 : Kpt (Below w.heap.size w w2) := ⟨hb1.out.trans (hb12.mono hb1.out.size)⟩; replace hb12 := Kpt.mk hb12; clear hmm m1; have m2 : Kpt True := ⟨trivial⟩))
      | (go_at_call 10; go_must (refine hu.out.mono ?_; rintro e w1 ⟨v1, rfl, hr1, hb1⟩; replace hb1 := Kpt.mk hb1; replace hr1 := Kpt.mk hr1; have m1 : Kpt True := ⟨trivial⟩)))
    go_ret
    exact ⟨by simp, hb3.out⟩

set_option maxRecDepth 100000 in
set_option maxHeartbeats 1000000 in
theorem ranswer_any (id : Int) (h0 : 0 ≤ id ∧ id ≤ 255) (T : ByteArray) (a : Option Addr) (n c : Nat) (zs : List Int) (w : World) (hr : RdAt w (.slice a n c) zs) (hb : Bytes zs) (hm : n + T.size ≤ 1048576) :
    Calls Tryd.prog 15 #[.int .u8 id, .string T, .slice a n c] w fun e w' => e = .returned (.string (strOfNums (48 :: 120 :: hexL (sumL (ansB id T zs))))) ∧ Below w.heap.size w w' := by
  have hlen : n = zs.length := by obtain ⟨a', c', e, _⟩ := hr; simp only [Value.slice.injEq] at e; exact e.2.1
  replace hr := Kpt.mk hr
  replace hb := Kpt.mk hb
  replace hlen := Kpt.mk hlen
  replace h0 := Kpt.mk h0
  go_enter Tryd.func15, Tryd.ntmps15
  go_wp2_with (first
    | (go_at_call 13; have hmm := m4; go_must (refine (rhex_any (some ⟨g5, 0, none⟩) 16 cap5 (sumL (ansB id T zs)) _ (own_rd ho5.out) (sumL_bytes _) (by omega)).mono ?_; rintro e w6 ⟨rfl, hb56⟩; have hb6 : Kpt (Below w.heap.size w w6) := ⟨hb5.out.trans (hb56.mono hb5.out.size)⟩; clear hb56 hmm m4))
    | (go_at_call 9; have hmm := m3; go_must (refine (rsum_any a4 (1 + T.size + n) c4 (ansB id T zs) _ (own_row ho4.out (by rw [ansB_length, hlen.out])) (ansB_bytes T h0.out hb.out) (by omega)).mono ?_; rintro e w5 ⟨g5, cap5, rfl, ho5, hb45⟩; have hb5 : Kpt (Below w.heap.size w w5) := ⟨hb4.out.trans (hb45.mono hb4.out.size)⟩; replace ho5 := Kpt.mk ho5; clear hb45 hmm m3; have m4 : Kpt True := ⟨trivial⟩))
    | (refine (?_ : wpList _ _ _ (Oper.mk (some 15) _ _ _ _ _ :: _) _ _); have hmm := m2; go_must (refine wpList_append_gen rfl (.tmp 13) (.tmp 14) rfl w.heap.size v3 (.slice a n c) ([id] ++ nums T) zs (1 + T.size) rfl rfl ho3.out (hr.out.bel hb3.out) (by simp [nums_len]; omega) (by have := hlen.out; omega) hb3.out.size ?_; intro v4 w4 ho4 hg4; replace ho4 : Kpt (w4.ownsRow w.heap.size 5 1 v4 (1 + T.size + n) (cels (ansB id T zs))) := ⟨by rw [hlen.out]; exact ho4.out⟩; have hb4 : Kpt (Below w.heap.size w w4) := ⟨hb3.out.grown hg4.out hb3.out.size (fun j e => (World.ownsRow.lt ho3.out j e).1)⟩; obtain ⟨a4, c4, hv4⟩ : ∃ a4 c4, v4 = .slice a4 (1 + T.size + n) c4 := by { obtain ⟨g, cap, e, _⟩ := own_shape ho4.out (by omega); exact ⟨_, _, e⟩ }; subst hv4; clear hg4 hmm m2; have m3 : Kpt True := ⟨trivial⟩))
    | (refine (?_ : wpList _ _ _ (Oper.mk (some 12) _ _ _ _ _ :: _) _ _); have hmm := m1; go_must (refine wpList_append_str rfl (.tmp 10) (.tmp 11) rfl w.heap.size (.slice (some ⟨g2, 0, none⟩) 1 1) [id] 1 T rfl rfl ho2.out (by omega) hb2.out.size ?_; intro v3 w3 ho3 hg3; have hb3 : Kpt (Below w.heap.size w w3) := ⟨hb2.out.grown hg3.out hb2.out.size (fun j e => (World.ownsRow.lt ho2.out j e).1)⟩; clear hg3 hmm m1; have m2 : Kpt True := ⟨trivial⟩))
    | (refine (?_ : wpList _ _ _ (Oper.mk (some 9) _ _ _ _ _ :: _) _ _); go_must (refine wpList_built rfl 1 [id] (by kernel_rfl) rfl (by decide) ?_; intro g2 w2 hg2 ho2 hbe2; have hb2 : Kpt (Below w.heap.size w w2) := ⟨hbe2⟩; replace ho2 := Kpt.mk ho2; clear hbe2 hg2; have m1 : Kpt True := ⟨trivial⟩)))
  go_ret
  exact ⟨rfl, hb6.out⟩
end Go.Proofs.YtaedkofljmonjaaDoor
