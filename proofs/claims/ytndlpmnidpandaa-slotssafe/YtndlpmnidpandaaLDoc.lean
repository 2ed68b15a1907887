/-
  Slots: the document's Record: numbers as bytes, appends.
-/
import Derived.Test.YtndlpmnidpandaaLAwk
import Derived.Lib.AppendStr
import Derived.Laws.AppendOwnNone
namespace Go.Proofs.Ytndlpmnidpandaa
open Go.RowKit
set_option linter.unusedVariables false
set_option linter.unusedSimpArgs false

theorem own_set {w : World} {base g : Nat} {zs : List Int} {n c : Nat} (h : w.ownsRow base 5 1 (.slice (some ⟨g, 0, none⟩) n c) n (cels zs)) (i : Nat) (x : Int) :
    (w.setCell ⟨g, i, none⟩ (.int .u8 x)).ownsRow base 5 1 (.slice (some ⟨g, 0, none⟩) n c) n (cels (zs.set i x)) := by
  have := (h.stored i (.int .u8 x)).1
  unfold cels at *
  rw [List.map_set]
  exact this

theorem own_of_block {w w' : World} {b n : Nat} {v : Value} {zs : List Value} (h : w.ownsRow b 5 1 v n zs) (hb : ∀ g, v.ownBlock = some g → w'.heap[g]? = w.heap[g]?) : w'.ownsRow b 5 1 v n zs := by
  refine ⟨h.1, ?_⟩
  rcases h.2 with hn | ⟨g, cap, cur, rfl, h0, hgg, rest⟩
  · exact .inl hn
  · exact .inr ⟨g, cap, cur, rfl, h0, (hb g rfl).trans hgg, rest⟩

theorem own_shape {w : World} {base n : Nat} {v : Value} {xs : List Value} (h : w.ownsRow base 5 1 v n xs) (h0 : 0 < n) : ∃ g cap, v = .slice (some ⟨g, 0, none⟩) n cap ∧ base ≤ g ∧ g < w.heap.size := by
  rcases id h.2 with ⟨_, h'⟩ | ⟨g, cap, cur, h', hb, _⟩
  · omega
  · exact ⟨g, cap, h', hb, (World.ownsRow.lt h g (by rw [h']; rfl)).2⟩

def bigL (v : Int) (n : Nat) : List Int := B.desc (List.replicate n 0) 0 n v n

theorem bigL_len (v : Int) (n : Nat) : (bigL v n).length = n := by simp [bigL, B.desc_len]

set_option maxHeartbeats 1000000 in
set_option maxRecDepth 100000 in
theorem big_any (v : Int) (n : Nat) (w : World) (hv : 0 ≤ v) (hv2 : v < 18446744073709551616) (hn : 0 < n) (hn8 : n ≤ 8) :
    Calls Try.prog 31 #[.int .u64 v, .int .i64 n] w fun e w' => ∃ g, e = .returned (.slice (some ⟨g, 0, none⟩) n n) ∧ w'.ownsRow w.heap.size 5 1 (.slice (some ⟨g, 0, none⟩) n n) n (cels (bigL v n)) ∧ Below w.heap.size w w' := by
  obtain ⟨i0, hi0, hz0, hz1, hz2⟩ := info_parts Try.info5
  have hnm : n ≤ maxLen := by unfold maxLen; omega
  go_enter Try.func31, Try.ntmps31
  go_wp2_with (at_make; refine wpList_make_full _ rfl _ _ 23 rfl w.heap.size 5 i0 (.int .u8 0) 1 Try.underlying23 hi0 hz0 hz1 .i64 .i64 _ _ n rfl rfl rfl rfl (by rw [hz2]; omega) hnm (Nat.le_refl _) ?_; intro w1 hown1 hg1; have hb1 : Kpt (Below w.heap.size w w1) := ⟨(Below.refl _ _).grown hg1 (Nat.le_refl _) (fun k h => by cases h)⟩; rw [made_u8] at hown1; replace hown1 := Kpt.mk hown1; clear hg1)
  go_loopw [0, 6] (fun x t wr => ∃ m : Nat, m ≤ n ∧ x = .int .u64 (v / 2 ^ (8 * m)) ∧ t = .int .i64 ((n : Int) - 1 - m) ∧ wr.ownsRow w.heap.size 5 1 (.slice (some ⟨w.heap.size, 0, none⟩) n n) n (cels (B.desc (List.replicate n 0) 0 n v m)) ∧ Below w.heap.size w wr) (fun _ t _ => ((intOf t) + 1).toNat)
  case atStart => exact ⟨0, by omega, by simp, by go_num, hown1.out, hb1.out⟩
  case round =>
    obtain ⟨m, hm, rfl, rfl, hown, hb⟩ := hrel
    by_cases hlt : m < n
    · obtain ⟨d, hd⟩ : ∃ d, d = n - 1 - m := ⟨_, rfl⟩
      have hdk : (n : Int) - 1 - m = (d : Int) := by omega
      have hx := own_facts hown d (by omega)
      have hfr := hown.frozenAt d
      have HO := Kpt.mk hown
      have h0 := B.div_nonneg v hv m
      have h9 := B.div_le v hv m
      have hstep := Kpt.mk (B.div_step v m)
      have h1 : d < n := by omega
      have HD := Kpt.mk hd
      rw [hdk]
      clear hown hd hdk
      obtain ⟨y, hy⟩ : ∃ y, y = v / 2 ^ (8 * m) := ⟨_, rfl⟩
      rw [← hy] at h0 h9 hstep ⊢
      replace hy := Kpt.mk hy
      go_wp2
      go_roundw
      case rel =>
        refine ⟨m + 1, by omega, ?_, ?_, ?_, hb.setCell (Nat.le_refl _) _⟩
        · rw [← hstep.out]
        · have := HD.out; go_num
        · have := own_set HO.out d (y % 256)
          rw [show B.desc (List.replicate n 0) 0 n v (m + 1) = (B.desc (List.replicate n 0) 0 n v m).set d (y % 256) from by rw [B.desc, HD.out, hy.out]; simp]
          exact this
      case measure => have := HD.out; first | (simp [intOf]; done) | (simp [intOf]; omega)
    · obtain rfl : m = n := by omega
      go_wp2
      go_ret
      exact ⟨_, rfl, hown, hb⟩


/-- append of bytes that can be read onto a row of one's own. -/
theorem wpList_append_rdd {w : World} {ops : Array Oper} {rest : List Oper} {o : Oper} {a : Act} {Q : Exit → Act → World → Prop} (hgd : o.guard = none) (d s : Operand)
    (ho : o.op = .call { callee := .builtin .append, args := #[d, s], argTypes := #[23, 23] })
    (base : Nat) (v sv : Value) (zs ds : List Int) (m n : Nat) (hd : a.eval d = v) (hs : a.eval s = sv) (hown : w.ownsRow base 5 1 v m (cels zs)) (hrd : RdAt w sv ds) (hm0 : 0 < n) (hm : zs.length = m) (hn : m + ds.length = n) (hlen : n ≤ 140737488355328) (hb : base ≤ w.heap.size)
    (h : ∀ g cap w', Kpt (w'.ownsRow base 5 1 (.slice (some ⟨g, 0, none⟩) n cap) n (cels (zs ++ ds))) → Kpt (base ≤ g ∧ g < w'.heap.size) → Kpt (w.grownBy w' v.ownBlock) →
      wpList Try.prog ops Q rest (a.put o.dst (.slice (some ⟨g, 0, none⟩) n cap)) w') : wpList Try.prog ops Q (o :: rest) a w := by
  subst hm hn
  obtain ⟨i0, hi0, hz0, hz1, hz2⟩ := info_parts Try.info5
  obtain ⟨sa, sc, rfl, hsn, hsl, hsr⟩ := hrd
  cases sa with
  | none =>
    obtain ⟨e1, rfl⟩ := hsn rfl
    obtain rfl : ds = [] := List.eq_nil_of_length_eq_zero e1
    refine wpList_append_own_none hgd d s 23 ho base 5 i0 1 Try.underlying23 hi0 v zs.length (cels zs) hd hown hs ?_
    simp only [List.length_nil, Nat.add_zero] at hm0
    obtain ⟨g, cap, rfl, hg, hlt⟩ := own_shape hown hm0
    exact h g cap w ⟨by simpa using hown⟩ ⟨hg, hlt⟩ ⟨rfl, rfl, rfl, Nat.le_refl _, fun _ _ _ => rfl⟩
  | some x =>
    have hcell : ∀ j u, (cels ds)[j]? = some u → w.cell? (x.add j) = some u := fun j u hu => by
      rcases hsr with h1 | ⟨b, soff, e, hc⟩
      · rw [List.getElem?_eq_none (by simp; omega)] at hu; cases hu
      · cases e; rw [Go.WideShapes.add_plain]; exact hc j u hu
    refine wpList_append_own _ hgd d s 23 ho base 5 i0 (.int .u8 0) 1 1 Try.underlying23 hi0 hz0 hz1 hz2 rfl (by decide) v zs.length (cels zs) hd hown x ds.length sc (cels ds) hs (by simp) hcell (cels_one _) (by unfold maxLen; omega) (by omega) hb ?_
    intro v1 w1 hown1 hg1 _
    obtain ⟨g, cap, rfl, hg, hlt⟩ := own_shape hown1 hm0
    exact h g cap w1 ⟨by rw [cels_append]; exact hown1⟩ ⟨hg, hlt⟩ ⟨hg1⟩

/-- append of the mark onto nothing. -/
theorem wpList_append_mark {w : World} {ops : Array Oper} {rest : List Oper} {o : Oper} {a : Act} {Q : Exit → Act → World → Prop} (hgd : o.guard = none) (d s : Operand)
    (ho : o.op = .call { callee := .builtin .append, args := #[d, s], argTypes := #[23, 9] })
    (hd : a.eval d = .slice none 0 0) (hs : a.eval s = .string ⟨#[83, 76, 79, 84]⟩)
    (h : ∀ g cap w', Kpt (w'.ownsRow w.heap.size 5 1 (.slice (some ⟨g, 0, none⟩) 4 cap) 4 (cels [83, 76, 79, 84])) → Kpt (w.heap.size ≤ g ∧ g < w'.heap.size) → Kpt (w.grownBy w' none) →
      wpList Try.prog ops Q rest (a.put o.dst (.slice (some ⟨g, 0, none⟩) 4 cap)) w') : wpList Try.prog ops Q (o :: rest) a w := by
  obtain ⟨i0, hi0, hz0, hz1, hz2⟩ := info_parts Try.info5
  refine Lib.wpList_append_own_string (P := Try.prog) w hgd d s 23 9 ho w.heap.size 5 i0 Try.underlying23 Try.underlying9 hi0 hz0 hz1 hz2 (.slice none 0 0) 0 (cels []) hd (World.ownsRow_nil _ _ 5 1) ⟨#[83, 76, 79, 84]⟩ hs (by decide) (by decide) (Nat.le_refl _) ?_
  intro v' w' ho' hg' _
  have h4 : w'.ownsRow w.heap.size 5 1 v' 4 (cels [83, 76, 79, 84]) := ho'
  obtain ⟨g, cap, rfl, hg, hlt⟩ := own_shape h4 (by decide)
  exact h g cap w' ⟨h4⟩ ⟨hg, hlt⟩ ⟨hg'⟩

theorem bigL_bytes (v : Int) (n : Nat) (hn : n ≤ 8) : Bytes (bigL v n) := by
  unfold bigL
  rw [B.desc_asc _ _ _ _ (by simp)]
  exact B.bytes_asc _ (by intro j; rw [List.getD_eq_getElem?_getD, List.getElem?_replicate]; split <;> simp) 0 n v (by simp) n (Nat.le_refl _)
theorem bigL_get (v : Int) (n j : Nat) (hj : j < n) : (bigL v n)[j]? = some (v / 2 ^ (8 * (n - 1 - j)) % 256) := by
  unfold bigL
  rw [B.desc_get _ 0 n v (by simp) n (Nat.le_refl _), if_pos (by omega), Nat.sub_zero]

/-- The slot's bytes, laid one behind the other. -/
theorem rec_ahead (gen : Int) (zs : List Int) : [83, 76, 79, 84] ++ bigL gen 8 ++ bigL zs.length 4 ++ zs = (recA gen zs).take (16 + zs.length) := by
  refine List.ext_getElem? (fun j => ?_)
  have hl1 : ([83, 76, 79, 84] ++ bigL gen 8 : List Int).length = 12 := by simp [bigL_len]
  have hl2 : ([83, 76, 79, 84] ++ bigL gen 8 ++ bigL zs.length 4 : List Int).length = 16 := by simp [bigL_len]
  rw [List.getElem?_take]
  by_cases h0 : j < 16 + zs.length
  · rw [if_pos h0, recA_get]
    by_cases h1 : j < 4
    · rw [List.append_assoc, List.append_assoc, List.getElem?_append_left (by simpa using h1), if_neg (by omega), if_neg (by omega), recO_get, if_pos h1]
    · by_cases h2 : j < 12
      · rw [List.append_assoc, List.getElem?_append_left (by omega), List.getElem?_append_right (by simp; omega), if_neg (by omega), if_pos (by omega)]
        rw [show ([83, 76, 79, 84] : List Int).length = 4 from rfl, bigL_get _ _ _ (by omega)]
      · by_cases h3 : j < 16
        · rw [List.getElem?_append_left (by omega), List.getElem?_append_right (by omega), hl1, if_pos (by omega), bigL_get _ _ _ (by omega)]
        · rw [List.getElem?_append_right (by omega), hl2, if_neg (by omega), if_neg (by omega), recO_get, if_neg (by omega), if_pos (by omega)]
  · rw [if_neg h0, List.getElem?_eq_none (by rw [List.length_append, hl2]; omega)]
theorem rec_whole (gen : Int) (zs : List Int) : [83, 76, 79, 84] ++ bigL gen 8 ++ bigL zs.length 4 ++ zs ++ bigL (sumL ([83, 76, 79, 84] ++ bigL gen 8 ++ bigL zs.length 4 ++ zs)) 4 = recL gen zs := by
  rw [rec_ahead]
  refine List.ext_getElem? (fun j => ?_)
  have hl : ((recA gen zs).take (16 + zs.length)).length = 16 + zs.length := by rw [List.length_take, recA_len]; omega
  unfold recL
  rw [B.asc_get _ _ 4 _ (by rw [recA_len]; omega) 4 (by omega)]
  by_cases h0 : j < 16 + zs.length
  · rw [List.getElem?_append_left (by omega), List.getElem?_take, if_pos h0, if_neg (by omega)]
  · rw [List.getElem?_append_right (by omega), hl]
    by_cases h1 : j < 20 + zs.length
    · rw [if_pos (by omega), bigL_get _ _ _ (by omega)]
    · rw [if_neg (by omega), List.getElem?_eq_none (by rw [bigL_len]; omega), List.getElem?_eq_none (by rw [recA_len]; omega)]
end Go.Proofs.Ytndlpmnidpandaa
