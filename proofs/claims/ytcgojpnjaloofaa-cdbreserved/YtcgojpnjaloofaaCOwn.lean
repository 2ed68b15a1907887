/-
  Rows of one's own: stored into, appended to; numbers as bytes (the document's Big).
-/
import Derived.Test.YtcgojpnjaloofaaCSmall
import Derived.Test.YtcgojpnjaloofaaBPutNum
import Derived.Outline
namespace Go.Proofs.Ytcgojpnjaloofaa
open Go.RowKit
set_option linter.unusedVariables false
set_option linter.unusedSimpArgs false

theorem own_facts {w : World} {base g : Nat} {zs : List Int} {n c : Nat} (h : w.ownsRow base 5 1 (.slice (some ⟨g, 0, none⟩) n c) n (cels zs)) (i : Nat) (hi : i < n) :
    w.cell? ⟨g, i, none⟩ = some (.int .u8 (zs.getD i 0)) := by
  have hl : zs.length = n := by have := h.1; simpa using this
  rw [h.cellAt i (by omega)]
  unfold cels
  rw [List.getElem?_map, List.getElem?_eq_getElem (by omega), List.getD_eq_getElem?_getD, List.getElem?_eq_getElem (by omega)]
  rfl

theorem own_set {w : World} {base g : Nat} {zs : List Int} {n c : Nat} (h : w.ownsRow base 5 1 (.slice (some ⟨g, 0, none⟩) n c) n (cels zs)) (i : Nat) (x : Int) :
    (w.setCell ⟨g, i, none⟩ (.int .u8 x)).ownsRow base 5 1 (.slice (some ⟨g, 0, none⟩) n c) n (cels (zs.set i x)) := by
  have := (h.stored i (.int .u8 x)).1
  unfold cels at *
  rw [List.map_set]
  exact this

theorem made_u8 (n : Nat) : (madeCells (Value.int .u8 0).cells (n * 1)).toList = cels (List.replicate n 0) := by
  simp [madeCells, Value.cells, cels]
  refine List.ext_getElem (by simp) (fun i h1 h2 => ?_)
  simp [Nat.mod_one]

theorem own_rd {w : World} {b n c g : Nat} {zs : List Int} (h : w.ownsRow b 5 1 (.slice (some ⟨g, 0, none⟩) n c) n (cels zs)) : RdAt w (.slice (some ⟨g, 0, none⟩) n c) zs := by
  obtain ⟨h0, h1⟩ := h
  have hz : zs.length = n := by simpa using h0
  refine Row.rd (show w.ownsRow 0 5 1 _ zs.length _ from ⟨by simp, ?_⟩)
  rw [hz]
  rcases h1 with h1 | ⟨g, cap, cur, e, _, rest⟩
  · exact .inl h1
  · exact .inr ⟨g, cap, cur, e, Nat.zero_le _, rest⟩

theorem own_base {w : World} {b b' n : Nat} {v : Value} {zs : List Value} (h : w.ownsRow b 5 1 v n zs) (hb : b' ≤ b) : w.ownsRow b' 5 1 v n zs := by
  refine ⟨h.1, ?_⟩
  rcases h.2 with h1 | ⟨g, cap, cur, e, hg, rest⟩
  · exact .inl h1
  · exact .inr ⟨g, cap, cur, e, Nat.le_trans hb hg, rest⟩

theorem own_of_block {w w' : World} {b n : Nat} {v : Value} {zs : List Value} (h : w.ownsRow b 5 1 v n zs) (hb : ∀ g, v.ownBlock = some g → w'.heap[g]? = w.heap[g]?) : w'.ownsRow b 5 1 v n zs := by
  refine ⟨h.1, ?_⟩
  rcases h.2 with hn | ⟨g, cap, cur, rfl, h0, hgg, rest⟩
  · exact .inl hn
  · exact .inr ⟨g, cap, cur, rfl, h0, (hb g rfl).trans hgg, rest⟩

theorem own_shape {w : World} {base n : Nat} {v : Value} {xs : List Value} (h : w.ownsRow base 5 1 v n xs) (h0 : 0 < n) : ∃ g cap, v = .slice (some ⟨g, 0, none⟩) n cap ∧ base ≤ g ∧ g < w.heap.size := by
  rcases id h.2 with ⟨_, h'⟩ | ⟨g, cap, cur, h', hb, _⟩
  · omega
  · exact ⟨g, cap, h', hb, (World.ownsRow.lt h g (by rw [h']; rfl)).2⟩

theorem own_re {w : World} {b b' n g k c : Nat} {xs : List Value} (h : w.ownsRow b 5 1 (.slice (some ⟨g, 0, none⟩) k c) n xs) (hb : b' ≤ g) : w.ownsRow b' 5 1 (.slice (some ⟨g, 0, none⟩) k c) n xs := by
  refine ⟨h.1, ?_⟩
  rcases h.2 with ⟨h1, _⟩ | ⟨g', cap, cur, e, _, rest⟩
  · cases h1
  · have : g' = g := by simp at e; exact e.1.symm
    subst this
    exact .inr ⟨g', cap, cur, e, hb, rest⟩

theorem wpList_append_new {w : World} {ops : Array Oper} {rest : List Oper} {o : Oper} {a : Act} {Q : Exit → Act → World → Prop} (hgd : o.guard = none) (d s : Operand)
    (ho : o.op = .call { callee := .builtin .append, args := #[d, s], argTypes := #[22, 22] })
    (base : Nat) (v sv : Value) (zs ds : List Int) (m n : Nat) (hd : a.eval d = v) (hs : a.eval s = sv) (hown : w.ownsRow base 5 1 v m (cels zs)) (hrd : RdAt w sv ds) (hpos : 0 < ds.length) (hm : zs.length = m) (hn : m + ds.length = n) (hlen : n ≤ 140737488355328) (hb : base ≤ w.heap.size)
    (h : ∀ g cap w', Kpt (w'.ownsRow base 5 1 (.slice (some ⟨g, 0, none⟩) n cap) n (cels (zs ++ ds))) → Kpt (base ≤ g ∧ g < w'.heap.size) → Kpt (w.grownBy w' v.ownBlock) →
      wpList Try.prog ops Q rest (a.put o.dst (.slice (some ⟨g, 0, none⟩) n cap)) w') : wpList Try.prog ops Q (o :: rest) a w := by
  subst hm hn
  obtain ⟨i0, hi0, hz0, hz1, hz2⟩ := info_parts Try.info5
  obtain ⟨sa, sc, rfl, hsn, hsl, hsr⟩ := hrd
  rcases hsr with h1 | ⟨b, soff, rfl, hc⟩
  · omega
  refine wpList_append_own _ hgd d s 22 ho base 5 i0 (.int .u8 0) 1 1 Try.underlying22 hi0 hz0 hz1 hz2 rfl (by decide) v zs.length (cels zs) hd hown ⟨b, soff, none⟩ ds.length sc (cels ds) hs (by simp) (fun j u hu => by rw [Go.WideShapes.add_plain]; exact hc j u hu) (cels_one _) (by unfold maxLen; omega) (by omega) hb ?_
  intro v1 w1 hown1 hg1 _
  obtain ⟨g, cap, rfl, hg, hlt⟩ := own_shape hown1 (by omega)
  exact h g cap w1 ⟨by rw [cels_append]; exact hown1⟩ ⟨hg, hlt⟩ ⟨hg1⟩

def bigL (v : Int) (n : Nat) : List Int := B.desc (List.replicate n 0) 0 n v n

theorem bigL_len (v : Int) (n : Nat) : (bigL v n).length = n := by simp [bigL, B.desc_len]

set_option maxHeartbeats 1000000 in
theorem big_any (v : Int) (n : Nat) (w : World) (hv : 0 ≤ v) (hv2 : v < 18446744073709551616) (hn : 0 < n) (hn8 : n ≤ 8) :
    Calls Try.prog 16 #[.int .u64 v, .int .i64 n] w fun e w' => ∃ g, e = .returned (.slice (some ⟨g, 0, none⟩) n n) ∧ New w w' (.slice (some ⟨g, 0, none⟩) n n) (bigL v n) := by
  obtain ⟨i0, hi0, hz0, hz1, hz2⟩ := info_parts Try.info5
  have hnm : n ≤ maxLen := by unfold maxLen; omega
  go_enter Try.func16, Try.ntmps16
  go_wp2_with (at_make; refine wpList_make_full _ rfl _ _ 22 rfl w.heap.size 5 i0 (.int .u8 0) 1 Try.underlying22 hi0 hz0 hz1 .i64 .i64 _ _ n rfl rfl rfl rfl (by rw [hz2]; omega) hnm (Nat.le_refl _) ?_; intro w1 hown1 hg1; have hb1 : Kpt (Below w.heap.size w w1) := ⟨(Below.refl _ _).grown hg1 (Nat.le_refl _) (fun k h => by cases h)⟩; rw [made_u8] at hown1; replace hown1 := Kpt.mk hown1; clear hg1)
  go_loopw [0, 6] (fun x t wr => ∃ m : Nat, m ≤ n ∧ x = .int .u64 (v / 2 ^ (8 * m)) ∧ t = .int .i64 ((n : Int) - 1 - m) ∧ wr.ownsRow w.heap.size 5 1 (.slice (some ⟨w.heap.size, 0, none⟩) n n) n (cels (B.desc (List.replicate n 0) 0 n v m)) ∧ Below w.heap.size w wr) (fun _ t _ => ((intOf t) + 1).toNat)
  case atStart => exact ⟨0, by omega, by simp, by go_num, hown1.out, hb1.out⟩
  case round =>
    obtain ⟨m, hm, rfl, rfl, hown, hb⟩ := hrel
    by_cases hlt : m < n
    · obtain ⟨d, hd⟩ : ∃ d, d = n - 1 - m := ⟨_, rfl⟩
      have hdk : (n : Int) - 1 - m = (d : Int) := by omega
      have hx := own_facts hown d (by omega)
      have hfr := hown.frozenAt d
      have HO := Kpt.mk hown
      have h0 := B.div_nonneg v hv m
      have h9 := B.div_le v hv m
      have hstep := Kpt.mk (B.div_step v m)
      have h1 : d < n := by omega
      have HD := Kpt.mk hd
      rw [hdk]
      clear hown hd hdk
      obtain ⟨y, hy⟩ : ∃ y, y = v / 2 ^ (8 * m) := ⟨_, rfl⟩
      rw [← hy] at h0 h9 hstep ⊢
      replace hy := Kpt.mk hy
      go_wp2
      go_roundw
      case rel =>
        refine ⟨m + 1, by omega, ?_, ?_, ?_, hb.setCell (Nat.le_refl _) _⟩
        · rw [← hstep.out]
        · have := HD.out; go_num
        · have := own_set HO.out d (y % 256)
          rw [show B.desc (List.replicate n 0) 0 n v (m + 1) = (B.desc (List.replicate n 0) 0 n v m).set d (y % 256) from by rw [B.desc, HD.out, hy.out]; simp]
          exact this
      case measure => have := HD.out; first | (simp [intOf]; done) | (simp [intOf]; omega)
    · obtain rfl : m = n := by omega
      go_wp2
      go_ret
      exact ⟨_, rfl, by rw [bigL_len]; exact hown, hb⟩

end Go.Proofs.Ytcgojpnjaloofaa
