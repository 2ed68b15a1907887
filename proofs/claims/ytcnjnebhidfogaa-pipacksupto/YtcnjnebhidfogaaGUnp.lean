/-
  The program's Unpack.
-/
import Derived.Test.YtcnjnebhidfogaaGUnpP
namespace Go.Proofs.Ytcnjnebhidfogaa
open Go.RowKit
set_option linter.unusedVariables false
set_option linter.unusedSimpArgs false

theorem there_of_heap {w : World} {g : Nat} {cs : List Value} {t : TypeId} (hg : w.heap[g]? = some (.cells cs.toArray t (0, 0))) (o n : Nat) (h : o + n ≤ cs.length) : w.there g o n := by
  intro j hj
  constructor
  · simp [World.cell?, hg, List.getElem?_eq_getElem (show o + j < cs.length by omega)]
  · simp [World.frozen?, hg]

theorem unpack_no_true (a : Option Addr) (n cp : Nat) (w : World) (hn : n ≤ maxLen) (hm : n % 24 ≠ 0) :
    Calls Try.prog 17 #[.slice a n cp, .bool true] w fun e w' => e = .returned (.tuple #[.slice none 0 0, .bool false]) ∧ w' = w := by
  unfold maxLen at hn
  have KS : Kpt (∀ W, Calls Try.prog 15 #[.bool true] W fun e w' => e = .returned (.int .i64 24) ∧ w' = W) := ⟨fun W => size_any true W⟩
  have e1 : ((n : Int) % 24 != 0) = true := by simp; omega
  go_enter Try.func17, Try.ntmps17
  go_wp2_with (go_at_call 15; go_must (refine (KS.out _).mono ?_; rintro e w' ⟨rfl, rfl⟩))
  go_ret2
  exact ⟨rfl, rfl⟩

set_option maxRecDepth 100000 in
set_option maxHeartbeats 4000000 in
theorem unpack_true (a : Option Addr) (n cp m : Nat) (zs : List Int) (w : World) (hr : RdAt w (.slice a n cp) zs) (hl : zs.length = n) (hm : n = m * 24) (hb : Bytes zs) (hn : n ≤ 140737488355328) :
    Calls Try.prog 17 #[.slice a n cp, .bool true] w fun e w' => ∃ g, e = .returned (.tuple #[.slice (some ⟨g, 0, none⟩) m m, .bool true]) ∧ w'.heap[g]? = some (.cells (unL true zs m).toArray 33 (0, 0)) ∧ w.heap.size ≤ g ∧ Below w.heap.size w w' := by
  have hlz : zs.length = m * sz true := by rw [hl, hm]; rfl
  have KS : Kpt (∀ W, Calls Try.prog 15 #[.bool true] W fun e w' => e = .returned (.int .i64 24) ∧ w' = W) := ⟨fun W => size_any true W⟩
  obtain ⟨i0, hi0, hz0, hz1, hz2⟩ := info_parts infoB3
  have e1 : ((n : Int) % 24 != 0) = false := by simp; omega
  have e2 : (n : Int) / 24 = (m : Int) := by omega
  have hn63 : (n : Int) ≤ 140737488355328 := by omega
  have hul := Kpt.mk (unL_len true zs m hb hlz)
  have hok := Kpt.mk (fun k hk => unB_ok true zs k m hb hlz hk)
  have hcell : Kpt (∀ j, j < n → ∃ b off, a = some ⟨b, off, none⟩ ∧ b < w.heap.size ∧ ∀ i u, (cels zs)[i]? = some u → w.cell? ⟨b, off + i, none⟩ = some u) := ⟨fun j hj => by
    have hlt := fun g hg => hr.lt (g := g) (by omega) hg
    obtain ⟨a', c', e, h1, h2, h3⟩ := hr
    simp only [Value.slice.injEq] at e
    obtain ⟨rfl, _, _⟩ := e
    rcases h3 with h3 | ⟨b, off, rfl, h3⟩
    · omega
    · exact ⟨b, off, rfl, hlt b rfl, h3⟩⟩
  have hcap : n ≤ cp := by
    obtain ⟨a', c', e, h1, h2, h3⟩ := hr
    simp only [Value.slice.injEq] at e
    omega
  replace hlz := Kpt.mk hlz
  replace hl := Kpt.mk hl
  replace hb := Kpt.mk hb
  replace hm := Kpt.mk hm
  clear hr
  go_enter Try.func17, Try.ntmps17
  go_wp2_with (first | (go_at_call 15; go_must (refine (KS.out _).mono ?_; rintro e w' ⟨rfl, rfl⟩)) | (at_make; go_must (refine wpList_make_full _ rfl _ _ 39 rfl w'.heap.size 33 i0 (.agg zeroB) 19 Try.underlying39 hi0 hz0 hz1 .i64 .i64 _ _ m rfl rfl rfl rfl (by rw [hz2]; have := hm.out; omega) (by unfold maxLen; have := hm.out; omega) (Nat.le_refl _) ?_; intro w1 hown1 hg1; rw [made_zrow] at hown1; replace hown1 := Kpt.mk hown1; have hb1 : Kpt (Below w'.heap.size w' w1) := ⟨(Below.refl _ _).grown hg1 (Nat.le_refl _) (fun k h => by cases h)⟩; clear hg1)))
  have hh1 : Kpt (w1.heap[w'.heap.size]? = some (.cells (unL true zs 0 ++ zrow (m - 0)).toArray 33 (0, 0))) := ⟨by
    rcases hown1.out.2 with ⟨h0, _⟩ | ⟨g, cap, cur, h1, h2, h3, h4, h5, h6, h7⟩
    · cases h0
    · simp only [Value.slice.injEq, Option.some.injEq, Addr.mk.injEq, and_true, true_and] at h1
      obtain ⟨rfl, rfl⟩ := h1
      rw [h3, unL, List.nil_append, Nat.sub_zero, ← h7, List.take_of_length_le (by simp; omega)]⟩
  clear hown1
  obtain ⟨G, hG⟩ : ∃ G, G = w'.heap.size := ⟨_, rfl⟩
  rw [← hG] at hh1 ⊢
  replace hG := Kpt.mk hG
  go_loopw [24] (fun t wr => ∃ k : Nat, k ≤ m ∧ t = .int .i64 k ∧ Kpt (wr.heap[G]? = some (.cells (unL true zs k ++ zrow (m - k)).toArray 33 (0, 0))) ∧ Kpt (Below w'.heap.size w' wr)) (fun t _ => m - (intOf t).toNat)
  case atStart => exact ⟨0, Nat.zero_le _, rfl, hh1, hb1⟩
  case round =>
    obtain ⟨k, hk, rfl, hh, hB⟩ := hrel
    clear hh1 hb1
    by_cases hlt : k < m
    · have el : (k : Int) < m := by omega
      obtain ⟨b, off, rfl, hbl, hsrc⟩ := hcell.out (k * 24) (by have := hm.out; omega)
      have hGb : b ≠ G := by rw [hG.out]; omega
      have hGl : G < wr.heap.size := (Array.getElem?_eq_some_iff.1 hh.out).1
      have hsplit : Kpt (unL true zs k ++ zrow (m - k) = unL true zs k ++ (List.replicate 16 (.int .u8 0) ++ ([.int .u16 0, .int .u16 0, .int .u32 0] ++ zrow (m - (k + 1))))) := ⟨by
        rw [show m - k = (m - (k + 1)) + 1 by omega, zrow]; rfl⟩
      rw [hsplit.out] at hh
      obtain ⟨q, hq⟩ : ∃ q, q = k * 24 := ⟨_, rfl⟩
      have hqn : q + 24 ≤ n := by have := hm.out; omega
      have e3 : (k : Int) * 24 = (q : Int) := by omega
      have e4 : ((k : Int) + 1) * 24 = (q : Int) + 24 := by omega
      have e5 : q + 24 - q = 24 := by omega
      have hda : Kpt (∀ W : World, (∀ p : Addr, p.block = b → W.cell? p = w'.cell? p) → ∀ j u, (cels (unB true zs k).d)[j]? = some u → W.cell? ⟨b, off + q + j, none⟩ = some u) := ⟨fun W hW j u hu => by
        have hj : j < 16 := by have := (List.getElem?_eq_some_iff.1 hu).1; rw [cels_length, (hok.out k hlt).len] at this; exact this
        rw [hW ⟨b, off + q + j, none⟩ rfl, show off + q + j = off + (q + j) by omega]
        refine hsrc (q + j) u ?_
        rw [← hu]
        simp only [unB, if_true, Bool.false_eq_true, if_false, cels, List.getElem?_map, List.getElem?_take, List.getElem?_drop, if_pos hj, hq]⟩
      have hcw : Kpt (∀ p : Addr, p.block = b → wr.cell? p = w'.cell? p) := ⟨fun p hp => World.cell?_of_block (by rw [hp]; exact hB.out.block b hbl)⟩
      have hd16 := Kpt.mk (hok.out k hlt).len
      have hul' := Kpt.mk (hul.out k (by omega))
      have hcq : ¬ cp = q := by omega
      have hcq2 : ¬ cp - q = 16 := by omega
      obtain ⟨t0, ht0⟩ : ∃ t, t = zs.getD (q + 16) 0 := ⟨_, rfl⟩
      have b0 := hb.out (q + 16)
      rw [← ht0] at b0
      obtain ⟨t1, ht1⟩ : ∃ t, t = zs.getD (q + 17) 0 := ⟨_, rfl⟩
      have b1 := hb.out (q + 17)
      rw [← ht1] at b1
      obtain ⟨t2, ht2⟩ : ∃ t, t = zs.getD (q + 18) 0 := ⟨_, rfl⟩
      have b2 := hb.out (q + 18)
      rw [← ht2] at b2
      obtain ⟨t3, ht3⟩ : ∃ t, t = zs.getD (q + 19) 0 := ⟨_, rfl⟩
      have b3 := hb.out (q + 19)
      rw [← ht3] at b3
      obtain ⟨t4, ht4⟩ : ∃ t, t = zs.getD (q + 20) 0 := ⟨_, rfl⟩
      have b4 := hb.out (q + 20)
      rw [← ht4] at b4
      obtain ⟨t5, ht5⟩ : ∃ t, t = zs.getD (q + 21) 0 := ⟨_, rfl⟩
      have b5 := hb.out (q + 21)
      rw [← ht5] at b5
      obtain ⟨t6, ht6⟩ : ∃ t, t = zs.getD (q + 22) 0 := ⟨_, rfl⟩
      have b6 := hb.out (q + 22)
      rw [← ht6] at b6
      obtain ⟨t7, ht7⟩ : ∃ t, t = zs.getD (q + 23) 0 := ⟨_, rfl⟩
      have b7 := hb.out (q + 23)
      rw [← ht7] at b7
      have hue : Kpt (unB true zs k = ⟨(unB true zs k).d, t0 * 256 + t1, t2 * 256 + t3, t4 * 16777216 + t5 * 65536 + t6 * 256 + t7⟩) := ⟨by simp only [unB, if_true, ht0, ht1, ht2, ht3, ht4, ht5, ht6, ht7, hq]⟩
      have hta : Kpt (∀ W : World, (∀ p : Addr, p.block = b → W.cell? p = w'.cell? p) → ∀ j u, (cels [t0, t1, t2, t3, t4, t5, t6, t7])[j]? = some u → W.cell? ⟨b, off + q + 16 + j, none⟩ = some u) := ⟨fun W hW j u hu => by
        have hj : j < 8 := by have := (List.getElem?_eq_some_iff.1 hu).1; simpa [cels] using this
        rw [hW ⟨b, off + q + 16 + j, none⟩ rfl, show off + q + 16 + j = off + (q + (16 + j)) by omega]
        refine hsrc (q + (16 + j)) u ?_
        rw [← hu]
        have hjj : j = 0 ∨ j = 1 ∨ j = 2 ∨ j = 3 ∨ j = 4 ∨ j = 5 ∨ j = 6 ∨ j = 7 := by omega
        have key : ∀ (i : Nat) (x : Int), i < 24 → x = zs.getD (q + i) 0 → (cels zs)[q + i]? = some (.int .u8 x) := fun i x hi hx => by
          rw [cels, List.getElem?_map, List.getElem?_eq_getElem (by rw [hl.out]; omega), hx, List.getD_eq_getElem?_getD, List.getElem?_eq_getElem (by rw [hl.out]; omega)]
          rfl
        rcases hjj with rfl | rfl | rfl | rfl | rfl | rfl | rfl | rfl
        · exact key 16 t0 (by decide) ht0
        · exact key 17 t1 (by decide) ht1
        · exact key 18 t2 (by decide) ht2
        · exact key 19 t3 (by decide) ht3
        · exact key 20 t4 (by decide) ht4
        · exact key 21 t5 (by decide) ht5
        · exact key 22 t6 (by decide) ht6
        · exact key 23 t7 (by decide) ht7⟩
      clear ht0 ht1 ht2 ht3 ht4 ht5 ht6 ht7
      obtain ⟨D, hD⟩ : ∃ D, D = (unB true zs k).d := ⟨_, rfl⟩
      rw [← hD] at hda hd16 hue
      clear hD hq hsrc hsplit
      go_wp2_with (first | (refine (?_ : wpList _ _ _ (Oper.mk none (Op.store 28 (.tmp 50) (.tmp 48)) _ _ _ _ :: _) _ _); go_must (refine wpList_store_mid rfl 28 (.tmp 50) (.tmp 48) rfl G (k * 19 + 16) (tupV (t0 * 256 + t1) (t2 * 256 + t3) (t4 * 16777216 + t5 * 65536 + t6 * 256 + t7)) rfl rfl hth3.out infoT (tup_one _ _ _) ?_; have hh4 := Kpt.mk (set3_heap x3 G (k * 19 + 16) _ _ _ _ _ (.int .u16 (t0 * 256 + t1)) (.int .u16 (t2 * 256 + t3)) (.int .u32 (t4 * 16777216 + t5 * 65536 + t6 * 256 + t7)) 33 hh3.out hA3.out); have hg4 := grown_setCells G [(.int .u16 (t0 * 256 + t1)), (.int .u16 (t2 * 256 + t3)), (.int .u32 (t4 * 16777216 + t5 * 65536 + t6 * 256 + t7))] (k * 19 + 16) x3; have hx4 : Kpt (Below w'.heap.size w' (x3.setCells G (k * 19 + 16) [(.int .u16 (t0 * 256 + t1)), (.int .u16 (t2 * 256 + t3)), (.int .u32 (t4 * 16777216 + t5 * 65536 + t6 * 256 + t7))])) := ⟨hx3.out.grown hg4 hx3.out.size (fun z hz => by cases hz; rw [hG.out]; exact Nat.le_refl _)⟩; clear hg4)) | (go_at_call 27; go_must (refine (readTuple_any b (off + q + 16) _ _ t0 t1 t2 t3 t4 t5 t6 t7 _ (by omega) hb2.out b0 b1 b2 b3 b4 b5 b6 b7 (hta.out _ hc2.out)).mono ?_; rintro e x3 ⟨rfl, hz⟩; have hh3 : Kpt (x3.heap[G]? = some (.cells (((unL true zs k ++ cels D) ++ ([Value.int .u16 0, Value.int .u16 0, Value.int .u32 0] ++ zrow (m - (k + 1))) : List Value)).toArray 33 (0, 0))) := ⟨by rw [hz.block G hG2.out, hh2.out, List.append_assoc (unL true zs k) (cels D)]⟩; have hx3 : Kpt (Below w'.heap.size w' x3) := ⟨hx2.out.trans (hz.mono hx2.out.size)⟩; have hA3 : Kpt ((unL true zs k ++ cels D).length = k * 19 + 16) := ⟨by rw [List.length_append, hul'.out, cels_length, hd16.out]⟩; have hth3 : Kpt (x3.there G (k * 19 + 16) 3) := ⟨there_of_heap hh3.out _ _ (by rw [List.length_append, hA3.out]; simp)⟩; clear hz)) | (refine (?_ : wpList _ _ _ (Oper.mk (some 42) (Op.call _) _ _ _ _ :: _) _ _); go_must (refine wpList_copy_mid rfl (.tmp 40) (.tmp 41) rfl G (k * 19) (unL true zs k) ([.int .u16 0, .int .u16 0, .int .u32 0] ++ zrow (m - (k + 1))) (List.replicate 16 (.int .u8 0)) 33 b (off + q) (q + 24 - q) _ D rfl rfl hh.out hul'.out rfl hd16.out (by omega) (hda.out _ hcw.out) ?_; intro x2 hh2 hg2; have hx2 : Kpt (Below w'.heap.size w' x2) := ⟨hB.out.grown hg2 hB.out.size (fun z hz => by cases hz; rw [hG.out]; exact Nat.le_refl _)⟩; have hc2 : Kpt (∀ p : Addr, p.block = b → x2.cell? p = w'.cell? p) := ⟨fun p hp => (World.cell?_of_block (by rw [hp]; exact hg2.block b (Nat.lt_of_lt_of_le hbl hB.out.size) (fun (e : some b = some G) => by injection e with e; exact hGb e))).trans (hcw.out p hp)⟩; have hb2 : Kpt (b < x2.heap.size) := ⟨Nat.lt_of_lt_of_le hbl hx2.out.size⟩; have hG2 : Kpt (G < x2.heap.size) := ⟨Nat.lt_of_lt_of_le hGl hg2.size⟩; replace hh2 := Kpt.mk hh2; clear hg2 hh hB)))
      go_roundw
      case rel => exact ⟨k + 1, by omega, by go_num, ⟨by have := hh4.out; rw [unL, hue.out, Bk.cs, List.append_assoc, List.append_assoc]; rw [List.append_assoc] at this; exact this⟩, hx4⟩
      case measure => simp [intOf]; omega
    · have el : ¬ (k : Int) < m := by omega
      obtain rfl : k = m := by omega
      go_wp2
      go_ret2
      exact ⟨G, rfl, by rw [hh.out, Nat.sub_self, zrow, List.append_nil], by rw [hG.out]; exact Nat.le_refl _, hB.out⟩

theorem unpack_no_false (a : Option Addr) (n cp : Nat) (w : World) (hn : n ≤ maxLen) (hm : n % 16 ≠ 0) :
    Calls Try.prog 17 #[.slice a n cp, .bool false] w fun e w' => e = .returned (.tuple #[.slice none 0 0, .bool false]) ∧ w' = w := by
  unfold maxLen at hn
  have KS : Kpt (∀ W, Calls Try.prog 15 #[.bool false] W fun e w' => e = .returned (.int .i64 16) ∧ w' = W) := ⟨fun W => size_any false W⟩
  have e1 : ((n : Int) % 16 != 0) = true := by simp; omega
  go_enter Try.func17, Try.ntmps17
  go_wp2_with (go_at_call 15; go_must (refine (KS.out _).mono ?_; rintro e w' ⟨rfl, rfl⟩))
  go_ret2
  exact ⟨rfl, rfl⟩

set_option maxRecDepth 100000 in
set_option maxHeartbeats 4000000 in
theorem unpack_false (a : Option Addr) (n cp m : Nat) (zs : List Int) (w : World) (hr : RdAt w (.slice a n cp) zs) (hl : zs.length = n) (hm : n = m * 16) (hb : Bytes zs) (hn : n ≤ 140737488355328) :
    Calls Try.prog 17 #[.slice a n cp, .bool false] w fun e w' => ∃ g, e = .returned (.tuple #[.slice (some ⟨g, 0, none⟩) m m, .bool true]) ∧ w'.heap[g]? = some (.cells (unL false zs m).toArray 33 (0, 0)) ∧ w.heap.size ≤ g ∧ Below w.heap.size w w' := by
  have hlz : zs.length = m * sz false := by rw [hl, hm]; rfl
  have KS : Kpt (∀ W, Calls Try.prog 15 #[.bool false] W fun e w' => e = .returned (.int .i64 16) ∧ w' = W) := ⟨fun W => size_any false W⟩
  obtain ⟨i0, hi0, hz0, hz1, hz2⟩ := info_parts infoB3
  have e1 : ((n : Int) % 16 != 0) = false := by simp; omega
  have e2 : (n : Int) / 16 = (m : Int) := by omega
  have hn63 : (n : Int) ≤ 140737488355328 := by omega
  have hul := Kpt.mk (unL_len false zs m hb hlz)
  have hok := Kpt.mk (fun k hk => unB_ok false zs k m hb hlz hk)
  have hcell : Kpt (∀ j, j < n → ∃ b off, a = some ⟨b, off, none⟩ ∧ b < w.heap.size ∧ ∀ i u, (cels zs)[i]? = some u → w.cell? ⟨b, off + i, none⟩ = some u) := ⟨fun j hj => by
    have hlt := fun g hg => hr.lt (g := g) (by omega) hg
    obtain ⟨a', c', e, h1, h2, h3⟩ := hr
    simp only [Value.slice.injEq] at e
    obtain ⟨rfl, _, _⟩ := e
    rcases h3 with h3 | ⟨b, off, rfl, h3⟩
    · omega
    · exact ⟨b, off, rfl, hlt b rfl, h3⟩⟩
  have hcap : n ≤ cp := by
    obtain ⟨a', c', e, h1, h2, h3⟩ := hr
    simp only [Value.slice.injEq] at e
    omega
  replace hlz := Kpt.mk hlz
  replace hl := Kpt.mk hl
  replace hb := Kpt.mk hb
  replace hm := Kpt.mk hm
  clear hr
  go_enter Try.func17, Try.ntmps17
  go_wp2_with (first | (go_at_call 15; go_must (refine (KS.out _).mono ?_; rintro e w' ⟨rfl, rfl⟩)) | (at_make; go_must (refine wpList_make_full _ rfl _ _ 39 rfl w'.heap.size 33 i0 (.agg zeroB) 19 Try.underlying39 hi0 hz0 hz1 .i64 .i64 _ _ m rfl rfl rfl rfl (by rw [hz2]; have := hm.out; omega) (by unfold maxLen; have := hm.out; omega) (Nat.le_refl _) ?_; intro w1 hown1 hg1; rw [made_zrow] at hown1; replace hown1 := Kpt.mk hown1; have hb1 : Kpt (Below w'.heap.size w' w1) := ⟨(Below.refl _ _).grown hg1 (Nat.le_refl _) (fun k h => by cases h)⟩; clear hg1)))
  have hh1 : Kpt (w1.heap[w'.heap.size]? = some (.cells (unL false zs 0 ++ zrow (m - 0)).toArray 33 (0, 0))) := ⟨by
    rcases hown1.out.2 with ⟨h0, _⟩ | ⟨g, cap, cur, h1, h2, h3, h4, h5, h6, h7⟩
    · cases h0
    · simp only [Value.slice.injEq, Option.some.injEq, Addr.mk.injEq, and_true, true_and] at h1
      obtain ⟨rfl, rfl⟩ := h1
      rw [h3, unL, List.nil_append, Nat.sub_zero, ← h7, List.take_of_length_le (by simp; omega)]⟩
  clear hown1
  obtain ⟨G, hG⟩ : ∃ G, G = w'.heap.size := ⟨_, rfl⟩
  rw [← hG] at hh1 ⊢
  replace hG := Kpt.mk hG
  go_loopw [24] (fun t wr => ∃ k : Nat, k ≤ m ∧ t = .int .i64 k ∧ Kpt (wr.heap[G]? = some (.cells (unL false zs k ++ zrow (m - k)).toArray 33 (0, 0))) ∧ Kpt (Below w'.heap.size w' wr)) (fun t _ => m - (intOf t).toNat)
  case atStart => exact ⟨0, Nat.zero_le _, rfl, hh1, hb1⟩
  case round =>
    obtain ⟨k, hk, rfl, hh, hB⟩ := hrel
    clear hh1 hb1
    by_cases hlt : k < m
    · have el : (k : Int) < m := by omega
      obtain ⟨b, off, rfl, hbl, hsrc⟩ := hcell.out (k * 16) (by have := hm.out; omega)
      have hGb : b ≠ G := by rw [hG.out]; omega
      have hGl : G < wr.heap.size := (Array.getElem?_eq_some_iff.1 hh.out).1
      have hsplit : Kpt (unL false zs k ++ zrow (m - k) = unL false zs k ++ (List.replicate 16 (.int .u8 0) ++ ([.int .u16 0, .int .u16 0, .int .u32 0] ++ zrow (m - (k + 1))))) := ⟨by
        rw [show m - k = (m - (k + 1)) + 1 by omega, zrow]; rfl⟩
      rw [hsplit.out] at hh
      obtain ⟨q, hq⟩ : ∃ q, q = k * 16 := ⟨_, rfl⟩
      have hqn : q + 16 ≤ n := by have := hm.out; omega
      have e3 : (k : Int) * 16 = (q : Int) := by omega
      have e4 : ((k : Int) + 1) * 16 = (q : Int) + 16 := by omega
      have e5 : q + 16 - q = 16 := by omega
      have hda : Kpt (∀ W : World, (∀ p : Addr, p.block = b → W.cell? p = w'.cell? p) → ∀ j u, (cels (unB false zs k).d)[j]? = some u → W.cell? ⟨b, off + q + j, none⟩ = some u) := ⟨fun W hW j u hu => by
        have hj : j < 16 := by have := (List.getElem?_eq_some_iff.1 hu).1; rw [cels_length, (hok.out k hlt).len] at this; exact this
        rw [hW ⟨b, off + q + j, none⟩ rfl, show off + q + j = off + (q + j) by omega]
        refine hsrc (q + j) u ?_
        rw [← hu]
        simp only [unB, if_true, Bool.false_eq_true, if_false, cels, List.getElem?_map, List.getElem?_take, List.getElem?_drop, if_pos hj, hq]⟩
      have hcw : Kpt (∀ p : Addr, p.block = b → wr.cell? p = w'.cell? p) := ⟨fun p hp => World.cell?_of_block (by rw [hp]; exact hB.out.block b hbl)⟩
      have hd16 := Kpt.mk (hok.out k hlt).len
      have hul' := Kpt.mk (hul.out k (by omega))
      have hcq : ¬ cp = q := by omega
      obtain ⟨D, hD⟩ : ∃ D, D = (unB false zs k).d := ⟨_, rfl⟩
      rw [← hD] at hda hd16
      have hue : Kpt (unB false zs k = ⟨D, 0, 0, 0⟩) := ⟨by rw [hD]; simp only [unB, Bool.false_eq_true, if_false]⟩
      clear hD hq hsrc hsplit
      go_wp2_with (first | (refine (?_ : wpList _ _ _ (Oper.mk (some 42) (Op.call _) _ _ _ _ :: _) _ _); go_must (refine wpList_copy_mid rfl (.tmp 40) (.tmp 41) rfl G (k * 19) (unL false zs k) ([.int .u16 0, .int .u16 0, .int .u32 0] ++ zrow (m - (k + 1))) (List.replicate 16 (.int .u8 0)) 33 b (off + q) (q + 16 - q) _ D rfl rfl hh.out hul'.out rfl hd16.out (by omega) (hda.out _ hcw.out) ?_; intro x2 hh2 hg2; have hx2 : Kpt (Below w'.heap.size w' x2) := ⟨hB.out.grown hg2 hB.out.size (fun z hz => by cases hz; rw [hG.out]; exact Nat.le_refl _)⟩; have hc2 : Kpt (∀ p : Addr, p.block = b → x2.cell? p = w'.cell? p) := ⟨fun p hp => (World.cell?_of_block (by rw [hp]; exact hg2.block b (Nat.lt_of_lt_of_le hbl hB.out.size) (fun (e : some b = some G) => by injection e with e; exact hGb e))).trans (hcw.out p hp)⟩; have hb2 : Kpt (b < x2.heap.size) := ⟨Nat.lt_of_lt_of_le hbl hx2.out.size⟩; have hG2 : Kpt (G < x2.heap.size) := ⟨Nat.lt_of_lt_of_le hGl hg2.size⟩; replace hh2 := Kpt.mk hh2; clear hg2 hh hB)))
      go_roundw
      case rel => exact ⟨k + 1, by omega, by go_num, ⟨by have := hh2.out; rw [unL, hue.out, Bk.cs, List.append_assoc, List.append_assoc]; exact this⟩, hx2⟩
      case measure => simp [intOf]; omega
    · have el : ¬ (k : Int) < m := by omega
      obtain rfl : k = m := by omega
      go_wp2
      go_ret2
      exact ⟨G, rfl, by rw [hh.out, Nat.sub_self, zrow, List.append_nil], by rw [hG.out]; exact Nat.le_refl _, hB.out⟩
end Go.Proofs.Ytcnjnebhidfogaa
