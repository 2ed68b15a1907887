/-
  The contract of the last blocks of a sum: the bytes behind the whole blocks, and what is laid behind them.
-/
import Derived.Test.YtaedkofljmonjaaDoorQPut
import Derived.Deep.DeepMust
import Derived.OwnWalk
namespace Go.Proofs.YtaedkofljmonjaaDoor
open Go.RowKit
set_option linter.unusedVariables false
set_option linter.unusedSimpArgs false

theorem row_bx {w : World} {g n c : Nat} {Z : List Int} (h : Row w (.slice (some ⟨g, 0, none⟩) n c) Z) (hn : n = Z.length) : Bx w g (cels Z).toArray := by
  subst hn
  refine ⟨Row.lt h rfl, fun j hj => ?_, fun j => ?_⟩
  · have hj' : j < (cels Z).length := by simpa using hj
    have := World.ownsRow.cells h (g := g) rfl j (cels Z)[j] (by rw [List.getElem?_eq_getElem hj'])
    rw [Go.WideShapes.add_plain, Nat.zero_add] at this
    rw [this]; simp
  · rcases h.2 with ⟨hx, _⟩ | ⟨g', cap', cur, hx, hbg, hg, _⟩
    · cases hx
    · simp only [Value.slice.injEq, Option.some.injEq, Addr.mk.injEq, and_true, true_and] at hx
      obtain ⟨rfl, rfl⟩ := hx
      simp [World.frozen?, hg]

theorem endL_eq (L : Nat) (zs : List Int) (size : Nat) (hl : zs.length < 64) (hL : L = 64 * ((zs.length + 72) / 64)) :
    over ((over (List.replicate L 0) 0 zs).set zs.length 128) (L - 8) (lowL (size * 8 % 18446744073709551616) 8) = zs ++ padL zs.length size := by
  have e1 : over (List.replicate L 0) 0 zs = zs ++ List.replicate (L - zs.length) 0 := by simp [over]
  have e2 : (zs ++ List.replicate (L - zs.length) (0 : Int)).set zs.length 128 = zs ++ 128 :: List.replicate (L - zs.length - 1) 0 := by
    rw [List.set_append_right _ _ (Nat.le_refl _), Nat.sub_self]
    have : L - zs.length = (L - zs.length - 1) + 1 := by omega
    rw [this, List.replicate_succ]
    simp
  rw [e1, e2]
  unfold over padL
  have e3 : (zs ++ (128 : Int) :: List.replicate (L - zs.length - 1) 0).take (L - 8) = zs ++ 128 :: List.replicate ((119 - zs.length) % 64) 0 := by
    rw [List.take_append, List.take_of_length_le (by omega)]
    have : L - 8 - zs.length = (119 - zs.length) % 64 + 1 := by omega
    rw [this, List.take_succ_cons, List.take_replicate]
    congr 3
    omega
  rw [e3, List.drop_eq_nil_of_le (by simp [lowL_length]; omega)]
  simp

set_option maxRecDepth 100000 in
set_option maxHeartbeats 1000000 in
theorem ending_64 (v : Value) (a : Option Addr) (n c : Nat) (hva : v = .slice a n c) (size : Nat) (zs : List Int) (w : World) (hr : RdAt w v zs) (hn : n = zs.length) (hl : zs.length ≤ 55)  (hs : size < 9223372036854775808) :
    Calls Tryd.prog 19 #[v, .int .i64 (size : Int)] w fun e w' => e = .returned (.slice (some ⟨w.heap.size, 0, none⟩) 64 64) ∧ Bx w' w.heap.size (cels (zs ++ padL zs.length size)).toArray ∧ Below w.heap.size w w' := by
  subst hva
  obtain ⟨i0', hi0, hz0, hz1, hz2⟩ := info_parts Tryd.info5
  have hnm : 64 ≤ maxLen := by unfold maxLen; omega
  replace hr := Kpt.mk hr
  have hn' := Kpt.mk hn
  have hlen : n ≤ 55 := by omega
  
  clear hn hl 
  go_enter Tryd.func19, Tryd.ntmps19
  go_wp2_with (first
    | (go_at_call 20; have hm := m3; go_must (refine (put_any w.heap.size 56 8 _ (size * 8 % 18446744073709551616) _ _ hX3.out (by omega) (by rw [List.length_set, hzo.out]; omega) (by omega) (Nat.mod_lt _ (by omega))).mono ?_; rintro e w4 ⟨⟨r, rfl⟩, hX4, hg4⟩; replace hX4 := Kpt.mk hX4; replace hg4 := Kpt.mk hg4; clear hm m3))
    | (refine (?_ : wpList _ _ _ (Oper.mk none (Op.store 5 _ _) _ _ _ _ :: _) _ _); have hm := m2; go_must (refine wpList_store_cell rfl rfl w.heap.size n (cels (over (List.replicate 64 0) 0 zs)).toArray (.int .u8 128) rfl rfl rfl hX2.out (by rw [hsz.out]; omega) (by kernel_rfl) rfl ?_; intro w3 hX3 hg3; rw [cels_set] at hX3; replace hX3 := Kpt.mk hX3; replace hg3 := Kpt.mk hg3; clear hm m2; have m3 : Kpt True := ⟨trivial⟩))
    | (refine (?_ : wpList _ _ _ (Oper.mk (some 18) (Op.call _) _ _ _ _ :: _) _ _); have hm := m1; go_must (refine wpList_copy_row rfl (.tmp 16) (.tmp 17) rfl (.slice (some ⟨w.heap.size, 0, none⟩) 64 64) (List.replicate 64 0) hown1.out 0 _ _ _ rfl (by simp) (.inr ⟨w.heap.size, 64, by simp, .inr rfl⟩) (fun h => by cases h) _ zs rfl (hr.out.bel hb1.out) (by simp; have := hn'.out; omega) ?_; intro w2 hrow2 hg2; have hzo : Kpt ((over (List.replicate 64 0) 0 zs).length = 64) := ⟨by rw [over_length _ _ _ (by simp; have := hn'.out; omega)]; simp⟩; have hX2 := Kpt.mk (row_bx hrow2 (by rw [hzo.out])); have hsz : Kpt ((cels (over (List.replicate 64 0) 0 zs)).toArray.size = 64) := ⟨by rw [List.size_toArray, cels_length, hzo.out]⟩; replace hg2 := Kpt.mk hg2; clear hrow2 hm m1; have m2 : Kpt True := ⟨trivial⟩))
    | (at_make; go_must (refine wpList_make_full _ rfl _ _ 22 rfl w.heap.size 5 i0' (.int .u8 0) 1 Tryd.underlying22 hi0 hz0 hz1 .i64 .i64 _ _ 64 rfl rfl rfl rfl (by rw [hz2]; omega) hnm (Nat.le_refl _) ?_; intro w1 hown1 hg1; have hb1 : Kpt (Below w.heap.size w w1) := ⟨(Below.refl _ _).grown hg1 (Nat.le_refl _) (fun k h => by cases h)⟩; rw [made_u8] at hown1; replace hown1 : Kpt (Row w1 (.slice (some ⟨w.heap.size, 0, none⟩) 64 64) (List.replicate 64 0)) := ⟨by have := own_base hown1 (Nat.zero_le _); unfold Row; rw [List.length_replicate]; exact this⟩; clear hg1; have m1 : Kpt True := ⟨trivial⟩)))
  go_ret
  refine ⟨rfl, ?_, ?_⟩
  · have e := endL_eq 64 zs size (by have := hn'.out; omega) (by have := hn'.out; omega)
    have h4 := hX4.out
    rw [hn'.out] at h4
    rw [e] at h4
    exact h4
  · have h2 := hb1.out.grown hg2.out hb1.out.size (fun q hq => by cases hq; exact Nat.le_refl _)
    have h3 := h2.grown hg3.out h2.size (fun q hq => by cases hq; exact Nat.le_refl _)
    exact h3.grown hg4.out h3.size (fun q hq => by cases hq; exact Nat.le_refl _)

set_option maxRecDepth 100000 in
set_option maxHeartbeats 1000000 in
theorem ending_128 (v : Value) (a : Option Addr) (n c : Nat) (hva : v = .slice a n c) (size : Nat) (zs : List Int) (w : World) (hr : RdAt w v zs) (hn : n = zs.length) (hl : zs.length < 64) (hl2 : 55 < zs.length) (hs : size < 9223372036854775808) :
    Calls Tryd.prog 19 #[v, .int .i64 (size : Int)] w fun e w' => e = .returned (.slice (some ⟨w.heap.size, 0, none⟩) 128 128) ∧ Bx w' w.heap.size (cels (zs ++ padL zs.length size)).toArray ∧ Below w.heap.size w w' := by
  subst hva
  obtain ⟨i0', hi0, hz0, hz1, hz2⟩ := info_parts Tryd.info5
  have hnm : 128 ≤ maxLen := by unfold maxLen; omega
  replace hr := Kpt.mk hr
  have hn' := Kpt.mk hn
  have hlen : n < 64 := by omega
  have hlen2 : 55 < n := by omega
  clear hn hl hl2
  go_enter Tryd.func19, Tryd.ntmps19
  go_wp2_with (first
    | (go_at_call 20; have hm := m3; go_must (refine (put_any w.heap.size 120 8 _ (size * 8 % 18446744073709551616) _ _ hX3.out (by omega) (by rw [List.length_set, hzo.out]; omega) (by omega) (Nat.mod_lt _ (by omega))).mono ?_; rintro e w4 ⟨⟨r, rfl⟩, hX4, hg4⟩; replace hX4 := Kpt.mk hX4; replace hg4 := Kpt.mk hg4; clear hm m3))
    | (refine (?_ : wpList _ _ _ (Oper.mk none (Op.store 5 _ _) _ _ _ _ :: _) _ _); have hm := m2; go_must (refine wpList_store_cell rfl rfl w.heap.size n (cels (over (List.replicate 128 0) 0 zs)).toArray (.int .u8 128) rfl rfl rfl hX2.out (by rw [hsz.out]; omega) (by kernel_rfl) rfl ?_; intro w3 hX3 hg3; rw [cels_set] at hX3; replace hX3 := Kpt.mk hX3; replace hg3 := Kpt.mk hg3; clear hm m2; have m3 : Kpt True := ⟨trivial⟩))
    | (refine (?_ : wpList _ _ _ (Oper.mk (some 18) (Op.call _) _ _ _ _ :: _) _ _); have hm := m1; go_must (refine wpList_copy_row rfl (.tmp 16) (.tmp 17) rfl (.slice (some ⟨w.heap.size, 0, none⟩) 128 128) (List.replicate 128 0) hown1.out 0 _ _ _ rfl (by simp) (.inr ⟨w.heap.size, 128, by simp, .inr rfl⟩) (fun h => by cases h) _ zs rfl (hr.out.bel hb1.out) (by simp; have := hn'.out; omega) ?_; intro w2 hrow2 hg2; have hzo : Kpt ((over (List.replicate 128 0) 0 zs).length = 128) := ⟨by rw [over_length _ _ _ (by simp; have := hn'.out; omega)]; simp⟩; have hX2 := Kpt.mk (row_bx hrow2 (by rw [hzo.out])); have hsz : Kpt ((cels (over (List.replicate 128 0) 0 zs)).toArray.size = 128) := ⟨by rw [List.size_toArray, cels_length, hzo.out]⟩; replace hg2 := Kpt.mk hg2; clear hrow2 hm m1; have m2 : Kpt True := ⟨trivial⟩))
    | (at_make; go_must (refine wpList_make_full _ rfl _ _ 22 rfl w.heap.size 5 i0' (.int .u8 0) 1 Tryd.underlying22 hi0 hz0 hz1 .i64 .i64 _ _ 128 rfl rfl rfl rfl (by rw [hz2]; omega) hnm (Nat.le_refl _) ?_; intro w1 hown1 hg1; have hb1 : Kpt (Below w.heap.size w w1) := ⟨(Below.refl _ _).grown hg1 (Nat.le_refl _) (fun k h => by cases h)⟩; rw [made_u8] at hown1; replace hown1 : Kpt (Row w1 (.slice (some ⟨w.heap.size, 0, none⟩) 128 128) (List.replicate 128 0)) := ⟨by have := own_base hown1 (Nat.zero_le _); unfold Row; rw [List.length_replicate]; exact this⟩; clear hg1; have m1 : Kpt True := ⟨trivial⟩)))
  go_ret
  refine ⟨rfl, ?_, ?_⟩
  · have e := endL_eq 128 zs size (by have := hn'.out; omega) (by have := hn'.out; omega)
    have h4 := hX4.out
    rw [hn'.out] at h4
    rw [e] at h4
    exact h4
  · have h2 := hb1.out.grown hg2.out hb1.out.size (fun q hq => by cases hq; exact Nat.le_refl _)
    have h3 := h2.grown hg3.out h2.size (fun q hq => by cases hq; exact Nat.le_refl _)
    exact h3.grown hg4.out h3.size (fun q hq => by cases hq; exact Nat.le_refl _)

/-- What the ending is, however many bytes there are. -/
theorem ending_any (v : Value) (size : Nat) (zs : List Int) (w : World) (hr : RdAt w v zs) (hl : zs.length < 64) (hs : size < 9223372036854775808) :
    Calls Tryd.prog 19 #[v, .int .i64 (size : Int)] w fun e w' => e = .returned (.slice (some ⟨w.heap.size, 0, none⟩) (64 * ((zs.length + 72) / 64)) (64 * ((zs.length + 72) / 64))) ∧ Bx w' w.heap.size (cels (zs ++ padL zs.length size)).toArray ∧ Below w.heap.size w w' := by
  obtain ⟨a, c, hv⟩ := rd_len hr
  by_cases h : zs.length ≤ 55
  · rw [show 64 * ((zs.length + 72) / 64) = 64 by omega]
    exact ending_64 v a zs.length c hv size zs w hr rfl h hs
  · rw [show 64 * ((zs.length + 72) / 64) = 128 by omega]
    exact ending_128 v a zs.length c hv size zs w hr rfl hl (by omega) hs
end Go.Proofs.YtaedkofljmonjaaDoor
