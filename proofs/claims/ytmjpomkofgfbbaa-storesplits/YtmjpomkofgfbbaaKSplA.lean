/-
  StoreSplits: the walk.
-/
import Derived.Test.YtmjpomkofgfbbaaKTwoB
namespace Go.Proofs.Ytmjpomkofgfbbaa.storeSplits
open Go.Proofs.Ytmjpomkofgfbbaa
open Go.RowKit
set_option linter.unusedVariables false
set_option linter.unusedSimpArgs false

theorem own_capA (a : Option Addr) (l n c d : Nat) : (Value.slice a l c).ownBlock = (Value.slice a n d).ownBlock := by cases a <;> rfl
theorem own_addA (a : Option Addr) (q l n c d : Nat) : (Value.slice a l c).ownBlock = (Value.slice (Option.map (fun x => x.add q) a) n d).ownBlock := by
  cases a with
  | none => rfl
  | some z =>
    simp only [Option.map_some, Value.ownBlock, Addr.add]
    split <;> rfl

set_option maxRecDepth 100000 in
set_option maxHeartbeats 40000000 in
theorem splits_A (a : Option Addr) (l c x y : Nat) (bs : List Bk) (w : World) (h20 : 20 < l) (hx : x ≤ 255) (hy : y ≤ 255) (hv : Bks w (.slice a l c) bs) (hlc : l ≤ c) (hl : l ≤ maxLen) (hvl : ∀ g, (Value.slice a l c).ownBlock = some g → g < w.heap.size) :
    Calls Try.prog 7 #[.slice a l c, .int .u8 x, .int .u8 y] w fun e w' => e = .returned (.bool true) ∧ Below w.heap.size w w' := by
  have HA := Kpt.mk (awake_any w)
  replace hv := Kpt.mk hv
  replace hvl := Kpt.mk hvl
  unfold maxLen at hl
  go_enter Try.func7, Try.ntmps7
  go_wp2_with fail
  refine HA.out.mono ?_
  rintro e w1 ⟨rfl, hb1⟩
  have HN := Kpt.mk (new_any w1)
  replace hb1 := Kpt.mk hb1
  clear HA
  have e1 : (20 : Int) < l := by omega
  have e2 : ¬ (l : Int) < 20 := by omega
  have hm1 : ¬ (20 : Int) + 1 = 0 := by omega
  obtain ⟨k, hk, hkN⟩ : ∃ k : Nat, (x : Int) % 21 = (k : Int) ∧ k ≤ 20 := ⟨x % (20 + 1), by simp, by have := Nat.mod_lt x (show 0 < 20 + 1 by omega); omega⟩
  obtain ⟨fr, hfr, hfrN⟩ : ∃ fr : Nat, (y : Int) % 12 = (fr : Int) ∧ fr ≤ 11 := ⟨y % 12, by simp, by omega⟩
  go_wp2_with fail
  rw [hk, hfr]
  clear hk hfr hx hy
  refine HN.out.mono ?_
  rintro e w2 ⟨BA, tagA, rfl, hW2, hg2, ht2⟩
  have hb2 : Below w.heap.size w w2 := hb1.out.trans (((Below.refl _ _).grown hg2 (Nat.le_refl _) (fun k hk => by cases hk)).mono hb1.out.size)
  have HO := Kpt.mk (kopen_any w2 BA 32 nmF true (by decide) (by decide) (by decide) (by decide))
  obtain ⟨hA3, hbe3⟩ := side_open (n0 := w.heap.size) (ca := true) hW2 (fun i hi => ht2 i (Nat.lt_of_lt_of_le hi hb1.out.size))
  replace hA3 := Kpt.mk hA3
  replace hbe3 : Kpt _ := ⟨hb2.trans (hbe3.mono hb2.size)⟩
  clear HN hg2 hW2 ht2 hb2 hb1
  go_wp2_with fail
  refine HO.out.mono ?_
  rintro e w3 ⟨rfl, hw3⟩
  rw [← hw3] at hA3 hbe3
  obtain ⟨SA, hSA⟩ : ∃ S, S = w2.heap.size := ⟨_, rfl⟩
  rw [← hSA] at hA3 ⊢
  have HN := Kpt.mk (new_any w3)
  clear HO hw3 hSA hm1
  go_wp2_with fail
  refine HN.out.mono ?_
  rintro e w4 ⟨BB, tagB, rfl, hW4, hg4, ht4⟩
  have hb4 : Below w3.heap.size w3 w4 := (Below.refl _ _).grown hg4 (Nat.le_refl _) (fun k hk => by cases hk)
  have HO := Kpt.mk (kopen_any w4 BB 32 nmF true (by decide) (by decide) (by decide) (by decide))
  obtain ⟨hB5, hbe5⟩ := side_open (n0 := w.heap.size) (ca := true) hW4 (fun i hi => ht4 i (Nat.lt_of_lt_of_le hi hbe3.out.size))
  have hA4 := hA3.out.below hb4
  have hT : Kpt (Two w (w4.alloc (.cells #[.pointer (some ⟨BB, 0, none⟩), .string nmF, .int .i64 ((32 : Nat) : Int), .bool true] 83)) w.heap.size BA tagA st0 SA BB tagB st0 w4.heap.size true) := ⟨⟨hA4.below hbe5, hB5, fun i hi => ht4 i (hA3.out.wd.lt i hi), ht4 SA hA3.out.sto.lt, wd_none hA4.wd (Nat.le_refl _), hbe3.out.trans ((hb4.mono hbe3.out.size).trans (hbe5.mono (Nat.le_trans hbe3.out.size hb4.size))), Nat.le_trans hbe3.out.size (Nat.le_trans hb4.size hbe5.size)⟩⟩
  clear HN hg4 hW4 ht4 hb4 hbe3 hA3 hA4 hB5 hbe5
  go_wp2_with fail
  refine HO.out.mono ?_
  rintro e w5 ⟨rfl, hw5⟩
  rw [← hw5] at hT
  obtain ⟨SB, hSB⟩ : ∃ S, S = w4.heap.size := ⟨_, rfl⟩
  rw [← hSB] at hT ⊢
  clear HO hw5 hSB
  obtain ⟨hp1, hp1l, hp1k, _⟩ := hv.out.piece hT.out.be rfl 0 20 (Nat.zero_le _) (by omega) a c (fun g o ha _ => by rw [ha, Nat.zero_mul, Nat.add_zero])
  rw [List.drop_zero, Nat.sub_zero] at hp1 hp1l
  rw [List.drop_zero] at hp1k
  have HW := two_write hT.out fine0 (by decide) fr (.slice a 20 c) (bs.take 20) hp1 (fun g hg => hvl.out g ((own_len a _ 20 c).trans hg)) (by omega)
  rw [hp1l] at HW
  replace HW := Kpt.mk HW
  go_wp2_with fail
  refine HW.out.mono ?_
  rintro e w6 ⟨rfl, tagA6, hT6⟩
  replace hT6 := Kpt.mk hT6
  clear HW hT
  obtain ⟨hp2, hp2l, hp2k, _⟩ := hv.out.piece hT6.out.be rfl 0 k (Nat.zero_le _) (by omega) a c (fun g o ha _ => by rw [ha, Nat.zero_mul, Nat.add_zero])
  rw [List.drop_zero, Nat.sub_zero] at hp2 hp2l
  rw [List.drop_zero] at hp2k
  have HW := two_write hT6.out.swap fine0 (by decide) fr (.slice a k c) (bs.take k) hp2 (fun g hg => hvl.out g ((own_len a _ k c).trans hg)) (by omega)
  rw [hp2l] at HW
  replace HW := Kpt.mk HW
  clear hp2
  go_wp2_with fail
  refine HW.out.mono ?_
  rintro e w7 ⟨rfl, tagB7, hT7⟩
  replace hT7 := Kpt.mk hT7
  clear HW hT6
  have FB1 := fine0.write fr (bs.take k) hp2k
  rw [hp2l] at FB1
  have FA := fine0.write fr (bs.take 20) hp1k
  rw [hp1l] at FA
  obtain ⟨V1, V2, V3, V4⟩ := split_view nmF fr k (bs.take 20) (by omega) hp1k st0 good_none
  rw [hp1l, List.take_take, Nat.min_eq_left hkN] at V2 V3 V4
  rw [hp1l] at V1
  have V5 : Kpt (∀ j, j < 20 → (bs.take 20).getD j emptyB = bs.getD j emptyB) := ⟨fun j hj => by rw [List.getD_eq_getElem?_getD, List.getElem?_take, if_pos hj, List.getD_eq_getElem?_getD]⟩
  replace FB1 := Kpt.mk FB1
  replace FA := Kpt.mk FA
  replace V1 := Kpt.mk V1
  replace V2 := Kpt.mk V2
  replace V3 := Kpt.mk V3
  replace V4 := Kpt.mk V4
  clear hp1k hp2k hp2l hp1
  by_cases hck : c = k
  · exfalso; omega
  · obtain ⟨hp3, hp3l, hp3k, _⟩ := hv.out.piece hT7.out.be rfl k 20 hkN (by omega) (Option.map (fun x => x.add (k * 19)) a) (c - k) (fun g o ha hlt => by first | (exfalso; omega) | (rw [ha]; simp [Go.WideShapes.add_plain]))
    have hown3 : Kpt (∀ g, (Value.slice (Option.map (fun x => x.add (k * 19)) a) (20 - k) (c - k)).ownBlock = some g → g < w.heap.size) := ⟨fun g hg => hvl.out g ((own_addA a _ _ _ _ _).trans hg)⟩
    have FB := FB1.out.write (fr + k) ((bs.take 20).drop k) hp3k
    rw [hp3l] at FB
    have HW := two_write hT7.out FB1.out (by omega) (fr + k) (.slice (Option.map (fun x => x.add (k * 19)) a) (20 - k) (c - k)) ((bs.take 20).drop k) hp3 hown3.out (by omega)
    rw [hp3l, Int.natCast_add] at HW
    obtain ⟨stB, hstB⟩ : ∃ s, s = wrSt (wrSt st0 nmF fr (bs.take k) k) nmF (fr + k) ((bs.take 20).drop k) (20 - k) := ⟨_, rfl⟩
    obtain ⟨stA, hstA⟩ : ∃ s, s = wrSt st0 nmF fr (bs.take 20) 20 := ⟨_, rfl⟩
    rw [← hstB, ← hstA] at HW
    rw [← hstB] at FB V2 V3 V4
    rw [← hstA] at FA V1 V3
    replace FB : Kpt (Fine 1000 stB) := ⟨⟨by have := FB.cnt; omega, by have := FB.wl; omega, FB.fl, FB.wr, FB.good⟩⟩
    replace FA : Kpt (Fine 1000 stA) := ⟨⟨by have := FA.out.cnt; omega, by have := FA.out.wl; omega, FA.out.fl, FA.out.wr, FA.out.good⟩⟩
    replace HW := Kpt.mk HW
    clear hstB hstA hp3 hp3l hp3k FB1 hT7
    go_wp2_with fail
    refine HW.out.mono ?_
    rintro e w8 ⟨rfl, tagB, hT8⟩
    have HR : Calls Try.prog 13 #[.pointer (some ⟨SA, 0, none⟩), .int .i64 0, .int .i64 32] w8 _ := two_read hT8.swap FA.out (by decide) 0 32 (by decide)
    replace HR := Kpt.mk HR
    clear HW hT8
    go_wp2_with fail
    refine HR.out.mono ?_
    rintro e w9 ⟨g1, rfl, hT9, hS9, hH1⟩
    have HR : Calls Try.prog 13 #[.pointer (some ⟨SB, 0, none⟩), .int .i64 0, .int .i64 32] w9 _ := two_read hT9.swap FB.out (by decide) 0 32 (by decide)
    replace HR := Kpt.mk HR
    replace hH1 := Kpt.mk hH1
    clear hT9 hS9
    go_wp2_with fail
    refine HR.out.mono ?_
    rintro e w10 ⟨g2, rfl, hT10, hS10, hH2⟩
    replace hH1 := Kpt.mk (hH1.out.swap.left hS10)
    have HR := two_read hT10 (FB.out.read 32) (by decide) fr k (by omega)
    replace HR := Kpt.mk HR
    replace hH2 := Kpt.mk hH2
    clear hT10 hS10
    go_wp2_with fail
    refine HR.out.mono ?_
    rintro e w11 ⟨g3, rfl, hT11, hS11, hH3⟩
    replace hH1 := Kpt.mk (hH1.out.left hS11)
    replace hH2 := Kpt.mk (hH2.out.left hS11)
    have HR := two_read hT11 ((FB.out.read 32).read k) (by omega) (fr + k) (20 - k) (by omega)
    rw [Int.natCast_add, show ((20 - k : Nat) : Int) = 20 - k from by omega] at HR
    replace HR := Kpt.mk HR
    replace hH3 := Kpt.mk hH3
    clear hT11 hS11
    go_wp2_with fail
    refine HR.out.mono ?_
    rintro e w12 ⟨g4, rfl, hT12, hS12, hH4⟩
    replace hH1 := hH1.out.left hS12
    replace hH2 := hH2.out.left hS12
    replace hH3 := hH3.out.left hS12
    have HS1 := Kpt.mk (same_any w12 (some ⟨g1, 0, none⟩) (some ⟨g2, 0, none⟩) 32 32 32 (fun j => blkAt (stB.seen nmF) j) (by decide)
      (hH1.row (fun j _ => ⟨by show blkAt (stA.seen nmF) (0 + j) = _; rw [Nat.zero_add]; exact V3.out j, blk_ok V2.out j⟩))
      (hH2.row (fun j _ => ⟨by show blkAt (stB.seen nmF) (0 + j) = _; rw [Nat.zero_add], blk_ok V2.out j⟩)))
    have HS2 : Kpt (∀ W, Below w12.heap.size w12 W → Calls Try.prog 15 #[.slice (some ⟨g3, 0, none⟩) k k, .slice a k c] W fun e w' => e = .returned (.bool true) ∧ Below W.heap.size W w') := ⟨fun W hW => by
      obtain ⟨_, _, _, hr⟩ := hv.out.piece (hT12.be.trans (hW.mono hT12.n0)) rfl 0 k (Nat.zero_le _) (by omega) a c (fun g o ha _ => by rw [ha, Nat.zero_mul, Nat.add_zero])
      rw [Nat.sub_zero] at hr
      refine same_any W (some ⟨g3, 0, none⟩) a k k c _ (by omega) ((hH3.below hW).row (fun j hj => ⟨?_, (hr j hj).1⟩)) hr
      show blkAt (stB.seen nmF) (fr + j) = bs.getD (0 + j) emptyB
      rw [V4.out j (by omega), V5.out j (by omega), Nat.zero_add]⟩
    have HS3 : Kpt (∀ W, Below w12.heap.size w12 W → Calls Try.prog 15 #[.slice (some ⟨g4, 0, none⟩) (20 - k) (20 - k), .slice (Option.map (fun x => x.add (k * 19)) a) (20 - k) (c - k)] W fun e w' => e = .returned (.bool true) ∧ Below W.heap.size W w') := ⟨fun W hW => by
      obtain ⟨_, _, _, hr⟩ := hv.out.piece (hT12.be.trans (hW.mono hT12.n0)) rfl k 20 hkN (by omega) (Option.map (fun x => x.add (k * 19)) a) (c - k) (fun g o ha hlt => by first | (exfalso; omega) | (rw [ha]; simp [Go.WideShapes.add_plain]))
      refine same_any W (some ⟨g4, 0, none⟩) (Option.map (fun x => x.add (k * 19)) a) (20 - k) (20 - k) (c - k) _ (by omega) ((hH4.below hW).row (fun j hj => ⟨?_, (hr j hj).1⟩)) hr
      show blkAt (stB.seen nmF) (fr + k + j) = bs.getD (k + j) emptyB
      rw [Nat.add_assoc, V4.out (k + j) (by omega), V5.out (k + j) (by omega)]⟩
    have hbe : Kpt (∀ W, Below w12.heap.size w12 W → Below w.heap.size w W) := ⟨fun W hW => hT12.be.trans (hW.mono hT12.n0)⟩
    clear HR hT12 hS12 hH1 hH2 hH3 hH4 FA FB V1 V2 V3 V4 V5 hown3 hv hvl
    go_wp2_with fail
    refine HS1.out.mono ?_
    rintro e w13 ⟨rfl, hb13⟩
    have HS := Kpt.mk (HS2.out w13 hb13)
    replace hb13 := Kpt.mk hb13
    clear HS1 HS2
    go_wp2_with fail
    refine HS.out.mono ?_
    rintro e w14 ⟨rfl, hb14⟩
    replace hb14 : Kpt (Below w12.heap.size w12 w14) := ⟨hb13.out.trans (hb14.mono hb13.out.size)⟩
    replace HS := Kpt.mk (HS3.out w14 hb14.out)
    clear HS3
    go_wp2_with fail
    refine HS.out.mono ?_
    rintro e w15 ⟨rfl, hb15⟩
    replace hb15 := Kpt.mk (hbe.out _ (hb14.out.trans (hb15.mono hb14.out.size)))
    clear HS
    go_wp2
    go_ret
    exact ⟨rfl, hb15.out⟩
end Go.Proofs.Ytmjpomkofgfbbaa.storeSplits
